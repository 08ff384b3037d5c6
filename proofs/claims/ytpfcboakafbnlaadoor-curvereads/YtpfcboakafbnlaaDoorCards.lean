/-
  DERIVED. GIVEN WITH THE SEED: THE CARDS: each row of YtpfcboakafbnlaaDoorRows.lean that lists a variable, with what it lists TIED to the program's text (the seventh form; the later family's looks); each row that meets fmt, with fmt's text TOLD by the authors' own Lean function (tested against real Go, not proved from fmt's source: count such statements apart). THE CARD IS WHAT COUNTS. Prove the row's statement (the work); the ties are given (YtpfcboakafbnlaaDoorTie.lean); close each card by the builder's one call (the guide's Derived/Test/ToyasCard.lean, 'card_holds'). Laid BY PROGRAM, IN A SANDBOX (cutbox-door.mjs). By AI agents, Wed Nov 11 2026. No macro, syntax, notation, axiom, sorry.
-/
import Derived.Test.YtpfcboakafbnlaaDoorRows
import GoSem.ClaimSeven
namespace Go.Proofs.YtpfcboakafbnlaaDoor
namespace Rows

/-- THE TIED CARD OF 'brevetlaw05.CurveReads'. -/
def curveReadsCard : Claim7 := { stood := { row := curveReadsRow, standIns := [], harness := (true, "2eb8ceae4e73ddb68ee583ddb2b8694f2f90ce91930ed85663699b296c32c664"), looks := false }, kinds := [], alts := [], laidByText := true, laidKinds := [.data, .data, .data, .data, .data], laidTests := true, laidLooks := .later }
def CurveReadsCardSaid : Prop := Claim7.holds Tryd.pinned (.plain (OpenSpec.ofChange curveReadsSpec)) curveReadsCard

/-- THE TIED CARD OF 'brevetlaw05.CurveAdds'. -/
def curveAddsCard : Claim7 := { stood := { row := curveAddsRow, standIns := [], harness := (true, "2eb8ceae4e73ddb68ee583ddb2b8694f2f90ce91930ed85663699b296c32c664"), looks := false }, kinds := [], alts := [], laidByText := true, laidKinds := [.data, .data, .data], laidTests := true, laidLooks := .later }
def CurveAddsCardSaid : Prop := Claim7.holds Tryd.pinned (.plain (OpenSpec.ofChange curveAddsSpec)) curveAddsCard

/-- THE TIED CARD OF 'brevetlaw05.CurveBase'. -/
def curveBaseCard : Claim7 := { stood := { row := curveBaseRow, standIns := [], harness := (true, "2eb8ceae4e73ddb68ee583ddb2b8694f2f90ce91930ed85663699b296c32c664"), looks := false }, kinds := [], alts := [], laidByText := true, laidKinds := [.data, .data, .data], laidTests := true, laidLooks := .later }
def CurveBaseCardSaid : Prop := Claim7.holds Tryd.pinned (.plain (OpenSpec.ofChange curveBaseSpec)) curveBaseCard

/-- THE TIED CARD OF 'brevetlaw05.CurveGroup'. -/
def curveGroupCard : Claim7 := { stood := { row := curveGroupRow, standIns := [], harness := (true, "2eb8ceae4e73ddb68ee583ddb2b8694f2f90ce91930ed85663699b296c32c664"), looks := false }, kinds := [], alts := [], laidByText := true, laidKinds := [.data, .data, .data], laidTests := true, laidLooks := .later }
def CurveGroupCardSaid : Prop := Claim7.holds Tryd.pinned (.plain (OpenSpec.ofChange curveGroupSpec)) curveGroupCard

/-- THE TIED CARD OF 'brevetlaw05.CurveMuls'. -/
def curveMulsCard : Claim7 := { stood := { row := curveMulsRow, standIns := [], harness := (true, "2eb8ceae4e73ddb68ee583ddb2b8694f2f90ce91930ed85663699b296c32c664"), looks := false }, kinds := [], alts := [], laidByText := true, laidKinds := [.data, .data, .data], laidTests := true, laidLooks := .later }
def CurveMulsCardSaid : Prop := Claim7.holds Tryd.pinned (.plain (OpenSpec.ofChange curveMulsSpec)) curveMulsCard

/-- THE TIED CARD OF 'brevetlaw05.CurveBytes'. -/
def curveBytesCard : Claim7 := { stood := { row := curveBytesRow, standIns := [], harness := (true, "2eb8ceae4e73ddb68ee583ddb2b8694f2f90ce91930ed85663699b296c32c664"), looks := false }, kinds := [], alts := [], laidByText := true, laidKinds := [.data, .data, .data, .data, .data], laidTests := true, laidLooks := .later }
def CurveBytesCardSaid : Prop := Claim7.holds Tryd.pinned (.plain (OpenSpec.ofChange curveBytesSpec)) curveBytesCard

/-- THE TIED CARD OF 'brevetlaw05.CurveNeg'. -/
def curveNegCard : Claim7 := { stood := { row := curveNegRow, standIns := [], harness := (true, "2eb8ceae4e73ddb68ee583ddb2b8694f2f90ce91930ed85663699b296c32c664"), looks := false }, kinds := [], alts := [], laidByText := true, laidKinds := [.data, .data, .data], laidTests := true, laidLooks := .later }
def CurveNegCardSaid : Prop := Claim7.holds Tryd.pinned (.plain (OpenSpec.ofChange curveNegSpec)) curveNegCard

/-- THE SECOND FORM's CARD OF 'brevetlaw05.CurveReads'. -/
def curveReadsUptoCard : Claim7 := { stood := { row := curveReadsUptoRow, standIns := [], harness := (true, "2eb8ceae4e73ddb68ee583ddb2b8694f2f90ce91930ed85663699b296c32c664"), looks := false }, kinds := [], alts := [], laidByText := true, laidKinds := [.data, .data, .data, .data, .data], laidTests := true, laidLooks := .later }
def CurveReadsUptoCardSaid : Prop := Claim7.holds Tryd.pinned (.plain (OpenSpec.upto curveReadsSpec)) curveReadsUptoCard

/-- THE SECOND FORM's CARD OF 'brevetlaw05.CurveAdds'. -/
def curveAddsUptoCard : Claim7 := { stood := { row := curveAddsUptoRow, standIns := [], harness := (true, "2eb8ceae4e73ddb68ee583ddb2b8694f2f90ce91930ed85663699b296c32c664"), looks := false }, kinds := [], alts := [], laidByText := true, laidKinds := [.data, .data, .data], laidTests := true, laidLooks := .later }
def CurveAddsUptoCardSaid : Prop := Claim7.holds Tryd.pinned (.plain (OpenSpec.upto curveAddsSpec)) curveAddsUptoCard

/-- THE SECOND FORM's CARD OF 'brevetlaw05.CurveBase'. -/
def curveBaseUptoCard : Claim7 := { stood := { row := curveBaseUptoRow, standIns := [], harness := (true, "2eb8ceae4e73ddb68ee583ddb2b8694f2f90ce91930ed85663699b296c32c664"), looks := false }, kinds := [], alts := [], laidByText := true, laidKinds := [.data, .data, .data], laidTests := true, laidLooks := .later }
def CurveBaseUptoCardSaid : Prop := Claim7.holds Tryd.pinned (.plain (OpenSpec.upto curveBaseSpec)) curveBaseUptoCard

/-- THE SECOND FORM's CARD OF 'brevetlaw05.CurveGroup'. -/
def curveGroupUptoCard : Claim7 := { stood := { row := curveGroupUptoRow, standIns := [], harness := (true, "2eb8ceae4e73ddb68ee583ddb2b8694f2f90ce91930ed85663699b296c32c664"), looks := false }, kinds := [], alts := [], laidByText := true, laidKinds := [.data, .data, .data], laidTests := true, laidLooks := .later }
def CurveGroupUptoCardSaid : Prop := Claim7.holds Tryd.pinned (.plain (OpenSpec.upto curveGroupSpec)) curveGroupUptoCard

/-- THE SECOND FORM's CARD OF 'brevetlaw05.CurveMuls'. -/
def curveMulsUptoCard : Claim7 := { stood := { row := curveMulsUptoRow, standIns := [], harness := (true, "2eb8ceae4e73ddb68ee583ddb2b8694f2f90ce91930ed85663699b296c32c664"), looks := false }, kinds := [], alts := [], laidByText := true, laidKinds := [.data, .data, .data], laidTests := true, laidLooks := .later }
def CurveMulsUptoCardSaid : Prop := Claim7.holds Tryd.pinned (.plain (OpenSpec.upto curveMulsSpec)) curveMulsUptoCard

/-- THE SECOND FORM's CARD OF 'brevetlaw05.CurveBytes'. -/
def curveBytesUptoCard : Claim7 := { stood := { row := curveBytesUptoRow, standIns := [], harness := (true, "2eb8ceae4e73ddb68ee583ddb2b8694f2f90ce91930ed85663699b296c32c664"), looks := false }, kinds := [], alts := [], laidByText := true, laidKinds := [.data, .data, .data, .data, .data], laidTests := true, laidLooks := .later }
def CurveBytesUptoCardSaid : Prop := Claim7.holds Tryd.pinned (.plain (OpenSpec.upto curveBytesSpec)) curveBytesUptoCard

/-- THE SECOND FORM's CARD OF 'brevetlaw05.CurveNeg'. -/
def curveNegUptoCard : Claim7 := { stood := { row := curveNegUptoRow, standIns := [], harness := (true, "2eb8ceae4e73ddb68ee583ddb2b8694f2f90ce91930ed85663699b296c32c664"), looks := false }, kinds := [], alts := [], laidByText := true, laidKinds := [.data, .data, .data], laidTests := true, laidLooks := .later }
def CurveNegUptoCardSaid : Prop := Claim7.holds Tryd.pinned (.plain (OpenSpec.upto curveNegSpec)) curveNegUptoCard
end Rows
end Go.Proofs.YtpfcboakafbnlaaDoor
