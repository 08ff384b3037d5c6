/-
  DERIVED. GIVEN WITH THE SEED: THE CARDS: each row of YtomfnkbghlpkeaaDoorRows.lean that lists a variable, with what it lists TIED to the program's text (the seventh form; the later family's looks); each row that meets fmt, with fmt's text TOLD by the authors' own Lean function (tested against real Go, not proved from fmt's source: count such statements apart). THE CARD IS WHAT COUNTS. Prove the row's statement (the work); the ties are given (YtomfnkbghlpkeaaDoorTie.lean); close each card by the builder's one call (the guide's Derived/Test/ToyasCard.lean, 'card_holds'). Laid BY PROGRAM, IN A SANDBOX (cutbox-door.mjs). By AI agents, Wed Nov 11 2026. No macro, syntax, notation, axiom, sorry.
-/
import Derived.Test.YtomfnkbghlpkeaaDoorRows
import GoSem.ClaimSeven
namespace Go.Proofs.YtomfnkbghlpkeaaDoor
namespace Rows

/-- THE TIED CARD OF 'brevetlaw01.Sha256'. -/
def sha256Card : Claim7 := { stood := { row := sha256Row, standIns := [], harness := (true, "3e5b8891a6254ee6a1de62eeeb9f191bef3f32d031c9f4d63673add156d7d763"), looks := false }, kinds := [], alts := [], laidByText := true, laidKinds := [.data, .data], laidTests := true, laidLooks := .later }
def Sha256CardSaid : Prop := Claim7.holds Tryd.pinned (.plain (OpenSpec.ofChange sha256Spec)) sha256Card

/-- THE TIED CARD OF 'brevetlaw01.Sha512'. -/
def sha512Card : Claim7 := { stood := { row := sha512Row, standIns := [], harness := (true, "3e5b8891a6254ee6a1de62eeeb9f191bef3f32d031c9f4d63673add156d7d763"), looks := false }, kinds := [], alts := [], laidByText := true, laidKinds := [.data, .data], laidTests := true, laidLooks := .later }
def Sha512CardSaid : Prop := Claim7.holds Tryd.pinned (.plain (OpenSpec.ofChange sha512Spec)) sha512Card

/-- THE TIED CARD OF 'brevetlaw01.ShaLengths'. -/
def shaLengthsCard : Claim7 := { stood := { row := shaLengthsRow, standIns := [], harness := (true, "3e5b8891a6254ee6a1de62eeeb9f191bef3f32d031c9f4d63673add156d7d763"), looks := false }, kinds := [], alts := [], laidByText := true, laidKinds := [.data, .data], laidTests := true, laidLooks := .later }
def ShaLengthsCardSaid : Prop := Claim7.holds Tryd.pinned (.plain (OpenSpec.ofChange shaLengthsSpec)) shaLengthsCard

/-- THE TIED CARD OF 'brevetlaw01.ShaEqual'. -/
def shaEqualCard : Claim7 := { stood := { row := shaEqualRow, standIns := [], harness := (true, "3e5b8891a6254ee6a1de62eeeb9f191bef3f32d031c9f4d63673add156d7d763"), looks := false }, kinds := [], alts := [], laidByText := true, laidKinds := [.data, .data], laidTests := true, laidLooks := .later }
def ShaEqualCardSaid : Prop := Claim7.holds Tryd.pinned (.plain (OpenSpec.ofChange shaEqualSpec)) shaEqualCard

/-- THE TIED CARD OF 'brevetlaw01.ShaOwns'. -/
def shaOwnsCard : Claim7 := { stood := { row := shaOwnsRow, standIns := [], harness := (true, "3e5b8891a6254ee6a1de62eeeb9f191bef3f32d031c9f4d63673add156d7d763"), looks := false }, kinds := [], alts := [], laidByText := true, laidKinds := [.data, .data], laidTests := true, laidLooks := .later }
def ShaOwnsCardSaid : Prop := Claim7.holds Tryd.pinned (.plain (OpenSpec.ofChange shaOwnsSpec)) shaOwnsCard

/-- THE SECOND FORM's CARD OF 'brevetlaw01.Sha256'. -/
def sha256UptoCard : Claim7 := { stood := { row := sha256UptoRow, standIns := [], harness := (true, "3e5b8891a6254ee6a1de62eeeb9f191bef3f32d031c9f4d63673add156d7d763"), looks := false }, kinds := [], alts := [], laidByText := true, laidKinds := [.data, .data], laidTests := true, laidLooks := .later }
def Sha256UptoCardSaid : Prop := Claim7.holds Tryd.pinned (.plain (OpenSpec.upto sha256Spec)) sha256UptoCard

/-- THE SECOND FORM's CARD OF 'brevetlaw01.Sha512'. -/
def sha512UptoCard : Claim7 := { stood := { row := sha512UptoRow, standIns := [], harness := (true, "3e5b8891a6254ee6a1de62eeeb9f191bef3f32d031c9f4d63673add156d7d763"), looks := false }, kinds := [], alts := [], laidByText := true, laidKinds := [.data, .data], laidTests := true, laidLooks := .later }
def Sha512UptoCardSaid : Prop := Claim7.holds Tryd.pinned (.plain (OpenSpec.upto sha512Spec)) sha512UptoCard

/-- THE SECOND FORM's CARD OF 'brevetlaw01.ShaLengths'. -/
def shaLengthsUptoCard : Claim7 := { stood := { row := shaLengthsUptoRow, standIns := [], harness := (true, "3e5b8891a6254ee6a1de62eeeb9f191bef3f32d031c9f4d63673add156d7d763"), looks := false }, kinds := [], alts := [], laidByText := true, laidKinds := [.data, .data], laidTests := true, laidLooks := .later }
def ShaLengthsUptoCardSaid : Prop := Claim7.holds Tryd.pinned (.plain (OpenSpec.upto shaLengthsSpec)) shaLengthsUptoCard

/-- THE SECOND FORM's CARD OF 'brevetlaw01.ShaEqual'. -/
def shaEqualUptoCard : Claim7 := { stood := { row := shaEqualUptoRow, standIns := [], harness := (true, "3e5b8891a6254ee6a1de62eeeb9f191bef3f32d031c9f4d63673add156d7d763"), looks := false }, kinds := [], alts := [], laidByText := true, laidKinds := [.data, .data], laidTests := true, laidLooks := .later }
def ShaEqualUptoCardSaid : Prop := Claim7.holds Tryd.pinned (.plain (OpenSpec.upto shaEqualSpec)) shaEqualUptoCard

/-- THE SECOND FORM's CARD OF 'brevetlaw01.ShaOwns'. -/
def shaOwnsUptoCard : Claim7 := { stood := { row := shaOwnsUptoRow, standIns := [], harness := (true, "3e5b8891a6254ee6a1de62eeeb9f191bef3f32d031c9f4d63673add156d7d763"), looks := false }, kinds := [], alts := [], laidByText := true, laidKinds := [.data, .data], laidTests := true, laidLooks := .later }
def ShaOwnsUptoCardSaid : Prop := Claim7.holds Tryd.pinned (.plain (OpenSpec.upto shaOwnsSpec)) shaOwnsUptoCard
end Rows
end Go.Proofs.YtomfnkbghlpkeaaDoor
