/-
  DERIVED. GIVEN WITH THE SEED: THE PROGRAM's TIES (one call each: nine closed facts by the kernel) AND EACH ROW's TIE, after the 31st guide's Derived/Test/Toyas{Tie, Card}.lean. No idea stands in it: it is a product of the set-up. Laid BY PROGRAM, IN A SANDBOX (cutbox-door.mjs). By AI agents, Wed Nov 11 2026. No macro, syntax, notation, axiom, sorry.
-/
import Derived.Test.YtabgihjffjlfiaaGreatDoorRows
import Derived.LaidByTextLater
import Derived.SevenTiedAt
import Derived.LaidSub
import Derived.LaidOnce
namespace Go.Proofs.YtabgihjffjlfiaaGreatDoor
open Go
set_option maxRecDepth 100000
theorem seatTie1 : Tryz.prog.laidByTextLater [("brevet/curve.curveD", Rows.laid_brevet_curve_curveD), ("brevet/curve.baseX", Rows.laid_brevet_curve_baseX), ("brevet/curve.baseY", Rows.laid_brevet_curve_baseY), ("brevet/curve.rootOfMinusOne", Rows.laid_brevet_curve_rootOfMinusOne), ("brevet/curve.rootPower", Rows.laid_brevet_curve_rootPower), ("brevet/scalar.excess", Rows.laid_brevet_scalar_excess), ("brevet/sha.squareRoots", Rows.laid_brevet_sha_squareRoots), ("brevet/sha.cubeRoots", Rows.laid_brevet_sha_cubeRoots)] [.data, .data, .data, .data, .data, .data, .data, .data] true :=
  Program.laidByTextLater_by_one 49 8 81 (by kernel_rfl) (by kernel_rfl) (by kernel_rfl) (by kernel_rfl) (by kernel_rfl) (by kernel_rfl) (fun _ _ => by kernel_rfl)
theorem noOwnUnsafe : Tryz.pinned.checked.prog.headLifts.contains "ownunsafe" = false := by kernel_rfl
theorem tie : Tryz.prog.laidByTextLater [("brevet/curve.curveD", Rows.laid_brevet_curve_curveD), ("brevet/curve.baseX", Rows.laid_brevet_curve_baseX), ("brevet/curve.baseY", Rows.laid_brevet_curve_baseY), ("brevet/scalar.excess", Rows.laid_brevet_scalar_excess), ("brevet/sha.squareRoots", Rows.laid_brevet_sha_squareRoots), ("brevet/sha.cubeRoots", Rows.laid_brevet_sha_cubeRoots)] [.data, .data, .data, .data, .data, .data] true :=
  Program.laidByTextLater.sub seatTie1 ["brevet/curve.curveD", "brevet/curve.baseX", "brevet/curve.baseY", "brevet/scalar.excess", "brevet/sha.squareRoots", "brevet/sha.cubeRoots"] (by kernel_rfl) (by kernel_rfl)
theorem signSigns_row_tie : Rows.signSignsRow.laidByTextAt .later Tryz.pinned [.data, .data, .data, .data, .data, .data] true :=
  OpenClaim.laidByTextAt_later rfl rfl tie noOwnUnsafe
theorem tie2 : Tryz.prog.laidByTextLater [("brevet/curve.curveD", Rows.laid_brevet_curve_curveD), ("brevet/curve.baseX", Rows.laid_brevet_curve_baseX), ("brevet/curve.baseY", Rows.laid_brevet_curve_baseY), ("brevet/curve.rootOfMinusOne", Rows.laid_brevet_curve_rootOfMinusOne), ("brevet/curve.rootPower", Rows.laid_brevet_curve_rootPower), ("brevet/scalar.excess", Rows.laid_brevet_scalar_excess), ("brevet/sha.squareRoots", Rows.laid_brevet_sha_squareRoots), ("brevet/sha.cubeRoots", Rows.laid_brevet_sha_cubeRoots)] [.data, .data, .data, .data, .data, .data, .data, .data] true :=
  Program.laidByTextLater.sub seatTie1 ["brevet/curve.curveD", "brevet/curve.baseX", "brevet/curve.baseY", "brevet/curve.rootOfMinusOne", "brevet/curve.rootPower", "brevet/scalar.excess", "brevet/sha.squareRoots", "brevet/sha.cubeRoots"] (by kernel_rfl) (by kernel_rfl)
theorem signVerifies_row_tie : Rows.signVerifiesRow.laidByTextAt .later Tryz.pinned [.data, .data, .data, .data, .data, .data, .data, .data] true :=
  OpenClaim.laidByTextAt_later rfl rfl tie2 noOwnUnsafe
theorem signSignsUpto_row_tie : Rows.signSignsUptoRow.laidByTextAt .later Tryz.pinned [.data, .data, .data, .data, .data, .data] true :=
  OpenClaim.laidByTextAt_later rfl rfl tie noOwnUnsafe
theorem signVerifiesUpto_row_tie : Rows.signVerifiesUptoRow.laidByTextAt .later Tryz.pinned [.data, .data, .data, .data, .data, .data, .data, .data] true :=
  OpenClaim.laidByTextAt_later rfl rfl tie2 noOwnUnsafe
end Go.Proofs.YtabgihjffjlfiaaGreatDoor
