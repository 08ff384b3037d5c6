/-
  CurveBase: the law's statement and its card: for every input the call returns true and leaves its arguments as they read, the known numbers being what the program's text lays.
  Conditions: none beyond the row's own ('laid', tied by the card).
-/
import Derived.Test.YtpfcboakafbnlaaDoorCards
import Derived.Test.YtpfcboakafbnlaaDoorTie
import Derived.Test.YtpfcboakafbnlaaDoorL8
import Derived.WalkKit
import Derived.ProofKit
import Derived.OpenShut
import Derived.Deep.DeepHandedRow
import Derived.Lib.LaidTab
set_option linter.unusedVariables false
namespace Go.Proofs.YtpfcboakafbnlaaDoor.curveBase
open Go.ChangeShapes Go.WideShapes Go.ChangeAt Go.RowKit
theorem own : ownKnob Tryd.prog.godebug = none := by kernel_rfl
theorem laidOut : laidOutB Tryd.prog = true := by kernel_rfl
theorem g2 : Tryd.prog.globalNamed "brevet/curve.curveD" = some 2 := by kernel_rfl
theorem t2 : (Tryd.prog.globals[2]?).map (·.type) = some 68 := by kernel_rfl
theorem g0 : Tryd.prog.globalNamed "brevet/curve.baseX" = some 0 := by kernel_rfl
theorem t0 : (Tryd.prog.globals[0]?).map (·.type) = some 68 := by kernel_rfl
theorem g1 : Tryd.prog.globalNamed "brevet/curve.baseY" = some 1 := by kernel_rfl
theorem t1 : (Tryd.prog.globals[1]?).map (·.type) = some 68 := by kernel_rfl
theorem c68 : Tryd.prog.cellsOf 68 = 32 := by kernel_rfl
theorem c5 : Tryd.prog.cellsOf 5 = 1 := by kernel_rfl
def zz (l : List Nat) : List Int := l.map fun (x : Nat) => (x : Int)
theorem getD_zz (l : List Nat) (i : Nat) : (zz l).getD i 0 = ((l.getD i 0 : Nat) : Int) := by
  simp only [zz, List.getD_eq_getElem?_getD, List.getElem?_map]
  cases l[i]? <;> simp
/-- The first of the listed tables, and the others. -/
theorem laid_head {W : World} {name : String} {l : List Nat} {rest : List (String × DataW Unit)} {g : Nat} {ps : List MemPlace}
    (hg : Tryd.prog.globalNamed name = some g) (hty : (Tryd.prog.globals[g]?).map (·.type) = some 68)
    (h : DataW.LaidVars Tryd.prog W ((name, Lib.tabData .u8 (zz l)) :: rest) ps) : BytesAt W g 0 l ∧ ∃ qs, DataW.LaidVars Tryd.prog W rest qs := by
  obtain ⟨g', t', cs, fuel, p, q, hg', ht', hvar, hd, hr, _⟩ := h
  obtain rfl := Option.some.inj (hg.symm.trans hg')
  obtain rfl := Option.some.inj (hty.symm.trans ht')
  refine ⟨?_, q, hr⟩
  have h1 : Lib.TabIs Tryd.prog W name .u8 (zz l) := by
    unfold Lib.TabIs
    rw [hvar, ← Lib.cells_of_tab Tryd.underlying68 Tryd.underlying5 c5 c68 hd]
  intro i hi
  rw [Nat.zero_add]
  exact (h1.cell hg i (by simpa [zz] using hi)).trans (by rw [getD_zz])
theorem tabs {W : World} (h : laidMetH Tryd.prog Rows.curveBaseRow.laid W) : Tab W := by
  have h' : laidMet Tryd.prog [("brevet/curve.curveD", Lib.tabData .u8 (zz tab2)), ("brevet/curve.baseX", Lib.tabData .u8 (zz tab0)), ("brevet/curve.baseY", Lib.tabData .u8 (zz tab1))] W := h
  obtain ⟨ps, h0, _⟩ := h'
  obtain ⟨a2, qs0, h1⟩ := laid_head g2 t2 h0
  obtain ⟨a0, qs1, h2⟩ := laid_head g0 t0 h1
  obtain ⟨a1, qs2, h3⟩ := laid_head g1 t1 h2
  exact ⟨a0, a1, a2⟩
theorem contract (H : Type) (enc : TypeId × Value → H) (W : World) (base : Nat) (args : Array Value) (ds gs : List (DataW H)) (before : List MemPlace)
    (hval : ∀ (j : Nat) t v, Tryd.f5.params[j]? = some t → args[j]? = some v → Value.okWide Tryd.prog W .any base t v)
    (hW : DataW.Whole enc Tryd.prog Tryd.f5.params.toList Rows.curveBaseSpec.vars false W args.toList ds gs before) (hL : laidMetH Tryd.prog Rows.curveBaseRow.laid W)
    (hsz0 : (DataW.weightsEach Tryd.prog (Tryd.f5.params.toList ++ (OpenSpec.ofChange Rows.curveBaseSpec).bare.plain.varTypes Tryd.prog) (ds ++ gs)).all (· ≤ reachBytes) = true) :
    Calls Tryd.prog 5 args W fun e W' => ∃ v, e = .returned v ∧ Rows.curveBaseSpec.post enc Tryd.prog Tryd.f5 false true false false W args v W' := by
  have hW' := hW
  obtain ⟨p, q, hA0, hV, rfl, hfz, hnd⟩ := hW
  have hA : DataW.TrodAll enc Tryd.prog W 0 (fun _ => true) true Tryd.f5.params.toList args.toList ds p := hA0
  rw [Tryd.params5] at hA hval
  obtain ⟨v0, vs0, d0, ds0, p0, q0, hargs, rfl, rfl, h0, r0⟩ := trodAll_cons hA
  obtain ⟨rfl, rfl, rfl⟩ := trodAll_nil r0
  obtain rfl : args = #[v0] := by cases args; simp_all
  obtain ⟨rfl, rfl⟩ := trodVars_none hV
  obtain ⟨x0, rfl, rfl, rfl, wx0⟩ := open_int Tryd.underlying5 (hval 0 5 v0 rfl rfl) h0
  clear hA0
  have ht := tabs hL
  have hwalk := curveBase5 W ht (bounds_u8 wx0).1 (bounds_u8 wx0).2
  refine Calls.mono hwalk fun e W' ⟨v, he, bel, hv⟩ => ?_
  obtain rfl : v = .bool true := hv
  subst he
  exact ⟨_, rfl, _, _, _, [], _, [], hW', trodAll_mk1 (shut_bool Tryd.underlying4 _), (trodAll_cons_mk (shut_int Tryd.underlying5 wx0) trodAll_mk0), rfl, bel.frame _, fun h => by cases h⟩

/-- A world for the witness: the settled one, the tables holding what their initialisers lay. -/
def setT (l : List Nat) : Obj → Obj
  | .cells _ t frozen => .cells (ints .u8 l) t frozen
  | o => o
theorem laid_met (os : Os) : laidMet Tryd.prog Rows.curveBaseRow.laid (({ World.holding Tryd.prog os ⟨#[], #[], []⟩ with heap := ((((World.holding Tryd.prog os ⟨#[], #[], []⟩).heap.modify 2 (setT tab2)).modify 0 (setT tab0)).modify 1 (setT tab1)) } : World).forCall (fun _ _ => 0) ⟨#[], #[.int .u8 0], []⟩).memory :=
  laidMet_of_run' 8 (by kernel_rfl) (by kernel_rfl)
theorem reads (os : Os) {H : Type} (enc : TypeId × Value → H) : ∃ places, DataW.whole enc Tryd.prog (({ World.holding Tryd.prog os ⟨#[], #[], []⟩ with heap := ((((World.holding Tryd.prog os ⟨#[], #[], []⟩).heap.modify 2 (setT tab2)).modify 0 (setT tab0)).modify 1 (setT tab1)) } : World).forCall (fun _ _ => 0) ⟨#[], #[.int .u8 0], []⟩).memory Tryd.f5.params.toList Rows.curveBaseSpec.vars false #[Value.int .u8 0].toList 8 = some ([.lit (.int .u8 0)], [], places) :=
  ⟨[], by kernel_rfl⟩
set_option maxRecDepth 100000 in
theorem lifted (os : Os) (started : os.Started) (H : Type) (enc : TypeId × Value → H) (F : Stop.Interp) :
    ReturnsInHanded {} Tryd.checked os 5 .any ((OpenSpec.ofChange Rows.curveBaseSpec).preRow enc Tryd.prog Tryd.f5 Rows.curveBaseRow.domain false Rows.curveBaseRow.laid) (((OpenSpec.ofChange Rows.curveBaseSpec).at F).post enc Tryd.prog Tryd.f5 false true false false) := by
  obtain ⟨places, hx⟩ := reads os enc
  refine returnsInHanded_of_row (C := Tryd.checked) (s := OpenSpec.ofChange Rows.curveBaseSpec) own started (by kernel_rfl) Tryd.func5
    (witness_row_at (enc := enc) (C := Tryd.checked) false ({ World.holding Tryd.prog os ⟨#[], #[], []⟩ with heap := ((((World.holding Tryd.prog os ⟨#[], #[], []⟩).heap.modify 2 (setT tab2)).modify 0 (setT tab0)).modify 1 (setT tab1)) } : World) #[.int .u8 0] rfl (by kernel_rfl) (by kernel_rfl) (by kernel_rfl)
      (OpenSpec.preRow_of_cond 8 hx (by kernel_rfl) (fun k hk => by cases hk) (by kernel_rfl) (laid_met os))) ?_
  intro W base args ds gs before hval hW _ _ hsz hL _ _
  exact contract H enc W base args ds gs before hval hW hL hsz
theorem said : Rows.CurveBaseSaid :=
  OpenClaim.holds_of_cond 5 Tryd.f5 rfl rfl rfl rfl rfl rfl rfl ⟨rfl, rfl, rfl, rfl, rfl⟩ rfl rfl rfl rfl rfl (by kernel_rfl) Tryd.func5 (by kernel_rfl)
    (of_decide_eq_true (by kernel_rfl)) (by unfold Func.isWrapper; first | (rw [if_pos (by decide +kernel)]; kernel_rfl) | (rw [if_neg (by decide +kernel)]; exact ⟨rfl, rfl⟩))
    (fun os started H enc _ F => by rw [OpenClaim.pre_eq_preRow]; exact lifted os started H enc F)
theorem plain (f : FuncId) (fn : Func) (hf : Tryd.pinned.checked.prog.funcNamed "brevet/brevetlaw05.CurveBase" = some f) (hfn : Tryd.pinned.checked.prog.funcs[f]? = some fn) :
    false = Tryd.pinned.checked.prog.looks [] ∧ ∀ (j : Nat) t, fn.params[j]? = some t → Tryd.pinned.checked.prog.wantsStandIn t = false := by
  obtain rfl : f = 5 := Option.some.inj ((show Tryd.prog.funcNamed "brevet/brevetlaw05.CurveBase" = some 5 by kernel_rfl).symm.trans hf) |>.symm
  obtain rfl : fn = Tryd.f5 := (Option.some.inj (Tryd.func5.symm.trans hfn)).symm
  refine ⟨by kernel_rfl, fun j t ht => ?_⟩
  rw [Tryd.params5] at ht
  have hm := Array.mem_of_getElem? ht
  have h3 : Tryd.prog.wantsStandIn 3 = false := by kernel_rfl
  have h5 : Tryd.prog.wantsStandIn 5 = false := by kernel_rfl
  have h22 : Tryd.prog.wantsStandIn 22 = false := by kernel_rfl
  simp only [List.mem_toArray, List.mem_cons, List.not_mem_nil, or_false] at hm
  rcases hm with rfl <;> assumption
/-- THE CARD. -/
theorem card : Rows.CurveBaseCardSaid :=
  Claim7.holds_tied_plain_at .later [] _ _ _ _ said (fun _ h => by cases h) (by kernel_rfl) (fun _ h => by cases h) curveBase_row_tie rfl ⟨rfl, rfl⟩ (by kernel_rfl) rfl plain (by kernel_rfl)
#print axioms card
end Go.Proofs.YtpfcboakafbnlaaDoor.curveBase
