/-
  CurveGroup: the law's statement and its card: for every input the call returns true and leaves its arguments as they read, the known numbers being what the program's text lays.
  Conditions: none beyond the row's own ('laid', tied by the card).
-/
import Derived.Test.YtpfcboakafbnlaaDoorCards
import Derived.Test.YtpfcboakafbnlaaDoorTie
import Derived.Test.YtpfcboakafbnlaaDoorLA
import Derived.WalkKit
import Derived.ProofKit
import Derived.OpenShut
import Derived.Deep.DeepHandedRow
import Derived.Lib.LaidTab
set_option linter.unusedVariables false
namespace Go.Proofs.YtpfcboakafbnlaaDoor.curveGroup
open Go.ChangeShapes Go.WideShapes Go.ChangeAt Go.RowKit
theorem own : ownKnob Tryd.prog.godebug = none := by kernel_rfl
theorem laidOut : laidOutB Tryd.prog = true := by kernel_rfl
theorem g2 : Tryd.prog.globalNamed "brevet/curve.curveD" = some 2 := by kernel_rfl
theorem t2 : (Tryd.prog.globals[2]?).map (·.type) = some 68 := by kernel_rfl
theorem g0 : Tryd.prog.globalNamed "brevet/curve.baseX" = some 0 := by kernel_rfl
theorem t0 : (Tryd.prog.globals[0]?).map (·.type) = some 68 := by kernel_rfl
theorem g1 : Tryd.prog.globalNamed "brevet/curve.baseY" = some 1 := by kernel_rfl
theorem t1 : (Tryd.prog.globals[1]?).map (·.type) = some 68 := by kernel_rfl
theorem c68 : Tryd.prog.cellsOf 68 = 32 := by kernel_rfl
theorem c5 : Tryd.prog.cellsOf 5 = 1 := by kernel_rfl
def zz (l : List Nat) : List Int := l.map fun (x : Nat) => (x : Int)
theorem getD_zz (l : List Nat) (i : Nat) : (zz l).getD i 0 = ((l.getD i 0 : Nat) : Int) := by
  simp only [zz, List.getD_eq_getElem?_getD, List.getElem?_map]
  cases l[i]? <;> simp
/-- The first of the listed tables, and the others. -/
theorem laid_head {W : World} {name : String} {l : List Nat} {rest : List (String × DataW Unit)} {g : Nat} {ps : List MemPlace}
    (hg : Tryd.prog.globalNamed name = some g) (hty : (Tryd.prog.globals[g]?).map (·.type) = some 68)
    (h : DataW.LaidVars Tryd.prog W ((name, Lib.tabData .u8 (zz l)) :: rest) ps) : BytesAt W g 0 l ∧ ∃ qs, DataW.LaidVars Tryd.prog W rest qs := by
  obtain ⟨g', t', cs, fuel, p, q, hg', ht', hvar, hd, hr, _⟩ := h
  obtain rfl := Option.some.inj (hg.symm.trans hg')
  obtain rfl := Option.some.inj (hty.symm.trans ht')
  refine ⟨?_, q, hr⟩
  have h1 : Lib.TabIs Tryd.prog W name .u8 (zz l) := by
    unfold Lib.TabIs
    rw [hvar, ← Lib.cells_of_tab Tryd.underlying68 Tryd.underlying5 c5 c68 hd]
  intro i hi
  rw [Nat.zero_add]
  exact (h1.cell hg i (by simpa [zz] using hi)).trans (by rw [getD_zz])
theorem tabs {W : World} (h : laidMetH Tryd.prog Rows.curveGroupRow.laid W) : Tab W := by
  have h' : laidMet Tryd.prog [("brevet/curve.curveD", Lib.tabData .u8 (zz tab2)), ("brevet/curve.baseX", Lib.tabData .u8 (zz tab0)), ("brevet/curve.baseY", Lib.tabData .u8 (zz tab1))] W := h
  obtain ⟨ps, h0, _⟩ := h'
  obtain ⟨a2, qs0, h1⟩ := laid_head g2 t2 h0
  obtain ⟨a0, qs1, h2⟩ := laid_head g0 t0 h1
  obtain ⟨a1, qs2, h3⟩ := laid_head g1 t1 h2
  exact ⟨a0, a1, a2⟩
/-- A slice of bytes that came in: its address leads to the bytes bs. -/
theorem view_of {H : Type} {enc : TypeId × Value → H} {W : World} {a : Option Addr} {len cap : Nat} {d : DataW H} {p : List MemPlace} (h0 : DataW.Trod enc Tryd.prog W 0 (fun _ => true) true 22 (.slice a len cap) d p) :
    len ≤ cap ∧ cap ≤ 9223372036854775807 ∧ ∃ bs : List Nat, bs.length = len ∧ (∀ j, bs.getD j 0 < 256) ∧ View W a bs := by
  obtain ⟨fuel, hf⟩ := h0
  rcases open_ints Tryd.underlying22 Tryd.underlying5 (by kernel_rfl) hf with ⟨hcs, _⟩ | ⟨x, l, c, zs, hcs, _, hl, hm, hz, _, hcell, hwz⟩
  · simp [Value.cells] at hcs
    obtain ⟨rfl, rfl, rfl⟩ := hcs
    exact ⟨Nat.le_refl _, by omega, [], rfl, by intro j; simp, fun h => absurd h (by simp)⟩
  · simp [Value.cells] at hcs
    obtain ⟨rfl, rfl, rfl⟩ := hcs
    have hz' : zs.length = cap := by simpa using hz
    have hb : ∀ z ∈ zs, 0 ≤ z ∧ z ≤ 255 := fun z hz => bounds_u8 (hwz z hz)
    refine ⟨hl, by unfold maxLen at hm; omega, (zs.take len).map Int.toNat, by simp; omega, fun j => ?_, fun hp => ?_⟩
    · by_cases hj : j < len
      · have hj2 : j < zs.length := by omega
        have := hb zs[j] (List.getElem_mem hj2)
        simp [hj, hj2]; omega
      · rw [List.getD_eq_getElem?_getD, List.getElem?_eq_none (by simp; omega)]; decide
    · have hp' : 0 < zs.length := by simp at hp; omega
      obtain ⟨b, off, rfl, hc⟩ := ints_at hcell hp'
      refine ⟨b, off, rfl, fun i hi => ?_⟩
      have hi' : i < len ∧ i < zs.length := by simp at hi; omega
      have h2 := hb zs[i] (List.getElem_mem hi'.2)
      rw [hc i hi'.2]
      simp [hi'.1, hi'.2]
      omega
theorem contract (H : Type) (enc : TypeId × Value → H) (W : World) (base : Nat) (args : Array Value) (ds gs : List (DataW H)) (before : List MemPlace)
    (hval : ∀ (j : Nat) t v, Tryd.f6.params[j]? = some t → args[j]? = some v → Value.okWide Tryd.prog W .any base t v)
    (hW : DataW.Whole enc Tryd.prog Tryd.f6.params.toList Rows.curveGroupSpec.vars false W args.toList ds gs before) (hL : laidMetH Tryd.prog Rows.curveGroupRow.laid W)
    (hsz0 : (DataW.weightsEach Tryd.prog (Tryd.f6.params.toList ++ (OpenSpec.ofChange Rows.curveGroupSpec).bare.plain.varTypes Tryd.prog) (ds ++ gs)).all (· ≤ reachBytes) = true) :
    Calls Tryd.prog 6 args W fun e W' => ∃ v, e = .returned v ∧ Rows.curveGroupSpec.post enc Tryd.prog Tryd.f6 false true false false W args v W' := by
  have hW' := hW
  obtain ⟨p, q, hA0, hV, rfl, hfz, hnd⟩ := hW
  have hA : DataW.TrodAll enc Tryd.prog W 0 (fun _ => true) true Tryd.f6.params.toList args.toList ds p := hA0
  rw [Tryd.params6] at hA hval
  obtain ⟨v0, vs0, d0, ds0, p0, q0, hargs, rfl, rfl, h0, r0⟩ := trodAll_cons hA
  obtain ⟨v1, vs1, d1, ds1, p1, q1, rfl, rfl, rfl, h1, r1⟩ := trodAll_cons r0
  obtain ⟨v2, vs2, d2, ds2, p2, q2, rfl, rfl, rfl, h2, r2⟩ := trodAll_cons r1
  obtain ⟨rfl, rfl, rfl⟩ := trodAll_nil r2
  obtain rfl : args = #[v0, v1, v2] := by cases args; simp_all
  obtain ⟨rfl, rfl⟩ := trodVars_none hV
  obtain ⟨a0, len0, cap0, rfl⟩ := okWide_slice Tryd.underlying22 (hval 0 22 v0 rfl rfl)
  have lt0 : ∀ x ∈ p0, x.block < W.heap.size := by obtain ⟨m, hm⟩ := h0; exact DataW.trod_lt m _ _ _ hm
  obtain ⟨hc0, hm0, z0, hz0, hb0, hv0⟩ := view_of h0
  have bt0 : Bts z0 (.slice a0 len0 cap0) W := ⟨a0, cap0, by rw [hz0], by rw [hz0]; exact hc0, hm0, hv0⟩
  obtain ⟨a1, len1, cap1, rfl⟩ := okWide_slice Tryd.underlying22 (hval 1 22 v1 rfl rfl)
  have lt1 : ∀ x ∈ p1, x.block < W.heap.size := by obtain ⟨m, hm⟩ := h1; exact DataW.trod_lt m _ _ _ hm
  obtain ⟨hc1, hm1, z1, hz1, hb1, hv1⟩ := view_of h1
  have bt1 : Bts z1 (.slice a1 len1 cap1) W := ⟨a1, cap1, by rw [hz1], by rw [hz1]; exact hc1, hm1, hv1⟩
  obtain ⟨a2, len2, cap2, rfl⟩ := okWide_slice Tryd.underlying22 (hval 2 22 v2 rfl rfl)
  have lt2 : ∀ x ∈ p2, x.block < W.heap.size := by obtain ⟨m, hm⟩ := h2; exact DataW.trod_lt m _ _ _ hm
  obtain ⟨hc2, hm2, z2, hz2, hb2, hv2⟩ := view_of h2
  have bt2 : Bts z2 (.slice a2 len2 cap2) W := ⟨a2, cap2, by rw [hz2], by rw [hz2]; exact hc2, hm2, hv2⟩
  clear hA0
  have ht := tabs hL
  have hwalk := curveGroup6 W ht bt0 bt1 bt2 hb0 hb1 hb2
  refine Calls.mono hwalk fun e W' ⟨v, he, bel, hv⟩ => ?_
  obtain rfl : v = .bool true := hv
  subst he
  exact ⟨_, rfl, _, _, _, [], _, [], hW', trodAll_mk1 (shut_bool Tryd.underlying4 _), (trodAll_cons_mk (Below.trod laidOut (by kernel_rfl) (of_decide_eq_true (by kernel_rfl)) h0 bel lt0) (trodAll_cons_mk (Below.trod laidOut (by kernel_rfl) (of_decide_eq_true (by kernel_rfl)) h1 bel lt1) (trodAll_cons_mk (Below.trod laidOut (by kernel_rfl) (of_decide_eq_true (by kernel_rfl)) h2 bel lt2) trodAll_mk0))), rfl, bel.frame _, fun h => by cases h⟩

/-- A world for the witness: the settled one, the tables holding what their initialisers lay. -/
def setT (l : List Nat) : Obj → Obj
  | .cells _ t frozen => .cells (ints .u8 l) t frozen
  | o => o
theorem laid_met (os : Os) : laidMet Tryd.prog Rows.curveGroupRow.laid (({ World.holding Tryd.prog os ⟨#[], #[], []⟩ with heap := ((((World.holding Tryd.prog os ⟨#[], #[], []⟩).heap.modify 2 (setT tab2)).modify 0 (setT tab0)).modify 1 (setT tab1)) } : World).forCall (fun _ _ => 0) ⟨#[], #[.slice none 0 0, .slice none 0 0, .slice none 0 0], []⟩).memory :=
  laidMet_of_run' 8 (by kernel_rfl) (by kernel_rfl)
theorem reads (os : Os) {H : Type} (enc : TypeId × Value → H) : ∃ places, DataW.whole enc Tryd.prog (({ World.holding Tryd.prog os ⟨#[], #[], []⟩ with heap := ((((World.holding Tryd.prog os ⟨#[], #[], []⟩).heap.modify 2 (setT tab2)).modify 0 (setT tab0)).modify 1 (setT tab1)) } : World).forCall (fun _ _ => 0) ⟨#[], #[.slice none 0 0, .slice none 0 0, .slice none 0 0], []⟩).memory Tryd.f6.params.toList Rows.curveGroupSpec.vars false #[Value.slice none 0 0, Value.slice none 0 0, Value.slice none 0 0].toList 8 = some ([.nil, .nil, .nil], [], places) :=
  ⟨[], by kernel_rfl⟩
set_option maxRecDepth 100000 in
theorem lifted (os : Os) (started : os.Started) (H : Type) (enc : TypeId × Value → H) (F : Stop.Interp) :
    ReturnsInHanded {} Tryd.checked os 6 .any ((OpenSpec.ofChange Rows.curveGroupSpec).preRow enc Tryd.prog Tryd.f6 Rows.curveGroupRow.domain false Rows.curveGroupRow.laid) (((OpenSpec.ofChange Rows.curveGroupSpec).at F).post enc Tryd.prog Tryd.f6 false true false false) := by
  obtain ⟨places, hx⟩ := reads os enc
  refine returnsInHanded_of_row (C := Tryd.checked) (s := OpenSpec.ofChange Rows.curveGroupSpec) own started (by kernel_rfl) Tryd.func6
    (witness_row_at (enc := enc) (C := Tryd.checked) false ({ World.holding Tryd.prog os ⟨#[], #[], []⟩ with heap := ((((World.holding Tryd.prog os ⟨#[], #[], []⟩).heap.modify 2 (setT tab2)).modify 0 (setT tab0)).modify 1 (setT tab1)) } : World) #[.slice none 0 0, .slice none 0 0, .slice none 0 0] rfl (by kernel_rfl) (by kernel_rfl) (by kernel_rfl)
      (OpenSpec.preRow_of_cond 8 hx (by kernel_rfl) (fun k hk => by cases hk) (by kernel_rfl) (laid_met os))) ?_
  intro W base args ds gs before hval hW _ _ hsz hL _ _
  exact contract H enc W base args ds gs before hval hW hL hsz
theorem said : Rows.CurveGroupSaid :=
  OpenClaim.holds_of_cond 6 Tryd.f6 rfl rfl rfl rfl rfl rfl rfl ⟨rfl, rfl, rfl, rfl, rfl⟩ rfl rfl rfl rfl rfl (by kernel_rfl) Tryd.func6 (by kernel_rfl)
    (of_decide_eq_true (by kernel_rfl)) (by unfold Func.isWrapper; first | (rw [if_pos (by decide +kernel)]; kernel_rfl) | (rw [if_neg (by decide +kernel)]; exact ⟨rfl, rfl⟩))
    (fun os started H enc _ F => by rw [OpenClaim.pre_eq_preRow]; exact lifted os started H enc F)
theorem plain (f : FuncId) (fn : Func) (hf : Tryd.pinned.checked.prog.funcNamed "brevet/brevetlaw05.CurveGroup" = some f) (hfn : Tryd.pinned.checked.prog.funcs[f]? = some fn) :
    false = Tryd.pinned.checked.prog.looks [] ∧ ∀ (j : Nat) t, fn.params[j]? = some t → Tryd.pinned.checked.prog.wantsStandIn t = false := by
  obtain rfl : f = 6 := Option.some.inj ((show Tryd.prog.funcNamed "brevet/brevetlaw05.CurveGroup" = some 6 by kernel_rfl).symm.trans hf) |>.symm
  obtain rfl : fn = Tryd.f6 := (Option.some.inj (Tryd.func6.symm.trans hfn)).symm
  refine ⟨by kernel_rfl, fun j t ht => ?_⟩
  rw [Tryd.params6] at ht
  have hm := Array.mem_of_getElem? ht
  have h3 : Tryd.prog.wantsStandIn 3 = false := by kernel_rfl
  have h5 : Tryd.prog.wantsStandIn 5 = false := by kernel_rfl
  have h22 : Tryd.prog.wantsStandIn 22 = false := by kernel_rfl
  simp only [List.mem_toArray, List.mem_cons, List.not_mem_nil, or_false] at hm
  rcases hm with rfl | rfl | rfl <;> assumption
/-- THE CARD. -/
theorem card : Rows.CurveGroupCardSaid :=
  Claim7.holds_tied_plain_at .later [] _ _ _ _ said (fun _ h => by cases h) (by kernel_rfl) (fun _ h => by cases h) curveGroup_row_tie rfl ⟨rfl, rfl⟩ (by kernel_rfl) rfl plain (by kernel_rfl)
#print axioms card
end Go.Proofs.YtpfcboakafbnlaaDoor.curveGroup
