/-
  SignVerifies: the law's statement and its card: for every input the call returns true and leaves its arguments as they read, the known numbers being what the program's text lays.
 Conditions: none beyond the row's own ('laid', tied by the card).
-/
import Derived.Test.YtabgihjffjlfiaaGreatDoorCards
import Derived.Test.YtabgihjffjlfiaaGreatDoorTie
import Derived.Test.YtabgihjffjlfiaaGreatDoorC12
import Derived.WalkKit
import Derived.ProofKit
import Derived.OpenShut
import Derived.Deep.DeepHandedRow
import Derived.Lib.LaidTab
set_option linter.unusedVariables false
set_option maxRecDepth 100000
namespace Go.Proofs.YtabgihjffjlfiaaGreatDoor.signVerifies
open Go.ChangeShapes Go.WideShapes Go.ChangeAt Go.RowKit EN
theorem own : ownKnob Tryz.prog.godebug = none := by kernel_rfl
theorem laidOut : laidOutB Tryz.prog = true := by kernel_rfl
theorem g2 : Tryz.prog.globalNamed "brevet/curve.curveD" = some 2 := by kernel_rfl
theorem t2 : (Tryz.prog.globals[2]?).map (·.type) = some 90 := by kernel_rfl
theorem g0 : Tryz.prog.globalNamed "brevet/curve.baseX" = some 0 := by kernel_rfl
theorem t0 : (Tryz.prog.globals[0]?).map (·.type) = some 90 := by kernel_rfl
theorem g1 : Tryz.prog.globalNamed "brevet/curve.baseY" = some 1 := by kernel_rfl
theorem t1 : (Tryz.prog.globals[1]?).map (·.type) = some 90 := by kernel_rfl
theorem g6 : Tryz.prog.globalNamed "brevet/curve.rootOfMinusOne" = some 6 := by kernel_rfl
theorem t6 : (Tryz.prog.globals[6]?).map (·.type) = some 90 := by kernel_rfl
theorem g5 : Tryz.prog.globalNamed "brevet/curve.rootPower" = some 5 := by kernel_rfl
theorem t5 : (Tryz.prog.globals[5]?).map (·.type) = some 90 := by kernel_rfl
theorem g4 : Tryz.prog.globalNamed "brevet/scalar.excess" = some 4 := by kernel_rfl
theorem t4 : (Tryz.prog.globals[4]?).map (·.type) = some 119 := by kernel_rfl
theorem g3 : Tryz.prog.globalNamed "brevet/sha.squareRoots" = some 3 := by kernel_rfl
theorem t3 : (Tryz.prog.globals[3]?).map (·.type) = some 114 := by kernel_rfl
theorem g7 : Tryz.prog.globalNamed "brevet/sha.cubeRoots" = some 7 := by kernel_rfl
theorem t7 : (Tryz.prog.globals[7]?).map (·.type) = some 131 := by kernel_rfl
theorem c2 : Tryz.prog.cellsOf 2 = 1 := by kernel_rfl
theorem c5 : Tryz.prog.cellsOf 5 = 1 := by kernel_rfl
theorem c55 : Tryz.prog.cellsOf 55 = 1 := by kernel_rfl
theorem c90 : Tryz.prog.cellsOf 90 = 32 := by kernel_rfl
theorem c114 : Tryz.prog.cellsOf 114 = 8 := by kernel_rfl
theorem c119 : Tryz.prog.cellsOf 119 = 5 := by kernel_rfl
theorem c131 : Tryz.prog.cellsOf 131 = 80 := by kernel_rfl
def zz (l : List Nat) : List Int := l.map fun (x : Nat) => (x : Int)
theorem getD_zz (l : List Nat) (i : Nat) : (zz l).getD i 0 = ((l.getD i 0 : Nat) : Int) := by
 simp only [zz, List.getD_eq_getElem?_getD, List.getElem?_map]
 cases l[i]? <;> simp
/-- The first of the listed tables, and the others. -/
theorem laid_head {W : World} {name : String} {l : List Int} {k : IntKind} {rest : List (String × DataW Unit)} {g : Nat} {ps : List MemPlace} {T E n : Nat} (hT : Tryz.prog.underlying T = some (.array n E)) (hE : Tryz.prog.underlying E = some (.int k)) (hcE : Tryz.prog.cellsOf E = 1) (hcT : Tryz.prog.cellsOf T = n)
  (hg : Tryz.prog.globalNamed name = some g) (hty : (Tryz.prog.globals[g]?).map (·.type) = some T)
  (h : DataW.LaidVars Tryz.prog W ((name, Lib.tabData k l) :: rest) ps) : (∀ i, i < l.length → W.cell? ⟨g, i, none⟩ = some (.int k (l.getD i 0))) ∧ ∃ qs, DataW.LaidVars Tryz.prog W rest qs := by
 obtain ⟨g', t', cs, fuel, p, q, hg', ht', hvar, hd, hr, _⟩ := h
 obtain rfl := Option.some.inj (hg.symm.trans hg')
 obtain rfl := Option.some.inj (hty.symm.trans ht')
 refine ⟨?_, q, hr⟩
 have h1 : Lib.TabIs Tryz.prog W name k l := by
  unfold Lib.TabIs
  rw [hvar, ← Lib.cells_of_tab hT hE hcE hcT hd]
 exact fun i hi => h1.cell hg i hi
theorem bts_of {W : World} {g : Nat} {l : List Nat} (h : ∀ i, i < (zz l).length → W.cell? ⟨g, i, none⟩ = some (.int .u8 ((zz l).getD i 0))) : BytesAt W g 0 l := fun i hi => by
 rw [Nat.zero_add, h i (by simpa [zz] using hi), getD_zz]
theorem tab_of {W : World} {g : Nat} {l : List Nat} (h : ∀ i, i < (zz l).length → W.cell? ⟨g, i, none⟩ = some (.int .u64 ((zz l).getD i 0))) : TabAt W g l := fun i hi => by
 rw [h i (by simpa [zz] using hi), getD_zz]
theorem tabs {W : World} (h : laidMetH Tryz.prog Rows.signVerifiesRow.laid W) : TabV W := by
 have h' : laidMet Tryz.prog [("brevet/curve.curveD", Lib.tabData .u8 (zz tab2)), ("brevet/curve.baseX", Lib.tabData .u8 (zz tab0)), ("brevet/curve.baseY", Lib.tabData .u8 (zz tab1)), ("brevet/curve.rootOfMinusOne", Lib.tabData .u8 (zz tab4)), ("brevet/curve.rootPower", Lib.tabData .u8 (zz tab3)), ("brevet/scalar.excess", Lib.tabData .i64 (exd)), ("brevet/sha.squareRoots", Lib.tabData .u64 (zz HS)), ("brevet/sha.cubeRoots", Lib.tabData .u64 (zz KS))] W := h
 obtain ⟨ps, h0, _⟩ := h'
 obtain ⟨a2, qs0, h1⟩ := laid_head Tryz.underlying90 Tryz.underlying5 c5 c90 g2 t2 h0
 obtain ⟨a0, qs1, h2⟩ := laid_head Tryz.underlying90 Tryz.underlying5 c5 c90 g0 t0 h1
 obtain ⟨a1, qs2, h3⟩ := laid_head Tryz.underlying90 Tryz.underlying5 c5 c90 g1 t1 h2
 obtain ⟨a6, qs3, h4⟩ := laid_head Tryz.underlying90 Tryz.underlying5 c5 c90 g6 t6 h3
 obtain ⟨a5, qs4, h5⟩ := laid_head Tryz.underlying90 Tryz.underlying5 c5 c90 g5 t5 h4
 obtain ⟨a4, qs5, h6⟩ := laid_head Tryz.underlying119 Tryz.underlying2 c2 c119 g4 t4 h5
 obtain ⟨a3, qs6, h7⟩ := laid_head Tryz.underlying114 Tryz.underlying55 c55 c114 g3 t3 h6
 obtain ⟨a7, qs7, h8⟩ := laid_head Tryz.underlying131 Tryz.underlying55 c55 c131 g7 t7 h7
 exact ⟨⟨⟨bts_of a0, bts_of a1, bts_of a2⟩, ⟨tab_of a3, tab_of a7⟩, a4⟩, ⟨⟨bts_of a0, bts_of a1, bts_of a2⟩, bts_of a5, bts_of a6⟩⟩
/-- A slice of bytes that came in: its address leads to the bytes bs. -/
theorem view_of {H : Type} {enc : TypeId × Value → H} {W : World} {a : Option Addr} {len cap : Nat} {d : DataW H} {p : List MemPlace} (h0 : DataW.Trod enc Tryz.prog W 0 (fun _ => true) true 22 (.slice a len cap) d p) :
  len ≤ cap ∧ cap ≤ 9223372036854775807 ∧ ∃ bs : List Nat, bs.length = len ∧ (∀ j, bs.getD j 0 < 256) ∧ View W a bs := by
 obtain ⟨fuel, hf⟩ := h0
 rcases open_ints Tryz.underlying22 Tryz.underlying5 (by kernel_rfl) hf with ⟨hcs, _⟩ | ⟨x, l, c, zs, hcs, _, hl, hm, hz, _, hcell, hwz⟩
 ·simp [Value.cells] at hcs
  obtain ⟨rfl, rfl, rfl⟩ := hcs
  exact ⟨Nat.le_refl _, by omega, [], rfl, by intro j; simp, fun h => absurd h (by simp)⟩
 ·simp [Value.cells] at hcs
  obtain ⟨rfl, rfl, rfl⟩ := hcs
  have hz' : zs.length = cap := by simpa using hz
  have hb : ∀ z ∈ zs, 0 ≤ z ∧ z ≤ 255 := fun z hz => bounds_u8 (hwz z hz)
  refine ⟨hl, by unfold maxLen at hm; omega, (zs.take len).map Int.toNat, by simp; omega, fun j => ?_, fun hp => ?_⟩
  ·by_cases hj : j < len
   ·have hj2 : j < zs.length := by omega
    have := hb zs[j] (List.getElem_mem hj2)
    simp [hj, hj2]; omega
   ·rw [List.getD_eq_getElem?_getD, List.getElem?_eq_none (by simp; omega)]; decide
  ·have hp' : 0 < zs.length := by simp at hp; omega
   obtain ⟨b, off, rfl, hc⟩ := ints_at hcell hp'
   refine ⟨b, off, rfl, fun i hi => ?_⟩
   have hi' : i < len ∧ i < zs.length := by simp at hi; omega
   have h2 := hb zs[i] (List.getElem_mem hi'.2)
   rw [hc i hi'.2]
   simp [hi'.1, hi'.2]
   omega
theorem contract (H : Type) (enc : TypeId × Value → H) (W : World) (base : Nat) (args : Array Value) (ds gs : List (DataW H)) (before : List MemPlace)
  (hval : ∀ (j : Nat) t v, Tryz.f4.params[j]? = some t → args[j]? = some v → Value.okWide Tryz.prog W .any base t v)
  (hW : DataW.Whole enc Tryz.prog Tryz.f4.params.toList Rows.signVerifiesSpec.vars false W args.toList ds gs before) (hL : laidMetH Tryz.prog Rows.signVerifiesRow.laid W)
  (hsz0 : (DataW.weightsEach Tryz.prog (Tryz.f4.params.toList ++ (OpenSpec.ofChange Rows.signVerifiesSpec).bare.plain.varTypes Tryz.prog) (ds ++ gs)).all (· ≤ reachBytes) = true) :
  Calls Tryz.prog 4 args W fun e W' => ∃ v, e = .returned v ∧ Rows.signVerifiesSpec.post enc Tryz.prog Tryz.f4 false true false false W args v W' := by
 have hW' := hW
 obtain ⟨p, q, hA0, hV, rfl, hfz, hnd⟩ := hW
 have hA : DataW.TrodAll enc Tryz.prog W 0 (fun _ => true) true Tryz.f4.params.toList args.toList ds p := hA0
 rw [Tryz.params4] at hA hval
 obtain ⟨v0, vs0, d0, ds0, p0, q0, hargs, rfl, rfl, h0, r0⟩ := trodAll_cons hA
 obtain ⟨v1, vs1, d1, ds1, p1, q1, rfl, rfl, rfl, h1, r1⟩ := trodAll_cons r0
 obtain ⟨v2, vs2, d2, ds2, p2, q2, rfl, rfl, rfl, h2, r2⟩ := trodAll_cons r1
 obtain ⟨rfl, rfl, rfl⟩ := trodAll_nil r2
 obtain rfl : args = #[v0, v1, v2] := by cases args; simp_all
 obtain ⟨rfl, rfl⟩ := trodVars_none hV
 obtain ⟨a0, len0, cap0, rfl⟩ := okWide_slice Tryz.underlying22 (hval 0 22 v0 rfl rfl)
 have lt0 : ∀ x ∈ p0, x.block < W.heap.size := by obtain ⟨m, hm⟩ := h0; exact DataW.trod_lt m _ _ _ hm
 obtain ⟨hc0, hm0, z0, hz0, hb0, hv0⟩ := view_of h0
 have bt0 : Bts z0 (.slice a0 len0 cap0) W := ⟨a0, cap0, by rw [hz0], by rw [hz0]; exact hc0, hm0, hv0⟩
 obtain ⟨a1, len1, cap1, rfl⟩ := okWide_slice Tryz.underlying22 (hval 1 22 v1 rfl rfl)
 have lt1 : ∀ x ∈ p1, x.block < W.heap.size := by obtain ⟨m, hm⟩ := h1; exact DataW.trod_lt m _ _ _ hm
 obtain ⟨hc1, hm1, z1, hz1, hb1, hv1⟩ := view_of h1
 have bt1 : Bts z1 (.slice a1 len1 cap1) W := ⟨a1, cap1, by rw [hz1], by rw [hz1]; exact hc1, hm1, hv1⟩
 obtain ⟨a2, len2, cap2, rfl⟩ := okWide_slice Tryz.underlying22 (hval 2 22 v2 rfl rfl)
 have lt2 : ∀ x ∈ p2, x.block < W.heap.size := by obtain ⟨m, hm⟩ := h2; exact DataW.trod_lt m _ _ _ hm
 obtain ⟨hc2, hm2, z2, hz2, hb2, hv2⟩ := view_of h2
 have bt2 : Bts z2 (.slice a2 len2 cap2) W := ⟨a2, cap2, by rw [hz2], by rw [hz2]; exact hc2, hm2, hv2⟩
 clear hA0
 have ht := tabs hL
 have hwalk := signVerifies W ht bt0 bt1 bt2 hb0 hb1 hb2
 refine Calls.mono hwalk fun e W' ⟨v, he, bel, hv⟩ => ?_
 obtain rfl : v = .bool true := hv
 subst he
 exact ⟨_, rfl, _, _, _, [], _, [], hW', trodAll_mk1 (shut_bool Tryz.underlying4 _), (trodAll_cons_mk (Below.trod laidOut (by kernel_rfl) (of_decide_eq_true (by kernel_rfl)) h0 bel lt0) (trodAll_cons_mk (Below.trod laidOut (by kernel_rfl) (of_decide_eq_true (by kernel_rfl)) h1 bel lt1) (trodAll_cons_mk (Below.trod laidOut (by kernel_rfl) (of_decide_eq_true (by kernel_rfl)) h2 bel lt2) trodAll_mk0))), rfl, bel.frame _, fun h => by cases h⟩
/-- A world for the witness: the settled one, the tables holding what their initialisers lay. -/
def setT (k : IntKind) (l : List Int) : Obj → Obj
 | .cells _ t frozen => .cells (l.map fun z => Value.int k z).toArray t frozen
 | o => o
theorem laid_met (os : Os) : laidMet Tryz.prog Rows.signVerifiesRow.laid (({ World.holding Tryz.prog os ⟨#[], #[], []⟩ with heap := (((((((((World.holding Tryz.prog os ⟨#[], #[], []⟩).heap.modify 2 (setT .u8 (zz tab2))).modify 0 (setT .u8 (zz tab0))).modify 1 (setT .u8 (zz tab1))).modify 6 (setT .u8 (zz tab4))).modify 5 (setT .u8 (zz tab3))).modify 4 (setT .i64 (exd))).modify 3 (setT .u64 (zz HS))).modify 7 (setT .u64 (zz KS))) } : World).forCall (fun _ _ => 0) ⟨#[], #[.slice none 0 0, .slice none 0 0, .slice none 0 0], []⟩).memory :=
 laidMet_of_run' 8 (by kernel_rfl) (by kernel_rfl)
theorem reads (os : Os) {H : Type} (enc : TypeId × Value → H) : ∃ places, DataW.whole enc Tryz.prog (({ World.holding Tryz.prog os ⟨#[], #[], []⟩ with heap := (((((((((World.holding Tryz.prog os ⟨#[], #[], []⟩).heap.modify 2 (setT .u8 (zz tab2))).modify 0 (setT .u8 (zz tab0))).modify 1 (setT .u8 (zz tab1))).modify 6 (setT .u8 (zz tab4))).modify 5 (setT .u8 (zz tab3))).modify 4 (setT .i64 (exd))).modify 3 (setT .u64 (zz HS))).modify 7 (setT .u64 (zz KS))) } : World).forCall (fun _ _ => 0) ⟨#[], #[.slice none 0 0, .slice none 0 0, .slice none 0 0], []⟩).memory Tryz.f4.params.toList Rows.signVerifiesSpec.vars false #[Value.slice none 0 0, Value.slice none 0 0, Value.slice none 0 0].toList 8 = some ([.nil, .nil, .nil], [], places) :=
 ⟨[], by kernel_rfl⟩
set_option maxRecDepth 100000 in
theorem lifted (os : Os) (started : os.Started) (H : Type) (enc : TypeId × Value → H) (F : Stop.Interp) :
  ReturnsInHanded {} Tryz.checked os 4 .any ((OpenSpec.ofChange Rows.signVerifiesSpec).preRow enc Tryz.prog Tryz.f4 Rows.signVerifiesRow.domain false Rows.signVerifiesRow.laid) (((OpenSpec.ofChange Rows.signVerifiesSpec).at F).post enc Tryz.prog Tryz.f4 false true false false) := by
 obtain ⟨places, hx⟩ := reads os enc
 refine returnsInHanded_of_row (C := Tryz.checked) (s := OpenSpec.ofChange Rows.signVerifiesSpec) own started (by kernel_rfl) Tryz.func4
  (witness_row_at (enc := enc) (C := Tryz.checked) false ({ World.holding Tryz.prog os ⟨#[], #[], []⟩ with heap := (((((((((World.holding Tryz.prog os ⟨#[], #[], []⟩).heap.modify 2 (setT .u8 (zz tab2))).modify 0 (setT .u8 (zz tab0))).modify 1 (setT .u8 (zz tab1))).modify 6 (setT .u8 (zz tab4))).modify 5 (setT .u8 (zz tab3))).modify 4 (setT .i64 (exd))).modify 3 (setT .u64 (zz HS))).modify 7 (setT .u64 (zz KS))) } : World) #[.slice none 0 0, .slice none 0 0, .slice none 0 0] rfl (by kernel_rfl) (by kernel_rfl) (by kernel_rfl)
   (OpenSpec.preRow_of_cond 8 hx (by kernel_rfl) (fun k hk => by cases hk) (by kernel_rfl) (laid_met os))) ?_
 intro W base args ds gs before hval hW _ _ hsz hL _ _
 exact contract H enc W base args ds gs before hval hW hL hsz
theorem said : Rows.SignVerifiesSaid :=
 OpenClaim.holds_of_cond 4 Tryz.f4 rfl rfl rfl rfl rfl rfl rfl ⟨rfl, rfl, rfl, rfl, rfl⟩ rfl rfl rfl rfl rfl (by kernel_rfl) Tryz.func4 (by kernel_rfl)
  (of_decide_eq_true (by kernel_rfl)) (by unfold Func.isWrapper; first | (rw [if_pos (by decide +kernel)]; kernel_rfl) | (rw [if_neg (by decide +kernel)]; exact ⟨rfl, rfl⟩))
  (fun os started H enc _ F => by rw [OpenClaim.pre_eq_preRow]; exact lifted os started H enc F)
theorem plain (f : FuncId) (fn : Func) (hf : Tryz.pinned.checked.prog.funcNamed "brevet/brevetlaw06.SignVerifies" = some f) (hfn : Tryz.pinned.checked.prog.funcs[f]? = some fn) :
  false = Tryz.pinned.checked.prog.looks [] ∧ ∀ (j : Nat) t, fn.params[j]? = some t → Tryz.pinned.checked.prog.wantsStandIn t = false := by
 obtain rfl : f = 4 := Option.some.inj ((show Tryz.prog.funcNamed "brevet/brevetlaw06.SignVerifies" = some 4 by kernel_rfl).symm.trans hf) |>.symm
 obtain rfl : fn = Tryz.f4 := (Option.some.inj (Tryz.func4.symm.trans hfn)).symm
 refine ⟨by kernel_rfl, fun j t ht => ?_⟩
 rw [Tryz.params4] at ht
 have hm := Array.mem_of_getElem? ht
 have h3 : Tryz.prog.wantsStandIn 3 = false := by kernel_rfl
 have h5 : Tryz.prog.wantsStandIn 5 = false := by kernel_rfl
 have h22 : Tryz.prog.wantsStandIn 22 = false := by kernel_rfl
 simp only [List.mem_toArray, List.mem_cons, List.not_mem_nil, or_false] at hm
 rcases hm with rfl | rfl | rfl <;> assumption
/-- THE CARD. -/
theorem card : Rows.SignVerifiesCardSaid :=
 Claim7.holds_tied_plain_at .later [] _ _ _ _ said (fun _ h => by cases h) (by kernel_rfl) (fun _ h => by cases h) signVerifies_row_tie rfl ⟨rfl, rfl⟩ (by kernel_rfl) rfl plain (by kernel_rfl)
#print axioms card
end Go.Proofs.YtabgihjffjlfiaaGreatDoor.signVerifies
