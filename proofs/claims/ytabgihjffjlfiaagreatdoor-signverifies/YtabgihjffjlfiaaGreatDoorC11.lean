/-
  The walk of the reference's Of, at words of 64 bits. The reference's two sums, and the laws Sha256, Sha512. The walks of the reference's Secret, Public. The reference: Mod. The reference: Small. The reference: L, cut, Reduce, MulAdd, Is. The walks of the reference's hash, Sign. Single operations and calls for Verify and the laws.
-/
import Derived.Test.YtabgihjffjlfiaaGreatDoorC10
import Derived.Deep.DrawnRows
import Derived.Deep.AppendLies
import Derived.Handy
import Derived.Test.YtabgihjffjlfiaaGreatDoorC1
import Derived.Test.YtabgihjffjlfiaaGreatDoorC7
import Derived.Test.YtabgihjffjlfiaaGreatDoorC9
import Derived.Test.YtabgihjffjlfiaaGreatDoorC5
import Derived.Deep.CutRange
import Derived.Test.YtabgihjffjlfiaaGreatDoorC6
import Derived.Deep.RegionHeld
set_option linter.unusedVariables false
namespace Go.Proofs.YtabgihjffjlfiaaGreatDoor
namespace SR
open Go.RowKit Go.Sort Go.BigFrame
set_option maxRecDepth 100000
set_option maxHeartbeats 4000000
attribute [local go_sem ↓] Go.wp_at_zero Go.wp_at_succ

structure RelO64 (w wr : World) (B P gA gB gC gD gp : Nat) (H : Array Value) : Prop where
  bl : Below w.heap.size w wr
  res : wr.heap[w.heap.size]? = some (.cells #[.int .i64 0, .int .i64 0, .slice none 0 0, .slice none 0 0, .slice none 0 0, .slice none 0 0, .slice none 0 0, .slice none 0 0] 102 (0, 0))
  box : wr.heap[P]? = some (.cells H 102 (0, 0))
  rA : Row3 wr gA 28 34 39
  rB : Row3 wr gB 14 18 41
  rC : Row3 wr gC 1 8 7
  rD : Row3 wr gD 19 61 6
  pr : Ints wr gp 80 PT
  sz : B ≤ wr.heap.size
theorem RelO64.on {w wr w1 : World} {B P gA gB gC gD gp : Nat} {H : Array Value} (h : RelO64 w wr B P gA gB gC gD gp H) (f : Far w B P gA gB gC gD gp) (hb : Below B wr w1) : RelO64 w w1 B P gA gB gC gD gp H :=
  ⟨h.bl.trans (hb.mono (by have := f.wp; have := f.pb; omega)), (hb.block _ (by have := f.wp; have := f.pb; omega)).trans h.res, (hb.block _ f.pb).trans h.box, h.rA.onB f.a hb, h.rB.onB f.b hb, h.rC.onB f.c hb, h.rD.onB f.d hb, fun j hj => (hb.cell (p := ⟨gp, j, none⟩) f.pp).trans (h.pr j hj), Nat.le_trans h.sz hb.size⟩
theorem RelO64.store {w wr : World} {B P gA gB gC gD gp : Nat} {H : Array Value} (h : RelO64 w wr B P gA gB gC gD gp H) (f : Far w B P gA gB gC gD gp) (j : Nat) (v : Value) : RelO64 w (wr.setCell ⟨P, j, none⟩ v) B P gA gB gC gD gp (H.setIfInBounds j v) :=
  ⟨h.bl.setCell (Nat.le_of_lt f.wp) _, by rw [heap_setCell_other _ _ _ _ (by have := f.wp; simp; omega)]; exact h.res, heap_setCell_same _ _ _ _ _ _ h.box, h.rA.set f.na j v, h.rB.set f.nb j v, h.rC.set f.nc j v, h.rD.set f.nd j v, fun i hi => by rw [cell_setCell_ne _ _ _ _ f.npp]; exact h.pr i hi, by rw [size_setCell]; exact h.sz⟩
theorem RelO64.base {w wr : World} {B B' P gA gB gC gD gp : Nat} {H : Array Value} (h : RelO64 w wr B P gA gB gC gD gp H) (hB : B' ≤ wr.heap.size) : RelO64 w wr B' P gA gB gC gD gp H :=
  ⟨h.bl, h.res, h.box, h.rA, h.rB, h.rC, h.rD, h.pr, hB⟩
theorem tow64 (w : World) : ∀ W0, W0 = ((((((w.alloc (.cells #[.int .i64 0, .int .i64 0, .slice none 0 0, .slice none 0 0, .slice none 0 0, .slice none 0 0, .slice none 0 0, .slice none 0 0] 102)).alloc (.cells #[.int .i64 28, .int .i64 34, .int .i64 39] 3)).alloc (.cells #[.int .i64 14, .int .i64 18, .int .i64 41] 3)).alloc (.cells #[.int .i64 1, .int .i64 8, .int .i64 7] 3)).alloc (.cells #[.int .i64 19, .int .i64 61, .int .i64 6] 3)).alloc (.cells #[.int .i64 64, .int .i64 80, .slice (some ⟨w.heap.size + 1, 0, none⟩) 3 3, .slice (some ⟨w.heap.size + 1 + 1, 0, none⟩) 3 3, .slice (some ⟨w.heap.size + 1 + 1 + 1, 0, none⟩) 3 3, .slice (some ⟨w.heap.size + 1 + 1 + 1 + 1, 0, none⟩) 3 3, .slice none 0 0, .slice none 0 0] 102)) → W0.heap.size = w.heap.size + 6 ∧ Below w.heap.size w W0 ∧ W0.heap[w.heap.size]? = some (.cells #[.int .i64 0, .int .i64 0, .slice none 0 0, .slice none 0 0, .slice none 0 0, .slice none 0 0, .slice none 0 0, .slice none 0 0] 102) ∧ W0.heap[w.heap.size + 1 + 1 + 1 + 1 + 1]? = some (.cells #[.int .i64 64, .int .i64 80, .slice (some ⟨w.heap.size + 1, 0, none⟩) 3 3, .slice (some ⟨w.heap.size + 1 + 1, 0, none⟩) 3 3, .slice (some ⟨w.heap.size + 1 + 1 + 1, 0, none⟩) 3 3, .slice (some ⟨w.heap.size + 1 + 1 + 1 + 1, 0, none⟩) 3 3, .slice none 0 0, .slice none 0 0] 102) ∧ W0.heap[w.heap.size + 1]? = some (.cells #[.int .i64 28, .int .i64 34, .int .i64 39] 3) ∧ W0.heap[w.heap.size + 1 + 1]? = some (.cells #[.int .i64 14, .int .i64 18, .int .i64 41] 3) ∧ W0.heap[w.heap.size + 1 + 1 + 1]? = some (.cells #[.int .i64 1, .int .i64 8, .int .i64 7] 3) ∧ W0.heap[w.heap.size + 1 + 1 + 1 + 1]? = some (.cells #[.int .i64 19, .int .i64 61, .int .i64 6] 3) := fun W0 h => by
  subst h
  refine ⟨by simp only [size_alloc], (((((((Below.refl _ _).alloc (by first | exact Nat.le_refl _ | (simp only [size_alloc]; omega)) _).alloc (by first | exact Nat.le_refl _ | (simp only [size_alloc]; omega)) _).alloc (by first | exact Nat.le_refl _ | (simp only [size_alloc]; omega)) _).alloc (by first | exact Nat.le_refl _ | (simp only [size_alloc]; omega)) _).alloc (by first | exact Nat.le_refl _ | (simp only [size_alloc]; omega)) _).alloc (by first | exact Nat.le_refl _ | (simp only [size_alloc]; omega)) _), ?_, ?_, ?_, ?_, ?_, ?_⟩ <;> (repeat (first | exact heap_new' _ _ _ (by simp only [size_alloc]; done) | exact heap_new' _ _ _ rfl | rw [heap_alloc_old _ _ (by simp only [size_alloc]; omega)]))
theorem of64 (w : World) : Calls Tryz.prog 82 #[.int .i64 64] w fun e w' => ∃ gA gB gC gD gK cK gF cF, e = .returned (.agg #[.int .i64 64, .int .i64 80, .slice (some ⟨gA, 0, none⟩) 3 3, .slice (some ⟨gB, 0, none⟩) 3 3, .slice (some ⟨gC, 0, none⟩) 3 3, .slice (some ⟨gD, 0, none⟩) 3 3, .slice (some ⟨gK, 0, none⟩) 80 cK, .slice (some ⟨gF, 0, none⟩) 8 cF]) ∧ Below w.heap.size w w' ∧
    Row3 w' gA 28 34 39 ∧ Row3 w' gB 14 18 41 ∧ Row3 w' gC 1 8 7 ∧ Row3 w' gD 19 61 6 ∧ Words w' gK 80 KS ∧ Words w' gF 8 HS := by
  have h39i : (Tryz.prog.info? 55).map (fun i => (i.zero, i.size, i.bytes)) = some (some (.int .u64 0), 1, 8) := by kernel_rfl
  obtain ⟨i0, hi0, hz0, hz1, hz2⟩ := info_parts h39i
  go_enter Tryz.func82, Tryz.ntmps82
  go_wp2_with fail
  refine (primes80 _).mono ?_
  rintro e w1 ⟨v, rfl, hb1, hown⟩
  obtain ⟨hs0, hbw, t0, t5, tA, tB, tC, tD⟩ := tow64 w _ rfl
  rw [hs0] at hown
  obtain ⟨gp, cp, rfl, hgp0, _⟩ := own_formT hown (by omega)
  have hpr : Ints w1 gp 80 PT := fun i hi => by rw [hown.cellAt i (by omega)]; simp [iv, show i < PT.length by rw [PT_len]; exact hi]
  have hgpl := (hown.lt gp rfl).2
  have hB1 : Below w.heap.size w w1 := hbw.trans (hb1.mono (by rw [hs0]; omega))
  have s0 := block_below hb1 (by rw [hs0]; omega) t0
  have s5 := block_below hb1 (by rw [hs0]; omega) t5
  have sA := block_below hb1 (by rw [hs0]; omega) tA
  have sB := block_below hb1 (by rw [hs0]; omega) tB
  have sC := block_below hb1 (by rw [hs0]; omega) tC
  have sD := block_below hb1 (by rw [hs0]; omega) tD
  have hs1 := hb1.size
  rw [hs0] at hs1
  clear hb1 hown t0 t5 tA tB tC tD hbw hs0
  generalize hP : w.heap.size + 1 + 1 + 1 + 1 + 1 = P at *
  generalize hgD : w.heap.size + 1 + 1 + 1 + 1 = gD at *
  generalize hgC : w.heap.size + 1 + 1 + 1 = gC at *
  generalize hgB : w.heap.size + 1 + 1 = gB at *
  generalize hgA : w.heap.size + 1 = gA at *
  obtain ⟨BB, hBB⟩ : ∃ x, x = w1.heap.size := ⟨_, rfl⟩
  have hfar : Far w BB P gA gB gC gD gp := ⟨by omega, by omega, by omega, by omega, by omega, by omega, by omega, by omega, by omega, by omega, by omega, by omega, by omega, by omega, by omega, by omega⟩
  have hR : RelO64 w w1 BB P gA gB gC gD gp (#[.int .i64 64, .int .i64 80, .slice (some ⟨gA, 0, none⟩) 3 3, .slice (some ⟨gB, 0, none⟩) 3 3, .slice (some ⟨gC, 0, none⟩) 3 3, .slice (some ⟨gD, 0, none⟩) 3 3, .slice none 0 0, .slice none 0 0]) := ⟨hB1, s0, s5, row3_of sA, row3_of sB, row3_of sC, row3_of sD, hpr, by omega⟩
  clear hB1 s0 s5 sA sB sC sD hpr hBB hgp0 hgpl hs1 hP hgD hgC hgB hgA
  go_wp2_with fail

  go_loopw [5] (fun v5 wr => ∃ i : Nat, i ≤ 80 ∧ v5 = .int .i64 (i : Int) ∧ ∃ vK, RelO64 w wr BB P gA gB gC gD gp (#[.int .i64 64, .int .i64 80, .slice (some ⟨gA, 0, none⟩) 3 3, .slice (some ⟨gB, 0, none⟩) 3 3, .slice (some ⟨gC, 0, none⟩) 3 3, .slice (some ⟨gD, 0, none⟩) 3 3, vK, (.slice none 0 0)]) ∧ wr.ownsRow BB 55 1 vK i (uv (KS.take i))) (fun i _ => 80 - (intOf i).toNat)
  case atStart => exact ⟨0, by omega, rfl, _, hR, World.ownsRow_nil _ _ _ _⟩
  case round =>
    clear hR
    obtain ⟨i, hi, rfl, vK, hR, hown⟩ := hrel
    have c1 := row_at hR.box 1 (.int .i64 80) rfl
    by_cases hlt : i < 80
    · obtain ⟨pi, hpi⟩ : ∃ x, x = PT.getD i 0 := ⟨_, rfl⟩
      obtain ⟨xi, hxi⟩ : ∃ x, x = KS.getD i 0 := ⟨_, rfl⟩
      obtain ⟨ki, hki⟩ : ∃ x, x = KS.getD i 0 := ⟨_, rfl⟩
      have hroot : ∀ w, Calls Tryz.prog 106 #[.int .i64 (pi : Int), .int .i64 3] w fun e w' => e = .returned (.int .u64 (xi : Int)) ∧ Below w.heap.size w w' := fun w => by rw [hpi, hxi]; exact root3_at i (by omega) w
      have htop : ∀ w, Calls Tryz.prog 105 #[.agg (#[.int .i64 64, .int .i64 80, .slice (some ⟨gA, 0, none⟩) 3 3, .slice (some ⟨gB, 0, none⟩) 3 3, .slice (some ⟨gC, 0, none⟩) 3 3, .slice (some ⟨gD, 0, none⟩) 3 3, vK, (.slice none 0 0)]), .int .u64 (xi : Int)] w fun e w' => e = .returned (.int .u64 (ki : Int)) ∧ Below w.heap.size w w' := fun w => by
        rw [hki, ← hxi]; exact topH64 _ _ _ _ _ _ xi w (by rw [hxi]; exact KS_lt i)
      have hpc : wr.cell? ⟨gp, i, none⟩ = some (.int .i64 (pi : Int)) := by rw [hpi]; exact hR.pr i (by omega)
      have HE : Hid (uv (KS.take i) ++ [.int .u64 (ki : Int)] = uv (KS.take (i + 1))) := by
        show uv (KS.take i) ++ [.int .u64 (ki : Int)] = uv (KS.take (i + 1))
        rw [take_snoc' (by show i < KS.length; rw [show KS.length = 80 from by kernel_rfl]; omega), ← hki]; simp [uv]
      clear hpi hxi hki
      have hsz : BB ≤ wr.heap.size := hR.sz
      have hbox : ∀ w', Below BB wr w' → w'.heap[P]? = some (.cells (#[.int .i64 64, .int .i64 80, .slice (some ⟨gA, 0, none⟩) 3 3, .slice (some ⟨gB, 0, none⟩) 3 3, .slice (some ⟨gC, 0, none⟩) 3 3, .slice (some ⟨gD, 0, none⟩) 3 3, vK, (.slice none 0 0)]) 102 (0, 0)) := fun w' hb => (hR.on hfar hb).box
      have hpx : ∀ w', Below BB wr w' → w'.cell? ⟨gp, i, none⟩ = some (.int .i64 (pi : Int)) := fun w' hb => (hb.cell (p := ⟨gp, i, none⟩) hfar.pp).trans hpc
      have h37 : (Tryz.prog.info? 102).map (·.size) = some 8 := by kernel_rfl
      have hlt1 := hown.lt
      have hS0 : Below BB wr wr.drew := (Below.refl _ _).drew
      go_wp2_with fail
      refine wp_region_Z (fun w' => Below BB wr w') 12 (by kernel_rfl) ?_
      show wpZ _ _ _ _ _ _ 13 (Array.replicate 13 false) _ wr.drew
      refine takeZ (i := 0) (some 26) _ rfl rfl (by kernel_rfl) (fun _ _ _ h => h) (yields_run (v := .pointer (some ⟨P, 6, none⟩)) rfl fun w' _ => field37_6 (x := .tmp 3) rfl rfl) hS0 ?_
      simp only [Act.put, List.setIfInBounds_toArray, List.set_cons_succ, List.set_cons_zero]
      refine takeZ (i := 1) (some 27) _ rfl rfl (by kernel_rfl) (fun _ _ _ h => h) (yields_run (v := vK) rfl fun w' hb => load35 (x := .tmp 26) rfl rfl (row_at (hbox w' hb) 6 _ rfl)) hS0 ?_
      simp only [Act.put, List.setIfInBounds_toArray, List.set_cons_succ, List.set_cons_zero]
      refine takeZ (i := 2) (some 28) _ rfl rfl (by kernel_rfl) (fun _ _ _ h => h) (yields_load_row rfl 102 (.tmp 3) rfl P rfl 102 (#[.int .i64 64, .int .i64 80, .slice (some ⟨gA, 0, none⟩) 3 3, .slice (some ⟨gB, 0, none⟩) 3 3, .slice (some ⟨gC, 0, none⟩) 3 3, .slice (some ⟨gD, 0, none⟩) 3 3, vK, (.slice none 0 0)]) (0, 0) _ (fun w' hb => hbox w' hb) Tryz.underlying102 rfl h37) hS0 ?_
      simp only [Act.put, List.setIfInBounds_toArray, List.set_cons_succ, List.set_cons_zero]
      refine takeZ (i := 3) (some 29) _ rfl rfl (by kernel_rfl) (fun _ _ _ h => h) (yields_move rfl (.tmp 4) rfl) hS0 ?_
      simp only [Act.put, List.setIfInBounds_toArray, List.set_cons_succ, List.set_cons_zero]
      refine takeZ (i := 4) (some 30) _ rfl rfl (by kernel_rfl) (fun _ _ _ h => h) (yields_move rfl (.tmp 5) rfl) hS0 ?_
      simp only [Act.put, List.setIfInBounds_toArray, List.set_cons_succ, List.set_cons_zero]
      refine takeZ (i := 5) (some 31) _ rfl rfl (by kernel_rfl) (fun _ _ _ h => h) (yields_run (v := .pointer (some ⟨gp, i, none⟩)) rfl fun w' _ => index34 (x := .tmp 29) (y := .tmp 30) (i := i) (cp := cp) rfl rfl rfl (by omega)) hS0 ?_
      simp only [Act.put, List.setIfInBounds_toArray, List.set_cons_succ, List.set_cons_zero]
      refine takeZ (i := 6) (some 32) _ rfl rfl (by kernel_rfl) (fun _ _ _ h => h) (yields_run (v := .int .i64 (pi : Int)) rfl fun w' hb => load3 (x := .tmp 31) rfl rfl (hpx w' hb)) hS0 ?_
      simp only [Act.put, List.setIfInBounds_toArray, List.set_cons_succ, List.set_cons_zero]
      refine oneZ (i := 7) (by kernel_rfl) ?_
      refine call_at (some 33) rfl rfl rfl 106 #[.int .i64 (pi : Int), .int .i64 3] (R := fun v w' => v = .int .u64 (xi : Int) ∧ Below wr.drew.heap.size wr.drew w') (by kernel_rfl) ((hroot _).mono fun e w' h => ⟨_, h.1, rfl, h.2⟩) ?_
      rintro v1 wq ⟨rfl, hbq⟩
      have hc1 : Below wr.heap.size wr wq := (Below.refl _ _).drew.trans hbq
      refine ⟨fun _ => hc1.mono hsz, ?_⟩
      simp only [Act.put, List.setIfInBounds_toArray, List.set_cons_succ, List.set_cons_zero]
      refine oneZ (i := 8) (by kernel_rfl) ?_
      refine call_at (some 34) rfl rfl rfl 105 #[.agg (#[.int .i64 64, .int .i64 80, .slice (some ⟨gA, 0, none⟩) 3 3, .slice (some ⟨gB, 0, none⟩) 3 3, .slice (some ⟨gC, 0, none⟩) 3 3, .slice (some ⟨gD, 0, none⟩) 3 3, vK, (.slice none 0 0)]), .int .u64 (xi : Int)] (R := fun v w' => v = .int .u64 (ki : Int) ∧ Below wq.heap.size wq w') (by kernel_rfl) ((htop _).mono fun e w' h => ⟨_, h.1, rfl, h.2⟩) ?_
      rintro v2 wp ⟨rfl, hbp⟩
      have hc2 : Below wr.heap.size wr wp := hc1.trans (hbp.mono hc1.size)
      have hcB : BB ≤ wp.heap.size := Nat.le_trans hsz hc2.size
      refine ⟨fun _ => hc2.mono hsz, ?_⟩
      simp only [Act.put, List.setIfInBounds_toArray, List.set_cons_succ, List.set_cons_zero]
      have hownc := own_onV hown hc2
      refine oneZ (i := 9) (by kernel_rfl) ?_
      refine new_at (some 35) (.slice (some ⟨wp.heap.size, 0, none⟩) 1 1) (.cells #[.int .u64 (ki : Int)] 55) rfl rfl rfl (build35 (x := .tmp 34) rfl rfl) ?_
      refine ⟨fun _ => (hc2.mono hsz).alloc hcB _, ?_⟩
      simp only [Act.put, List.setIfInBounds_toArray, List.set_cons_succ, List.set_cons_zero]
      refine oneZ (i := 10) (by kernel_rfl) ?_
      refine wpOp_of_wp rfl rfl (wp_append_lies _ (.tmp 27) (.tmp 35) 100 rfl BB 55 i0 (.int .u64 0) 1 8 Tryz.underlying100 hi0 hz0 hz1 hz2 rfl (by decide) vK i _ rfl (hownc.alloc _) ⟨wp.heap.size, 0, none⟩ 1 1 [.int .u64 (ki : Int)] rfl rfl (Hnews_one _ _ _) one_word (by omega) (by unfold maxLen; omega) (by omega) (by simp; omega) _ rfl ?_)
      intro ga ca wa howna hgrowa hata hlta
      have hca : Below BB wr wa := ((hc2.mono hsz).alloc hcB _).grown hgrowa (by simp; omega) (fun k hk => (hlt1 k hk).1)
      refine ⟨fun _ => hca, ?_⟩
      have e10 : ∀ (a : Act) (v : Value), a.put (some 36) v = a.put (some 36) v := fun _ _ => rfl
      show wpZ _ _ _ _ _ _ _ _ (Act.put _ (some 36) _) _
      simp only [Act.put, List.setIfInBounds_toArray, List.set_cons_succ, List.set_cons_zero]
      refine oneZ (i := 11) (by kernel_rfl) ?_
      refine run_at (some 37) (.pointer (some ⟨P, 6, none⟩)) rfl rfl rfl (field37_6 (x := .tmp 3) rfl rfl) ?_
      refine ⟨fun _ => hca, ?_⟩
      simp only [Act.put, List.setIfInBounds_toArray, List.set_cons_succ, List.set_cons_zero]
      have hcx := row_at (hbox wa hca) 6 vK rfl
      have hfx := free_ints (hbox wa hca) 6
      refine oneZ (i := 12) (by kernel_rfl) ?_
      refine store1_at (.slice (some ⟨ga, 0, none⟩) (i + 1) ca) rfl rfl rfl (store35 (x := .tmp 37) (y := .tmp 36) rfl rfl rfl hcx hfx) ?_
      refine ⟨fun h => absurd rfl h, doneZ (by kernel_rfl) ?_ _⟩
      rw [HE.out] at howna
      have hRn := (hR.on hfar hca).store hfar 6 (.slice (some ⟨ga, 0, none⟩) (i + 1) ca)
      have hon := own_set howna hfar.pb 6 (.slice (some ⟨ga, 0, none⟩) (i + 1) ca)
      
      clear hcx hfx hownc hgrowa hata hlta hc1 hc2 hbp hbq hcB hbox hpx hS0 e10
      go_wp2_with fail
      go_roundw
      case rel => first | exact ⟨i + 1, by omega, by go_num, _, hRn, hon⟩ | ((repeat apply Exists.intro); exact ⟨⟨i + 1, by omega, by go_num, _, hRn, hon⟩, rfl⟩)
      case measure => simp [intOf]; omega
    · obtain rfl : i = 80 := by omega

      obtain ⟨gK, cK, rfl, _, _⟩ := own_form hown (by omega)
      have hKw : Words wr gK 80 KS := words_of hown (by show 80 ≤ KS.length; exact Nat.le_of_eq (by kernel_rfl))
      obtain ⟨hKl, hKu⟩ := hown.lt gK rfl
      obtain ⟨BC, hBC⟩ : ∃ x, x = wr.heap.size := ⟨_, rfl⟩
      have hgKB : gK < BC := by rw [hBC]; exact hKu
      have hgKP : gK ≠ P := by have := hfar.pb; omega
      have hgKW : gK ≠ w.heap.size := by have := hfar.pb; have := hfar.wp; omega
      have hle : BB ≤ BC := by rw [hBC]; exact hR.sz
      have hR := hR.base (Nat.le_of_eq hBC)
      have hfar := hfar.mono hle
      clear hown hKl hKu hBC hle
      go_wp2_with fail
      clear c1

      go_loopw [6] (fun v5 wr => ∃ i : Nat, i ≤ 8 ∧ v5 = .int .i64 (i : Int) ∧ ∃ vK, RelO64 w wr BC P gA gB gC gD gp (#[.int .i64 64, .int .i64 80, .slice (some ⟨gA, 0, none⟩) 3 3, .slice (some ⟨gB, 0, none⟩) 3 3, .slice (some ⟨gC, 0, none⟩) 3 3, .slice (some ⟨gD, 0, none⟩) 3 3, (.slice (some ⟨gK, 0, none⟩) 80 cK), vK]) ∧ Words wr gK 80 KS ∧ wr.ownsRow BC 55 1 vK i (uv (HS.take i))) (fun i _ => 8 - (intOf i).toNat)
      case atStart => exact ⟨0, by omega, rfl, _, hR, hKw, World.ownsRow_nil _ _ _ _⟩
      case round =>
        clear hR hKw
        obtain ⟨i, hi, rfl, vK, hR, hKw, hown⟩ := hrel
        have c1 := row_at hR.box 1 (.int .i64 80) rfl
        by_cases hlt : i < 8
        · obtain ⟨pi, hpi⟩ : ∃ x, x = PT.getD i 0 := ⟨_, rfl⟩
          obtain ⟨xi, hxi⟩ : ∃ x, x = HS.getD i 0 := ⟨_, rfl⟩
          obtain ⟨ki, hki⟩ : ∃ x, x = HS.getD i 0 := ⟨_, rfl⟩
          have hroot : ∀ w, Calls Tryz.prog 106 #[.int .i64 (pi : Int), .int .i64 2] w fun e w' => e = .returned (.int .u64 (xi : Int)) ∧ Below w.heap.size w w' := fun w => by rw [hpi, hxi]; exact root2_at i (by omega) w
          have htop : ∀ w, Calls Tryz.prog 105 #[.agg (#[.int .i64 64, .int .i64 80, .slice (some ⟨gA, 0, none⟩) 3 3, .slice (some ⟨gB, 0, none⟩) 3 3, .slice (some ⟨gC, 0, none⟩) 3 3, .slice (some ⟨gD, 0, none⟩) 3 3, (.slice (some ⟨gK, 0, none⟩) 80 cK), vK]), .int .u64 (xi : Int)] w fun e w' => e = .returned (.int .u64 (ki : Int)) ∧ Below w.heap.size w w' := fun w => by
            rw [hki, ← hxi]; exact topH64 _ _ _ _ _ _ xi w (by rw [hxi]; exact HS_lt i)
          have hpc : wr.cell? ⟨gp, i, none⟩ = some (.int .i64 (pi : Int)) := by rw [hpi]; exact hR.pr i (by omega)
          have HE : Hid (uv (HS.take i) ++ [.int .u64 (ki : Int)] = uv (HS.take (i + 1))) := by
            show uv (HS.take i) ++ [.int .u64 (ki : Int)] = uv (HS.take (i + 1))
            rw [take_snoc' (by show i < HS.length; rw [show HS.length = 8 from by kernel_rfl]; omega), ← hki]; simp [uv]
          clear hpi hxi hki
          have hsz : BC ≤ wr.heap.size := hR.sz
          have hbox : ∀ w', Below BC wr w' → w'.heap[P]? = some (.cells (#[.int .i64 64, .int .i64 80, .slice (some ⟨gA, 0, none⟩) 3 3, .slice (some ⟨gB, 0, none⟩) 3 3, .slice (some ⟨gC, 0, none⟩) 3 3, .slice (some ⟨gD, 0, none⟩) 3 3, (.slice (some ⟨gK, 0, none⟩) 80 cK), vK]) 102 (0, 0)) := fun w' hb => (hR.on hfar hb).box
          have hpx : ∀ w', Below BC wr w' → w'.cell? ⟨gp, i, none⟩ = some (.int .i64 (pi : Int)) := fun w' hb => (hb.cell (p := ⟨gp, i, none⟩) hfar.pp).trans hpc
          have h37 : (Tryz.prog.info? 102).map (·.size) = some 8 := by kernel_rfl
          have hlt1 := hown.lt
          have hS0 : Below BC wr wr.drew := (Below.refl _ _).drew
          go_wp2_with fail
          refine wp_region_Z (fun w' => Below BC wr w') 12 (by kernel_rfl) ?_
          show wpZ _ _ _ _ _ _ 13 (Array.replicate 13 false) _ wr.drew
          refine takeZ (i := 0) (some 42) _ rfl rfl (by kernel_rfl) (fun _ _ _ h => h) (yields_run (v := .pointer (some ⟨P, 7, none⟩)) rfl fun w' _ => field37_7 (x := .tmp 3) rfl rfl) hS0 ?_
          simp only [Act.put, List.setIfInBounds_toArray, List.set_cons_succ, List.set_cons_zero]
          refine takeZ (i := 1) (some 43) _ rfl rfl (by kernel_rfl) (fun _ _ _ h => h) (yields_run (v := vK) rfl fun w' hb => load35 (x := .tmp 42) rfl rfl (row_at (hbox w' hb) 7 _ rfl)) hS0 ?_
          simp only [Act.put, List.setIfInBounds_toArray, List.set_cons_succ, List.set_cons_zero]
          refine takeZ (i := 2) (some 44) _ rfl rfl (by kernel_rfl) (fun _ _ _ h => h) (yields_load_row rfl 102 (.tmp 3) rfl P rfl 102 (#[.int .i64 64, .int .i64 80, .slice (some ⟨gA, 0, none⟩) 3 3, .slice (some ⟨gB, 0, none⟩) 3 3, .slice (some ⟨gC, 0, none⟩) 3 3, .slice (some ⟨gD, 0, none⟩) 3 3, (.slice (some ⟨gK, 0, none⟩) 80 cK), vK]) (0, 0) _ (fun w' hb => hbox w' hb) Tryz.underlying102 rfl h37) hS0 ?_
          simp only [Act.put, List.setIfInBounds_toArray, List.set_cons_succ, List.set_cons_zero]
          refine takeZ (i := 3) (some 45) _ rfl rfl (by kernel_rfl) (fun _ _ _ h => h) (yields_move rfl (.tmp 4) rfl) hS0 ?_
          simp only [Act.put, List.setIfInBounds_toArray, List.set_cons_succ, List.set_cons_zero]
          refine takeZ (i := 4) (some 46) _ rfl rfl (by kernel_rfl) (fun _ _ _ h => h) (yields_move rfl (.tmp 6) rfl) hS0 ?_
          simp only [Act.put, List.setIfInBounds_toArray, List.set_cons_succ, List.set_cons_zero]
          refine takeZ (i := 5) (some 47) _ rfl rfl (by kernel_rfl) (fun _ _ _ h => h) (yields_run (v := .pointer (some ⟨gp, i, none⟩)) rfl fun w' _ => index34 (x := .tmp 45) (y := .tmp 46) (i := i) (cp := cp) rfl rfl rfl (by omega)) hS0 ?_
          simp only [Act.put, List.setIfInBounds_toArray, List.set_cons_succ, List.set_cons_zero]
          refine takeZ (i := 6) (some 48) _ rfl rfl (by kernel_rfl) (fun _ _ _ h => h) (yields_run (v := .int .i64 (pi : Int)) rfl fun w' hb => load3 (x := .tmp 47) rfl rfl (hpx w' hb)) hS0 ?_
          simp only [Act.put, List.setIfInBounds_toArray, List.set_cons_succ, List.set_cons_zero]
          refine oneZ (i := 7) (by kernel_rfl) ?_
          refine call_at (some 49) rfl rfl rfl 106 #[.int .i64 (pi : Int), .int .i64 2] (R := fun v w' => v = .int .u64 (xi : Int) ∧ Below wr.drew.heap.size wr.drew w') (by kernel_rfl) ((hroot _).mono fun e w' h => ⟨_, h.1, rfl, h.2⟩) ?_
          rintro v1 wq ⟨rfl, hbq⟩
          have hc1 : Below wr.heap.size wr wq := (Below.refl _ _).drew.trans hbq
          refine ⟨fun _ => hc1.mono hsz, ?_⟩
          simp only [Act.put, List.setIfInBounds_toArray, List.set_cons_succ, List.set_cons_zero]
          refine oneZ (i := 8) (by kernel_rfl) ?_
          refine call_at (some 50) rfl rfl rfl 105 #[.agg (#[.int .i64 64, .int .i64 80, .slice (some ⟨gA, 0, none⟩) 3 3, .slice (some ⟨gB, 0, none⟩) 3 3, .slice (some ⟨gC, 0, none⟩) 3 3, .slice (some ⟨gD, 0, none⟩) 3 3, (.slice (some ⟨gK, 0, none⟩) 80 cK), vK]), .int .u64 (xi : Int)] (R := fun v w' => v = .int .u64 (ki : Int) ∧ Below wq.heap.size wq w') (by kernel_rfl) ((htop _).mono fun e w' h => ⟨_, h.1, rfl, h.2⟩) ?_
          rintro v2 wp ⟨rfl, hbp⟩
          have hc2 : Below wr.heap.size wr wp := hc1.trans (hbp.mono hc1.size)
          have hcB : BC ≤ wp.heap.size := Nat.le_trans hsz hc2.size
          refine ⟨fun _ => hc2.mono hsz, ?_⟩
          simp only [Act.put, List.setIfInBounds_toArray, List.set_cons_succ, List.set_cons_zero]
          have hownc := own_onV hown hc2
          refine oneZ (i := 9) (by kernel_rfl) ?_
          refine new_at (some 51) (.slice (some ⟨wp.heap.size, 0, none⟩) 1 1) (.cells #[.int .u64 (ki : Int)] 55) rfl rfl rfl (build35 (x := .tmp 50) rfl rfl) ?_
          refine ⟨fun _ => (hc2.mono hsz).alloc hcB _, ?_⟩
          simp only [Act.put, List.setIfInBounds_toArray, List.set_cons_succ, List.set_cons_zero]
          refine oneZ (i := 10) (by kernel_rfl) ?_
          refine wpOp_of_wp rfl rfl (wp_append_lies _ (.tmp 43) (.tmp 51) 100 rfl BC 55 i0 (.int .u64 0) 1 8 Tryz.underlying100 hi0 hz0 hz1 hz2 rfl (by decide) vK i _ rfl (hownc.alloc _) ⟨wp.heap.size, 0, none⟩ 1 1 [.int .u64 (ki : Int)] rfl rfl (Hnews_one _ _ _) one_word (by omega) (by unfold maxLen; omega) (by omega) (by simp; omega) _ rfl ?_)
          intro ga ca wa howna hgrowa hata hlta
          have hca : Below BC wr wa := ((hc2.mono hsz).alloc hcB _).grown hgrowa (by simp; omega) (fun k hk => (hlt1 k hk).1)
          refine ⟨fun _ => hca, ?_⟩
          have e10 : ∀ (a : Act) (v : Value), a.put (some 52) v = a.put (some 52) v := fun _ _ => rfl
          show wpZ _ _ _ _ _ _ _ _ (Act.put _ (some 52) _) _
          simp only [Act.put, List.setIfInBounds_toArray, List.set_cons_succ, List.set_cons_zero]
          refine oneZ (i := 11) (by kernel_rfl) ?_
          refine run_at (some 53) (.pointer (some ⟨P, 7, none⟩)) rfl rfl rfl (field37_7 (x := .tmp 3) rfl rfl) ?_
          refine ⟨fun _ => hca, ?_⟩
          simp only [Act.put, List.setIfInBounds_toArray, List.set_cons_succ, List.set_cons_zero]
          have hcx := row_at (hbox wa hca) 7 vK rfl
          have hfx := free_ints (hbox wa hca) 7
          refine oneZ (i := 12) (by kernel_rfl) ?_
          refine store1_at (.slice (some ⟨ga, 0, none⟩) (i + 1) ca) rfl rfl rfl (store35 (x := .tmp 53) (y := .tmp 52) rfl rfl rfl hcx hfx) ?_
          refine ⟨fun h => absurd rfl h, doneZ (by kernel_rfl) ?_ _⟩
          rw [HE.out] at howna
          have hRn := (hR.on hfar hca).store hfar 7 (.slice (some ⟨ga, 0, none⟩) (i + 1) ca)
          have hon := own_set howna hfar.pb 7 (.slice (some ⟨ga, 0, none⟩) (i + 1) ca)
          have hKn := words_set (hKw.onB hgKB hca) hgKP 7 (.slice (some ⟨ga, 0, none⟩) (i + 1) ca)
          clear hcx hfx hownc hgrowa hata hlta hc1 hc2 hbp hbq hcB hbox hpx hS0 e10
          go_wp2_with fail
          go_roundw
          case rel => first | exact ⟨i + 1, by omega, by go_num, _, hRn, hKn, hon⟩ | ((repeat apply Exists.intro); exact ⟨⟨i + 1, by omega, by go_num, _, hRn, hKn, hon⟩, rfl⟩)
          case measure => simp [intOf]; omega
        · obtain rfl : i = 8 := by omega

          obtain ⟨gF, cF, rfl, _, _⟩ := own_form hown (by omega)
          have hFw : Words wr gF 8 HS := words_of hown (by show 8 ≤ HS.length; exact Nat.le_of_eq (by kernel_rfl))
          have hFl := (hown.lt gF rfl).1
          have hwF : gF ≠ w.heap.size := by have := hfar.wp; have := hfar.pb; omega
          clear hown hFl c1
          have bx0 := row_at hR.box 0 _ rfl
          have bx1 := row_at hR.box 1 _ rfl
          have bx2 := row_at hR.box 2 _ rfl
          have bx3 := row_at hR.box 3 _ rfl
          have bx4 := row_at hR.box 4 _ rfl
          have bx5 := row_at hR.box 5 _ rfl
          have bx6 := row_at hR.box 6 _ rfl
          have bx7 := row_at hR.box 7 _ rfl
          have rx0 := row_at hR.res 0 _ rfl
          have rx1 := row_at hR.res 1 _ rfl
          have rx2 := row_at hR.res 2 _ rfl
          have rx3 := row_at hR.res 3 _ rfl
          have rx4 := row_at hR.res 4 _ rfl
          have rx5 := row_at hR.res 5 _ rfl
          have rx6 := row_at hR.res 6 _ rfl
          have rx7 := row_at hR.res 7 _ rfl
          have fx0 := free_ints hR.res 0
          have fx1 := free_ints hR.res 1
          have fx2 := free_ints hR.res 2
          have fx3 := free_ints hR.res 3
          have fx4 := free_ints hR.res 4
          have fx5 := free_ints hR.res 5
          have fx6 := free_ints hR.res 6
          have fx7 := free_ints hR.res 7
          go_wp2_with fail
          obtain ⟨Wf, hWf⟩ : ∃ x, x = ((((((((wr.setCell ⟨w.heap.size, 0, none⟩ (.int .i64 64)).setCell ⟨w.heap.size, 1, none⟩ (.int .i64 80)).setCell ⟨w.heap.size, 2, none⟩ (.slice (some ⟨gA, 0, none⟩) 3 3)).setCell ⟨w.heap.size, 3, none⟩ (.slice (some ⟨gB, 0, none⟩) 3 3)).setCell ⟨w.heap.size, 4, none⟩ (.slice (some ⟨gC, 0, none⟩) 3 3)).setCell ⟨w.heap.size, 5, none⟩ (.slice (some ⟨gD, 0, none⟩) 3 3)).setCell ⟨w.heap.size, 6, none⟩ (.slice (some ⟨gK, 0, none⟩) 80 cK)).setCell ⟨w.heap.size, 7, none⟩ (.slice (some ⟨gF, 0, none⟩) 8 cF)) := ⟨_, rfl⟩
          rw [← hWf]
          have z0 : Below w.heap.size w Wf := by rw [hWf]; exact (Below.setCell (Below.setCell (Below.setCell (Below.setCell (Below.setCell (Below.setCell (Below.setCell (Below.setCell hR.bl (p := ⟨w.heap.size, 0, none⟩) (Nat.le_refl _) (.int .i64 64)) (p := ⟨w.heap.size, 1, none⟩) (Nat.le_refl _) (.int .i64 80)) (p := ⟨w.heap.size, 2, none⟩) (Nat.le_refl _) (.slice (some ⟨gA, 0, none⟩) 3 3)) (p := ⟨w.heap.size, 3, none⟩) (Nat.le_refl _) (.slice (some ⟨gB, 0, none⟩) 3 3)) (p := ⟨w.heap.size, 4, none⟩) (Nat.le_refl _) (.slice (some ⟨gC, 0, none⟩) 3 3)) (p := ⟨w.heap.size, 5, none⟩) (Nat.le_refl _) (.slice (some ⟨gD, 0, none⟩) 3 3)) (p := ⟨w.heap.size, 6, none⟩) (Nat.le_refl _) (.slice (some ⟨gK, 0, none⟩) 80 cK)) (p := ⟨w.heap.size, 7, none⟩) (Nat.le_refl _) (.slice (some ⟨gF, 0, none⟩) 8 cF))
          have z1 : Row3 Wf gA 28 34 39 := by rw [hWf]; exact ((((((((hR.rA.set hfar.xa 0 (.int .i64 64)).set hfar.xa 1 (.int .i64 80)).set hfar.xa 2 (.slice (some ⟨gA, 0, none⟩) 3 3)).set hfar.xa 3 (.slice (some ⟨gB, 0, none⟩) 3 3)).set hfar.xa 4 (.slice (some ⟨gC, 0, none⟩) 3 3)).set hfar.xa 5 (.slice (some ⟨gD, 0, none⟩) 3 3)).set hfar.xa 6 (.slice (some ⟨gK, 0, none⟩) 80 cK)).set hfar.xa 7 (.slice (some ⟨gF, 0, none⟩) 8 cF))
          have z2 : Row3 Wf gB 14 18 41 := by rw [hWf]; exact ((((((((hR.rB.set hfar.xb 0 (.int .i64 64)).set hfar.xb 1 (.int .i64 80)).set hfar.xb 2 (.slice (some ⟨gA, 0, none⟩) 3 3)).set hfar.xb 3 (.slice (some ⟨gB, 0, none⟩) 3 3)).set hfar.xb 4 (.slice (some ⟨gC, 0, none⟩) 3 3)).set hfar.xb 5 (.slice (some ⟨gD, 0, none⟩) 3 3)).set hfar.xb 6 (.slice (some ⟨gK, 0, none⟩) 80 cK)).set hfar.xb 7 (.slice (some ⟨gF, 0, none⟩) 8 cF))
          have z3 : Row3 Wf gC 1 8 7 := by rw [hWf]; exact ((((((((hR.rC.set hfar.xc 0 (.int .i64 64)).set hfar.xc 1 (.int .i64 80)).set hfar.xc 2 (.slice (some ⟨gA, 0, none⟩) 3 3)).set hfar.xc 3 (.slice (some ⟨gB, 0, none⟩) 3 3)).set hfar.xc 4 (.slice (some ⟨gC, 0, none⟩) 3 3)).set hfar.xc 5 (.slice (some ⟨gD, 0, none⟩) 3 3)).set hfar.xc 6 (.slice (some ⟨gK, 0, none⟩) 80 cK)).set hfar.xc 7 (.slice (some ⟨gF, 0, none⟩) 8 cF))
          have z4 : Row3 Wf gD 19 61 6 := by rw [hWf]; exact ((((((((hR.rD.set hfar.xd 0 (.int .i64 64)).set hfar.xd 1 (.int .i64 80)).set hfar.xd 2 (.slice (some ⟨gA, 0, none⟩) 3 3)).set hfar.xd 3 (.slice (some ⟨gB, 0, none⟩) 3 3)).set hfar.xd 4 (.slice (some ⟨gC, 0, none⟩) 3 3)).set hfar.xd 5 (.slice (some ⟨gD, 0, none⟩) 3 3)).set hfar.xd 6 (.slice (some ⟨gK, 0, none⟩) 80 cK)).set hfar.xd 7 (.slice (some ⟨gF, 0, none⟩) 8 cF))
          have z5 : Words Wf gK 80 KS := by rw [hWf]; exact (words_set (words_set (words_set (words_set (words_set (words_set (words_set (words_set hKw hgKW 0 (.int .i64 64)) hgKW 1 (.int .i64 80)) hgKW 2 (.slice (some ⟨gA, 0, none⟩) 3 3)) hgKW 3 (.slice (some ⟨gB, 0, none⟩) 3 3)) hgKW 4 (.slice (some ⟨gC, 0, none⟩) 3 3)) hgKW 5 (.slice (some ⟨gD, 0, none⟩) 3 3)) hgKW 6 (.slice (some ⟨gK, 0, none⟩) 80 cK)) hgKW 7 (.slice (some ⟨gF, 0, none⟩) 8 cF))
          have z6 : Words Wf gF 8 HS := by rw [hWf]; exact (words_set (words_set (words_set (words_set (words_set (words_set (words_set (words_set hFw hwF 0 (.int .i64 64)) hwF 1 (.int .i64 80)) hwF 2 (.slice (some ⟨gA, 0, none⟩) 3 3)) hwF 3 (.slice (some ⟨gB, 0, none⟩) 3 3)) hwF 4 (.slice (some ⟨gC, 0, none⟩) 3 3)) hwF 5 (.slice (some ⟨gD, 0, none⟩) 3 3)) hwF 6 (.slice (some ⟨gK, 0, none⟩) 80 cK)) hwF 7 (.slice (some ⟨gF, 0, none⟩) 8 cF))
          have hfin : Wf.heap[w.heap.size]? = some (.cells (#[.int .i64 64, .int .i64 80, .slice (some ⟨gA, 0, none⟩) 3 3, .slice (some ⟨gB, 0, none⟩) 3 3, .slice (some ⟨gC, 0, none⟩) 3 3, .slice (some ⟨gD, 0, none⟩) 3 3, .slice (some ⟨gK, 0, none⟩) 80 cK, .slice (some ⟨gF, 0, none⟩) 8 cF]) 102 (0, 0)) := by
            rw [hWf]; exact (heap_setCell_same _ _ 7 _ _ (.slice (some ⟨gF, 0, none⟩) 8 cF) (heap_setCell_same _ _ 6 _ _ (.slice (some ⟨gK, 0, none⟩) 80 cK) (heap_setCell_same _ _ 5 _ _ (.slice (some ⟨gD, 0, none⟩) 3 3) (heap_setCell_same _ _ 4 _ _ (.slice (some ⟨gC, 0, none⟩) 3 3) (heap_setCell_same _ _ 3 _ _ (.slice (some ⟨gB, 0, none⟩) 3 3) (heap_setCell_same _ _ 2 _ _ (.slice (some ⟨gA, 0, none⟩) 3 3) (heap_setCell_same _ _ 1 _ _ (.int .i64 80) (heap_setCell_same _ _ 0 _ _ (.int .i64 64) hR.res))))))))
          have y0 := row_at hfin 0 _ rfl
          have y1 := row_at hfin 1 _ rfl
          have y2 := row_at hfin 2 _ rfl
          have y3 := row_at hfin 3 _ rfl
          have y4 := row_at hfin 4 _ rfl
          have y5 := row_at hfin 5 _ rfl
          have y6 := row_at hfin 6 _ rfl
          have y7 := row_at hfin 7 _ rfl
          clear hWf bx0 bx1 bx2 bx3 bx4 bx5 bx6 bx7 rx0 rx1 rx2 rx3 rx4 rx5 rx6 rx7 fx0 fx1 fx2 fx3 fx4 fx5 fx6 fx7
          (try simp only [Exit.inBlock, Exit.then])
          refine bodyPost_ret (by simp [results, Tryz.results82, go_sem, y0, y1, y2, y3, y4, y5, y6, y7]; try rfl) rfl ?_
          exact ⟨gA, gB, gC, gD, gK, cK, gF, cF, rfl, z0, z1, z2, z3, z4, z5, z6⟩
end SR
end Go.Proofs.YtabgihjffjlfiaaGreatDoor
set_option linter.unusedVariables false
namespace Go.Proofs.YtabgihjffjlfiaaGreatDoor
namespace SR
open Go.RowKit Go.Sort Go.BigFrame
set_option maxRecDepth 100000
set_option maxHeartbeats 2000000
theorem KS_b : ∀ j, KS.getD j 0 < 18446744073709551616 := KS_lt
theorem HS_b : ∀ j, HS.getD j 0 < 18446744073709551616 := HS_lt
theorem digQ64_dig (bs : List Nat) (hL : bs.length ≤ 100000000000000) : digQ64 KS HS bs = dig sh64 HS KS bs := by
  have h8 : 8 * bs.length < 256 ^ 8 := by have : (256 : Nat) ^ 8 = 18446744073709551616 := by decide
                                          omega
  rw [← digR_dig sh64 HS KS bs (by decide) h8]
  unfold digQ64 digR
  rw [blksR_blks sh64 KS KS HS _ (fun t ht => by simp [sh64])]
  rfl
theorem rsum512 (ad : Option Addr) (L cap : Nat) (bs : List Nat) (w : World) (hlen : bs.length = L) (hb256 : ∀ j, bs.getD j 0 < 256) (hL : L ≤ 100000000000000) (hv : View w ad bs) :
    Calls Tryz.prog 46 #[.slice ad L cap] w fun e w' => ∃ v, e = .returned v ∧ ∃ base, w.heap.size ≤ base ∧ Below w.heap.size w w' ∧ w'.ownsRow base 5 1 v 64 (Hbv (dig sh64 HS KS bs)) := by
  have hq := digQ64_dig bs (by omega)
  have HLEN : Hid (bs.length = L) := hlen
  clear hlen
  go_enter Tryz.func46, Tryz.ntmps46
  go_wp2_with fail
  refine (of64 _).mono ?_
  rintro e w1 ⟨gA, gB, gC, gD, gK, cK, gF, cF, rfl, hb1, rA, rB, rC, rD, hK, hF⟩
  go_wp2_with fail
  have hbb := fun o => below1 w1 o
  refine (refsum64 gA 3 gB 3 gC 3 gD 3 gK cK gF cF ad L cap bs KS HS _ HLEN.out hb256 hL ((hv.below hb1).below (hbb _)) (rA.below (hbb _)) (rB.below (hbb _)) (rC.below (hbb _)) (rD.below (hbb _)) (hK.on (hbb _)) KS_b (hF.on (hbb _)) (by kernel_rfl) HS_b).mono ?_
  rintro e w2 ⟨v, rfl, base, hbs, hb2, hown⟩
  rw [hq] at hown
  have hbf : Below w.heap.size w w2 := (hb1.alloc hb1.size _).trans (hb2.mono (by have := hb1.size; simp; omega))
  go_wp2
  go_ret
  exact ⟨v, rfl, base, by have := hb1.size; simp at hbs; omega, hbf, hown⟩
end SR
end Go.Proofs.YtabgihjffjlfiaaGreatDoor
set_option linter.unusedVariables false
namespace Go.Proofs.YtabgihjffjlfiaaGreatDoor
open Go.RowKit Go.Sort Go.BigFrame EN
set_option maxRecDepth 100000
set_option maxHeartbeats 4000000
theorem rSum512 {v : Value} {l : List Nat} (w : World) (h : Bts l v w) (hd : Dig l) (hl : l.length ≤ 100000) : Ret 46 #[v] w (OwnC w.heap.size (SH l)) := by
  obtain ⟨a, cap, rfl, h1, h2, hv⟩ := h
  refine (SR.rsum512 a l.length cap l w rfl hd (by omega) hv).mono ?_
  rintro e w' ⟨v, rfl, base, hb, hB, ho⟩
  exact ⟨_, rfl, hB, OwnC.lo (own_C (SH_len l) (by omega) ho) hb⟩
end Go.Proofs.YtabgihjffjlfiaaGreatDoor
set_option linter.unusedVariables false
namespace Go.Proofs.YtabgihjffjlfiaaGreatDoor
namespace EN
open Go.RowKit Go.Sort Go.BigFrame
set_option maxRecDepth 100000
set_option maxHeartbeats 2000000
/-- A row half doubled. -/
def dblV (V b j : Nat) : Nat := (2 * (V % 256 ^ j) + b) % 256 ^ j + 256 ^ j * (V / 256 ^ j)
def dblC (V b j : Nat) : Nat := (2 * (V % 256 ^ j) + b) / 256 ^ j
theorem dbl_lo (V b j : Nat) : 2 * (V % 256 ^ (j + 1)) + b = 2 * (V % 256 ^ j) + b + 256 ^ j * (2 * (V / 256 ^ j % 256)) := by
  rw [Nat.pow_succ, Nat.mod_mul, Nat.mul_add, ← Nat.mul_assoc 2, Nat.mul_comm 2 (256 ^ j), Nat.mul_assoc]
  omega
theorem dblC_step (V b j : Nat) : dblC V b (j + 1) = (dblC V b j + 2 * (V / 256 ^ j % 256)) / 256 := by
  unfold dblC
  rw [dbl_lo, Nat.pow_succ, div_step _ _ _ (pos256 j)]
theorem dblV_get {V b j : Nat} (hj : j < 33) : (digs 33 (dblV V b j)).getD j 0 = V / 256 ^ j % 256 := by
  rw [digs_get 33 _ j hj, dblV, Nat.add_mul_div_left _ _ (pos256 j), Nat.div_eq_of_lt (Nat.mod_lt _ (pos256 j)), Nat.zero_add]
theorem dblV_step {V b j : Nat} (hj : j < 33) (hV : V < 256 ^ 32) : (digs 33 (dblV V b j)).set j ((dblC V b j + 2 * (V / 256 ^ j % 256)) % 256) = digs 33 (dblV V b (j + 1)) := by
  have hq := pos256 j
  have hle : 256 ^ j ≤ 256 ^ 32 := Nat.pow_le_pow_right (by decide) (by omega)
  have hlo : (2 * (V % 256 ^ j) + b) % 256 ^ j < 256 ^ j := Nat.mod_lt _ hq
  have hdm := Nat.div_add_mod V (256 ^ j)
  have h1 : dblV V b j < 256 ^ 33 := by
    unfold dblV
    have : (256 : Nat) ^ 33 = 256 * 256 ^ 32 := by decide
    omega
  have hst := mod_step (2 * (V % 256 ^ j) + b) (256 ^ j) (2 * (V / 256 ^ j % 256))
  have hv2 : dblV V b (j + 1) = (2 * (V % 256 ^ j) + b) % 256 ^ j + 256 ^ j * ((dblC V b j + 2 * (V / 256 ^ j % 256)) % 256) + 256 ^ j * (256 * (V / 256 ^ j / 256)) := by
    unfold dblV
    rw [dbl_lo, Nat.pow_succ, hst, Nat.mul_assoc, Nat.div_div_eq_div_mul]
    rfl
  have hs := valD_set (digs 33 (dblV V b j)) j ((dblC V b j + 2 * (V / 256 ^ j % 256)) % 256) (by rw [digs_len]; omega)
  rw [dblV_get hj, valD_digs_lt h1] at hs
  have hmm : 256 ^ j * (V / 256 ^ j) = 256 ^ j * (V / 256 ^ j % 256) + 256 ^ j * (256 * (V / 256 ^ j / 256)) := by
    rw [← Nat.mul_add, Nat.mod_add_div]
  refine digs_of ((digs_dig _ _).set (Nat.mod_lt _ (by decide))) (by rw [List.length_set, digs_len]) ?_
  unfold dblV at hs h1
  rw [hv2]
  unfold dblV
  omega
theorem dblV_zero (V b : Nat) : dblV V b 0 = V := by simp [dblV, Nat.mod_one]
theorem dblC_zero (V b : Nat) : dblC V b 0 = b := by simp [dblC, Nat.mod_one]
theorem dblV_end {V b : Nat} (hV : V < 256 ^ 32) (hb : b < 2) : dblV V b 33 = 2 * V + b := by
  have h3 : (256 : Nat) ^ 33 = 256 * 256 ^ 32 := by decide
  have h1 : V < 256 ^ 33 := by omega
  unfold dblV
  rw [Nat.mod_eq_of_lt h1, Nat.div_eq_of_lt h1, Nat.mul_zero, Nat.add_zero, Nat.mod_eq_of_lt (by omega)]
theorem dblC_le {V b : Nat} (j : Nat) (hb : b < 2) : dblC V b j ≤ 1 := by
  have hq := pos256 j
  have := Nat.mod_lt V hq
  have h2 : 2 * (V % 256 ^ j) + b < 2 * 256 ^ j := by omega
  have := (Nat.div_lt_iff_lt_mul hq).2 h2
  unfold dblC
  omega
/-- The number of the bits that have been taken. -/
def modA (D u k : Nat) : Nat := D * 2 ^ k + u / 2 ^ (8 - k)
theorem modA_step {D u k : Nat} (hk : k < 8) : modA D u (k + 1) = 2 * modA D u k + u / 2 ^ (7 - k) % 2 := by
  unfold modA
  have e1 : 2 ^ (8 - k) = 2 ^ (7 - k) * 2 := by rw [← Nat.pow_succ]; congr 1; omega
  have e2 : 8 - (k + 1) = 7 - k := by omega
  have h := Nat.div_add_mod (u / 2 ^ (7 - k)) 2
  rw [e1, e2, ← Nat.div_div_eq_div_mul, Nat.pow_succ, ← Nat.mul_assoc, Nat.mul_add]
  omega
theorem modA_mod {D u k M : Nat} (hk : k < 8) : (2 * (modA D u k % M) + u / 2 ^ (7 - k) % 2) % M = modA D u (k + 1) % M := by
  rw [modA_step hk, Nat.add_mod, Nat.mul_mod, Nat.mod_mod, ← Nat.mul_mod, ← Nat.add_mod]
def bitOf (k : Nat) : Nat := if k = 8 then 1 else 2 ^ (7 - k)
theorem bit_next {k : Nat} (h : k < 8) : (k = 7 ∧ bitOf k / 2 = 0 ∧ bitOf (k + 1) = 1) ∨ (k ≠ 7 ∧ bitOf k / 2 = bitOf (k + 1) ∧ 0 < bitOf (k + 1)) := by
  by_cases h7 : k = 7
  · subst h7; exact .inl ⟨rfl, by decide, by decide⟩
  · refine .inr ⟨h7, ?_, ?_⟩
    · unfold bitOf
      rw [if_neg (by omega), if_neg (by omega), show 7 - k = (7 - (k + 1)) + 1 by omega, Nat.pow_succ, Nat.mul_div_cancel _ (by decide)]
    · unfold bitOf
      rw [if_neg (by omega)]
      exact Nat.pow_pos (by decide)
theorem mod23 (a : Option Addr) (la ca : Nat) (x : List Nat) (b : Option Addr) (lb cb : Nat) (y : List Nat) (M : Nat) (w : World) (hx : Hid (x.length = la)) (hy : Hid (y.length = lb)) (hla : la ≤ 10000) (hlb : lb ≤ 33)
    (ha : IView w a x) (hb : IView w b y) (dx : Dig x) (dy : Dig y) (hM : Hid (valD y = M)) (hM0 : 0 < M) (hM1 : Hid (M < 256 ^ 32)) :
    Calls Tryz.prog 57 #[.slice a la ca, .slice b lb cb] w fun e w' => ∃ g, e = .returned (.slice (some ⟨g, 0, none⟩) 32 33) ∧ RelR w w' g (digs 33 (valD x % M)) := by
  have hmk := make31 33 (by omega)
  simp only [Int.cast_ofNat_Int] at hmk
  have hR0 : RelR w (w.alloc (.cells (ints .i64 (digs 33 0)) 3)) w.heap.size (digs 33 (valD (x.drop la) % M)) := by
    rw [List.drop_of_length_le (by rw [hx.out]; exact Nat.le_refl _)]
    exact ⟨below1 _ _, Nat.le_refl _, by rw [show valD [] % M = 0 from Nat.zero_mod _]; exact alloc_row _ _ _⟩
  go_enter Tryz.func57, Tryz.ntmps57
  go_wp2_with fail
  go_loopw [5, 6] (fun v i wr => ∃ j g : Nat, j ≤ la ∧ i = .int .i64 ((j : Int) - 1) ∧ v = .slice (some ⟨g, 0, none⟩) 33 33 ∧ RelR w wr g (digs 33 (valD (x.drop j) % M))) (fun _ i _ => (intOf i + 1).toNat)
  case atStart => exact ⟨la, _, Nat.le_refl _, by go_num, rfl, hR0⟩
  case round =>
    obtain ⟨j, g, hj, rfl, rfl, hR⟩ := hrel
    clear hR0 hmk
    by_cases hj0 : j = 0
    · subst hj0
      rw [List.drop_zero] at hR
      go_wp2
      go_ret
      exact ⟨g, rfl, hR⟩
    · obtain ⟨i, rfl⟩ : ∃ i, j = i + 1 := ⟨j - 1, by omega⟩
      have eI : (((i + 1 : Nat) : Int) - 1) = (i : Int) := by omega
      rw [eI]
      clear eI hj0
      obtain ⟨D, hD⟩ : ∃ D, D = valD (x.drop (i + 1)) := ⟨_, rfl⟩
      obtain ⟨u, hu⟩ : ∃ u, u = x.getD i 0 := ⟨_, rfl⟩
      have hul : u < 256 := by rw [hu]; exact dx i
      have HE : Hid (modA D u 8 % M = valD (x.drop i) % M) := by
        show _ = _
        rw [drop_val x i, ← hD, ← hu]
        simp [modA]
        congr 1; omega
      have hA0 : modA D u 0 % M = D % M := by simp [modA]; rw [Nat.div_eq_of_lt hul]; simp
      rw [← hD, ← hA0] at hR
      clear hA0
      obtain ⟨g1, o1, rfl, hc1⟩ := ha (by rw [hx.out]; omega)
      have k1 := hc1 i (by rw [hx.out]; omega)
      rw [← hu] at k1
      have hg1 := block_lt_of_cell k1
      clear hu hD hc1
      go_wp2_with fail
      go_loopw [5, 7, 8] (fun v d kk wr => ∃ k g : Nat, k ≤ 8 ∧ kk = .int .i64 (k : Int) ∧ d = .int .i64 ((bitOf k : Nat) : Int) ∧ v = .slice (some ⟨g, 0, none⟩) 33 33 ∧ RelR w wr g (digs 33 (modA D u k % M))) (fun _ _ kk _ => 8 - (intOf kk).toNat)
      case atStart => exact ⟨0, g, by omega, rfl, rfl, rfl, hR⟩
      case round =>
        obtain ⟨k, g, hk, rfl, rfl, rfl, hR⟩ := hrel
        by_cases hk8 : k < 8
        · have k2 := (hR.1.cell (p := ⟨g1, o1 + i, none⟩) hg1).trans k1
          obtain ⟨bt, hbt⟩ : ∃ t, t = u / 2 ^ (7 - k) % 2 := ⟨_, rfl⟩
          have hbo : bitOf k = 2 ^ (7 - k) := by unfold bitOf; rw [if_neg (by omega)]
          have hbp : 0 < bitOf k := by rw [hbo]; exact Nat.pow_pos (by decide)
          have hb2 : bt < 2 := by rw [hbt]; omega
          obtain ⟨q, hqe⟩ : ∃ q, q = u / bitOf k := ⟨_, rfl⟩
          have hqi : (u : Int) / ((bitOf k : Nat) : Int) = (q : Int) := by rw [hqe]; simp
          have hql : q ≤ 255 := by rw [hqe]; exact Nat.le_trans (Nat.div_le_self _ _) (by omega)
          have hbi : (q : Int) % 2 = (bt : Int) := by rw [hbt, hqe, ← hbo]; simp
          clear hqe
          have hbk : bitOf k ≤ 128 := by rw [hbo]; exact Nat.le_trans (Nat.pow_le_pow_right (by decide) (by omega : 7 - k ≤ 7)) (by decide)
          have hV : modA D u k % M < 256 ^ 32 := Nat.lt_trans (Nat.mod_lt _ hM0) hM1.out
          have hVM : modA D u k % M < M := Nat.mod_lt _ hM0
          have HS : Hid ((2 * (modA D u k % M) + bt) % M = modA D u (k + 1) % M) := by show _ = _; rw [hbt]; exact modA_mod hk8
          have hbn := bit_next hk8
          obtain ⟨V, hVe⟩ : ∃ V, V = modA D u k % M := ⟨_, rfl⟩
          rw [← hVe] at hR hV hVM HS
          obtain ⟨B, hBe⟩ : ∃ B, B = bitOf k := ⟨_, rfl⟩
          obtain ⟨B2, hB2e⟩ : ∃ B, B = bitOf (k + 1) := ⟨_, rfl⟩
          have HB2 : Hid (B2 = bitOf (k + 1)) := hB2e
          rw [← hBe] at hbn hqi hbp hbk ⊢
          rw [← hB2e] at hbn
          have hR0 : Hid (RelR w wr g (digs 33 (dblV V bt 0))) := by show RelR _ _ _ _; rw [dblV_zero]; exact hR
          have HV : Hid (V < 256 ^ 32) := hV
          have HVM : Hid (V < M) := hVM
          clear hVe hBe hB2e hbt hbo hV hVM hR
          rcases hbn with ⟨h7, hz, rfl⟩ | ⟨h7, hz, hbp2⟩
          all_goals
            have hdv : (B : Int) / 2 = ((B / 2 : Nat) : Int) := by omega
            rw [hz] at hdv
            clear hz h7
            go_wp2_with fail
            go_loopw [10, 11] (fun c i wr => ∃ j : Nat, j ≤ 33 ∧ i = .int .i64 j ∧ c = .int .i64 ((dblC V bt j : Nat) : Int) ∧ RelR w wr g (digs 33 (dblV V bt j))) (fun _ i _ => 33 - (intOf i).toNat)
            case atStart => exact ⟨0, by omega, rfl, by rw [dblC_zero, ← hbi], hR0.out⟩
            case round =>
              obtain ⟨j, hj33, rfl, rfl, hRj⟩ := hrel
              clear hR0 k2 hqi hbi hdv
              by_cases hlt : j < 33
              · have c1 := hRj.at j (by rw [digs_len]; omega)
                have f1 := hRj.free j
                rw [dblV_get hlt] at c1
                have hcl := dblC_le (V := V) j hb2
                have HC : Hid (dblC V bt (j + 1) = (dblC V bt j + 2 * (V / 256 ^ j % 256)) / 256) := dblC_step V bt j
                have hstp := dblV_step (b := bt) hlt HV.out
                have hdl : V / 256 ^ j % 256 < 256 := Nat.mod_lt _ (by decide)
                obtain ⟨d, hde⟩ : ∃ d, d = V / 256 ^ j % 256 := ⟨_, rfl⟩
                obtain ⟨c, hce⟩ : ∃ c, c = dblC V bt j := ⟨_, rfl⟩
                rw [← hde] at c1 hdl HC hstp
                rw [← hce] at hcl HC hstp ⊢
                have HN : Hid (RelR w (wr.setCell ⟨g, j, none⟩ (.int .i64 (((c + 2 * d) % 256 : Nat) : Int))) g (digs 33 (dblV V bt (j + 1)))) := by
                  show RelR _ _ _ _
                  rw [← hstp]; exact hRj.set j _
                have ev : (2 * (d : Int) + (c : Int)) = ((c + 2 * d : Nat) : Int) := by omega
                have HEV : Hid (((c + 2 * d) % 256 : Nat) = (2 * d + c) % 256) := by show _ = _; rw [Nat.add_comm]
                have HEC : Hid (((c + 2 * d) / 256 : Nat) = (2 * d + c) / 256) := by show _ = _; rw [Nat.add_comm]
                rw [HEV.out] at HN
                rw [HEC.out] at HC
                clear hstp hde hce hRj ev
                go_wp2
                go_roundw
                case rel => exact ⟨j + 1, by omega, by go_num, by rw [HC.out]; simp, by simpa using HN.out⟩
                case measure => simp [intOf]; omega
              · obtain rfl : j = 33 := by omega
                rw [dblV_end HV.out hb2] at hRj
                obtain ⟨V2, hV2⟩ : ∃ V2, V2 = 2 * V + bt := ⟨_, rfl⟩
                rw [← hV2] at hRj HS
                have hM32 : (256 : Nat) ^ 33 = 256 * 256 ^ 32 := by decide
                have hV2l : V2 < 256 ^ 33 := by have := HV.out; omega
                have hV2M : V2 < 2 * M := by have := HVM.out; omega
                have hiv : IView wr (some ⟨g, 0, none⟩) (digs 33 V2) := fun _ => ⟨g, 0, rfl, ints_row hRj.2.2⟩
                have hby : IView wr b y := hb.below hRj.1
                have hval : valD (digs 33 V2) = V2 := valD_digs_lt hV2l
                have cL := less10 (some ⟨g, 0, none⟩) 33 33 (digs 33 V2) b lb cb y wr (digs_len _ _) hy (by omega) (by omega) hiv hby (digs_dig _ _) dy
                rw [hval, hM.out] at cL
                have cM := fun (h : M ≤ V2) => minus40 (some ⟨g, 0, none⟩) 33 33 (digs 33 V2) b lb cb y wr (digs_len _ _) hy (by omega) (by omega) hiv hby (digs_dig _ _) dy (by omega) (by show _ ≤ _; rw [hval, hM.out]; exact h)
                rw [hval, hM.out] at cM
                clear hV2 hM32 hiv hby hval
                have HBN : Hid (∀ B', B' = bitOf (k + 1) → Value.int .i64 (B' : Int) = .int .i64 ((bitOf (k + 1) : Nat) : Int)) := fun B' h => by rw [h]
                by_cases hlt2 : V2 < M
                · have HRR : Hid (RelR w wr g (digs 33 (modA D u (k + 1) % M))) := by
                    show RelR _ _ _ _
                    rw [← HS.out, Nat.mod_eq_of_lt hlt2]; exact hRj
                  rw [decide_eq_true hlt2] at cL
                  clear hlt2 hV2l hV2M cM hRj
                  go_wp2_with fail
                  refine cL.mono ?_
                  rintro e w5 ⟨rfl, rfl⟩
                  go_wp2
                  go_roundw
                  case rel => exact ⟨k + 1, g, by omega, by go_num, by rw [← HB2.out]; try rfl, rfl, HRR.out⟩
                  case measure => simp [intOf]; omega
                · have cM := cM (by omega)
                  rw [decide_eq_false hlt2] at cL
                  have HV2 : Hid (V2 - M = modA D u (k + 1) % M) := by
                    show _ = _
                    rw [← HS.out, Nat.mod_eq_sub_mod (by omega), Nat.mod_eq_of_lt (by omega)]
                  rw [HV2.out] at cM
                  clear hlt2 hV2l hV2M
                  go_wp2_with fail
                  refine cL.mono ?_
                  rintro e w5 ⟨rfl, rfl⟩
                  go_wp2_with fail
                  refine cM.mono ?_
                  rintro e w6 ⟨g6, rfl, hR6⟩
                  have HRR : Hid (RelR w w6 g6 (digs 33 (modA D u (k + 1) % M))) := ⟨hRj.1.trans (hR6.1.mono hRj.1.size), Nat.le_trans hRj.1.size hR6.2.1, hR6.2.2⟩
                  clear hR6 hRj cL cM
                  go_wp2
                  go_roundw
                  case rel => exact ⟨k + 1, g6, by omega, by go_num, by rw [← HB2.out]; try rfl, rfl, HRR.out⟩
                  case measure => simp [intOf]; omega
        · obtain rfl : k = 8 := by omega
          rw [HE.out] at hR
          go_wp2
          go_roundw
          case rel => exact ⟨i, g, by omega, by go_num, rfl, hR⟩
          case measure => simp [intOf]
end EN
end Go.Proofs.YtabgihjffjlfiaaGreatDoor
set_option linter.unusedVariables false
namespace Go.Proofs.YtabgihjffjlfiaaGreatDoor
namespace EN
open Go.RowKit Go.Sort Go.BigFrame
set_option maxRecDepth 100000
set_option maxHeartbeats 2000000
def sb : List Nat := [50, 55, 55, 52, 50, 51, 49, 55, 55, 55, 55, 51, 55, 50, 51, 53, 51, 53, 51, 53, 56, 53, 49, 57, 51, 55, 55, 57, 48, 56, 56, 51, 54, 52, 56, 52, 57, 51]
def sv : Nat → Nat
  | 0 => 0
  | k + 1 => sv k * 10 + (sb.getD k 0 - 48)
theorem sv_lt : ∀ k, k ≤ 38 → sv k < 256 ^ 16 := by decide
theorem sb_digit : ∀ k, k < 38 → 48 ≤ sb.getD k 0 ∧ sb.getD k 0 ≤ 57 := by decide
def RelS (w wr : World) (v : Value) (k : Nat) : Prop :=
  ∃ g n cap, v = .slice (some ⟨g, 0, none⟩) n cap ∧ n ≤ cap ∧ cap ≤ 100 ∧ 1 ≤ n ∧ (n = 1 ∨ 256 ^ (n - 1) ≤ sv k) ∧ sv k < 256 ^ n ∧ Below w.heap.size w wr ∧ w.heap.size ≤ g ∧ IntsAt wr g 0 (digs n (sv k))
theorem relS_len {n k : Nat} (hk : k ≤ 38) (h : n = 1 ∨ 256 ^ (n - 1) ≤ sv k) : n ≤ 16 := by
  rcases h with h | h
  · omega
  · have h1 := sv_lt k hk
    have h2 : (256 : Nat) ^ (n - 1) < 256 ^ 16 := Nat.lt_of_le_of_lt h h1
    have := (Nat.pow_lt_pow_iff_right (by decide : 1 < 256)).1 h2
    omega
def decS : ByteArray := ⟨#[50, 55, 55, 52, 50, 51, 49, 55, 55, 55, 55, 51, 55, 50, 51, 53, 51, 53, 51, 53, 56, 53, 49, 57, 51, 55, 55, 57, 48, 56, 56, 51, 54, 52, 56, 52, 57, 51]⟩
def lenOf : Value → Nat
  | .slice _ n _ => n
  | _ => 0
theorem run_indexO {P : Program} {ρ : Operand → Value} {t : TypeId} {x y : Operand} {w : World} {v : Value} {o : Oper} (hr : (Instr.index t (ρ x) (ρ y)).run P w = .ok v w) (ho : o.op = .index t x y) : (execOp ρ o).run P w = .ok (.value v) w := by
  unfold execOp
  rw [ho]
  simp only [Sem.run_bind, hr, Result.andThen_ok, Sem.run_pure]
theorem dec_get : ∀ k, k < 38 → (decS[k]!).toNat = sb.getD k 0 := by decide
theorem dec_index (k : Nat) (hk : k < 38) (w : World) : (Instr.index 9 (.string decS) (.int .i64 (k : Int))).run Tryz.prog w = .ok (.int .u8 ((sb.getD k 0 : Nat) : Int)) w := by
  rw [run_index_string w 9 decS .i64 (k : Int) Tryz.underlying9]
  have h := dec_get k hk
  have hs : decS.size = 38 := rfl
  have hk2 : k < decS.size := by rw [hs]; exact hk
  rw [getElem!_pos decS k hk2] at h
  rw [dif_pos ⟨by omega, by rw [hs]; omega⟩]
  have e : ((k : Int).toNat) = k := by omega
  simp only [e, h]
theorem dig10 : Dig [10] := by
  intro j
  match j with
  | 0 => decide
  | j + 1 => simp
theorem dig1 {d : Nat} (h : d ≤ 9) : Dig [d] := by
  intro j
  match j with
  | 0 => simp; omega
  | j + 1 => simp
theorem val10 : valD [10] = 10 := rfl
theorem val1 {d : Nat} : valD [d] = d := by simp [valD]
theorem run_bin_sub (d : Nat) (hd : d ≤ 9) {ρ : Operand → Value} {x y : Operand} {w : World} {o : Oper} (ho : o.op = .binOp .sub 5 x y 5) (hx : ρ x = .int .u8 ((d + 48 : Nat) : Int)) (hy : ρ y = .int .u8 48) : (execOp ρ o).run Tryz.prog w = .ok (.value (.int .u8 (d : Int))) w := by
  simp only [execOp, ho, hx, hy]
  simp [go_sem, IntKind.wrap, IntKind.bits, IntKind.signed]
  omega
theorem run_conv_int (d : Nat) (hd : d ≤ 9) {ρ : Operand → Value} {x : Operand} {w : World} {o : Oper} (ho : o.op = .convert 5 3 x) (hx : ρ x = .int .u8 (d : Int)) : (execOp ρ o).run Tryz.prog w = .ok (.value (.int .i64 (d : Int))) w := by
  simp only [execOp, ho, hx]
  simp [go_sem, Tryz.underlying5, Tryz.underlying3, IntKind.wrap, IntKind.bits, IntKind.signed]
  omega
theorem top_nonzero {V m : Nat} (hm : 1 ≤ m) (h : (digs m V).getD (m - 1) 0 ≠ 0) : 256 ^ (m - 1) ≤ V := by
  rw [digs_get _ _ _ (by omega)] at h
  by_cases hlt : V < 256 ^ (m - 1)
  · rw [Nat.div_eq_of_lt hlt] at h; simp at h
  · omega
theorem top_zero {V m : Nat} (hm : 1 ≤ m) (hV : V < 256 ^ m) (h : (digs m V).getD (m - 1) 0 = 0) : V < 256 ^ (m - 1) := by
  rw [digs_get _ _ _ (by omega)] at h
  have h1 : V / 256 ^ (m - 1) < 256 := by
    rw [Nat.div_lt_iff_lt_mul (pos256 _)]
    have e : 256 * 256 ^ (m - 1) = 256 ^ m := by rw [Nat.mul_comm, ← Nat.pow_succ]; congr 1; omega
    omega
  rw [Nat.mod_eq_of_lt h1] at h
  rcases (Nat.div_eq_zero_iff).1 h with h | h
  · have := pos256 (m - 1); omega
  · exact h
theorem small29 (w : World) :
    Calls Tryz.prog 87 #[] w fun e w' => ∃ v, e = .returned v ∧ RelS w w' v 38 := by
  go_enter Tryz.func87, Tryz.ntmps87
  go_wp2_with fail
  have h0 : RelS w (w.alloc (.cells #[.int .i64 0] 3)) (.slice (some ⟨w.heap.size, 0, none⟩) 1 1) 0 := by
    refine ⟨w.heap.size, 1, 1, rfl, by omega, by omega, by omega, .inl rfl, by decide, below1 _ _, Nat.le_refl _, ?_⟩
    exact ints_row (alloc_row w [0] 3)
  go_loopw [2, 3] (fun v i wr => ∃ k : Nat, k ≤ 38 ∧ i = .int .i64 k ∧ RelS w wr v k) (fun _ i _ => 38 - (intOf i).toNat)
  case atStart => exact ⟨0, by omega, rfl, h0⟩
  case round =>
    obtain ⟨k, hk, rfl, hS⟩ := hrel
    clear h0
    by_cases hlt : k < 38
    · obtain ⟨g, n, cap, rfl, hnc, hcap, hn1, hmin, hvl, hB, hgw, hrow⟩ := hS
      have hn16 := relS_len hk hmin
      obtain ⟨d, hde⟩ : ∃ d, sb.getD k 0 = d + 48 := ⟨sb.getD k 0 - 48, by have := sb_digit k hlt; omega⟩
      have hd9 : d ≤ 9 := by have := sb_digit k hlt; omega
      have hidx := dec_index k hlt
      rw [hde] at hidx
      have HSV : Hid (sv (k + 1) = sv k * 10 + d) := by show _ = _; rw [sv, hde]; congr 1
      obtain ⟨V, hV⟩ : ∃ V, V = sv k := ⟨_, rfl⟩
      rw [← hV] at hvl hrow HSV
      have HVL : Hid (V < 256 ^ n) := hvl
      have HVT : Hid (V * 10 < 256 ^ (n + 1 + 1)) := by show _ < _; rw [Nat.pow_succ, Nat.pow_succ]; omega
      have HV3 : Hid (sv (k + 1) < 256 ^ (n + 3)) := by
        show _ < _
        rw [HSV.out, show n + 3 = n + 1 + 1 + 1 from rfl, Nat.pow_succ, Nat.pow_succ, Nat.pow_succ]
        have := pos256 n
        omega
      clear hmin hvl hV hde hnc
      go_wp2_with fail
      go_cut [2] from 5 to 37 (fun v wx => ∃ g', v = .slice (some ⟨g', 0, none⟩) (n + 3) (n + 3) ∧ Below wr.heap.size wr wx ∧ wr.heap.size ≤ g' ∧ IntsAt wx g' 0 (digs (n + 3) (sv (k + 1))))
      case first =>
        have hS0 : Below wr.heap.size wr wr.drew := (Below.refl _ _).drew
        refine wp_region_held (S := fun w' => Below wr.heap.size wr w') (by kernel_rfl) ?_
        show wpAnyH _ _ _ _ _ 11 (Array.replicate 11 false) _ wr.drew
        refine take_at (i := 0) (some 11) _ rfl rfl (by kernel_rfl) (by kernel_rfl) (by kernel_rfl) (fun _ _ _ h => h) (yields_run (v := .slice (some ⟨g, 0, none⟩) n cap) rfl fun w' hw' => BigFrame.run_move (.tmp 2) rfl w') hS0 ?_
        simp only [Act.put, List.setIfInBounds_toArray, List.set_cons_succ, List.set_cons_zero]
        refine take_at (i := 3) (some 14) _ rfl rfl (by kernel_rfl) (by kernel_rfl) (by kernel_rfl) (fun _ _ _ h => h) (yields_run (v := .string decS) rfl fun w' hw' => BigFrame.run_move (.tmp 1) rfl w') hS0 ?_
        simp only [Act.put, List.setIfInBounds_toArray, List.set_cons_succ, List.set_cons_zero]
        refine take_at (i := 4) (some 15) _ rfl rfl (by kernel_rfl) (by kernel_rfl) (by kernel_rfl) (fun _ _ _ h => h) (yields_run (v := .int .i64 (k : Int)) rfl fun w' hw' => BigFrame.run_move (.tmp 3) rfl w') hS0 ?_
        simp only [Act.put, List.setIfInBounds_toArray, List.set_cons_succ, List.set_cons_zero]
        refine take_at (i := 5) (some 16) _ rfl rfl (by kernel_rfl) (by kernel_rfl) (by kernel_rfl) (fun _ _ _ h => h) (yields_run (v := .int .u8 ((d + 48 : Nat) : Int)) rfl fun w' hw' => run_indexO (hidx w') rfl) hS0 ?_
        simp only [Act.put, List.setIfInBounds_toArray, List.set_cons_succ, List.set_cons_zero]
        refine take_at (i := 6) (some 17) _ rfl rfl (by kernel_rfl) (by kernel_rfl) (by kernel_rfl) (fun _ _ _ h => h) (yields_run (v := .int .u8 (d : Int)) rfl fun w' hw' => run_bin_sub d hd9 rfl rfl rfl) hS0 ?_
        simp only [Act.put, List.setIfInBounds_toArray, List.set_cons_succ, List.set_cons_zero]
        refine take_at (i := 7) (some 18) _ rfl rfl (by kernel_rfl) (by kernel_rfl) (by kernel_rfl) (fun _ _ _ h => h) (yields_run (v := .int .i64 (d : Int)) rfl fun w' hw' => run_conv_int d hd9 rfl rfl) hS0 ?_
        simp only [Act.put, List.setIfInBounds_toArray, List.set_cons_succ, List.set_cons_zero]
        refine two_at (i := 1) (j := 8) (by kernel_rfl) ?_ ?_
        · refine new_at (some 12) (.slice (some ⟨wr.drew.heap.size, 0, none⟩) 1 1) (.cells (ints .i64 [10]) 3) rfl rfl rfl (by first | kernel_rfl | rfl) ?_
          have hS1 : Below wr.heap.size wr (wr.drew.alloc (.cells (ints .i64 [10]) 3)) := hS0.alloc hS0.size _
          refine ⟨hS1, ?_⟩
          simp only [Act.put, List.setIfInBounds_toArray, List.set_cons_succ, List.set_cons_zero]
          have h10 : (wr.drew.alloc (.cells (ints .i64 [10]) 3)).heap[wr.drew.heap.size]? = some (.cells (ints .i64 [10]) 3 (0, 0)) := alloc_row _ _ _
          generalize hw1 : (wr.drew.alloc (.cells (ints .i64 [10]) 3)) = w1 at hS1 h10 ⊢
          obtain ⟨g10, hgg10⟩ : ∃ z, z = wr.drew.heap.size := ⟨_, rfl⟩
          rw [← hgg10] at h10 ⊢
          clear hgg10 hw1 hS0
          refine two_at (i := 2) (j := 8) (by kernel_rfl) ?_ ?_
          · have cT := times44 (some ⟨g, 0, none⟩) n cap (digs n V) (some ⟨g10, 0, none⟩) 1 1 [10] w1 (digs_len _ _) rfl (by omega) (by omega) (IView.below (fun _ => ⟨g, 0, rfl, hrow⟩) hS1) (fun _ => ⟨g10, 0, rfl, ints_row h10⟩) (digs_dig _ _) dig10
            rw [valD_digs_lt HVL.out, val10] at cT
            refine call_at (some 13) rfl rfl rfl 55 #[.slice (some ⟨g, 0, none⟩) n cap, .slice (some ⟨g10, 0, none⟩) 1 1] (R := fun v w' => ∃ g, v = .slice (some ⟨g, 0, none⟩) (n + 1 + 1) (n + 1 + 1) ∧ RelR w1 w' g (digs (n + 1 + 1) (V * 10))) (by kernel_rfl) (cT.mono fun e w' ⟨g, h1, h2⟩ => ⟨_, h1, g, rfl, h2⟩) ?_
            rintro v2 w2 ⟨gT, rfl, hRT⟩
            have hS2 : Below wr.heap.size wr w2 := hS1.trans (hRT.1.mono hS1.size)
            have hT := hRT.2.2
            refine ⟨hS2, ?_⟩
            simp only [Act.put, List.setIfInBounds_toArray, List.set_cons_succ, List.set_cons_zero]
            have h10' := block_below hRT.1 (lt_of_heap h10) h10
            clear h10
            have h10 := h10'
            clear h10'
            clear cT hRT hS1
            refine one_at (i := 8) (by kernel_rfl) ?_
            refine new_at (some 19) (.slice (some ⟨w2.heap.size, 0, none⟩) 1 1) (.cells (ints .i64 [d]) 3) rfl rfl rfl (by first | kernel_rfl | rfl) ?_
            have hS3 : Below wr.heap.size wr (w2.alloc (.cells (ints .i64 [d]) 3)) := hS2.alloc hS2.size _
            refine ⟨hS3, ?_⟩
            simp only [Act.put, List.setIfInBounds_toArray, List.set_cons_succ, List.set_cons_zero]
            have hd1 : (w2.alloc (.cells (ints .i64 [d]) 3)).heap[w2.heap.size]? = some (.cells (ints .i64 [d]) 3 (0, 0)) := alloc_row _ _ _
            have h10' := block_below (below1 w2 (.cells (ints .i64 [d]) 3)) (lt_of_heap h10) h10
            clear h10
            have h10 := h10'
            clear h10'
            have hT' := block_below (below1 w2 (.cells (ints .i64 [d]) 3)) (lt_of_heap hT) hT
            clear hT
            have hT := hT'
            clear hT'
            generalize hw3 : (w2.alloc (.cells (ints .i64 [d]) 3)) = w3 at hS3 hd1 h10 hT ⊢
            obtain ⟨gd, hggd⟩ : ∃ z, z = w2.heap.size := ⟨_, rfl⟩
            rw [← hggd] at hd1 ⊢
            clear hggd hw3 hS2
            refine one_at (i := 9) (by kernel_rfl) ?_
            have cP := plus32 (some ⟨gT, 0, none⟩) (n + 1 + 1) (n + 1 + 1) (digs (n + 1 + 1) (V * 10)) (some ⟨gd, 0, none⟩) 1 1 [d] w3 (digs_len _ _) rfl (by omega) (by omega) (fun _ => ⟨gT, 0, rfl, ints_row hT⟩) (fun _ => ⟨gd, 0, rfl, ints_row hd1⟩) (digs_dig _ _) (dig1 hd9)
            rw [valD_digs_lt HVT.out, val1, show max (n + 1 + 1) 1 + 1 = n + 3 by omega, ← HSV.out] at cP
            refine call_at (some 20) rfl rfl rfl 54 #[.slice (some ⟨gT, 0, none⟩) (n + 1 + 1) (n + 1 + 1), .slice (some ⟨gd, 0, none⟩) 1 1] (R := fun v w' => ∃ g, v = .slice (some ⟨g, 0, none⟩) (n + 3) (n + 3) ∧ RelR w3 w' g (digs (n + 3) (sv (k + 1)))) (by kernel_rfl) (cP.mono fun e w' ⟨g, h1, h2⟩ => ⟨_, h1, g, rfl, h2⟩) ?_
            rintro v8 w8 ⟨g8, rfl, hR8⟩
            have hS8 : Below wr.heap.size wr w8 := hS3.trans (hR8.1.mono hS3.size)
            refine ⟨hS8, ?_⟩
            simp only [Act.put, List.setIfInBounds_toArray, List.set_cons_succ, List.set_cons_zero]
            refine one_at (i := 10) (by kernel_rfl) ?_
            refine run_at (some 2) (.slice (some ⟨g8, 0, none⟩) (n + 3) (n + 3)) rfl rfl rfl (run_assignO (.tmp 20) rfl _) ?_
            simp only [Act.put, List.setIfInBounds_toArray, List.set_cons_succ, List.set_cons_zero]
            refine ⟨hS8, wpAnyH_done (by kernel_rfl) ?_ _⟩
            go_wp2_with fail
            go_meet
            case rel => exact ⟨g8, rfl, hS8, Nat.le_trans hS3.size hR8.2.1, ints_row hR8.2.2⟩
          · refine new_at (some 19) (.slice (some ⟨w1.heap.size, 0, none⟩) 1 1) (.cells (ints .i64 [d]) 3) rfl rfl rfl (by first | kernel_rfl | rfl) ?_
            have hS2 : Below wr.heap.size wr (w1.alloc (.cells (ints .i64 [d]) 3)) := hS1.alloc hS1.size _
            refine ⟨hS2, ?_⟩
            simp only [Act.put, List.setIfInBounds_toArray, List.set_cons_succ, List.set_cons_zero]
            have hd1 : (w1.alloc (.cells (ints .i64 [d]) 3)).heap[w1.heap.size]? = some (.cells (ints .i64 [d]) 3 (0, 0)) := alloc_row _ _ _
            have h10' := block_below (below1 w1 (.cells (ints .i64 [d]) 3)) (lt_of_heap h10) h10
            clear h10
            have h10 := h10'
            clear h10'
            generalize hw2 : (w1.alloc (.cells (ints .i64 [d]) 3)) = w2 at hS2 hd1 h10 ⊢
            obtain ⟨gd, hggd⟩ : ∃ z, z = w1.heap.size := ⟨_, rfl⟩
            rw [← hggd] at hd1 ⊢
            clear hggd hw2 hS1
            refine one_at (i := 2) (by kernel_rfl) ?_
            have cT := times44 (some ⟨g, 0, none⟩) n cap (digs n V) (some ⟨g10, 0, none⟩) 1 1 [10] w2 (digs_len _ _) rfl (by omega) (by omega) (IView.below (fun _ => ⟨g, 0, rfl, hrow⟩) hS2) (fun _ => ⟨g10, 0, rfl, ints_row h10⟩) (digs_dig _ _) dig10
            rw [valD_digs_lt HVL.out, val10] at cT
            refine call_at (some 13) rfl rfl rfl 55 #[.slice (some ⟨g, 0, none⟩) n cap, .slice (some ⟨g10, 0, none⟩) 1 1] (R := fun v w' => ∃ g, v = .slice (some ⟨g, 0, none⟩) (n + 1 + 1) (n + 1 + 1) ∧ RelR w2 w' g (digs (n + 1 + 1) (V * 10))) (by kernel_rfl) (cT.mono fun e w' ⟨g, h1, h2⟩ => ⟨_, h1, g, rfl, h2⟩) ?_
            rintro v3 w3 ⟨gT, rfl, hRT⟩
            have hS3 : Below wr.heap.size wr w3 := hS2.trans (hRT.1.mono hS2.size)
            have hT := hRT.2.2
            refine ⟨hS3, ?_⟩
            simp only [Act.put, List.setIfInBounds_toArray, List.set_cons_succ, List.set_cons_zero]
            have h10' := block_below hRT.1 (lt_of_heap h10) h10
            clear h10
            have h10 := h10'
            clear h10'
            have hd1' := block_below hRT.1 (lt_of_heap hd1) hd1
            clear hd1
            have hd1 := hd1'
            clear hd1'
            clear cT hRT hS2
            refine one_at (i := 9) (by kernel_rfl) ?_
            have cP := plus32 (some ⟨gT, 0, none⟩) (n + 1 + 1) (n + 1 + 1) (digs (n + 1 + 1) (V * 10)) (some ⟨gd, 0, none⟩) 1 1 [d] w3 (digs_len _ _) rfl (by omega) (by omega) (fun _ => ⟨gT, 0, rfl, ints_row hT⟩) (fun _ => ⟨gd, 0, rfl, ints_row hd1⟩) (digs_dig _ _) (dig1 hd9)
            rw [valD_digs_lt HVT.out, val1, show max (n + 1 + 1) 1 + 1 = n + 3 by omega, ← HSV.out] at cP
            refine call_at (some 20) rfl rfl rfl 54 #[.slice (some ⟨gT, 0, none⟩) (n + 1 + 1) (n + 1 + 1), .slice (some ⟨gd, 0, none⟩) 1 1] (R := fun v w' => ∃ g, v = .slice (some ⟨g, 0, none⟩) (n + 3) (n + 3) ∧ RelR w3 w' g (digs (n + 3) (sv (k + 1)))) (by kernel_rfl) (cP.mono fun e w' ⟨g, h1, h2⟩ => ⟨_, h1, g, rfl, h2⟩) ?_
            rintro v8 w8 ⟨g8, rfl, hR8⟩
            have hS8 : Below wr.heap.size wr w8 := hS3.trans (hR8.1.mono hS3.size)
            refine ⟨hS8, ?_⟩
            simp only [Act.put, List.setIfInBounds_toArray, List.set_cons_succ, List.set_cons_zero]
            refine one_at (i := 10) (by kernel_rfl) ?_
            refine run_at (some 2) (.slice (some ⟨g8, 0, none⟩) (n + 3) (n + 3)) rfl rfl rfl (run_assignO (.tmp 20) rfl _) ?_
            simp only [Act.put, List.setIfInBounds_toArray, List.set_cons_succ, List.set_cons_zero]
            refine ⟨hS8, wpAnyH_done (by kernel_rfl) ?_ _⟩
            go_wp2_with fail
            go_meet
            case rel => exact ⟨g8, rfl, hS8, Nat.le_trans hS3.size hR8.2.1, ints_row hR8.2.2⟩
        · refine new_at (some 19) (.slice (some ⟨wr.drew.heap.size, 0, none⟩) 1 1) (.cells (ints .i64 [d]) 3) rfl rfl rfl (by first | kernel_rfl | rfl) ?_
          have hS1 : Below wr.heap.size wr (wr.drew.alloc (.cells (ints .i64 [d]) 3)) := hS0.alloc hS0.size _
          refine ⟨hS1, ?_⟩
          simp only [Act.put, List.setIfInBounds_toArray, List.set_cons_succ, List.set_cons_zero]
          have hd1 : (wr.drew.alloc (.cells (ints .i64 [d]) 3)).heap[wr.drew.heap.size]? = some (.cells (ints .i64 [d]) 3 (0, 0)) := alloc_row _ _ _
          generalize hw1 : (wr.drew.alloc (.cells (ints .i64 [d]) 3)) = w1 at hS1 hd1 ⊢
          obtain ⟨gd, hggd⟩ : ∃ z, z = wr.drew.heap.size := ⟨_, rfl⟩
          rw [← hggd] at hd1 ⊢
          clear hggd hw1 hS0
          refine one_at (i := 1) (by kernel_rfl) ?_
          refine new_at (some 12) (.slice (some ⟨w1.heap.size, 0, none⟩) 1 1) (.cells (ints .i64 [10]) 3) rfl rfl rfl (by first | kernel_rfl | rfl) ?_
          have hS2 : Below wr.heap.size wr (w1.alloc (.cells (ints .i64 [10]) 3)) := hS1.alloc hS1.size _
          refine ⟨hS2, ?_⟩
          simp only [Act.put, List.setIfInBounds_toArray, List.set_cons_succ, List.set_cons_zero]
          have h10 : (w1.alloc (.cells (ints .i64 [10]) 3)).heap[w1.heap.size]? = some (.cells (ints .i64 [10]) 3 (0, 0)) := alloc_row _ _ _
          have hd1' := block_below (below1 w1 (.cells (ints .i64 [10]) 3)) (lt_of_heap hd1) hd1
          clear hd1
          have hd1 := hd1'
          clear hd1'
          generalize hw2 : (w1.alloc (.cells (ints .i64 [10]) 3)) = w2 at hS2 h10 hd1 ⊢
          obtain ⟨g10, hgg10⟩ : ∃ z, z = w1.heap.size := ⟨_, rfl⟩
          rw [← hgg10] at h10 ⊢
          clear hgg10 hw2 hS1
          refine one_at (i := 2) (by kernel_rfl) ?_
          have cT := times44 (some ⟨g, 0, none⟩) n cap (digs n V) (some ⟨g10, 0, none⟩) 1 1 [10] w2 (digs_len _ _) rfl (by omega) (by omega) (IView.below (fun _ => ⟨g, 0, rfl, hrow⟩) hS2) (fun _ => ⟨g10, 0, rfl, ints_row h10⟩) (digs_dig _ _) dig10
          rw [valD_digs_lt HVL.out, val10] at cT
          refine call_at (some 13) rfl rfl rfl 55 #[.slice (some ⟨g, 0, none⟩) n cap, .slice (some ⟨g10, 0, none⟩) 1 1] (R := fun v w' => ∃ g, v = .slice (some ⟨g, 0, none⟩) (n + 1 + 1) (n + 1 + 1) ∧ RelR w2 w' g (digs (n + 1 + 1) (V * 10))) (by kernel_rfl) (cT.mono fun e w' ⟨g, h1, h2⟩ => ⟨_, h1, g, rfl, h2⟩) ?_
          rintro v3 w3 ⟨gT, rfl, hRT⟩
          have hS3 : Below wr.heap.size wr w3 := hS2.trans (hRT.1.mono hS2.size)
          have hT := hRT.2.2
          refine ⟨hS3, ?_⟩
          simp only [Act.put, List.setIfInBounds_toArray, List.set_cons_succ, List.set_cons_zero]
          have hd1' := block_below hRT.1 (lt_of_heap hd1) hd1
          clear hd1
          have hd1 := hd1'
          clear hd1'
          have h10' := block_below hRT.1 (lt_of_heap h10) h10
          clear h10
          have h10 := h10'
          clear h10'
          clear cT hRT hS2
          refine one_at (i := 9) (by kernel_rfl) ?_
          have cP := plus32 (some ⟨gT, 0, none⟩) (n + 1 + 1) (n + 1 + 1) (digs (n + 1 + 1) (V * 10)) (some ⟨gd, 0, none⟩) 1 1 [d] w3 (digs_len _ _) rfl (by omega) (by omega) (fun _ => ⟨gT, 0, rfl, ints_row hT⟩) (fun _ => ⟨gd, 0, rfl, ints_row hd1⟩) (digs_dig _ _) (dig1 hd9)
          rw [valD_digs_lt HVT.out, val1, show max (n + 1 + 1) 1 + 1 = n + 3 by omega, ← HSV.out] at cP
          refine call_at (some 20) rfl rfl rfl 54 #[.slice (some ⟨gT, 0, none⟩) (n + 1 + 1) (n + 1 + 1), .slice (some ⟨gd, 0, none⟩) 1 1] (R := fun v w' => ∃ g, v = .slice (some ⟨g, 0, none⟩) (n + 3) (n + 3) ∧ RelR w3 w' g (digs (n + 3) (sv (k + 1)))) (by kernel_rfl) (cP.mono fun e w' ⟨g, h1, h2⟩ => ⟨_, h1, g, rfl, h2⟩) ?_
          rintro v8 w8 ⟨g8, rfl, hR8⟩
          have hS8 : Below wr.heap.size wr w8 := hS3.trans (hR8.1.mono hS3.size)
          refine ⟨hS8, ?_⟩
          simp only [Act.put, List.setIfInBounds_toArray, List.set_cons_succ, List.set_cons_zero]
          refine one_at (i := 10) (by kernel_rfl) ?_
          refine run_at (some 2) (.slice (some ⟨g8, 0, none⟩) (n + 3) (n + 3)) rfl rfl rfl (run_assignO (.tmp 20) rfl _) ?_
          simp only [Act.put, List.setIfInBounds_toArray, List.set_cons_succ, List.set_cons_zero]
          refine ⟨hS8, wpAnyH_done (by kernel_rfl) ?_ _⟩
          go_wp2_with fail
          go_meet
          case rel => exact ⟨g8, rfl, hS8, Nat.le_trans hS3.size hR8.2.1, ints_row hR8.2.2⟩
      case rest =>
        obtain ⟨g', rfl, hB', hgr, hrow'⟩ := hcut
        have hgw' : w.heap.size ≤ g' := Nat.le_trans hB.size hgr
        clear hgr
        have hBw : Below w.heap.size w wc := hB.trans (hB'.mono hB.size)
        have hk1 : k + 1 ≤ 38 := hlt
        obtain ⟨V2, hV2⟩ : ∃ V, V = sv (k + 1) := ⟨_, rfl⟩
        have HV2 : Hid (V2 = sv (k + 1)) := hV2
        rw [← hV2] at hrow' HV3
        clear hV2 hrow hB' hB HSV HVL HVT hidx
        go_wp2_with fail
        go_loopw [2] (fun v wr => wr = wc ∧ ∃ m : Nat, 1 ≤ m ∧ m ≤ n + 3 ∧ v = .slice (some ⟨g', 0, none⟩) m (n + 3) ∧ V2 < 256 ^ m) (fun v _ => lenOf v)
        case atStart => exact ⟨rfl, n + 3, by omega, by omega, rfl, HV3.out⟩
        case round =>
          obtain ⟨rfl, m, hm1, hm3, rfl, hVm⟩ := hrel
          have hd : ∀ m', m' ≤ n + 3 → IntsAt wr g' 0 (digs m' V2) := fun m' hm' i hi => by
            rw [digs_len] at hi
            rw [hrow' i (by rw [digs_len]; omega), digs_get _ _ _ (by omega), digs_get _ _ _ hi]
          have HD : Hid (∀ m', m' ≤ n + 3 → IntsAt wr g' 0 (digs m' V2)) := hd
          have HVm : Hid (V2 < 256 ^ m) := hVm
          have HB : Hid (Below w.heap.size w wr) := hBw
          clear hd HV3 hVm hBw
          by_cases hm : m = 1
          · subst hm
            clear hrow'
            go_wp2
            go_roundw
            case rel => exact ⟨k + 1, hk1, by go_num, g', 1, n + 3, rfl, by omega, by omega, by omega, .inl rfl, by rw [← HV2.out]; exact HVm.out, HB.out, hgw', by rw [← HV2.out]; exact HD.out 1 (by omega)⟩
            case measure => simp [intOf]; omega
          · have c1 := hrow' (m - 1) (by rw [digs_len]; omega)
            rw [Nat.zero_add] at c1
            have hz : (digs (n + 3) V2).getD (m - 1) 0 = (digs m V2).getD (m - 1) 0 := by rw [digs_get _ _ _ (by omega), digs_get _ _ _ (by omega)]
            rw [hz] at c1
            have hgt : (1 : Int) < (m : Int) := by omega
            have hi1 : ((m : Int) - 1) = ((m - 1 : Nat) : Int) := by omega
            have HTN : Hid ((digs m V2).getD (m - 1) 0 ≠ 0 → 256 ^ (m - 1) ≤ V2) := fun h => top_nonzero hm1 h
            have HTZ : Hid ((digs m V2).getD (m - 1) 0 = 0 → V2 < 256 ^ (m - 1)) := fun h => top_zero hm1 HVm.out h
            obtain ⟨x, hx⟩ : ∃ x, x = (digs m V2).getD (m - 1) 0 := ⟨_, rfl⟩
            rw [← hx] at c1 HTN HTZ
            clear hx hz hrow' hm
            by_cases hx0 : x = 0
            · subst hx0
              have HZ : Hid (V2 < 256 ^ (m - 1)) := HTZ.out rfl
              go_wp2
              go_roundw
              case rel => first | exact ⟨trivial, m - 1, by omega, by omega, rfl, HZ.out⟩ | exact ⟨rfl, m - 1, by omega, by omega, rfl, HZ.out⟩
              case measure => simp [lenOf]; omega
            · have hxb : ((x : Int) == 0) = false := by simp; omega
              have HZ : Hid (256 ^ (m - 1) ≤ V2) := HTN.out hx0
              go_wp2
              go_roundw
              case rel => exact ⟨k + 1, hk1, by go_num, g', m, n + 3, rfl, by omega, by omega, by omega, .inr (by rw [← HV2.out]; exact HZ.out), by rw [← HV2.out]; exact HVm.out, HB.out, hgw', by rw [← HV2.out]; exact HD.out m (by omega)⟩
              case measure => simp [intOf]; omega
    · obtain rfl : k = 38 := by omega
      obtain ⟨g, n, cap, rfl, hrest⟩ := hS
      go_wp2
      go_ret
      exact ⟨_, rfl, g, n, cap, rfl, hrest⟩
end EN
end Go.Proofs.YtabgihjffjlfiaaGreatDoor
set_option linter.unusedVariables false
namespace Go.Proofs.YtabgihjffjlfiaaGreatDoor
namespace EN
open Go.RowKit Go.Sort Go.BigFrame
set_option maxRecDepth 100000
set_option maxHeartbeats 2000000
def T252 : Nat := 7237005577332262213973186563042994240829374041602535252466099000494570602496
theorem T252_eq : T252 = 256 ^ 31 * 16 := by decide
theorem T252_start : (digs 32 0).set 31 16 = digs 32 (T252 + sv 38 % 256 ^ 0) := by decide
theorem T252_end {n : Nat} (h : sv 38 < 256 ^ n) : T252 + sv 38 % 256 ^ n = LL := by
  rw [Nat.mod_eq_of_lt h]; decide
theorem T252_lt (k : Nat) (S : Nat) (hk : k ≤ 31) : T252 + S % 256 ^ k < 256 ^ 32 := by
  have h1 := Nat.mod_lt S (pos256 k)
  have h2 : 256 ^ k ≤ 256 ^ 31 := Nat.pow_le_pow_right (by decide) hk
  have : T252 + 256 ^ 31 < 256 ^ 32 := by decide
  omega
theorem T252_get (k S : Nat) (hk : k < 31) : (digs 32 (T252 + S % 256 ^ k)).getD k 0 = 0 := by
  have e : T252 = 256 ^ k * (256 ^ (30 - k) * 256 * 16) := by
    rw [T252_eq, ← Nat.mul_assoc, ← Nat.mul_assoc, ← Nat.pow_add, ← Nat.pow_succ]
    congr 2
    omega
  rw [digs_get _ _ _ (by omega), e, Nat.mul_add_div (pos256 k), Nat.div_eq_of_lt (Nat.mod_lt _ (pos256 k))]
  omega
theorem T252_step (k S : Nat) (hk : k < 31) : (digs 32 (T252 + S % 256 ^ k)).set k (S / 256 ^ k % 256) = digs 32 (T252 + S % 256 ^ (k + 1)) := by
  have hs := valD_set (digs 32 (T252 + S % 256 ^ k)) k (S / 256 ^ k % 256) (by rw [digs_len]; omega)
  rw [T252_get k S hk, valD_digs_lt (T252_lt k S (by omega))] at hs
  refine digs_of ((digs_dig _ _).set (Nat.mod_lt _ (by decide))) (by rw [List.length_set, digs_len]) ?_
  rw [Nat.pow_succ, Nat.mod_mul]
  omega
theorem ref_L17 (w : World) : Calls Tryz.prog 58 #[] w fun e w' => ∃ g, e = .returned (.slice (some ⟨g, 0, none⟩) 32 32) ∧ RelR w w' g (digs 32 LL) := by
  have hmk := make31 32 (by omega)
  simp only [Int.cast_ofNat_Int] at hmk
  have hR0 : RelR w (w.alloc (.cells (ints .i64 (digs 32 0)) 3)) w.heap.size (digs 32 0) := ⟨below1 _ _, Nat.le_refl _, alloc_row _ _ _⟩
  have c0 := hR0.at 31 (by rw [digs_len]; omega)
  have f0 := hR0.free 31
  have hR1 : RelR w (w.alloc (.cells ((ints .i64 (digs 32 0)).setIfInBounds 31 (.int .i64 16)) 3)) w.heap.size (digs 32 (T252 + sv 38 % 256 ^ 0)) := by
    have e := ints_set .i64 (digs 32 0) 31 16
    rw [T252_start] at e
    exact ⟨below1 _ _, Nat.le_refl _, by rw [← e]; exact heap_alloc_new _ _⟩
  clear hR0
  go_enter Tryz.func58, Tryz.ntmps58
  go_wp2_with fail
  generalize (w.alloc (.cells ((ints .i64 (digs 32 0)).setIfInBounds 31 (.int .i64 16)) 3)) = w1 at hR1 ⊢
  generalize hgo : w.heap.size = go at *
  clear c0 f0 hmk
  refine (small29 w1).mono ?_
  rintro e w2 ⟨v, rfl, g2, n, cap, rfl, hnc, hcap, hn1, hmin, hvl, hB2, hg2, hrow⟩
  have hn16 := relS_len (Nat.le_refl _) hmin
  have hgl := lt_of_heap hR1.2.2
  have hR2 : RelR w w2 go (digs 32 (T252 + sv 38 % 256 ^ 0)) := by
    have hs1 : w.heap.size ≤ w1.heap.size := hR1.1.size
    exact ⟨hR1.1.trans (hB2.mono hs1), hR1.2.1, block_below hB2 hgl hR1.2.2⟩
  have hne : g2 ≠ go := by omega
  have HVL : Hid (sv 38 < 256 ^ n) := hvl
  have HG : Hid (w.heap.size = go) := hgo
  clear hmin hvl hB2 hR1 hgl hg2 hgo
  go_wp2_with fail
  go_loopw [3] (fun i wr => ∃ k : Nat, k ≤ n ∧ i = .int .i64 k ∧ RelR w wr go (digs 32 (T252 + sv 38 % 256 ^ k)) ∧ IntsAt wr g2 0 (digs n (sv 38))) (fun i _ => n - (intOf i).toNat)
  case atStart => exact ⟨0, by omega, rfl, hR2, hrow⟩
  case round =>
    obtain ⟨k, hk, rfl, hR, hI⟩ := hrel
    clear hR2 hrow
    by_cases hlt : k < n
    · have c1 := hR.at k (by rw [digs_len]; omega)
      rw [T252_get k _ (by omega)] at c1
      have f1 := hR.free k
      have c2 := hI k (by rw [digs_len]; omega)
      rw [Nat.zero_add, digs_get _ _ _ hlt] at c2
      have hst := T252_step k (sv 38) (by omega)
      have hdl : sv 38 / 256 ^ k % 256 < 256 := Nat.mod_lt _ (by decide)
      obtain ⟨d, hd⟩ : ∃ d, d = sv 38 / 256 ^ k % 256 := ⟨_, rfl⟩
      rw [← hd] at c2 hst hdl
      have HN : Hid (RelR w (wr.setCell ⟨go, k, none⟩ (.int .i64 (d : Int))).drew go (digs 32 (T252 + sv 38 % 256 ^ (k + 1))) ∧ IntsAt (wr.setCell ⟨go, k, none⟩ (.int .i64 (d : Int))).drew g2 0 (digs n (sv 38))) := by
        refine ⟨?_, fun i hi => ?_⟩
        · rw [← hst]; exact (hR.set k d).drew
        · show (wr.setCell ⟨go, k, none⟩ (.int .i64 (d : Int))).cell? _ = _
          rw [World.cell?_setCell_far _ _ _ _ (by show go ≠ g2; omega)]
          exact hI i hi
      clear hd hst hR hI
      go_wp2_with fail
      go_big_region
      go_wp2
      go_roundw
      case rel => exact ⟨k + 1, by omega, by go_num, HN.out.1, HN.out.2⟩
      case measure => simp [intOf]; omega
    · obtain rfl : k = n := by omega
      rw [T252_end HVL.out] at hR
      go_wp2
      go_ret
      exact ⟨go, rfl, hR⟩
theorem own_irow {w w' : World} {v : Value} {n : Nat} {l : List Nat} (h : w'.ownsRow w.heap.size 3 1 v n (iv l)) : ∃ a cap, v = .slice a n cap ∧ n ≤ cap ∧ cap ≤ 9223372036854775807 ∧ IView w' a l ∧ l.length = n := by
  obtain ⟨a, cap, rfl, h1, h2⟩ := own_slice h
  obtain ⟨h3, h4⟩ := own_iview h
  exact ⟨a, cap, rfl, h1, h2, h3, h4⟩
/-- The digits of the first bytes. -/
theorem cut24 (a : Option Addr) (len cap : Nat) (bs : List Nat) (most : Nat) (w : World) (hlen : Hid (bs.length = len)) (hcap : len ≤ cap) (hcap2 : cap ≤ 9223372036854775807) (hl : most ≤ 64) (hd : Dig bs) (hv : View w a bs) :
    Calls Tryz.prog 56 #[.slice a len cap, .int .i64 most] w fun e w' => ∃ a' n c', e = .returned (.slice a' n c') ∧ Below w.heap.size w w' ∧ n ≤ c' ∧ c' ≤ 9223372036854775807 ∧ n ≤ 64 ∧ IView w' a' (bs.take most) ∧ (bs.take most).length = n := by
  by_cases h : most < len
  · have cD := digits11 a most cap (bs.take most) w (by show _ = _; rw [List.length_take, hlen.out]; omega) (by omega) (by omega) (hd.take most) (hv.take most)
    clear hlen hv hd
    go_enter Tryz.func56, Tryz.ntmps56
    go_wp2_with fail
    refine cD.mono ?_
    rintro e w1 ⟨v, rfl, hB, hown⟩
    obtain ⟨a', c', rfl, h1, h2, h3, h4⟩ := own_irow hown
    go_wp2
    go_ret
    exact ⟨a', most, c', rfl, hB, h1, h2, by omega, h3, h4⟩
  · have cD := digits11 a len cap bs w hlen hcap (by omega) hd hv
    have HT : Hid (bs.take most = bs) := List.take_of_length_le (by rw [hlen.out]; omega)
    rw [HT.out]
    clear hlen hv hd
    go_enter Tryz.func56, Tryz.ntmps56
    go_wp2_with fail
    refine cD.mono ?_
    rintro e w1 ⟨v, rfl, hB, hown⟩
    obtain ⟨a', c', rfl, h1, h2, h3, h4⟩ := own_irow hown
    go_wp2
    go_ret
    exact ⟨a', len, c', rfl, hB, h1, h2, by omega, h3, h4⟩
theorem valL : valD (digs 32 LL) = LL := valD_digs_lt (by decide)
theorem digs33_view {w w' : World} {g R : Nat} (h : RelR w w' g (digs 33 R)) : IView w' (some ⟨g, 0, none⟩) (digs 32 R) := fun _ => ⟨g, 0, rfl, fun i hi => by
  rw [digs_len] at hi
  rw [ints_row h.2.2 i (by rw [digs_len]; omega), digs_get _ _ _ (by omega), digs_get _ _ _ hi]⟩
/-- The reference's 32 bytes: a row that is read. -/
def Ref32 (w w' : World) (v : Value) (R : Nat) : Prop := ∃ a cap, v = .slice a 32 cap ∧ 32 ≤ cap ∧ cap ≤ 9223372036854775807 ∧ Below w.heap.size w w' ∧ View w' a (digs 32 R)
theorem modBytes (a' : Option Addr) (n c' : Nat) (x : List Nat) (w : World) (hx : x.length = n) (hn : n ≤ 10000) (dx : Dig x) (hv : IView w a' x) (g : Nat) (w1 : World) (hL : RelR w w1 g (digs 32 LL)) :
    Calls Tryz.prog 57 #[.slice a' n c', .slice (some ⟨g, 0, none⟩) 32 32] w1 fun e w' => ∃ g', e = .returned (.slice (some ⟨g', 0, none⟩) 32 33) ∧ RelR w1 w' g' (digs 33 (valD x % LL)) :=
  mod23 a' n c' x (some ⟨g, 0, none⟩) 32 32 (digs 32 LL) LL w1 hx (digs_len _ _) hn (by omega) (hv.below hL.1) (fun _ => ⟨g, 0, rfl, ints_row hL.2.2⟩) dx (digs_dig _ _) valL LL_pos (by show _ < _; decide)
theorem bytesOf (g R : Nat) (w w1 : World) (hR : R < LL) (h : RelR w w1 g (digs 33 R)) :
    Calls Tryz.prog 48 #[.slice (some ⟨g, 0, none⟩) 32 33] w1 fun e w' => ∃ v, e = .returned v ∧ Ref32 w1 w' v R := by
  have c := bytes31 (some ⟨g, 0, none⟩) 32 33 (digs 32 R) w1 (digs_len _ _) (by omega) (digs_dig _ _) (digs33_view h)
  rw [valD_digs_lt (Nat.lt_trans hR (by decide))] at c
  refine c.mono ?_
  rintro e w' ⟨v, rfl, hB, hown⟩
  obtain ⟨a, cap, rfl, h1, h2⟩ := own_slice hown
  exact ⟨_, rfl, a, cap, rfl, h1, h2, hB, (own_bview hown).1⟩
theorem refReduce10 (a : Option Addr) (len cap : Nat) (bs : List Nat) (w : World) (hlen : Hid (bs.length = len)) (hcap : len ≤ cap) (hcap2 : cap ≤ 9223372036854775807) (hd : Dig bs) (hv : View w a bs) :
    Calls Tryz.prog 47 #[.slice a len cap] w fun e w' => ∃ v, e = .returned v ∧ Ref32 w w' v (valD (bs.take 64) % LL) := by
  have cC := cut24 a len cap bs 64 w hlen hcap hcap2 (by omega) hd hv
  simp only [Int.cast_ofNat_Int] at cC
  have hd64 := hd.take 64
  clear hlen hv hd
  obtain ⟨x, hxe⟩ : ∃ x, x = bs.take 64 := ⟨_, rfl⟩
  rw [← hxe] at cC hd64 ⊢
  clear hxe
  go_enter Tryz.func47, Tryz.ntmps47
  go_wp2_with fail
  refine cC.mono ?_
  rintro e w1 ⟨a', n, c', rfl, hB1, hnc, hc2, hn64, hvw, hxl⟩
  go_wp2_with fail
  refine (ref_L17 w1).mono ?_
  rintro e w2 ⟨g, rfl, hL⟩
  go_wp2_with fail
  refine (modBytes a' n c' x w1 hxl (by omega) hd64 hvw g w2 hL).mono ?_
  rintro e w3 ⟨g3, rfl, hR3⟩
  go_wp2_with fail
  refine (bytesOf g3 (valD x % LL) w2 w3 (Nat.mod_lt _ LL_pos) hR3).mono ?_
  rintro e w4 ⟨v, rfl, a4, cap4, rfl, h1, h2, hB4, hv4⟩
  have hB2 : Below w.heap.size w w2 := hB1.trans (hL.1.mono hB1.size)
  have hB3 : Below w.heap.size w w3 := hB2.trans (hR3.1.mono hB2.size)
  go_wp2
  go_ret
  exact ⟨_, rfl, a4, cap4, rfl, h1, h2, hB3.trans (hB4.mono hB3.size), hv4⟩
theorem refIs15 (a : Option Addr) (len cap : Nat) (bs : List Nat) (w : World) (hlen : Hid (bs.length = len)) (hcap : len ≤ cap) (hcap2 : cap ≤ 9223372036854775807) (hl : len ≤ 10000) (hd : Dig bs) (hv : View w a bs) :
    Calls Tryz.prog 26 #[.slice a len cap] w fun e w' => e = .returned (.bool (isL bs)) ∧ Below w.heap.size w w' := by
  by_cases h : len = 32
  · subst h
    have cD := digits11 a 32 cap bs w hlen hcap (by omega) hd hv
    have HI : Hid (isL bs = decide (valD bs < LL)) := by
      show _ = _
      unfold isL
      rw [decide_eq_decide]
      exact ⟨fun h => h.2, fun h => ⟨hlen.out, h⟩⟩
    rw [HI.out]
    clear hlen hv
    go_enter Tryz.func26, Tryz.ntmps26
    go_wp2_with fail
    refine cD.mono ?_
    rintro e w1 ⟨v, rfl, hB1, hown⟩
    obtain ⟨a', c', rfl, h1, h2, h3, h4⟩ := own_irow hown
    go_wp2_with fail
    refine (ref_L17 w1).mono ?_
    rintro e w2 ⟨g, rfl, hL⟩
    have cL := less10 a' 32 c' bs (some ⟨g, 0, none⟩) 32 32 (digs 32 LL) w2 h4 (digs_len _ _) (by omega) (by omega) (h3.below hL.1) (fun _ => ⟨g, 0, rfl, ints_row hL.2.2⟩) hd (digs_dig _ _)
    rw [valL] at cL
    go_wp2_with fail
    refine cL.mono ?_
    rintro e w3 ⟨rfl, rfl⟩
    go_wp2
    go_ret
    exact ⟨rfl, hB1.trans (hL.1.mono hB1.size)⟩
  · have HI : Hid (isL bs = false) := by
      show _ = _
      unfold isL
      rw [decide_eq_false_iff_not, hlen.out]
      exact fun hh => h hh.1
    rw [HI.out]
    have hb : ((len : Int) == 32) = false := by simp; omega
    clear hlen hv
    go_enter Tryz.func26, Tryz.ntmps26
    go_wp2
    go_ret
    exact ⟨rfl, Below.refl _ _⟩
end EN
end Go.Proofs.YtabgihjffjlfiaaGreatDoor
set_option linter.unusedVariables false
namespace Go.Proofs.YtabgihjffjlfiaaGreatDoor
open Go.RowKit Go.Sort Go.BigFrame EN
set_option maxRecDepth 100000
set_option maxHeartbeats 4000000
theorem refBts {w w' : World} {v : Value} {R : Nat} (h : Ref32 w w' v R) : Below w.heap.size w w' ∧ Bts (digs 32 R) v w' := by
  obtain ⟨a, cap, rfl, h1, h2, h3, h4⟩ := h
  exact ⟨h3, a, cap, by rw [digs_len], by rw [digs_len]; exact h1, h2, h4⟩
theorem rReduce {v : Value} {l : List Nat} (w : World) (h : Bts l v w) (hd : Dig l) (hl : l.length ≤ 64) : Ret 47 #[v] w (Bts (digs 32 (valD l % LL))) := by
  obtain ⟨a, cap, rfl, h1, h2, hv⟩ := h
  refine (refReduce10 a l.length cap l w rfl h1 h2 hd hv).mono ?_
  rintro e w' ⟨v, rfl, hR⟩
  rw [List.take_of_length_le hl] at hR
  exact ⟨_, rfl, (refBts hR).1, (refBts hR).2⟩
theorem rHash {x y z : List Nat} {v1 v2 v3 : Value} (w : World) (hx : Bts x v1 w) (hy : Bts y v2 w) (hz : Bts z v3 w) (dx : Dig x) (dy : Dig y) (dz : Dig z) (h0 : 0 < x.length) (hl : x.length + y.length + z.length ≤ 100000) :
    Ret 19 #[v1, v2, v3] w (Bts (digs 32 (numL (x ++ y ++ z)))) := by
  obtain ⟨a, ca, rfl, a1, a2, av⟩ := hx
  obtain ⟨b, cb, rfl, b1, b2, bv⟩ := hy
  obtain ⟨c, cc, rfl, c1, c2, cv⟩ := hz
  obtain ⟨lx, hlx⟩ : ∃ n, n = x.length := ⟨_, rfl⟩
  obtain ⟨ly, hly⟩ : ∃ n, n = y.length := ⟨_, rfl⟩
  obtain ⟨lz, hlz⟩ : ∃ n, n = z.length := ⟨_, rfl⟩
  rw [← hlx] at a1 h0 hl ⊢
  rw [← hly] at b1 hl ⊢
  rw [← hlz] at c1 hl ⊢
  have HX : Hid (x.length = lx) := hlx.symm
  have HY : Hid (y.length = ly) := hly.symm
  have HZ : Hid (z.length = lz) := hlz.symm
  clear hlx hly hlz
  unfold Ret
  go_enter Tryz.func19, Tryz.ntmps19
  go_wp2_with (at_builtin; first
    | (refine wpList_append_any _ rfl (.tmp 8) (.tmp 9) rfl (.slice none 0 0) 0 [] rfl a lx ca x rfl w.heap.size (World.ownsRow_nil _ _ _ _) HX.out av (Nat.le_refl _) (by omega) ?_; intro v2 w2 hown2 hB2; rw [Nat.zero_add, List.nil_append] at hown2; have bv2 := bv.below hB2)
    | (refine wpList_append_any _ rfl (.tmp 11) (.tmp 12) rfl v2 lx x rfl b ly cb y rfl w.heap.size hown2 HY.out bv2 hB2.size (by omega) ?_; intro v3 w3 hown3 hB3; have hB03 := hB2.trans hB3; have cv3 := cv.below hB03)
    | (refine wpList_append_any _ rfl (.tmp 14) (.tmp 15) rfl v3 (lx + ly) (x ++ y) rfl c lz cc z rfl w.heap.size hown3 HZ.out cv3 hB03.size (by omega) ?_; intro v4 w4 hown4 hB4))
  have hB04 := hB03.trans hB4
  have hO4 := own_C (by rw [List.length_append, List.length_append, HX.out, HY.out, HZ.out]) (by omega) hown4
  have hd := (dx.app dy).app dz
  have hll : (x ++ y ++ z).length ≤ 100000 := by rw [List.length_append, List.length_append, HX.out, HY.out, HZ.out]; exact hl
  clear hown2 hown3 hown4
  refine (rSum512 w4 hO4.bts hd hll).mono ?_
  rintro e w5 ⟨v5, rfl, hB5, hO5⟩
  have hB05 := hB04.trans (hB5.mono hB04.size)
  go_wp2_with fail
  refine (rReduce w5 hO5.bts (SH_dig _) (by rw [SH_len]; omega)).mono ?_
  rintro e w6 ⟨v6, rfl, hB6, hO6⟩
  have hB06 := hB05.trans (hB6.mono hB05.size)
  go_wp2
  go_ret
  exact ⟨_, rfl, hB06, hO6⟩
end Go.Proofs.YtabgihjffjlfiaaGreatDoor
set_option linter.unusedVariables false
namespace Go.Proofs.YtabgihjffjlfiaaGreatDoor
open Go.RowKit Go.Sort Go.BigFrame EN
set_option maxRecDepth 100000
set_option maxHeartbeats 2000000
theorem cHalves {v : Value} {l : List Nat} (w : World) (h : Bts l v w) (hl : l.length = 64) : Ret 31 #[v] w (Tup2 (Bts (l.take 32)) (Bts (l.drop 32))) := by
  obtain ⟨a, cap, rfl, h1, h2, hv⟩ := h
  obtain ⟨g, off, rfl, hb⟩ := hv (by omega)
  rw [hl] at h1 ⊢
  refine (halves24 g off cap w h1 h2).mono ?_
  rintro e w' ⟨rfl, hB⟩
  have hv' := hv.below hB
  refine ⟨_, rfl, hB, _, _, rfl, ⟨_, 32, by rw [List.length_take]; congr 1; omega, by rw [List.length_take]; omega, by decide, fun _ => ⟨g, off, rfl, fun i hi => ?_⟩⟩, ⟨_, 32, by rw [List.length_drop, hl], by rw [List.length_drop]; omega, by decide, fun _ => ⟨g, off + 32, rfl, fun i hi => ?_⟩⟩⟩
  · obtain ⟨g', off', e, hb'⟩ := hv' (by omega)
    injection e with e; injection e with e1 e2; subst e1 e2
    rw [List.length_take] at hi
    rw [hb' i (by omega), List.getD_eq_getElem?_getD, List.getD_eq_getElem?_getD, List.getElem?_take_of_lt (by omega)]
  · obtain ⟨g', off', e, hb'⟩ := hv' (by omega)
    injection e with e; injection e with e1 e2; subst e1 e2
    rw [List.length_drop] at hi
    rw [show off + 32 + i = off + (32 + i) by omega, hb' (32 + i) (by omega), List.getD_eq_getElem?_getD, List.getD_eq_getElem?_getD, List.getElem?_drop]
section
variable {ρ : Operand → Value} {o : Oper} {x y z t : Operand} {w : World}
theorem dLenB {l : List Nat} {n : Nat} (hn : l.length = n) (ho : o.op = .call { callee := .builtin .len, args := #[x], argTypes := #[22] }) (h : Bts l (ρ x) w) : Does Tryz.prog o ρ w (fun v w' => Below w.heap.size w w' ∧ Is (.int .i64 (n : Int)) v w') := by
  obtain ⟨a, c, h1, _⟩ := h
  rw [hn] at h1
  exact Does.run _ (run_lenO ho h1) rfl
theorem run_neqN {n k : Nat} (h : n ≠ k) (ho : o.op = .binOp .neq 3 x y 3) (hx : ρ x = .int .i64 (n : Int)) (hy : ρ y = .int .i64 (k : Int)) : (execOp ρ o).run Tryz.prog w = .ok (.value (.bool true)) w := by
  have h2 : (n : Int) ≠ (k : Int) := by omega
  simp [execOp, ho, hx, hy, go_sem, h2]
theorem dParts3 {a b c : List Nat} (ho : o.op = .buildSlice 67 3 #[(0, x), (1, y), (2, z)]) (hx : Bts a (ρ x) w) (hy : Bts b (ρ y) w) (hz : Bts c (ρ z) w) : Does Tryz.prog o ρ w (fun v w' => Below w.heap.size w w' ∧ Parts 3 a b c v w') := by
  refine Does.new (.slice (some ⟨w.heap.size, 0, none⟩) 3 3) (.cells #[ρ x, ρ y, ρ z] 22) ?_ (parts3 hx hy hz)
  obtain ⟨a1, c1, e1⟩ := hx.form
  obtain ⟨a2, c2, e2⟩ := hy.form
  obtain ⟨a3, c3, e3⟩ := hz.form
  simp only [execOp, ho, List.map_toArray, List.map, e1, e2, e3]; kernel_rfl
end
theorem cIsB {v : Value} {l : List Nat} {b : Bool} (hb : isL l = b) (w : World) (hT : TabA w) (h : Bts l v w) (hd : Dig l) : Ret 32 #[v] w (Is (.bool b)) := by
  rw [← hb]; exact cIs w hT h hd
theorem cEqualB {v1 v2 : Value} {x y : List Nat} {b : Bool} (hb : decide (x = y) = b) (w : World) (hx : Bts x v1 w) (hy : Bts y v2 w) (dx : Dig x) (dy : Dig y) : Ret 37 #[v1, v2] w (Is (.bool b)) := by
  rw [← hb]; exact cEqual w hx hy dx dy
theorem cNumber3 {x y z : List Nat} {v : Value} (w : World) (hT : TabA w) (h : Parts 3 x y z v w) (dx : Dig x) (dy : Dig y) (dz : Dig z) (h0 : 0 < x.length) (hl : x.length + y.length + z.length ≤ 100000) : Ret 13 #[v] w (Own w.heap.size (digs 32 (numL (x ++ y ++ z)))) := by
  have := numberP w hT (by omega) h (by rw [cat3, List.length_append, List.length_append]; omega) (by rw [cat3, List.length_append, List.length_append]; omega) dx dy dz
  rwa [cat3] at this
theorem ownLo' {f : FuncId} {args : Array Value} {w : World} {l : List Nat} {lo : Nat} (hlo : lo ≤ w.heap.size) (h : Ret f args w (Own w.heap.size l)) : Ret f args w (Own lo l) :=
  h.mono fun e w' ⟨v, h1, h2, g, h3, h4, h5⟩ => ⟨v, h1, h2, g, h3, by omega, h5⟩
theorem few06 (a : Option Addr) (len cap most : Nat) (w : World) (hcap : len ≤ cap) (hcap2 : cap ≤ 9223372036854775807) (hm : most ≤ 1000) :
    Calls Tryz.prog 7 #[.slice a len cap, .int .i64 (most : Int)] w fun e w' => e = .returned (.slice a (min len most) cap) ∧ w = w' := by
  by_cases h : most < len
  · rw [show min len most = most by omega]
    go_enter Tryz.func7, Tryz.ntmps7
    go_wp2
    go_ret
    exact ⟨rfl, rfl⟩
  · rw [show min len most = len by omega]
    go_enter Tryz.func7, Tryz.ntmps7
    go_wp2
    go_ret
    exact ⟨rfl, rfl⟩
/-- The first so many bytes. -/
theorem cFew {v : Value} {l : List Nat} (most : Nat) (w : World) (h : Bts l v w) (hm : most ≤ 1000) : Ret 7 #[v, .int .i64 (most : Int)] w (Bts (l.take most)) := by
  obtain ⟨a, cap, rfl, h1, h2, hv⟩ := h
  refine (few06 a l.length cap most w h1 h2 hm).mono fun e w' ⟨he, hw⟩ => ?_
  subst hw
  refine ⟨_, he, Below.refl _ _, a, cap, ?_, ?_, h2, hv.take most⟩
  · rw [List.length_take, Nat.min_comm]
  · rw [List.length_take]; omega
end Go.Proofs.YtabgihjffjlfiaaGreatDoor
