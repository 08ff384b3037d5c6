/-
  The walk of the reference's Of, at words of 64 bits.
-/
import Derived.Test.YtomfnkbghlpkeaaDoorRQ
import Derived.Test.YtomfnkbghlpkeaaDoorR4b
import Derived.Deep.DrawnRows
import Derived.Deep.AppendLies
import Derived.Handy
import Derived.Test.YtomfnkbghlpkeaaDoorHeld
import Derived.Test.YtomfnkbghlpkeaaDoorR9
set_option linter.unusedVariables false
namespace Go.Proofs.YtomfnkbghlpkeaaDoor
open Go.RowKit Go.Sort Go.BigFrame
set_option maxRecDepth 100000
set_option maxHeartbeats 4000000
attribute [local go_sem ↓] Go.wp_at_zero Go.wp_at_succ

structure RelO64 (w wr : World) (B P gA gB gC gD gp : Nat) (H : Array Value) : Prop where
  bl : Below w.heap.size w wr
  res : wr.heap[w.heap.size]? = some (.cells #[.int .i64 0, .int .i64 0, .slice none 0 0, .slice none 0 0, .slice none 0 0, .slice none 0 0, .slice none 0 0, .slice none 0 0] 37 (0, 0))
  box : wr.heap[P]? = some (.cells H 37 (0, 0))
  rA : Row3 wr gA 28 34 39
  rB : Row3 wr gB 14 18 41
  rC : Row3 wr gC 1 8 7
  rD : Row3 wr gD 19 61 6
  pr : Ints wr gp 80 PT
  sz : B ≤ wr.heap.size
theorem RelO64.on {w wr w1 : World} {B P gA gB gC gD gp : Nat} {H : Array Value} (h : RelO64 w wr B P gA gB gC gD gp H) (f : Far w B P gA gB gC gD gp) (hb : Below B wr w1) : RelO64 w w1 B P gA gB gC gD gp H :=
  ⟨h.bl.trans (hb.mono (by have := f.wp; have := f.pb; omega)), (hb.block _ (by have := f.wp; have := f.pb; omega)).trans h.res, (hb.block _ f.pb).trans h.box, h.rA.onB f.a hb, h.rB.onB f.b hb, h.rC.onB f.c hb, h.rD.onB f.d hb, fun j hj => (hb.cell (p := ⟨gp, j, none⟩) f.pp).trans (h.pr j hj), Nat.le_trans h.sz hb.size⟩
theorem RelO64.store {w wr : World} {B P gA gB gC gD gp : Nat} {H : Array Value} (h : RelO64 w wr B P gA gB gC gD gp H) (f : Far w B P gA gB gC gD gp) (j : Nat) (v : Value) : RelO64 w (wr.setCell ⟨P, j, none⟩ v) B P gA gB gC gD gp (H.setIfInBounds j v) :=
  ⟨h.bl.setCell (Nat.le_of_lt f.wp) _, by rw [heap_setCell_other _ _ _ _ (by have := f.wp; simp; omega)]; exact h.res, heap_setCell_same _ _ _ _ _ _ h.box, h.rA.set f.na j v, h.rB.set f.nb j v, h.rC.set f.nc j v, h.rD.set f.nd j v, fun i hi => by rw [cell_setCell_ne _ _ _ _ f.npp]; exact h.pr i hi, by rw [size_setCell]; exact h.sz⟩
theorem RelO64.base {w wr : World} {B B' P gA gB gC gD gp : Nat} {H : Array Value} (h : RelO64 w wr B P gA gB gC gD gp H) (hB : B' ≤ wr.heap.size) : RelO64 w wr B' P gA gB gC gD gp H :=
  ⟨h.bl, h.res, h.box, h.rA, h.rB, h.rC, h.rD, h.pr, hB⟩
theorem tow64 (w : World) : ∀ W0, W0 = ((((((w.alloc (.cells #[.int .i64 0, .int .i64 0, .slice none 0 0, .slice none 0 0, .slice none 0 0, .slice none 0 0, .slice none 0 0, .slice none 0 0] 37)).alloc (.cells #[.int .i64 28, .int .i64 34, .int .i64 39] 3)).alloc (.cells #[.int .i64 14, .int .i64 18, .int .i64 41] 3)).alloc (.cells #[.int .i64 1, .int .i64 8, .int .i64 7] 3)).alloc (.cells #[.int .i64 19, .int .i64 61, .int .i64 6] 3)).alloc (.cells #[.int .i64 64, .int .i64 80, .slice (some ⟨w.heap.size + 1, 0, none⟩) 3 3, .slice (some ⟨w.heap.size + 1 + 1, 0, none⟩) 3 3, .slice (some ⟨w.heap.size + 1 + 1 + 1, 0, none⟩) 3 3, .slice (some ⟨w.heap.size + 1 + 1 + 1 + 1, 0, none⟩) 3 3, .slice none 0 0, .slice none 0 0] 37)) → W0.heap.size = w.heap.size + 6 ∧ Below w.heap.size w W0 ∧ W0.heap[w.heap.size]? = some (.cells #[.int .i64 0, .int .i64 0, .slice none 0 0, .slice none 0 0, .slice none 0 0, .slice none 0 0, .slice none 0 0, .slice none 0 0] 37) ∧ W0.heap[w.heap.size + 1 + 1 + 1 + 1 + 1]? = some (.cells #[.int .i64 64, .int .i64 80, .slice (some ⟨w.heap.size + 1, 0, none⟩) 3 3, .slice (some ⟨w.heap.size + 1 + 1, 0, none⟩) 3 3, .slice (some ⟨w.heap.size + 1 + 1 + 1, 0, none⟩) 3 3, .slice (some ⟨w.heap.size + 1 + 1 + 1 + 1, 0, none⟩) 3 3, .slice none 0 0, .slice none 0 0] 37) ∧ W0.heap[w.heap.size + 1]? = some (.cells #[.int .i64 28, .int .i64 34, .int .i64 39] 3) ∧ W0.heap[w.heap.size + 1 + 1]? = some (.cells #[.int .i64 14, .int .i64 18, .int .i64 41] 3) ∧ W0.heap[w.heap.size + 1 + 1 + 1]? = some (.cells #[.int .i64 1, .int .i64 8, .int .i64 7] 3) ∧ W0.heap[w.heap.size + 1 + 1 + 1 + 1]? = some (.cells #[.int .i64 19, .int .i64 61, .int .i64 6] 3) := fun W0 h => by
  subst h
  refine ⟨by simp only [size_alloc], (((((((Below.refl _ _).alloc (by first | exact Nat.le_refl _ | (simp only [size_alloc]; omega)) _).alloc (by first | exact Nat.le_refl _ | (simp only [size_alloc]; omega)) _).alloc (by first | exact Nat.le_refl _ | (simp only [size_alloc]; omega)) _).alloc (by first | exact Nat.le_refl _ | (simp only [size_alloc]; omega)) _).alloc (by first | exact Nat.le_refl _ | (simp only [size_alloc]; omega)) _).alloc (by first | exact Nat.le_refl _ | (simp only [size_alloc]; omega)) _), ?_, ?_, ?_, ?_, ?_, ?_⟩ <;> (repeat (first | exact heap_new' _ _ _ (by simp only [size_alloc]; done) | exact heap_new' _ _ _ rfl | rw [heap_alloc_old _ _ (by simp only [size_alloc]; omega)]))
theorem of64 (w : World) : Calls Tryd.prog 17 #[.int .i64 64] w fun e w' => ∃ gA gB gC gD gK cK gF cF, e = .returned (.agg #[.int .i64 64, .int .i64 80, .slice (some ⟨gA, 0, none⟩) 3 3, .slice (some ⟨gB, 0, none⟩) 3 3, .slice (some ⟨gC, 0, none⟩) 3 3, .slice (some ⟨gD, 0, none⟩) 3 3, .slice (some ⟨gK, 0, none⟩) 80 cK, .slice (some ⟨gF, 0, none⟩) 8 cF]) ∧ Below w.heap.size w w' ∧
    Row3 w' gA 28 34 39 ∧ Row3 w' gB 14 18 41 ∧ Row3 w' gC 1 8 7 ∧ Row3 w' gD 19 61 6 ∧ Words w' gK 80 KS ∧ Words w' gF 8 HS := by
  have h39i : (Tryd.prog.info? 39).map (fun i => (i.zero, i.size, i.bytes)) = some (some (.int .u64 0), 1, 8) := by kernel_rfl
  obtain ⟨i0, hi0, hz0, hz1, hz2⟩ := info_parts h39i
  go_enter Tryd.func17, Tryd.ntmps17
  go_wp2_with fail
  refine (primes80 _).mono ?_
  rintro e w1 ⟨v, rfl, hb1, hown⟩
  obtain ⟨hs0, hbw, t0, t5, tA, tB, tC, tD⟩ := tow64 w _ rfl
  rw [hs0] at hown
  obtain ⟨gp, cp, rfl, hgp0, _⟩ := own_formT hown (by omega)
  have hpr : Ints w1 gp 80 PT := fun i hi => by rw [hown.cellAt i (by omega)]; simp [iv, show i < PT.length by rw [PT_len]; exact hi]
  have hgpl := (hown.lt gp rfl).2
  have hB1 : Below w.heap.size w w1 := hbw.trans (hb1.mono (by rw [hs0]; omega))
  have s0 := block_below hb1 (by rw [hs0]; omega) t0
  have s5 := block_below hb1 (by rw [hs0]; omega) t5
  have sA := block_below hb1 (by rw [hs0]; omega) tA
  have sB := block_below hb1 (by rw [hs0]; omega) tB
  have sC := block_below hb1 (by rw [hs0]; omega) tC
  have sD := block_below hb1 (by rw [hs0]; omega) tD
  have hs1 := hb1.size
  rw [hs0] at hs1
  clear hb1 hown t0 t5 tA tB tC tD hbw hs0
  generalize hP : w.heap.size + 1 + 1 + 1 + 1 + 1 = P at *
  generalize hgD : w.heap.size + 1 + 1 + 1 + 1 = gD at *
  generalize hgC : w.heap.size + 1 + 1 + 1 = gC at *
  generalize hgB : w.heap.size + 1 + 1 = gB at *
  generalize hgA : w.heap.size + 1 = gA at *
  obtain ⟨BB, hBB⟩ : ∃ x, x = w1.heap.size := ⟨_, rfl⟩
  have hfar : Far w BB P gA gB gC gD gp := ⟨by omega, by omega, by omega, by omega, by omega, by omega, by omega, by omega, by omega, by omega, by omega, by omega, by omega, by omega, by omega, by omega⟩
  have hR : RelO64 w w1 BB P gA gB gC gD gp (#[.int .i64 64, .int .i64 80, .slice (some ⟨gA, 0, none⟩) 3 3, .slice (some ⟨gB, 0, none⟩) 3 3, .slice (some ⟨gC, 0, none⟩) 3 3, .slice (some ⟨gD, 0, none⟩) 3 3, .slice none 0 0, .slice none 0 0]) := ⟨hB1, s0, s5, row3_of sA, row3_of sB, row3_of sC, row3_of sD, hpr, by omega⟩
  clear hB1 s0 s5 sA sB sC sD hpr hBB hgp0 hgpl hs1 hP hgD hgC hgB hgA
  go_wp2_with fail

  go_loopw [5] (fun v5 wr => ∃ i : Nat, i ≤ 80 ∧ v5 = .int .i64 (i : Int) ∧ ∃ vK, RelO64 w wr BB P gA gB gC gD gp (#[.int .i64 64, .int .i64 80, .slice (some ⟨gA, 0, none⟩) 3 3, .slice (some ⟨gB, 0, none⟩) 3 3, .slice (some ⟨gC, 0, none⟩) 3 3, .slice (some ⟨gD, 0, none⟩) 3 3, vK, (.slice none 0 0)]) ∧ wr.ownsRow BB 39 1 vK i (uv (KS.take i))) (fun i _ => 80 - (intOf i).toNat)
  case atStart => exact ⟨0, by omega, rfl, _, hR, World.ownsRow_nil _ _ _ _⟩
  case round =>
    clear hR
    obtain ⟨i, hi, rfl, vK, hR, hown⟩ := hrel
    have c1 := row_at hR.box 1 (.int .i64 80) rfl
    by_cases hlt : i < 80
    · obtain ⟨pi, hpi⟩ : ∃ x, x = PT.getD i 0 := ⟨_, rfl⟩
      obtain ⟨xi, hxi⟩ : ∃ x, x = KS.getD i 0 := ⟨_, rfl⟩
      obtain ⟨ki, hki⟩ : ∃ x, x = KS.getD i 0 := ⟨_, rfl⟩
      have hroot : ∀ w, Calls Tryd.prog 27 #[.int .i64 (pi : Int), .int .i64 3] w fun e w' => e = .returned (.int .u64 (xi : Int)) ∧ Below w.heap.size w w' := fun w => by rw [hpi, hxi]; exact root3_at i (by omega) w
      have htop : ∀ w, Calls Tryd.prog 26 #[.agg (#[.int .i64 64, .int .i64 80, .slice (some ⟨gA, 0, none⟩) 3 3, .slice (some ⟨gB, 0, none⟩) 3 3, .slice (some ⟨gC, 0, none⟩) 3 3, .slice (some ⟨gD, 0, none⟩) 3 3, vK, (.slice none 0 0)]), .int .u64 (xi : Int)] w fun e w' => e = .returned (.int .u64 (ki : Int)) ∧ Below w.heap.size w w' := fun w => by
        rw [hki, ← hxi]; exact topH64 _ _ _ _ _ _ xi w (by rw [hxi]; exact KS_lt i)
      have hpc : wr.cell? ⟨gp, i, none⟩ = some (.int .i64 (pi : Int)) := by rw [hpi]; exact hR.pr i (by omega)
      have HE : Hid (uv (KS.take i) ++ [.int .u64 (ki : Int)] = uv (KS.take (i + 1))) := by
        show uv (KS.take i) ++ [.int .u64 (ki : Int)] = uv (KS.take (i + 1))
        rw [take_snoc' (by show i < KS.length; rw [show KS.length = 80 from by kernel_rfl]; omega), ← hki]; simp [uv]
      clear hpi hxi hki
      have hsz : BB ≤ wr.heap.size := hR.sz
      have hbox : ∀ w', Below BB wr w' → w'.heap[P]? = some (.cells (#[.int .i64 64, .int .i64 80, .slice (some ⟨gA, 0, none⟩) 3 3, .slice (some ⟨gB, 0, none⟩) 3 3, .slice (some ⟨gC, 0, none⟩) 3 3, .slice (some ⟨gD, 0, none⟩) 3 3, vK, (.slice none 0 0)]) 37 (0, 0)) := fun w' hb => (hR.on hfar hb).box
      have hpx : ∀ w', Below BB wr w' → w'.cell? ⟨gp, i, none⟩ = some (.int .i64 (pi : Int)) := fun w' hb => (hb.cell (p := ⟨gp, i, none⟩) hfar.pp).trans hpc
      have h37 : (Tryd.prog.info? 37).map (·.size) = some 8 := by kernel_rfl
      have hlt1 := hown.lt
      have hS0 : Below BB wr wr.drew := (Below.refl _ _).drew
      go_wp2_with fail
      refine wp_region_Z (fun w' => Below BB wr w') 12 (by kernel_rfl) ?_
      show wpZ _ _ _ _ _ _ 13 (Array.replicate 13 false) _ wr.drew
      refine takeZ (i := 0) (some 26) _ rfl rfl (by kernel_rfl) (fun _ _ _ h => h) (yields_run (v := .pointer (some ⟨P, 6, none⟩)) rfl fun w' _ => field37_6 (x := .tmp 3) rfl rfl) hS0 ?_
      simp only [Act.put, List.setIfInBounds_toArray, List.set_cons_succ, List.set_cons_zero]
      refine takeZ (i := 1) (some 27) _ rfl rfl (by kernel_rfl) (fun _ _ _ h => h) (yields_run (v := vK) rfl fun w' hb => load35 (x := .tmp 26) rfl rfl (row_at (hbox w' hb) 6 _ rfl)) hS0 ?_
      simp only [Act.put, List.setIfInBounds_toArray, List.set_cons_succ, List.set_cons_zero]
      refine takeZ (i := 2) (some 28) _ rfl rfl (by kernel_rfl) (fun _ _ _ h => h) (yields_load_row rfl 37 (.tmp 3) rfl P rfl 37 (#[.int .i64 64, .int .i64 80, .slice (some ⟨gA, 0, none⟩) 3 3, .slice (some ⟨gB, 0, none⟩) 3 3, .slice (some ⟨gC, 0, none⟩) 3 3, .slice (some ⟨gD, 0, none⟩) 3 3, vK, (.slice none 0 0)]) (0, 0) _ (fun w' hb => hbox w' hb) Tryd.underlying37 rfl h37) hS0 ?_
      simp only [Act.put, List.setIfInBounds_toArray, List.set_cons_succ, List.set_cons_zero]
      refine takeZ (i := 3) (some 29) _ rfl rfl (by kernel_rfl) (fun _ _ _ h => h) (yields_move rfl (.tmp 4) rfl) hS0 ?_
      simp only [Act.put, List.setIfInBounds_toArray, List.set_cons_succ, List.set_cons_zero]
      refine takeZ (i := 4) (some 30) _ rfl rfl (by kernel_rfl) (fun _ _ _ h => h) (yields_move rfl (.tmp 5) rfl) hS0 ?_
      simp only [Act.put, List.setIfInBounds_toArray, List.set_cons_succ, List.set_cons_zero]
      refine takeZ (i := 5) (some 31) _ rfl rfl (by kernel_rfl) (fun _ _ _ h => h) (yields_run (v := .pointer (some ⟨gp, i, none⟩)) rfl fun w' _ => index34 (x := .tmp 29) (y := .tmp 30) (i := i) (cp := cp) rfl rfl rfl (by omega)) hS0 ?_
      simp only [Act.put, List.setIfInBounds_toArray, List.set_cons_succ, List.set_cons_zero]
      refine takeZ (i := 6) (some 32) _ rfl rfl (by kernel_rfl) (fun _ _ _ h => h) (yields_run (v := .int .i64 (pi : Int)) rfl fun w' hb => load3 (x := .tmp 31) rfl rfl (hpx w' hb)) hS0 ?_
      simp only [Act.put, List.setIfInBounds_toArray, List.set_cons_succ, List.set_cons_zero]
      refine oneZ (i := 7) (by kernel_rfl) ?_
      refine call_at (some 33) rfl rfl rfl 27 #[.int .i64 (pi : Int), .int .i64 3] (R := fun v w' => v = .int .u64 (xi : Int) ∧ Below wr.drew.heap.size wr.drew w') (by kernel_rfl) ((hroot _).mono fun e w' h => ⟨_, h.1, rfl, h.2⟩) ?_
      rintro v1 wq ⟨rfl, hbq⟩
      have hc1 : Below wr.heap.size wr wq := (Below.refl _ _).drew.trans hbq
      refine ⟨fun _ => hc1.mono hsz, ?_⟩
      simp only [Act.put, List.setIfInBounds_toArray, List.set_cons_succ, List.set_cons_zero]
      refine oneZ (i := 8) (by kernel_rfl) ?_
      refine call_at (some 34) rfl rfl rfl 26 #[.agg (#[.int .i64 64, .int .i64 80, .slice (some ⟨gA, 0, none⟩) 3 3, .slice (some ⟨gB, 0, none⟩) 3 3, .slice (some ⟨gC, 0, none⟩) 3 3, .slice (some ⟨gD, 0, none⟩) 3 3, vK, (.slice none 0 0)]), .int .u64 (xi : Int)] (R := fun v w' => v = .int .u64 (ki : Int) ∧ Below wq.heap.size wq w') (by kernel_rfl) ((htop _).mono fun e w' h => ⟨_, h.1, rfl, h.2⟩) ?_
      rintro v2 wp ⟨rfl, hbp⟩
      have hc2 : Below wr.heap.size wr wp := hc1.trans (hbp.mono hc1.size)
      have hcB : BB ≤ wp.heap.size := Nat.le_trans hsz hc2.size
      refine ⟨fun _ => hc2.mono hsz, ?_⟩
      simp only [Act.put, List.setIfInBounds_toArray, List.set_cons_succ, List.set_cons_zero]
      have hownc := own_onV hown hc2
      refine oneZ (i := 9) (by kernel_rfl) ?_
      refine new_at (some 35) (.slice (some ⟨wp.heap.size, 0, none⟩) 1 1) (.cells #[.int .u64 (ki : Int)] 39) rfl rfl rfl (build35 (x := .tmp 34) rfl rfl) ?_
      refine ⟨fun _ => (hc2.mono hsz).alloc hcB _, ?_⟩
      simp only [Act.put, List.setIfInBounds_toArray, List.set_cons_succ, List.set_cons_zero]
      refine oneZ (i := 10) (by kernel_rfl) ?_
      refine wpOp_of_wp rfl rfl (wp_append_lies _ (.tmp 27) (.tmp 35) 35 rfl BB 39 i0 (.int .u64 0) 1 8 Tryd.underlying35 hi0 hz0 hz1 hz2 rfl (by decide) vK i _ rfl (hownc.alloc _) ⟨wp.heap.size, 0, none⟩ 1 1 [.int .u64 (ki : Int)] rfl rfl (news_one _ _ _) one_word (by omega) (by unfold maxLen; omega) (by omega) (by simp; omega) _ rfl ?_)
      intro ga ca wa howna hgrowa hata hlta
      have hca : Below BB wr wa := ((hc2.mono hsz).alloc hcB _).grown hgrowa (by simp; omega) (fun k hk => (hlt1 k hk).1)
      refine ⟨fun _ => hca, ?_⟩
      have e10 : ∀ (a : Act) (v : Value), a.put (some 36) v = a.put (some 36) v := fun _ _ => rfl
      show wpZ _ _ _ _ _ _ _ _ (Act.put _ (some 36) _) _
      simp only [Act.put, List.setIfInBounds_toArray, List.set_cons_succ, List.set_cons_zero]
      refine oneZ (i := 11) (by kernel_rfl) ?_
      refine run_at (some 37) (.pointer (some ⟨P, 6, none⟩)) rfl rfl rfl (field37_6 (x := .tmp 3) rfl rfl) ?_
      refine ⟨fun _ => hca, ?_⟩
      simp only [Act.put, List.setIfInBounds_toArray, List.set_cons_succ, List.set_cons_zero]
      have hcx := row_at (hbox wa hca) 6 vK rfl
      have hfx := free_ints (hbox wa hca) 6
      refine oneZ (i := 12) (by kernel_rfl) ?_
      refine store1_at (.slice (some ⟨ga, 0, none⟩) (i + 1) ca) rfl rfl rfl (store35 (x := .tmp 37) (y := .tmp 36) rfl rfl rfl hcx hfx) ?_
      refine ⟨fun h => absurd rfl h, doneZ (by kernel_rfl) ?_ _⟩
      rw [HE.out] at howna
      have hRn := (hR.on hfar hca).store hfar 6 (.slice (some ⟨ga, 0, none⟩) (i + 1) ca)
      have hon := own_set howna hfar.pb 6 (.slice (some ⟨ga, 0, none⟩) (i + 1) ca)
      
      clear hcx hfx hownc hgrowa hata hlta hc1 hc2 hbp hbq hcB hbox hpx hS0 e10
      go_wp2_with fail
      go_roundw
      case rel => first | exact ⟨i + 1, by omega, by go_num, _, hRn, hon⟩ | ((repeat apply Exists.intro); exact ⟨⟨i + 1, by omega, by go_num, _, hRn, hon⟩, rfl⟩)
      case measure => simp [intOf]; omega
    · obtain rfl : i = 80 := by omega

      obtain ⟨gK, cK, rfl, _, _⟩ := own_form hown (by omega)
      have hKw : Words wr gK 80 KS := words_of hown (by show 80 ≤ KS.length; exact Nat.le_of_eq (by kernel_rfl))
      obtain ⟨hKl, hKu⟩ := hown.lt gK rfl
      obtain ⟨BC, hBC⟩ : ∃ x, x = wr.heap.size := ⟨_, rfl⟩
      have hgKB : gK < BC := by rw [hBC]; exact hKu
      have hgKP : gK ≠ P := by have := hfar.pb; omega
      have hgKW : gK ≠ w.heap.size := by have := hfar.pb; have := hfar.wp; omega
      have hle : BB ≤ BC := by rw [hBC]; exact hR.sz
      have hR := hR.base (Nat.le_of_eq hBC)
      have hfar := hfar.mono hle
      clear hown hKl hKu hBC hle
      go_wp2_with fail
      clear c1

      go_loopw [6] (fun v5 wr => ∃ i : Nat, i ≤ 8 ∧ v5 = .int .i64 (i : Int) ∧ ∃ vK, RelO64 w wr BC P gA gB gC gD gp (#[.int .i64 64, .int .i64 80, .slice (some ⟨gA, 0, none⟩) 3 3, .slice (some ⟨gB, 0, none⟩) 3 3, .slice (some ⟨gC, 0, none⟩) 3 3, .slice (some ⟨gD, 0, none⟩) 3 3, (.slice (some ⟨gK, 0, none⟩) 80 cK), vK]) ∧ Words wr gK 80 KS ∧ wr.ownsRow BC 39 1 vK i (uv (HS.take i))) (fun i _ => 8 - (intOf i).toNat)
      case atStart => exact ⟨0, by omega, rfl, _, hR, hKw, World.ownsRow_nil _ _ _ _⟩
      case round =>
        clear hR hKw
        obtain ⟨i, hi, rfl, vK, hR, hKw, hown⟩ := hrel
        have c1 := row_at hR.box 1 (.int .i64 80) rfl
        by_cases hlt : i < 8
        · obtain ⟨pi, hpi⟩ : ∃ x, x = PT.getD i 0 := ⟨_, rfl⟩
          obtain ⟨xi, hxi⟩ : ∃ x, x = HS.getD i 0 := ⟨_, rfl⟩
          obtain ⟨ki, hki⟩ : ∃ x, x = HS.getD i 0 := ⟨_, rfl⟩
          have hroot : ∀ w, Calls Tryd.prog 27 #[.int .i64 (pi : Int), .int .i64 2] w fun e w' => e = .returned (.int .u64 (xi : Int)) ∧ Below w.heap.size w w' := fun w => by rw [hpi, hxi]; exact root2_at i (by omega) w
          have htop : ∀ w, Calls Tryd.prog 26 #[.agg (#[.int .i64 64, .int .i64 80, .slice (some ⟨gA, 0, none⟩) 3 3, .slice (some ⟨gB, 0, none⟩) 3 3, .slice (some ⟨gC, 0, none⟩) 3 3, .slice (some ⟨gD, 0, none⟩) 3 3, (.slice (some ⟨gK, 0, none⟩) 80 cK), vK]), .int .u64 (xi : Int)] w fun e w' => e = .returned (.int .u64 (ki : Int)) ∧ Below w.heap.size w w' := fun w => by
            rw [hki, ← hxi]; exact topH64 _ _ _ _ _ _ xi w (by rw [hxi]; exact HS_lt i)
          have hpc : wr.cell? ⟨gp, i, none⟩ = some (.int .i64 (pi : Int)) := by rw [hpi]; exact hR.pr i (by omega)
          have HE : Hid (uv (HS.take i) ++ [.int .u64 (ki : Int)] = uv (HS.take (i + 1))) := by
            show uv (HS.take i) ++ [.int .u64 (ki : Int)] = uv (HS.take (i + 1))
            rw [take_snoc' (by show i < HS.length; rw [show HS.length = 8 from by kernel_rfl]; omega), ← hki]; simp [uv]
          clear hpi hxi hki
          have hsz : BC ≤ wr.heap.size := hR.sz
          have hbox : ∀ w', Below BC wr w' → w'.heap[P]? = some (.cells (#[.int .i64 64, .int .i64 80, .slice (some ⟨gA, 0, none⟩) 3 3, .slice (some ⟨gB, 0, none⟩) 3 3, .slice (some ⟨gC, 0, none⟩) 3 3, .slice (some ⟨gD, 0, none⟩) 3 3, (.slice (some ⟨gK, 0, none⟩) 80 cK), vK]) 37 (0, 0)) := fun w' hb => (hR.on hfar hb).box
          have hpx : ∀ w', Below BC wr w' → w'.cell? ⟨gp, i, none⟩ = some (.int .i64 (pi : Int)) := fun w' hb => (hb.cell (p := ⟨gp, i, none⟩) hfar.pp).trans hpc
          have h37 : (Tryd.prog.info? 37).map (·.size) = some 8 := by kernel_rfl
          have hlt1 := hown.lt
          have hS0 : Below BC wr wr.drew := (Below.refl _ _).drew
          go_wp2_with fail
          refine wp_region_Z (fun w' => Below BC wr w') 12 (by kernel_rfl) ?_
          show wpZ _ _ _ _ _ _ 13 (Array.replicate 13 false) _ wr.drew
          refine takeZ (i := 0) (some 42) _ rfl rfl (by kernel_rfl) (fun _ _ _ h => h) (yields_run (v := .pointer (some ⟨P, 7, none⟩)) rfl fun w' _ => field37_7 (x := .tmp 3) rfl rfl) hS0 ?_
          simp only [Act.put, List.setIfInBounds_toArray, List.set_cons_succ, List.set_cons_zero]
          refine takeZ (i := 1) (some 43) _ rfl rfl (by kernel_rfl) (fun _ _ _ h => h) (yields_run (v := vK) rfl fun w' hb => load35 (x := .tmp 42) rfl rfl (row_at (hbox w' hb) 7 _ rfl)) hS0 ?_
          simp only [Act.put, List.setIfInBounds_toArray, List.set_cons_succ, List.set_cons_zero]
          refine takeZ (i := 2) (some 44) _ rfl rfl (by kernel_rfl) (fun _ _ _ h => h) (yields_load_row rfl 37 (.tmp 3) rfl P rfl 37 (#[.int .i64 64, .int .i64 80, .slice (some ⟨gA, 0, none⟩) 3 3, .slice (some ⟨gB, 0, none⟩) 3 3, .slice (some ⟨gC, 0, none⟩) 3 3, .slice (some ⟨gD, 0, none⟩) 3 3, (.slice (some ⟨gK, 0, none⟩) 80 cK), vK]) (0, 0) _ (fun w' hb => hbox w' hb) Tryd.underlying37 rfl h37) hS0 ?_
          simp only [Act.put, List.setIfInBounds_toArray, List.set_cons_succ, List.set_cons_zero]
          refine takeZ (i := 3) (some 45) _ rfl rfl (by kernel_rfl) (fun _ _ _ h => h) (yields_move rfl (.tmp 4) rfl) hS0 ?_
          simp only [Act.put, List.setIfInBounds_toArray, List.set_cons_succ, List.set_cons_zero]
          refine takeZ (i := 4) (some 46) _ rfl rfl (by kernel_rfl) (fun _ _ _ h => h) (yields_move rfl (.tmp 6) rfl) hS0 ?_
          simp only [Act.put, List.setIfInBounds_toArray, List.set_cons_succ, List.set_cons_zero]
          refine takeZ (i := 5) (some 47) _ rfl rfl (by kernel_rfl) (fun _ _ _ h => h) (yields_run (v := .pointer (some ⟨gp, i, none⟩)) rfl fun w' _ => index34 (x := .tmp 45) (y := .tmp 46) (i := i) (cp := cp) rfl rfl rfl (by omega)) hS0 ?_
          simp only [Act.put, List.setIfInBounds_toArray, List.set_cons_succ, List.set_cons_zero]
          refine takeZ (i := 6) (some 48) _ rfl rfl (by kernel_rfl) (fun _ _ _ h => h) (yields_run (v := .int .i64 (pi : Int)) rfl fun w' hb => load3 (x := .tmp 47) rfl rfl (hpx w' hb)) hS0 ?_
          simp only [Act.put, List.setIfInBounds_toArray, List.set_cons_succ, List.set_cons_zero]
          refine oneZ (i := 7) (by kernel_rfl) ?_
          refine call_at (some 49) rfl rfl rfl 27 #[.int .i64 (pi : Int), .int .i64 2] (R := fun v w' => v = .int .u64 (xi : Int) ∧ Below wr.drew.heap.size wr.drew w') (by kernel_rfl) ((hroot _).mono fun e w' h => ⟨_, h.1, rfl, h.2⟩) ?_
          rintro v1 wq ⟨rfl, hbq⟩
          have hc1 : Below wr.heap.size wr wq := (Below.refl _ _).drew.trans hbq
          refine ⟨fun _ => hc1.mono hsz, ?_⟩
          simp only [Act.put, List.setIfInBounds_toArray, List.set_cons_succ, List.set_cons_zero]
          refine oneZ (i := 8) (by kernel_rfl) ?_
          refine call_at (some 50) rfl rfl rfl 26 #[.agg (#[.int .i64 64, .int .i64 80, .slice (some ⟨gA, 0, none⟩) 3 3, .slice (some ⟨gB, 0, none⟩) 3 3, .slice (some ⟨gC, 0, none⟩) 3 3, .slice (some ⟨gD, 0, none⟩) 3 3, (.slice (some ⟨gK, 0, none⟩) 80 cK), vK]), .int .u64 (xi : Int)] (R := fun v w' => v = .int .u64 (ki : Int) ∧ Below wq.heap.size wq w') (by kernel_rfl) ((htop _).mono fun e w' h => ⟨_, h.1, rfl, h.2⟩) ?_
          rintro v2 wp ⟨rfl, hbp⟩
          have hc2 : Below wr.heap.size wr wp := hc1.trans (hbp.mono hc1.size)
          have hcB : BC ≤ wp.heap.size := Nat.le_trans hsz hc2.size
          refine ⟨fun _ => hc2.mono hsz, ?_⟩
          simp only [Act.put, List.setIfInBounds_toArray, List.set_cons_succ, List.set_cons_zero]
          have hownc := own_onV hown hc2
          refine oneZ (i := 9) (by kernel_rfl) ?_
          refine new_at (some 51) (.slice (some ⟨wp.heap.size, 0, none⟩) 1 1) (.cells #[.int .u64 (ki : Int)] 39) rfl rfl rfl (build35 (x := .tmp 50) rfl rfl) ?_
          refine ⟨fun _ => (hc2.mono hsz).alloc hcB _, ?_⟩
          simp only [Act.put, List.setIfInBounds_toArray, List.set_cons_succ, List.set_cons_zero]
          refine oneZ (i := 10) (by kernel_rfl) ?_
          refine wpOp_of_wp rfl rfl (wp_append_lies _ (.tmp 43) (.tmp 51) 35 rfl BC 39 i0 (.int .u64 0) 1 8 Tryd.underlying35 hi0 hz0 hz1 hz2 rfl (by decide) vK i _ rfl (hownc.alloc _) ⟨wp.heap.size, 0, none⟩ 1 1 [.int .u64 (ki : Int)] rfl rfl (news_one _ _ _) one_word (by omega) (by unfold maxLen; omega) (by omega) (by simp; omega) _ rfl ?_)
          intro ga ca wa howna hgrowa hata hlta
          have hca : Below BC wr wa := ((hc2.mono hsz).alloc hcB _).grown hgrowa (by simp; omega) (fun k hk => (hlt1 k hk).1)
          refine ⟨fun _ => hca, ?_⟩
          have e10 : ∀ (a : Act) (v : Value), a.put (some 52) v = a.put (some 52) v := fun _ _ => rfl
          show wpZ _ _ _ _ _ _ _ _ (Act.put _ (some 52) _) _
          simp only [Act.put, List.setIfInBounds_toArray, List.set_cons_succ, List.set_cons_zero]
          refine oneZ (i := 11) (by kernel_rfl) ?_
          refine run_at (some 53) (.pointer (some ⟨P, 7, none⟩)) rfl rfl rfl (field37_7 (x := .tmp 3) rfl rfl) ?_
          refine ⟨fun _ => hca, ?_⟩
          simp only [Act.put, List.setIfInBounds_toArray, List.set_cons_succ, List.set_cons_zero]
          have hcx := row_at (hbox wa hca) 7 vK rfl
          have hfx := free_ints (hbox wa hca) 7
          refine oneZ (i := 12) (by kernel_rfl) ?_
          refine store1_at (.slice (some ⟨ga, 0, none⟩) (i + 1) ca) rfl rfl rfl (store35 (x := .tmp 53) (y := .tmp 52) rfl rfl rfl hcx hfx) ?_
          refine ⟨fun h => absurd rfl h, doneZ (by kernel_rfl) ?_ _⟩
          rw [HE.out] at howna
          have hRn := (hR.on hfar hca).store hfar 7 (.slice (some ⟨ga, 0, none⟩) (i + 1) ca)
          have hon := own_set howna hfar.pb 7 (.slice (some ⟨ga, 0, none⟩) (i + 1) ca)
          have hKn := words_set (hKw.onB hgKB hca) hgKP 7 (.slice (some ⟨ga, 0, none⟩) (i + 1) ca)
          clear hcx hfx hownc hgrowa hata hlta hc1 hc2 hbp hbq hcB hbox hpx hS0 e10
          go_wp2_with fail
          go_roundw
          case rel => first | exact ⟨i + 1, by omega, by go_num, _, hRn, hKn, hon⟩ | ((repeat apply Exists.intro); exact ⟨⟨i + 1, by omega, by go_num, _, hRn, hKn, hon⟩, rfl⟩)
          case measure => simp [intOf]; omega
        · obtain rfl : i = 8 := by omega

          obtain ⟨gF, cF, rfl, _, _⟩ := own_form hown (by omega)
          have hFw : Words wr gF 8 HS := words_of hown (by show 8 ≤ HS.length; exact Nat.le_of_eq (by kernel_rfl))
          have hFl := (hown.lt gF rfl).1
          have hwF : gF ≠ w.heap.size := by have := hfar.wp; have := hfar.pb; omega
          clear hown hFl c1
          have bx0 := row_at hR.box 0 _ rfl
          have bx1 := row_at hR.box 1 _ rfl
          have bx2 := row_at hR.box 2 _ rfl
          have bx3 := row_at hR.box 3 _ rfl
          have bx4 := row_at hR.box 4 _ rfl
          have bx5 := row_at hR.box 5 _ rfl
          have bx6 := row_at hR.box 6 _ rfl
          have bx7 := row_at hR.box 7 _ rfl
          have rx0 := row_at hR.res 0 _ rfl
          have rx1 := row_at hR.res 1 _ rfl
          have rx2 := row_at hR.res 2 _ rfl
          have rx3 := row_at hR.res 3 _ rfl
          have rx4 := row_at hR.res 4 _ rfl
          have rx5 := row_at hR.res 5 _ rfl
          have rx6 := row_at hR.res 6 _ rfl
          have rx7 := row_at hR.res 7 _ rfl
          have fx0 := free_ints hR.res 0
          have fx1 := free_ints hR.res 1
          have fx2 := free_ints hR.res 2
          have fx3 := free_ints hR.res 3
          have fx4 := free_ints hR.res 4
          have fx5 := free_ints hR.res 5
          have fx6 := free_ints hR.res 6
          have fx7 := free_ints hR.res 7
          go_wp2_with fail
          obtain ⟨Wf, hWf⟩ : ∃ x, x = ((((((((wr.setCell ⟨w.heap.size, 0, none⟩ (.int .i64 64)).setCell ⟨w.heap.size, 1, none⟩ (.int .i64 80)).setCell ⟨w.heap.size, 2, none⟩ (.slice (some ⟨gA, 0, none⟩) 3 3)).setCell ⟨w.heap.size, 3, none⟩ (.slice (some ⟨gB, 0, none⟩) 3 3)).setCell ⟨w.heap.size, 4, none⟩ (.slice (some ⟨gC, 0, none⟩) 3 3)).setCell ⟨w.heap.size, 5, none⟩ (.slice (some ⟨gD, 0, none⟩) 3 3)).setCell ⟨w.heap.size, 6, none⟩ (.slice (some ⟨gK, 0, none⟩) 80 cK)).setCell ⟨w.heap.size, 7, none⟩ (.slice (some ⟨gF, 0, none⟩) 8 cF)) := ⟨_, rfl⟩
          rw [← hWf]
          have z0 : Below w.heap.size w Wf := by rw [hWf]; exact (Below.setCell (Below.setCell (Below.setCell (Below.setCell (Below.setCell (Below.setCell (Below.setCell (Below.setCell hR.bl (p := ⟨w.heap.size, 0, none⟩) (Nat.le_refl _) (.int .i64 64)) (p := ⟨w.heap.size, 1, none⟩) (Nat.le_refl _) (.int .i64 80)) (p := ⟨w.heap.size, 2, none⟩) (Nat.le_refl _) (.slice (some ⟨gA, 0, none⟩) 3 3)) (p := ⟨w.heap.size, 3, none⟩) (Nat.le_refl _) (.slice (some ⟨gB, 0, none⟩) 3 3)) (p := ⟨w.heap.size, 4, none⟩) (Nat.le_refl _) (.slice (some ⟨gC, 0, none⟩) 3 3)) (p := ⟨w.heap.size, 5, none⟩) (Nat.le_refl _) (.slice (some ⟨gD, 0, none⟩) 3 3)) (p := ⟨w.heap.size, 6, none⟩) (Nat.le_refl _) (.slice (some ⟨gK, 0, none⟩) 80 cK)) (p := ⟨w.heap.size, 7, none⟩) (Nat.le_refl _) (.slice (some ⟨gF, 0, none⟩) 8 cF))
          have z1 : Row3 Wf gA 28 34 39 := by rw [hWf]; exact ((((((((hR.rA.set hfar.xa 0 (.int .i64 64)).set hfar.xa 1 (.int .i64 80)).set hfar.xa 2 (.slice (some ⟨gA, 0, none⟩) 3 3)).set hfar.xa 3 (.slice (some ⟨gB, 0, none⟩) 3 3)).set hfar.xa 4 (.slice (some ⟨gC, 0, none⟩) 3 3)).set hfar.xa 5 (.slice (some ⟨gD, 0, none⟩) 3 3)).set hfar.xa 6 (.slice (some ⟨gK, 0, none⟩) 80 cK)).set hfar.xa 7 (.slice (some ⟨gF, 0, none⟩) 8 cF))
          have z2 : Row3 Wf gB 14 18 41 := by rw [hWf]; exact ((((((((hR.rB.set hfar.xb 0 (.int .i64 64)).set hfar.xb 1 (.int .i64 80)).set hfar.xb 2 (.slice (some ⟨gA, 0, none⟩) 3 3)).set hfar.xb 3 (.slice (some ⟨gB, 0, none⟩) 3 3)).set hfar.xb 4 (.slice (some ⟨gC, 0, none⟩) 3 3)).set hfar.xb 5 (.slice (some ⟨gD, 0, none⟩) 3 3)).set hfar.xb 6 (.slice (some ⟨gK, 0, none⟩) 80 cK)).set hfar.xb 7 (.slice (some ⟨gF, 0, none⟩) 8 cF))
          have z3 : Row3 Wf gC 1 8 7 := by rw [hWf]; exact ((((((((hR.rC.set hfar.xc 0 (.int .i64 64)).set hfar.xc 1 (.int .i64 80)).set hfar.xc 2 (.slice (some ⟨gA, 0, none⟩) 3 3)).set hfar.xc 3 (.slice (some ⟨gB, 0, none⟩) 3 3)).set hfar.xc 4 (.slice (some ⟨gC, 0, none⟩) 3 3)).set hfar.xc 5 (.slice (some ⟨gD, 0, none⟩) 3 3)).set hfar.xc 6 (.slice (some ⟨gK, 0, none⟩) 80 cK)).set hfar.xc 7 (.slice (some ⟨gF, 0, none⟩) 8 cF))
          have z4 : Row3 Wf gD 19 61 6 := by rw [hWf]; exact ((((((((hR.rD.set hfar.xd 0 (.int .i64 64)).set hfar.xd 1 (.int .i64 80)).set hfar.xd 2 (.slice (some ⟨gA, 0, none⟩) 3 3)).set hfar.xd 3 (.slice (some ⟨gB, 0, none⟩) 3 3)).set hfar.xd 4 (.slice (some ⟨gC, 0, none⟩) 3 3)).set hfar.xd 5 (.slice (some ⟨gD, 0, none⟩) 3 3)).set hfar.xd 6 (.slice (some ⟨gK, 0, none⟩) 80 cK)).set hfar.xd 7 (.slice (some ⟨gF, 0, none⟩) 8 cF))
          have z5 : Words Wf gK 80 KS := by rw [hWf]; exact (words_set (words_set (words_set (words_set (words_set (words_set (words_set (words_set hKw hgKW 0 (.int .i64 64)) hgKW 1 (.int .i64 80)) hgKW 2 (.slice (some ⟨gA, 0, none⟩) 3 3)) hgKW 3 (.slice (some ⟨gB, 0, none⟩) 3 3)) hgKW 4 (.slice (some ⟨gC, 0, none⟩) 3 3)) hgKW 5 (.slice (some ⟨gD, 0, none⟩) 3 3)) hgKW 6 (.slice (some ⟨gK, 0, none⟩) 80 cK)) hgKW 7 (.slice (some ⟨gF, 0, none⟩) 8 cF))
          have z6 : Words Wf gF 8 HS := by rw [hWf]; exact (words_set (words_set (words_set (words_set (words_set (words_set (words_set (words_set hFw hwF 0 (.int .i64 64)) hwF 1 (.int .i64 80)) hwF 2 (.slice (some ⟨gA, 0, none⟩) 3 3)) hwF 3 (.slice (some ⟨gB, 0, none⟩) 3 3)) hwF 4 (.slice (some ⟨gC, 0, none⟩) 3 3)) hwF 5 (.slice (some ⟨gD, 0, none⟩) 3 3)) hwF 6 (.slice (some ⟨gK, 0, none⟩) 80 cK)) hwF 7 (.slice (some ⟨gF, 0, none⟩) 8 cF))
          have hfin : Wf.heap[w.heap.size]? = some (.cells (#[.int .i64 64, .int .i64 80, .slice (some ⟨gA, 0, none⟩) 3 3, .slice (some ⟨gB, 0, none⟩) 3 3, .slice (some ⟨gC, 0, none⟩) 3 3, .slice (some ⟨gD, 0, none⟩) 3 3, .slice (some ⟨gK, 0, none⟩) 80 cK, .slice (some ⟨gF, 0, none⟩) 8 cF]) 37 (0, 0)) := by
            rw [hWf]; exact (heap_setCell_same _ _ 7 _ _ (.slice (some ⟨gF, 0, none⟩) 8 cF) (heap_setCell_same _ _ 6 _ _ (.slice (some ⟨gK, 0, none⟩) 80 cK) (heap_setCell_same _ _ 5 _ _ (.slice (some ⟨gD, 0, none⟩) 3 3) (heap_setCell_same _ _ 4 _ _ (.slice (some ⟨gC, 0, none⟩) 3 3) (heap_setCell_same _ _ 3 _ _ (.slice (some ⟨gB, 0, none⟩) 3 3) (heap_setCell_same _ _ 2 _ _ (.slice (some ⟨gA, 0, none⟩) 3 3) (heap_setCell_same _ _ 1 _ _ (.int .i64 80) (heap_setCell_same _ _ 0 _ _ (.int .i64 64) hR.res))))))))
          have y0 := row_at hfin 0 _ rfl
          have y1 := row_at hfin 1 _ rfl
          have y2 := row_at hfin 2 _ rfl
          have y3 := row_at hfin 3 _ rfl
          have y4 := row_at hfin 4 _ rfl
          have y5 := row_at hfin 5 _ rfl
          have y6 := row_at hfin 6 _ rfl
          have y7 := row_at hfin 7 _ rfl
          clear hWf bx0 bx1 bx2 bx3 bx4 bx5 bx6 bx7 rx0 rx1 rx2 rx3 rx4 rx5 rx6 rx7 fx0 fx1 fx2 fx3 fx4 fx5 fx6 fx7
          (try simp only [Exit.inBlock, Exit.then])
          refine bodyPost_ret (by simp [results, Tryd.results17, go_sem, y0, y1, y2, y3, y4, y5, y6, y7]; try rfl) rfl ?_
          exact ⟨gA, gB, gC, gD, gK, cK, gF, cF, rfl, z0, z1, z2, z3, z4, z5, z6⟩
end Go.Proofs.YtomfnkbghlpkeaaDoor
