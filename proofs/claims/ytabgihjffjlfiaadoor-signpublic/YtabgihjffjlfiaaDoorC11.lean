/-
  The walk of the reference's Of, at words of 64 bits. The reference's two sums, and the laws Sha256, Sha512. The walks of the reference's Secret, Public. Single operations and calls for Verify and the laws. The walk of Verify. The walk of seed. The document's example, by the kernel. The walk of lives.
-/
import Derived.Test.YtabgihjffjlfiaaDoorC10
import Derived.Deep.DrawnRows
import Derived.Deep.AppendLies
import Derived.Handy
import Derived.Test.YtabgihjffjlfiaaDoorC1
import Derived.Test.YtabgihjffjlfiaaDoorC7
import Derived.Test.YtabgihjffjlfiaaDoorC9
set_option linter.unusedVariables false
namespace Go.Proofs.YtabgihjffjlfiaaDoor
namespace SR
open Go.RowKit Go.Sort Go.BigFrame
set_option maxRecDepth 100000
set_option maxHeartbeats 4000000
attribute [local go_sem ↓] Go.wp_at_zero Go.wp_at_succ

structure RelO64 (w wr : World) (B P gA gB gC gD gp : Nat) (H : Array Value) : Prop where
  bl : Below w.heap.size w wr
  res : wr.heap[w.heap.size]? = some (.cells #[.int .i64 0, .int .i64 0, .slice none 0 0, .slice none 0 0, .slice none 0 0, .slice none 0 0, .slice none 0 0, .slice none 0 0] 93 (0, 0))
  box : wr.heap[P]? = some (.cells H 93 (0, 0))
  rA : Row3 wr gA 28 34 39
  rB : Row3 wr gB 14 18 41
  rC : Row3 wr gC 1 8 7
  rD : Row3 wr gD 19 61 6
  pr : Ints wr gp 80 PT
  sz : B ≤ wr.heap.size
theorem RelO64.on {w wr w1 : World} {B P gA gB gC gD gp : Nat} {H : Array Value} (h : RelO64 w wr B P gA gB gC gD gp H) (f : Far w B P gA gB gC gD gp) (hb : Below B wr w1) : RelO64 w w1 B P gA gB gC gD gp H :=
  ⟨h.bl.trans (hb.mono (by have := f.wp; have := f.pb; omega)), (hb.block _ (by have := f.wp; have := f.pb; omega)).trans h.res, (hb.block _ f.pb).trans h.box, h.rA.onB f.a hb, h.rB.onB f.b hb, h.rC.onB f.c hb, h.rD.onB f.d hb, fun j hj => (hb.cell (p := ⟨gp, j, none⟩) f.pp).trans (h.pr j hj), Nat.le_trans h.sz hb.size⟩
theorem RelO64.store {w wr : World} {B P gA gB gC gD gp : Nat} {H : Array Value} (h : RelO64 w wr B P gA gB gC gD gp H) (f : Far w B P gA gB gC gD gp) (j : Nat) (v : Value) : RelO64 w (wr.setCell ⟨P, j, none⟩ v) B P gA gB gC gD gp (H.setIfInBounds j v) :=
  ⟨h.bl.setCell (Nat.le_of_lt f.wp) _, by rw [heap_setCell_other _ _ _ _ (by have := f.wp; simp; omega)]; exact h.res, heap_setCell_same _ _ _ _ _ _ h.box, h.rA.set f.na j v, h.rB.set f.nb j v, h.rC.set f.nc j v, h.rD.set f.nd j v, fun i hi => by rw [cell_setCell_ne _ _ _ _ f.npp]; exact h.pr i hi, by rw [size_setCell]; exact h.sz⟩
theorem RelO64.base {w wr : World} {B B' P gA gB gC gD gp : Nat} {H : Array Value} (h : RelO64 w wr B P gA gB gC gD gp H) (hB : B' ≤ wr.heap.size) : RelO64 w wr B' P gA gB gC gD gp H :=
  ⟨h.bl, h.res, h.box, h.rA, h.rB, h.rC, h.rD, h.pr, hB⟩
theorem tow64 (w : World) : ∀ W0, W0 = ((((((w.alloc (.cells #[.int .i64 0, .int .i64 0, .slice none 0 0, .slice none 0 0, .slice none 0 0, .slice none 0 0, .slice none 0 0, .slice none 0 0] 93)).alloc (.cells #[.int .i64 28, .int .i64 34, .int .i64 39] 3)).alloc (.cells #[.int .i64 14, .int .i64 18, .int .i64 41] 3)).alloc (.cells #[.int .i64 1, .int .i64 8, .int .i64 7] 3)).alloc (.cells #[.int .i64 19, .int .i64 61, .int .i64 6] 3)).alloc (.cells #[.int .i64 64, .int .i64 80, .slice (some ⟨w.heap.size + 1, 0, none⟩) 3 3, .slice (some ⟨w.heap.size + 1 + 1, 0, none⟩) 3 3, .slice (some ⟨w.heap.size + 1 + 1 + 1, 0, none⟩) 3 3, .slice (some ⟨w.heap.size + 1 + 1 + 1 + 1, 0, none⟩) 3 3, .slice none 0 0, .slice none 0 0] 93)) → W0.heap.size = w.heap.size + 6 ∧ Below w.heap.size w W0 ∧ W0.heap[w.heap.size]? = some (.cells #[.int .i64 0, .int .i64 0, .slice none 0 0, .slice none 0 0, .slice none 0 0, .slice none 0 0, .slice none 0 0, .slice none 0 0] 93) ∧ W0.heap[w.heap.size + 1 + 1 + 1 + 1 + 1]? = some (.cells #[.int .i64 64, .int .i64 80, .slice (some ⟨w.heap.size + 1, 0, none⟩) 3 3, .slice (some ⟨w.heap.size + 1 + 1, 0, none⟩) 3 3, .slice (some ⟨w.heap.size + 1 + 1 + 1, 0, none⟩) 3 3, .slice (some ⟨w.heap.size + 1 + 1 + 1 + 1, 0, none⟩) 3 3, .slice none 0 0, .slice none 0 0] 93) ∧ W0.heap[w.heap.size + 1]? = some (.cells #[.int .i64 28, .int .i64 34, .int .i64 39] 3) ∧ W0.heap[w.heap.size + 1 + 1]? = some (.cells #[.int .i64 14, .int .i64 18, .int .i64 41] 3) ∧ W0.heap[w.heap.size + 1 + 1 + 1]? = some (.cells #[.int .i64 1, .int .i64 8, .int .i64 7] 3) ∧ W0.heap[w.heap.size + 1 + 1 + 1 + 1]? = some (.cells #[.int .i64 19, .int .i64 61, .int .i64 6] 3) := fun W0 h => by
  subst h
  refine ⟨by simp only [size_alloc], (((((((Below.refl _ _).alloc (by first | exact Nat.le_refl _ | (simp only [size_alloc]; omega)) _).alloc (by first | exact Nat.le_refl _ | (simp only [size_alloc]; omega)) _).alloc (by first | exact Nat.le_refl _ | (simp only [size_alloc]; omega)) _).alloc (by first | exact Nat.le_refl _ | (simp only [size_alloc]; omega)) _).alloc (by first | exact Nat.le_refl _ | (simp only [size_alloc]; omega)) _).alloc (by first | exact Nat.le_refl _ | (simp only [size_alloc]; omega)) _), ?_, ?_, ?_, ?_, ?_, ?_⟩ <;> (repeat (first | exact heap_new' _ _ _ (by simp only [size_alloc]; done) | exact heap_new' _ _ _ rfl | rw [heap_alloc_old _ _ (by simp only [size_alloc]; omega)]))
theorem of64 (w : World) : Calls Tryd.prog 64 #[.int .i64 64] w fun e w' => ∃ gA gB gC gD gK cK gF cF, e = .returned (.agg #[.int .i64 64, .int .i64 80, .slice (some ⟨gA, 0, none⟩) 3 3, .slice (some ⟨gB, 0, none⟩) 3 3, .slice (some ⟨gC, 0, none⟩) 3 3, .slice (some ⟨gD, 0, none⟩) 3 3, .slice (some ⟨gK, 0, none⟩) 80 cK, .slice (some ⟨gF, 0, none⟩) 8 cF]) ∧ Below w.heap.size w w' ∧
    Row3 w' gA 28 34 39 ∧ Row3 w' gB 14 18 41 ∧ Row3 w' gC 1 8 7 ∧ Row3 w' gD 19 61 6 ∧ Words w' gK 80 KS ∧ Words w' gF 8 HS := by
  have h39i : (Tryd.prog.info? 46).map (fun i => (i.zero, i.size, i.bytes)) = some (some (.int .u64 0), 1, 8) := by kernel_rfl
  obtain ⟨i0, hi0, hz0, hz1, hz2⟩ := info_parts h39i
  go_enter Tryd.func64, Tryd.ntmps64
  go_wp2_with fail
  refine (primes80 _).mono ?_
  rintro e w1 ⟨v, rfl, hb1, hown⟩
  obtain ⟨hs0, hbw, t0, t5, tA, tB, tC, tD⟩ := tow64 w _ rfl
  rw [hs0] at hown
  obtain ⟨gp, cp, rfl, hgp0, _⟩ := own_formT hown (by omega)
  have hpr : Ints w1 gp 80 PT := fun i hi => by rw [hown.cellAt i (by omega)]; simp [iv, show i < PT.length by rw [PT_len]; exact hi]
  have hgpl := (hown.lt gp rfl).2
  have hB1 : Below w.heap.size w w1 := hbw.trans (hb1.mono (by rw [hs0]; omega))
  have s0 := block_below hb1 (by rw [hs0]; omega) t0
  have s5 := block_below hb1 (by rw [hs0]; omega) t5
  have sA := block_below hb1 (by rw [hs0]; omega) tA
  have sB := block_below hb1 (by rw [hs0]; omega) tB
  have sC := block_below hb1 (by rw [hs0]; omega) tC
  have sD := block_below hb1 (by rw [hs0]; omega) tD
  have hs1 := hb1.size
  rw [hs0] at hs1
  clear hb1 hown t0 t5 tA tB tC tD hbw hs0
  generalize hP : w.heap.size + 1 + 1 + 1 + 1 + 1 = P at *
  generalize hgD : w.heap.size + 1 + 1 + 1 + 1 = gD at *
  generalize hgC : w.heap.size + 1 + 1 + 1 = gC at *
  generalize hgB : w.heap.size + 1 + 1 = gB at *
  generalize hgA : w.heap.size + 1 = gA at *
  obtain ⟨BB, hBB⟩ : ∃ x, x = w1.heap.size := ⟨_, rfl⟩
  have hfar : Far w BB P gA gB gC gD gp := ⟨by omega, by omega, by omega, by omega, by omega, by omega, by omega, by omega, by omega, by omega, by omega, by omega, by omega, by omega, by omega, by omega⟩
  have hR : RelO64 w w1 BB P gA gB gC gD gp (#[.int .i64 64, .int .i64 80, .slice (some ⟨gA, 0, none⟩) 3 3, .slice (some ⟨gB, 0, none⟩) 3 3, .slice (some ⟨gC, 0, none⟩) 3 3, .slice (some ⟨gD, 0, none⟩) 3 3, .slice none 0 0, .slice none 0 0]) := ⟨hB1, s0, s5, row3_of sA, row3_of sB, row3_of sC, row3_of sD, hpr, by omega⟩
  clear hB1 s0 s5 sA sB sC sD hpr hBB hgp0 hgpl hs1 hP hgD hgC hgB hgA
  go_wp2_with fail

  go_loopw [5] (fun v5 wr => ∃ i : Nat, i ≤ 80 ∧ v5 = .int .i64 (i : Int) ∧ ∃ vK, RelO64 w wr BB P gA gB gC gD gp (#[.int .i64 64, .int .i64 80, .slice (some ⟨gA, 0, none⟩) 3 3, .slice (some ⟨gB, 0, none⟩) 3 3, .slice (some ⟨gC, 0, none⟩) 3 3, .slice (some ⟨gD, 0, none⟩) 3 3, vK, (.slice none 0 0)]) ∧ wr.ownsRow BB 46 1 vK i (uv (KS.take i))) (fun i _ => 80 - (intOf i).toNat)
  case atStart => exact ⟨0, by omega, rfl, _, hR, World.ownsRow_nil _ _ _ _⟩
  case round =>
    clear hR
    obtain ⟨i, hi, rfl, vK, hR, hown⟩ := hrel
    have c1 := row_at hR.box 1 (.int .i64 80) rfl
    by_cases hlt : i < 80
    · obtain ⟨pi, hpi⟩ : ∃ x, x = PT.getD i 0 := ⟨_, rfl⟩
      obtain ⟨xi, hxi⟩ : ∃ x, x = KS.getD i 0 := ⟨_, rfl⟩
      obtain ⟨ki, hki⟩ : ∃ x, x = KS.getD i 0 := ⟨_, rfl⟩
      have hroot : ∀ w, Calls Tryd.prog 93 #[.int .i64 (pi : Int), .int .i64 3] w fun e w' => e = .returned (.int .u64 (xi : Int)) ∧ Below w.heap.size w w' := fun w => by rw [hpi, hxi]; exact root3_at i (by omega) w
      have htop : ∀ w, Calls Tryd.prog 92 #[.agg (#[.int .i64 64, .int .i64 80, .slice (some ⟨gA, 0, none⟩) 3 3, .slice (some ⟨gB, 0, none⟩) 3 3, .slice (some ⟨gC, 0, none⟩) 3 3, .slice (some ⟨gD, 0, none⟩) 3 3, vK, (.slice none 0 0)]), .int .u64 (xi : Int)] w fun e w' => e = .returned (.int .u64 (ki : Int)) ∧ Below w.heap.size w w' := fun w => by
        rw [hki, ← hxi]; exact topH64 _ _ _ _ _ _ xi w (by rw [hxi]; exact KS_lt i)
      have hpc : wr.cell? ⟨gp, i, none⟩ = some (.int .i64 (pi : Int)) := by rw [hpi]; exact hR.pr i (by omega)
      have HE : Hid (uv (KS.take i) ++ [.int .u64 (ki : Int)] = uv (KS.take (i + 1))) := by
        show uv (KS.take i) ++ [.int .u64 (ki : Int)] = uv (KS.take (i + 1))
        rw [take_snoc' (by show i < KS.length; rw [show KS.length = 80 from by kernel_rfl]; omega), ← hki]; simp [uv]
      clear hpi hxi hki
      have hsz : BB ≤ wr.heap.size := hR.sz
      have hbox : ∀ w', Below BB wr w' → w'.heap[P]? = some (.cells (#[.int .i64 64, .int .i64 80, .slice (some ⟨gA, 0, none⟩) 3 3, .slice (some ⟨gB, 0, none⟩) 3 3, .slice (some ⟨gC, 0, none⟩) 3 3, .slice (some ⟨gD, 0, none⟩) 3 3, vK, (.slice none 0 0)]) 93 (0, 0)) := fun w' hb => (hR.on hfar hb).box
      have hpx : ∀ w', Below BB wr w' → w'.cell? ⟨gp, i, none⟩ = some (.int .i64 (pi : Int)) := fun w' hb => (hb.cell (p := ⟨gp, i, none⟩) hfar.pp).trans hpc
      have h37 : (Tryd.prog.info? 93).map (·.size) = some 8 := by kernel_rfl
      have hlt1 := hown.lt
      have hS0 : Below BB wr wr.drew := (Below.refl _ _).drew
      go_wp2_with fail
      refine wp_region_Z (fun w' => Below BB wr w') 12 (by kernel_rfl) ?_
      show wpZ _ _ _ _ _ _ 13 (Array.replicate 13 false) _ wr.drew
      refine takeZ (i := 0) (some 26) _ rfl rfl (by kernel_rfl) (fun _ _ _ h => h) (yields_run (v := .pointer (some ⟨P, 6, none⟩)) rfl fun w' _ => field37_6 (x := .tmp 3) rfl rfl) hS0 ?_
      simp only [Act.put, List.setIfInBounds_toArray, List.set_cons_succ, List.set_cons_zero]
      refine takeZ (i := 1) (some 27) _ rfl rfl (by kernel_rfl) (fun _ _ _ h => h) (yields_run (v := vK) rfl fun w' hb => load35 (x := .tmp 26) rfl rfl (row_at (hbox w' hb) 6 _ rfl)) hS0 ?_
      simp only [Act.put, List.setIfInBounds_toArray, List.set_cons_succ, List.set_cons_zero]
      refine takeZ (i := 2) (some 28) _ rfl rfl (by kernel_rfl) (fun _ _ _ h => h) (yields_load_row rfl 93 (.tmp 3) rfl P rfl 93 (#[.int .i64 64, .int .i64 80, .slice (some ⟨gA, 0, none⟩) 3 3, .slice (some ⟨gB, 0, none⟩) 3 3, .slice (some ⟨gC, 0, none⟩) 3 3, .slice (some ⟨gD, 0, none⟩) 3 3, vK, (.slice none 0 0)]) (0, 0) _ (fun w' hb => hbox w' hb) Tryd.underlying93 rfl h37) hS0 ?_
      simp only [Act.put, List.setIfInBounds_toArray, List.set_cons_succ, List.set_cons_zero]
      refine takeZ (i := 3) (some 29) _ rfl rfl (by kernel_rfl) (fun _ _ _ h => h) (yields_move rfl (.tmp 4) rfl) hS0 ?_
      simp only [Act.put, List.setIfInBounds_toArray, List.set_cons_succ, List.set_cons_zero]
      refine takeZ (i := 4) (some 30) _ rfl rfl (by kernel_rfl) (fun _ _ _ h => h) (yields_move rfl (.tmp 5) rfl) hS0 ?_
      simp only [Act.put, List.setIfInBounds_toArray, List.set_cons_succ, List.set_cons_zero]
      refine takeZ (i := 5) (some 31) _ rfl rfl (by kernel_rfl) (fun _ _ _ h => h) (yields_run (v := .pointer (some ⟨gp, i, none⟩)) rfl fun w' _ => index34 (x := .tmp 29) (y := .tmp 30) (i := i) (cp := cp) rfl rfl rfl (by omega)) hS0 ?_
      simp only [Act.put, List.setIfInBounds_toArray, List.set_cons_succ, List.set_cons_zero]
      refine takeZ (i := 6) (some 32) _ rfl rfl (by kernel_rfl) (fun _ _ _ h => h) (yields_run (v := .int .i64 (pi : Int)) rfl fun w' hb => load3 (x := .tmp 31) rfl rfl (hpx w' hb)) hS0 ?_
      simp only [Act.put, List.setIfInBounds_toArray, List.set_cons_succ, List.set_cons_zero]
      refine oneZ (i := 7) (by kernel_rfl) ?_
      refine call_at (some 33) rfl rfl rfl 93 #[.int .i64 (pi : Int), .int .i64 3] (R := fun v w' => v = .int .u64 (xi : Int) ∧ Below wr.drew.heap.size wr.drew w') (by kernel_rfl) ((hroot _).mono fun e w' h => ⟨_, h.1, rfl, h.2⟩) ?_
      rintro v1 wq ⟨rfl, hbq⟩
      have hc1 : Below wr.heap.size wr wq := (Below.refl _ _).drew.trans hbq
      refine ⟨fun _ => hc1.mono hsz, ?_⟩
      simp only [Act.put, List.setIfInBounds_toArray, List.set_cons_succ, List.set_cons_zero]
      refine oneZ (i := 8) (by kernel_rfl) ?_
      refine call_at (some 34) rfl rfl rfl 92 #[.agg (#[.int .i64 64, .int .i64 80, .slice (some ⟨gA, 0, none⟩) 3 3, .slice (some ⟨gB, 0, none⟩) 3 3, .slice (some ⟨gC, 0, none⟩) 3 3, .slice (some ⟨gD, 0, none⟩) 3 3, vK, (.slice none 0 0)]), .int .u64 (xi : Int)] (R := fun v w' => v = .int .u64 (ki : Int) ∧ Below wq.heap.size wq w') (by kernel_rfl) ((htop _).mono fun e w' h => ⟨_, h.1, rfl, h.2⟩) ?_
      rintro v2 wp ⟨rfl, hbp⟩
      have hc2 : Below wr.heap.size wr wp := hc1.trans (hbp.mono hc1.size)
      have hcB : BB ≤ wp.heap.size := Nat.le_trans hsz hc2.size
      refine ⟨fun _ => hc2.mono hsz, ?_⟩
      simp only [Act.put, List.setIfInBounds_toArray, List.set_cons_succ, List.set_cons_zero]
      have hownc := own_onV hown hc2
      refine oneZ (i := 9) (by kernel_rfl) ?_
      refine new_at (some 35) (.slice (some ⟨wp.heap.size, 0, none⟩) 1 1) (.cells #[.int .u64 (ki : Int)] 46) rfl rfl rfl (build35 (x := .tmp 34) rfl rfl) ?_
      refine ⟨fun _ => (hc2.mono hsz).alloc hcB _, ?_⟩
      simp only [Act.put, List.setIfInBounds_toArray, List.set_cons_succ, List.set_cons_zero]
      refine oneZ (i := 10) (by kernel_rfl) ?_
      refine wpOp_of_wp rfl rfl (wp_append_lies _ (.tmp 27) (.tmp 35) 91 rfl BB 46 i0 (.int .u64 0) 1 8 Tryd.underlying91 hi0 hz0 hz1 hz2 rfl (by decide) vK i _ rfl (hownc.alloc _) ⟨wp.heap.size, 0, none⟩ 1 1 [.int .u64 (ki : Int)] rfl rfl (Hnews_one _ _ _) one_word (by omega) (by unfold maxLen; omega) (by omega) (by simp; omega) _ rfl ?_)
      intro ga ca wa howna hgrowa hata hlta
      have hca : Below BB wr wa := ((hc2.mono hsz).alloc hcB _).grown hgrowa (by simp; omega) (fun k hk => (hlt1 k hk).1)
      refine ⟨fun _ => hca, ?_⟩
      have e10 : ∀ (a : Act) (v : Value), a.put (some 36) v = a.put (some 36) v := fun _ _ => rfl
      show wpZ _ _ _ _ _ _ _ _ (Act.put _ (some 36) _) _
      simp only [Act.put, List.setIfInBounds_toArray, List.set_cons_succ, List.set_cons_zero]
      refine oneZ (i := 11) (by kernel_rfl) ?_
      refine run_at (some 37) (.pointer (some ⟨P, 6, none⟩)) rfl rfl rfl (field37_6 (x := .tmp 3) rfl rfl) ?_
      refine ⟨fun _ => hca, ?_⟩
      simp only [Act.put, List.setIfInBounds_toArray, List.set_cons_succ, List.set_cons_zero]
      have hcx := row_at (hbox wa hca) 6 vK rfl
      have hfx := free_ints (hbox wa hca) 6
      refine oneZ (i := 12) (by kernel_rfl) ?_
      refine store1_at (.slice (some ⟨ga, 0, none⟩) (i + 1) ca) rfl rfl rfl (store35 (x := .tmp 37) (y := .tmp 36) rfl rfl rfl hcx hfx) ?_
      refine ⟨fun h => absurd rfl h, doneZ (by kernel_rfl) ?_ _⟩
      rw [HE.out] at howna
      have hRn := (hR.on hfar hca).store hfar 6 (.slice (some ⟨ga, 0, none⟩) (i + 1) ca)
      have hon := own_set howna hfar.pb 6 (.slice (some ⟨ga, 0, none⟩) (i + 1) ca)
      
      clear hcx hfx hownc hgrowa hata hlta hc1 hc2 hbp hbq hcB hbox hpx hS0 e10
      go_wp2_with fail
      go_roundw
      case rel => first | exact ⟨i + 1, by omega, by go_num, _, hRn, hon⟩ | ((repeat apply Exists.intro); exact ⟨⟨i + 1, by omega, by go_num, _, hRn, hon⟩, rfl⟩)
      case measure => simp [intOf]; omega
    · obtain rfl : i = 80 := by omega

      obtain ⟨gK, cK, rfl, _, _⟩ := own_form hown (by omega)
      have hKw : Words wr gK 80 KS := words_of hown (by show 80 ≤ KS.length; exact Nat.le_of_eq (by kernel_rfl))
      obtain ⟨hKl, hKu⟩ := hown.lt gK rfl
      obtain ⟨BC, hBC⟩ : ∃ x, x = wr.heap.size := ⟨_, rfl⟩
      have hgKB : gK < BC := by rw [hBC]; exact hKu
      have hgKP : gK ≠ P := by have := hfar.pb; omega
      have hgKW : gK ≠ w.heap.size := by have := hfar.pb; have := hfar.wp; omega
      have hle : BB ≤ BC := by rw [hBC]; exact hR.sz
      have hR := hR.base (Nat.le_of_eq hBC)
      have hfar := hfar.mono hle
      clear hown hKl hKu hBC hle
      go_wp2_with fail
      clear c1

      go_loopw [6] (fun v5 wr => ∃ i : Nat, i ≤ 8 ∧ v5 = .int .i64 (i : Int) ∧ ∃ vK, RelO64 w wr BC P gA gB gC gD gp (#[.int .i64 64, .int .i64 80, .slice (some ⟨gA, 0, none⟩) 3 3, .slice (some ⟨gB, 0, none⟩) 3 3, .slice (some ⟨gC, 0, none⟩) 3 3, .slice (some ⟨gD, 0, none⟩) 3 3, (.slice (some ⟨gK, 0, none⟩) 80 cK), vK]) ∧ Words wr gK 80 KS ∧ wr.ownsRow BC 46 1 vK i (uv (HS.take i))) (fun i _ => 8 - (intOf i).toNat)
      case atStart => exact ⟨0, by omega, rfl, _, hR, hKw, World.ownsRow_nil _ _ _ _⟩
      case round =>
        clear hR hKw
        obtain ⟨i, hi, rfl, vK, hR, hKw, hown⟩ := hrel
        have c1 := row_at hR.box 1 (.int .i64 80) rfl
        by_cases hlt : i < 8
        · obtain ⟨pi, hpi⟩ : ∃ x, x = PT.getD i 0 := ⟨_, rfl⟩
          obtain ⟨xi, hxi⟩ : ∃ x, x = HS.getD i 0 := ⟨_, rfl⟩
          obtain ⟨ki, hki⟩ : ∃ x, x = HS.getD i 0 := ⟨_, rfl⟩
          have hroot : ∀ w, Calls Tryd.prog 93 #[.int .i64 (pi : Int), .int .i64 2] w fun e w' => e = .returned (.int .u64 (xi : Int)) ∧ Below w.heap.size w w' := fun w => by rw [hpi, hxi]; exact root2_at i (by omega) w
          have htop : ∀ w, Calls Tryd.prog 92 #[.agg (#[.int .i64 64, .int .i64 80, .slice (some ⟨gA, 0, none⟩) 3 3, .slice (some ⟨gB, 0, none⟩) 3 3, .slice (some ⟨gC, 0, none⟩) 3 3, .slice (some ⟨gD, 0, none⟩) 3 3, (.slice (some ⟨gK, 0, none⟩) 80 cK), vK]), .int .u64 (xi : Int)] w fun e w' => e = .returned (.int .u64 (ki : Int)) ∧ Below w.heap.size w w' := fun w => by
            rw [hki, ← hxi]; exact topH64 _ _ _ _ _ _ xi w (by rw [hxi]; exact HS_lt i)
          have hpc : wr.cell? ⟨gp, i, none⟩ = some (.int .i64 (pi : Int)) := by rw [hpi]; exact hR.pr i (by omega)
          have HE : Hid (uv (HS.take i) ++ [.int .u64 (ki : Int)] = uv (HS.take (i + 1))) := by
            show uv (HS.take i) ++ [.int .u64 (ki : Int)] = uv (HS.take (i + 1))
            rw [take_snoc' (by show i < HS.length; rw [show HS.length = 8 from by kernel_rfl]; omega), ← hki]; simp [uv]
          clear hpi hxi hki
          have hsz : BC ≤ wr.heap.size := hR.sz
          have hbox : ∀ w', Below BC wr w' → w'.heap[P]? = some (.cells (#[.int .i64 64, .int .i64 80, .slice (some ⟨gA, 0, none⟩) 3 3, .slice (some ⟨gB, 0, none⟩) 3 3, .slice (some ⟨gC, 0, none⟩) 3 3, .slice (some ⟨gD, 0, none⟩) 3 3, (.slice (some ⟨gK, 0, none⟩) 80 cK), vK]) 93 (0, 0)) := fun w' hb => (hR.on hfar hb).box
          have hpx : ∀ w', Below BC wr w' → w'.cell? ⟨gp, i, none⟩ = some (.int .i64 (pi : Int)) := fun w' hb => (hb.cell (p := ⟨gp, i, none⟩) hfar.pp).trans hpc
          have h37 : (Tryd.prog.info? 93).map (·.size) = some 8 := by kernel_rfl
          have hlt1 := hown.lt
          have hS0 : Below BC wr wr.drew := (Below.refl _ _).drew
          go_wp2_with fail
          refine wp_region_Z (fun w' => Below BC wr w') 12 (by kernel_rfl) ?_
          show wpZ _ _ _ _ _ _ 13 (Array.replicate 13 false) _ wr.drew
          refine takeZ (i := 0) (some 42) _ rfl rfl (by kernel_rfl) (fun _ _ _ h => h) (yields_run (v := .pointer (some ⟨P, 7, none⟩)) rfl fun w' _ => field37_7 (x := .tmp 3) rfl rfl) hS0 ?_
          simp only [Act.put, List.setIfInBounds_toArray, List.set_cons_succ, List.set_cons_zero]
          refine takeZ (i := 1) (some 43) _ rfl rfl (by kernel_rfl) (fun _ _ _ h => h) (yields_run (v := vK) rfl fun w' hb => load35 (x := .tmp 42) rfl rfl (row_at (hbox w' hb) 7 _ rfl)) hS0 ?_
          simp only [Act.put, List.setIfInBounds_toArray, List.set_cons_succ, List.set_cons_zero]
          refine takeZ (i := 2) (some 44) _ rfl rfl (by kernel_rfl) (fun _ _ _ h => h) (yields_load_row rfl 93 (.tmp 3) rfl P rfl 93 (#[.int .i64 64, .int .i64 80, .slice (some ⟨gA, 0, none⟩) 3 3, .slice (some ⟨gB, 0, none⟩) 3 3, .slice (some ⟨gC, 0, none⟩) 3 3, .slice (some ⟨gD, 0, none⟩) 3 3, (.slice (some ⟨gK, 0, none⟩) 80 cK), vK]) (0, 0) _ (fun w' hb => hbox w' hb) Tryd.underlying93 rfl h37) hS0 ?_
          simp only [Act.put, List.setIfInBounds_toArray, List.set_cons_succ, List.set_cons_zero]
          refine takeZ (i := 3) (some 45) _ rfl rfl (by kernel_rfl) (fun _ _ _ h => h) (yields_move rfl (.tmp 4) rfl) hS0 ?_
          simp only [Act.put, List.setIfInBounds_toArray, List.set_cons_succ, List.set_cons_zero]
          refine takeZ (i := 4) (some 46) _ rfl rfl (by kernel_rfl) (fun _ _ _ h => h) (yields_move rfl (.tmp 6) rfl) hS0 ?_
          simp only [Act.put, List.setIfInBounds_toArray, List.set_cons_succ, List.set_cons_zero]
          refine takeZ (i := 5) (some 47) _ rfl rfl (by kernel_rfl) (fun _ _ _ h => h) (yields_run (v := .pointer (some ⟨gp, i, none⟩)) rfl fun w' _ => index34 (x := .tmp 45) (y := .tmp 46) (i := i) (cp := cp) rfl rfl rfl (by omega)) hS0 ?_
          simp only [Act.put, List.setIfInBounds_toArray, List.set_cons_succ, List.set_cons_zero]
          refine takeZ (i := 6) (some 48) _ rfl rfl (by kernel_rfl) (fun _ _ _ h => h) (yields_run (v := .int .i64 (pi : Int)) rfl fun w' hb => load3 (x := .tmp 47) rfl rfl (hpx w' hb)) hS0 ?_
          simp only [Act.put, List.setIfInBounds_toArray, List.set_cons_succ, List.set_cons_zero]
          refine oneZ (i := 7) (by kernel_rfl) ?_
          refine call_at (some 49) rfl rfl rfl 93 #[.int .i64 (pi : Int), .int .i64 2] (R := fun v w' => v = .int .u64 (xi : Int) ∧ Below wr.drew.heap.size wr.drew w') (by kernel_rfl) ((hroot _).mono fun e w' h => ⟨_, h.1, rfl, h.2⟩) ?_
          rintro v1 wq ⟨rfl, hbq⟩
          have hc1 : Below wr.heap.size wr wq := (Below.refl _ _).drew.trans hbq
          refine ⟨fun _ => hc1.mono hsz, ?_⟩
          simp only [Act.put, List.setIfInBounds_toArray, List.set_cons_succ, List.set_cons_zero]
          refine oneZ (i := 8) (by kernel_rfl) ?_
          refine call_at (some 50) rfl rfl rfl 92 #[.agg (#[.int .i64 64, .int .i64 80, .slice (some ⟨gA, 0, none⟩) 3 3, .slice (some ⟨gB, 0, none⟩) 3 3, .slice (some ⟨gC, 0, none⟩) 3 3, .slice (some ⟨gD, 0, none⟩) 3 3, (.slice (some ⟨gK, 0, none⟩) 80 cK), vK]), .int .u64 (xi : Int)] (R := fun v w' => v = .int .u64 (ki : Int) ∧ Below wq.heap.size wq w') (by kernel_rfl) ((htop _).mono fun e w' h => ⟨_, h.1, rfl, h.2⟩) ?_
          rintro v2 wp ⟨rfl, hbp⟩
          have hc2 : Below wr.heap.size wr wp := hc1.trans (hbp.mono hc1.size)
          have hcB : BC ≤ wp.heap.size := Nat.le_trans hsz hc2.size
          refine ⟨fun _ => hc2.mono hsz, ?_⟩
          simp only [Act.put, List.setIfInBounds_toArray, List.set_cons_succ, List.set_cons_zero]
          have hownc := own_onV hown hc2
          refine oneZ (i := 9) (by kernel_rfl) ?_
          refine new_at (some 51) (.slice (some ⟨wp.heap.size, 0, none⟩) 1 1) (.cells #[.int .u64 (ki : Int)] 46) rfl rfl rfl (build35 (x := .tmp 50) rfl rfl) ?_
          refine ⟨fun _ => (hc2.mono hsz).alloc hcB _, ?_⟩
          simp only [Act.put, List.setIfInBounds_toArray, List.set_cons_succ, List.set_cons_zero]
          refine oneZ (i := 10) (by kernel_rfl) ?_
          refine wpOp_of_wp rfl rfl (wp_append_lies _ (.tmp 43) (.tmp 51) 91 rfl BC 46 i0 (.int .u64 0) 1 8 Tryd.underlying91 hi0 hz0 hz1 hz2 rfl (by decide) vK i _ rfl (hownc.alloc _) ⟨wp.heap.size, 0, none⟩ 1 1 [.int .u64 (ki : Int)] rfl rfl (Hnews_one _ _ _) one_word (by omega) (by unfold maxLen; omega) (by omega) (by simp; omega) _ rfl ?_)
          intro ga ca wa howna hgrowa hata hlta
          have hca : Below BC wr wa := ((hc2.mono hsz).alloc hcB _).grown hgrowa (by simp; omega) (fun k hk => (hlt1 k hk).1)
          refine ⟨fun _ => hca, ?_⟩
          have e10 : ∀ (a : Act) (v : Value), a.put (some 52) v = a.put (some 52) v := fun _ _ => rfl
          show wpZ _ _ _ _ _ _ _ _ (Act.put _ (some 52) _) _
          simp only [Act.put, List.setIfInBounds_toArray, List.set_cons_succ, List.set_cons_zero]
          refine oneZ (i := 11) (by kernel_rfl) ?_
          refine run_at (some 53) (.pointer (some ⟨P, 7, none⟩)) rfl rfl rfl (field37_7 (x := .tmp 3) rfl rfl) ?_
          refine ⟨fun _ => hca, ?_⟩
          simp only [Act.put, List.setIfInBounds_toArray, List.set_cons_succ, List.set_cons_zero]
          have hcx := row_at (hbox wa hca) 7 vK rfl
          have hfx := free_ints (hbox wa hca) 7
          refine oneZ (i := 12) (by kernel_rfl) ?_
          refine store1_at (.slice (some ⟨ga, 0, none⟩) (i + 1) ca) rfl rfl rfl (store35 (x := .tmp 53) (y := .tmp 52) rfl rfl rfl hcx hfx) ?_
          refine ⟨fun h => absurd rfl h, doneZ (by kernel_rfl) ?_ _⟩
          rw [HE.out] at howna
          have hRn := (hR.on hfar hca).store hfar 7 (.slice (some ⟨ga, 0, none⟩) (i + 1) ca)
          have hon := own_set howna hfar.pb 7 (.slice (some ⟨ga, 0, none⟩) (i + 1) ca)
          have hKn := words_set (hKw.onB hgKB hca) hgKP 7 (.slice (some ⟨ga, 0, none⟩) (i + 1) ca)
          clear hcx hfx hownc hgrowa hata hlta hc1 hc2 hbp hbq hcB hbox hpx hS0 e10
          go_wp2_with fail
          go_roundw
          case rel => first | exact ⟨i + 1, by omega, by go_num, _, hRn, hKn, hon⟩ | ((repeat apply Exists.intro); exact ⟨⟨i + 1, by omega, by go_num, _, hRn, hKn, hon⟩, rfl⟩)
          case measure => simp [intOf]; omega
        · obtain rfl : i = 8 := by omega

          obtain ⟨gF, cF, rfl, _, _⟩ := own_form hown (by omega)
          have hFw : Words wr gF 8 HS := words_of hown (by show 8 ≤ HS.length; exact Nat.le_of_eq (by kernel_rfl))
          have hFl := (hown.lt gF rfl).1
          have hwF : gF ≠ w.heap.size := by have := hfar.wp; have := hfar.pb; omega
          clear hown hFl c1
          have bx0 := row_at hR.box 0 _ rfl
          have bx1 := row_at hR.box 1 _ rfl
          have bx2 := row_at hR.box 2 _ rfl
          have bx3 := row_at hR.box 3 _ rfl
          have bx4 := row_at hR.box 4 _ rfl
          have bx5 := row_at hR.box 5 _ rfl
          have bx6 := row_at hR.box 6 _ rfl
          have bx7 := row_at hR.box 7 _ rfl
          have rx0 := row_at hR.res 0 _ rfl
          have rx1 := row_at hR.res 1 _ rfl
          have rx2 := row_at hR.res 2 _ rfl
          have rx3 := row_at hR.res 3 _ rfl
          have rx4 := row_at hR.res 4 _ rfl
          have rx5 := row_at hR.res 5 _ rfl
          have rx6 := row_at hR.res 6 _ rfl
          have rx7 := row_at hR.res 7 _ rfl
          have fx0 := free_ints hR.res 0
          have fx1 := free_ints hR.res 1
          have fx2 := free_ints hR.res 2
          have fx3 := free_ints hR.res 3
          have fx4 := free_ints hR.res 4
          have fx5 := free_ints hR.res 5
          have fx6 := free_ints hR.res 6
          have fx7 := free_ints hR.res 7
          go_wp2_with fail
          obtain ⟨Wf, hWf⟩ : ∃ x, x = ((((((((wr.setCell ⟨w.heap.size, 0, none⟩ (.int .i64 64)).setCell ⟨w.heap.size, 1, none⟩ (.int .i64 80)).setCell ⟨w.heap.size, 2, none⟩ (.slice (some ⟨gA, 0, none⟩) 3 3)).setCell ⟨w.heap.size, 3, none⟩ (.slice (some ⟨gB, 0, none⟩) 3 3)).setCell ⟨w.heap.size, 4, none⟩ (.slice (some ⟨gC, 0, none⟩) 3 3)).setCell ⟨w.heap.size, 5, none⟩ (.slice (some ⟨gD, 0, none⟩) 3 3)).setCell ⟨w.heap.size, 6, none⟩ (.slice (some ⟨gK, 0, none⟩) 80 cK)).setCell ⟨w.heap.size, 7, none⟩ (.slice (some ⟨gF, 0, none⟩) 8 cF)) := ⟨_, rfl⟩
          rw [← hWf]
          have z0 : Below w.heap.size w Wf := by rw [hWf]; exact (Below.setCell (Below.setCell (Below.setCell (Below.setCell (Below.setCell (Below.setCell (Below.setCell (Below.setCell hR.bl (p := ⟨w.heap.size, 0, none⟩) (Nat.le_refl _) (.int .i64 64)) (p := ⟨w.heap.size, 1, none⟩) (Nat.le_refl _) (.int .i64 80)) (p := ⟨w.heap.size, 2, none⟩) (Nat.le_refl _) (.slice (some ⟨gA, 0, none⟩) 3 3)) (p := ⟨w.heap.size, 3, none⟩) (Nat.le_refl _) (.slice (some ⟨gB, 0, none⟩) 3 3)) (p := ⟨w.heap.size, 4, none⟩) (Nat.le_refl _) (.slice (some ⟨gC, 0, none⟩) 3 3)) (p := ⟨w.heap.size, 5, none⟩) (Nat.le_refl _) (.slice (some ⟨gD, 0, none⟩) 3 3)) (p := ⟨w.heap.size, 6, none⟩) (Nat.le_refl _) (.slice (some ⟨gK, 0, none⟩) 80 cK)) (p := ⟨w.heap.size, 7, none⟩) (Nat.le_refl _) (.slice (some ⟨gF, 0, none⟩) 8 cF))
          have z1 : Row3 Wf gA 28 34 39 := by rw [hWf]; exact ((((((((hR.rA.set hfar.xa 0 (.int .i64 64)).set hfar.xa 1 (.int .i64 80)).set hfar.xa 2 (.slice (some ⟨gA, 0, none⟩) 3 3)).set hfar.xa 3 (.slice (some ⟨gB, 0, none⟩) 3 3)).set hfar.xa 4 (.slice (some ⟨gC, 0, none⟩) 3 3)).set hfar.xa 5 (.slice (some ⟨gD, 0, none⟩) 3 3)).set hfar.xa 6 (.slice (some ⟨gK, 0, none⟩) 80 cK)).set hfar.xa 7 (.slice (some ⟨gF, 0, none⟩) 8 cF))
          have z2 : Row3 Wf gB 14 18 41 := by rw [hWf]; exact ((((((((hR.rB.set hfar.xb 0 (.int .i64 64)).set hfar.xb 1 (.int .i64 80)).set hfar.xb 2 (.slice (some ⟨gA, 0, none⟩) 3 3)).set hfar.xb 3 (.slice (some ⟨gB, 0, none⟩) 3 3)).set hfar.xb 4 (.slice (some ⟨gC, 0, none⟩) 3 3)).set hfar.xb 5 (.slice (some ⟨gD, 0, none⟩) 3 3)).set hfar.xb 6 (.slice (some ⟨gK, 0, none⟩) 80 cK)).set hfar.xb 7 (.slice (some ⟨gF, 0, none⟩) 8 cF))
          have z3 : Row3 Wf gC 1 8 7 := by rw [hWf]; exact ((((((((hR.rC.set hfar.xc 0 (.int .i64 64)).set hfar.xc 1 (.int .i64 80)).set hfar.xc 2 (.slice (some ⟨gA, 0, none⟩) 3 3)).set hfar.xc 3 (.slice (some ⟨gB, 0, none⟩) 3 3)).set hfar.xc 4 (.slice (some ⟨gC, 0, none⟩) 3 3)).set hfar.xc 5 (.slice (some ⟨gD, 0, none⟩) 3 3)).set hfar.xc 6 (.slice (some ⟨gK, 0, none⟩) 80 cK)).set hfar.xc 7 (.slice (some ⟨gF, 0, none⟩) 8 cF))
          have z4 : Row3 Wf gD 19 61 6 := by rw [hWf]; exact ((((((((hR.rD.set hfar.xd 0 (.int .i64 64)).set hfar.xd 1 (.int .i64 80)).set hfar.xd 2 (.slice (some ⟨gA, 0, none⟩) 3 3)).set hfar.xd 3 (.slice (some ⟨gB, 0, none⟩) 3 3)).set hfar.xd 4 (.slice (some ⟨gC, 0, none⟩) 3 3)).set hfar.xd 5 (.slice (some ⟨gD, 0, none⟩) 3 3)).set hfar.xd 6 (.slice (some ⟨gK, 0, none⟩) 80 cK)).set hfar.xd 7 (.slice (some ⟨gF, 0, none⟩) 8 cF))
          have z5 : Words Wf gK 80 KS := by rw [hWf]; exact (words_set (words_set (words_set (words_set (words_set (words_set (words_set (words_set hKw hgKW 0 (.int .i64 64)) hgKW 1 (.int .i64 80)) hgKW 2 (.slice (some ⟨gA, 0, none⟩) 3 3)) hgKW 3 (.slice (some ⟨gB, 0, none⟩) 3 3)) hgKW 4 (.slice (some ⟨gC, 0, none⟩) 3 3)) hgKW 5 (.slice (some ⟨gD, 0, none⟩) 3 3)) hgKW 6 (.slice (some ⟨gK, 0, none⟩) 80 cK)) hgKW 7 (.slice (some ⟨gF, 0, none⟩) 8 cF))
          have z6 : Words Wf gF 8 HS := by rw [hWf]; exact (words_set (words_set (words_set (words_set (words_set (words_set (words_set (words_set hFw hwF 0 (.int .i64 64)) hwF 1 (.int .i64 80)) hwF 2 (.slice (some ⟨gA, 0, none⟩) 3 3)) hwF 3 (.slice (some ⟨gB, 0, none⟩) 3 3)) hwF 4 (.slice (some ⟨gC, 0, none⟩) 3 3)) hwF 5 (.slice (some ⟨gD, 0, none⟩) 3 3)) hwF 6 (.slice (some ⟨gK, 0, none⟩) 80 cK)) hwF 7 (.slice (some ⟨gF, 0, none⟩) 8 cF))
          have hfin : Wf.heap[w.heap.size]? = some (.cells (#[.int .i64 64, .int .i64 80, .slice (some ⟨gA, 0, none⟩) 3 3, .slice (some ⟨gB, 0, none⟩) 3 3, .slice (some ⟨gC, 0, none⟩) 3 3, .slice (some ⟨gD, 0, none⟩) 3 3, .slice (some ⟨gK, 0, none⟩) 80 cK, .slice (some ⟨gF, 0, none⟩) 8 cF]) 93 (0, 0)) := by
            rw [hWf]; exact (heap_setCell_same _ _ 7 _ _ (.slice (some ⟨gF, 0, none⟩) 8 cF) (heap_setCell_same _ _ 6 _ _ (.slice (some ⟨gK, 0, none⟩) 80 cK) (heap_setCell_same _ _ 5 _ _ (.slice (some ⟨gD, 0, none⟩) 3 3) (heap_setCell_same _ _ 4 _ _ (.slice (some ⟨gC, 0, none⟩) 3 3) (heap_setCell_same _ _ 3 _ _ (.slice (some ⟨gB, 0, none⟩) 3 3) (heap_setCell_same _ _ 2 _ _ (.slice (some ⟨gA, 0, none⟩) 3 3) (heap_setCell_same _ _ 1 _ _ (.int .i64 80) (heap_setCell_same _ _ 0 _ _ (.int .i64 64) hR.res))))))))
          have y0 := row_at hfin 0 _ rfl
          have y1 := row_at hfin 1 _ rfl
          have y2 := row_at hfin 2 _ rfl
          have y3 := row_at hfin 3 _ rfl
          have y4 := row_at hfin 4 _ rfl
          have y5 := row_at hfin 5 _ rfl
          have y6 := row_at hfin 6 _ rfl
          have y7 := row_at hfin 7 _ rfl
          clear hWf bx0 bx1 bx2 bx3 bx4 bx5 bx6 bx7 rx0 rx1 rx2 rx3 rx4 rx5 rx6 rx7 fx0 fx1 fx2 fx3 fx4 fx5 fx6 fx7
          (try simp only [Exit.inBlock, Exit.then])
          refine bodyPost_ret (by simp [results, Tryd.results64, go_sem, y0, y1, y2, y3, y4, y5, y6, y7]; try rfl) rfl ?_
          exact ⟨gA, gB, gC, gD, gK, cK, gF, cF, rfl, z0, z1, z2, z3, z4, z5, z6⟩
end SR
end Go.Proofs.YtabgihjffjlfiaaDoor
set_option linter.unusedVariables false
namespace Go.Proofs.YtabgihjffjlfiaaDoor
namespace SR
open Go.RowKit Go.Sort Go.BigFrame
set_option maxRecDepth 100000
set_option maxHeartbeats 2000000
theorem KS_b : ∀ j, KS.getD j 0 < 18446744073709551616 := KS_lt
theorem HS_b : ∀ j, HS.getD j 0 < 18446744073709551616 := HS_lt
theorem own_len {w : World} {B n : Nat} {v : Value} {l : List Nat} (h : w.ownsRow B 5 1 v n (Hbv l)) : l.length = n := by
  have := h.1
  simp [Hbv] at this
  exact this
theorem view_own {w : World} {B g n c : Nat} {l : List Nat} (h : w.ownsRow B 5 1 (.slice (some ⟨g, 0, none⟩) n c) n (Hbv l)) : View w (some ⟨g, 0, none⟩) l := fun _ =>
  ⟨g, 0, rfl, fun i hi => by
    have hl := own_len h
    rw [Nat.zero_add, h.cellAt i (by omega)]; simp [Hbv, hi]⟩

theorem digQ64_dig (bs : List Nat) (hL : bs.length ≤ 100000000000000) : digQ64 KS HS bs = dig sh64 HS KS bs := by
  have h8 : 8 * bs.length < 256 ^ 8 := by have : (256 : Nat) ^ 8 = 18446744073709551616 := by decide
                                          omega
  rw [← digR_dig sh64 HS KS bs (by decide) h8]
  unfold digQ64 digR
  rw [blksR_blks sh64 KS KS HS _ (fun t ht => by simp [sh64])]
  rfl
theorem rsum512 (ad : Option Addr) (L cap : Nat) (bs : List Nat) (w : World) (hlen : bs.length = L) (hb256 : ∀ j, bs.getD j 0 < 256) (hL : L ≤ 100000000000000) (hv : View w ad bs) :
    Calls Tryd.prog 39 #[.slice ad L cap] w fun e w' => ∃ v, e = .returned v ∧ ∃ base, w.heap.size ≤ base ∧ Below w.heap.size w w' ∧ w'.ownsRow base 5 1 v 64 (Hbv (dig sh64 HS KS bs)) := by
  have hq := digQ64_dig bs (by omega)
  have HLEN : Hid (bs.length = L) := hlen
  clear hlen
  go_enter Tryd.func39, Tryd.ntmps39
  go_wp2_with fail
  refine (of64 _).mono ?_
  rintro e w1 ⟨gA, gB, gC, gD, gK, cK, gF, cF, rfl, hb1, rA, rB, rC, rD, hK, hF⟩
  go_wp2_with fail
  have hbb := fun o => below1 w1 o
  refine (refsum64 gA 3 gB 3 gC 3 gD 3 gK cK gF cF ad L cap bs KS HS _ HLEN.out hb256 hL ((hv.below hb1).below (hbb _)) (rA.below (hbb _)) (rB.below (hbb _)) (rC.below (hbb _)) (rD.below (hbb _)) (hK.on (hbb _)) KS_b (hF.on (hbb _)) (by kernel_rfl) HS_b).mono ?_
  rintro e w2 ⟨v, rfl, base, hbs, hb2, hown⟩
  rw [hq] at hown
  have hbf : Below w.heap.size w w2 := (hb1.alloc hb1.size _).trans (hb2.mono (by have := hb1.size; simp; omega))
  go_wp2
  go_ret
  exact ⟨v, rfl, base, by have := hb1.size; simp at hbs; omega, hbf, hown⟩
end SR
end Go.Proofs.YtabgihjffjlfiaaDoor
set_option linter.unusedVariables false
namespace Go.Proofs.YtabgihjffjlfiaaDoor
open Go.RowKit Go.Sort Go.BigFrame EN
set_option maxRecDepth 100000
set_option maxHeartbeats 4000000
theorem rSum512 {v : Value} {l : List Nat} (w : World) (h : Bts l v w) (hd : Dig l) (hl : l.length ≤ 100000) : Ret 39 #[v] w (OwnC w.heap.size (SH l)) := by
  obtain ⟨a, cap, rfl, h1, h2, hv⟩ := h
  refine (SR.rsum512 a l.length cap l w rfl hd (by omega) hv).mono ?_
  rintro e w' ⟨v, rfl, base, hb, hB, ho⟩
  exact ⟨_, rfl, hB, OwnC.lo (own_C (SH_len l) (by omega) ho) hb⟩
theorem cut0 (g cap h : Nat) (w : World) (hh : h ≤ cap) : (Instr.sliceAt 22 (.slice (some ⟨g, 0, none⟩) 64 cap) none (some (.int .i64 (h : Int))) none).run Tryd.prog w = .ok (.slice (some ⟨g, 0, none⟩) h cap) w := by
  rw [run_cut_h _ _ _ _ _ hh]
  unfold cutA
  split <;> rfl
theorem cutL (g cap : Nat) (w : World) (hh : 64 ≤ cap) : (Instr.sliceAt 22 (.slice (some ⟨g, 0, none⟩) 64 cap) (some (.int .i64 32)) none none).run Tryd.prog w = .ok (.slice (some ⟨g, 32, none⟩) 32 (cap - 32)) w := by
  have h := run_cut_l (some ⟨g, 0, none⟩) 64 cap 32 w (by omega)
  unfold cutA at h
  rw [if_neg (by omega)] at h
  exact h
theorem rSecret {v : Value} {l : List Nat} (w : World) (h : Bts l v w) (hd : Dig l) (hl : l.length ≤ 100000) : Ret 19 #[v] w (Tup2 (Bts (SEC l)) (Bts (PRE l))) := by
  have hS := rSum512 w h hd hl
  obtain ⟨D, hD⟩ : ∃ D, D = SH l := ⟨_, rfl⟩
  have hDl : D.length = 64 := by rw [hD]; exact SH_len l
  have hDd : Dig D := by rw [hD]; exact SH_dig l
  have HD : Hid (D = SH l) := hD
  rw [← hD] at hS
  clear hD
  unfold Ret
  go_enter Tryd.func19, Tryd.ntmps19
  go_wp2_with fail
  refine hS.mono ?_
  rintro e w3 ⟨v2, rfl, hB13, g, cap, cur, rfl, hg, hrow3, hc, hc2, hcur⟩
  rw [hDl] at hc hcur ⊢
  clear hS
  obtain ⟨d0, hd0⟩ : ∃ d0, d0 = D.getD 0 0 := ⟨_, rfl⟩
  obtain ⟨d31, hd31⟩ : ∃ d31, d31 = D.getD 31 0 := ⟨_, rfl⟩
  have h0 : d0 < 256 := by rw [hd0]; exact hDd 0
  have h31 : d31 < 256 := by rw [hd31]; exact hDd 31
  have c0 := cell_of_row _ g 0 _ _ _ hrow3
  rw [hcur 0 (by omega), ← hd0] at c0
  have f0 := frozen_of_row _ g 0 _ _ hrow3
  obtain ⟨e0, he0⟩ : ∃ e0, e0 = d0 - d0 % 8 := ⟨_, rfl⟩
  obtain ⟨e31, he31⟩ : ∃ e31, e31 = d31 % 64 + 64 := ⟨_, rfl⟩
  have hlg := lt_of_heap hrow3
  have x0 : (d0 : Int) - (d0 : Int) % 8 = (e0 : Int) := by omega
  have x31 : (d31 : Int) % 64 + 64 = (e31 : Int) := by omega
  have y0 : e0 < 256 := by omega
  have y31 : e31 < 256 := by omega
  have HE : Hid (e0 = d0 - d0 % 8 ∧ d0 = D.getD 0 0 ∧ e31 = d31 % 64 + 64 ∧ d31 = D.getD 31 0) := ⟨he0, hd0, he31, hd31⟩
  have HD31 : Hid (d31 = D.getD 31 0) := hd31
  clear he0 hd0 he31 hd31
  obtain ⟨s1, s2⟩ := cur_set (l := D) hrow3 (by rw [hDl]; exact hcur) 0 e0 (by omega)
  obtain ⟨w4, hw4⟩ : ∃ w4, w4 = (w3.setCell ⟨g, 0, none⟩ (.int .u8 (e0 : Int))).drew := ⟨_, rfl⟩
  have s1' : w4.heap[g]? = some (.cells (cur.setIfInBounds 0 (.int .u8 (e0 : Int))) 5 (0, 0)) := by rw [hw4]; exact s1
  have c31 := cell_of_row _ g 31 _ _ _ s1'
  rw [s2 31 (by rw [List.length_set]; omega), getD_set2 _ _ _ _ (by omega), if_neg (by decide), ← HD31.out] at c31
  have f31 := frozen_of_row _ g 31 _ _ s1'
  obtain ⟨t1, t2⟩ := cur_set (l := D.set 0 e0) s1' s2 31 e31 (by rw [List.length_set]; omega)
  have hB4 : Below w.heap.size w w4 := by rw [hw4]; exact (hB13.setCell (p := ⟨g, 0, none⟩) (by show _ ≤ g; omega) (.int .u8 (e0 : Int))).drew
  have hB5 := hB4.setCell (p := ⟨g, 31, none⟩) (by show _ ≤ g; omega) (.int .u8 (e31 : Int))
  have HT1 : Hid _ := t1
  have HT2 : Hid _ := t2
  have HB5 : Hid _ := hB5
  have HW4 : Hid _ := hw4
  clear s1 s2 t1 t2 hB5 hw4 hB4
  go_wp2_with fail
  go_region
  rw [← HW4.out]
  clear HW4 c0 f0 hrow3
  go_wp2_with fail
  refine wp_region_inv 6 (specs [Is (.slice (some ⟨g, 0, none⟩) 64 cap), Is (.slice (some ⟨g, 0, none⟩) 32 cap), Is (.slice (some ⟨g, 0, none⟩) 64 cap), Is (.slice (some ⟨g, 32, none⟩) 32 (cap - 32)), Is (.slice (some ⟨g, 0, none⟩) 32 cap), Is (.slice (some ⟨g, 32, none⟩) 32 (cap - 32))])
    (by kernel_rfl) (specs_stb ⟨Is.stb _, Is.stb _, Is.stb _, Is.stb _, Is.stb _, Is.stb _, trivial⟩) (by kernel_rfl) ?_ ?_
  · refine ⟨fun a w hB hfr hdep => Step.plain rfl (dMove (R := Is _) rfl (hfr 4 (by kernel_rfl))),
      fun a w hB hfr hdep => Step.plain rfl (Does.run _ (Hrun_sliceO (by rw [show a.eval (.tmp 24) = _ from hdep 0 24 (by kernel_rfl)]; exact cut0 g cap 32 w (by omega)) rfl) rfl),
      fun a w hB hfr hdep => Step.plain rfl (dMove (R := Is _) rfl (hfr 4 (by kernel_rfl))),
      fun a w hB hfr hdep => Step.plain rfl (Does.run _ (Hrun_sliceO (by rw [show a.eval (.tmp 26) = _ from hdep 2 26 (by kernel_rfl)]; exact cutL g cap w (by omega)) rfl) rfl),
      fun a w hB hfr hdep => Step.plain rfl (dAssign (R := Is _) rfl (hdep 1 25 (by kernel_rfl))),
      fun a w hB hfr hdep => Step.plain rfl (dAssign (R := Is _) rfl (hdep 3 27 (by kernel_rfl))), trivial⟩
  intro u hu
  simp only [List.take, List.drop, FinAll, Act.put, List.setIfInBounds_toArray, List.set_cons_succ, List.set_cons_zero]
  rintro _ rfl _ rfl _ rfl _ rfl _ rfl _ rfl
  have hB6 := HB5.out.trans (hu.mono HB5.out.size)
  have q6 := HT2.out
  have hl2 : ((D.set 0 e0).set 31 e31).length = 64 := by rw [List.length_set, List.length_set]; exact hDl
  have hv : BytesAt u g 0 ((D.set 0 e0).set 31 e31) := bytesAt_cur (block_below hu (lt_of_heap HT1.out) HT1.out) q6
  obtain ⟨x1, x2, x3, x4⟩ := HE.out
  have hS1 : SEC l = ((D.set 0 e0).set 31 e31).take 32 := by
    unfold SEC secr
    rw [← HD.out, ← x2, ← x4, ← x1, ← x3, List.take_set, List.take_set]
  have hP1 : PRE l = ((D.set 0 e0).set 31 e31).drop 32 := by
    unfold PRE
    rw [← HD.out, List.drop_set_of_lt (by decide), List.drop_set_of_lt (by decide)]
  have k1 : Bts (SEC l) (.slice (some ⟨g, 0, none⟩) 32 cap) u := ⟨some ⟨g, 0, none⟩, cap, by rw [SEC_len], by rw [SEC_len]; omega, hc2, fun _ => ⟨g, 0, rfl, by rw [hS1]; exact take_view hv 32 (by omega)⟩⟩
  have k2 : Bts (PRE l) (.slice (some ⟨g, 32, none⟩) 32 (cap - 32)) u := ⟨some ⟨g, 32, none⟩, cap - 32, by rw [PRE_len], by rw [PRE_len]; omega, by omega, fun _ => ⟨g, 32, rfl, by rw [hP1]; exact drop_view hv 32⟩⟩
  clear hS1 hP1 hv q6 x1 x2 x3 x4 HE
  go_wp2
  go_ret2
  exact ⟨_, rfl, hB6, _, _, rfl, k1, k2⟩
theorem rPBytesP {p : Pt} {v1 : Value} (w : World) (h1 : RPt p.x p.y v1 w) : Ret 20 #[v1] w (OwnC w.heap.size (digs 32 p.enc)) := rPBytes w h1
theorem PUB_def (l : List Nat) : PUB l = digs 32 (bp.nm (valD (SEC l))).enc := by unfold PUB PT; rfl
theorem rPublic {v : Value} {l : List Nat} (w : World) (h : Bts l v w) (hd : Dig l) (hl : l.length ≤ 100000) : Ret 11 #[v] w (OwnC w.heap.size (PUB l)) := by
  have hS := rSecret w h hd hl
  rw [PUB_def]
  have hPT : ∀ w v2, RPt bp.x bp.y v2 w → ∀ v, Bts (SEC l) v w → Ret 21 #[v2, v] w (RPt (bp.nm (valD (SEC l))).x (bp.nm (valD (SEC l))).y) := fun w v2 h v hk => rMulPt (P := bp) w h hk (SEC_dig l) (by rw [SEC_len]; omega)
  have hBS := rBase
  generalize bp.nm (valD (SEC l)) = Q at *
  generalize bp = B0 at *
  obtain ⟨a, cap, rfl⟩ := h.form
  unfold Ret
  go_enter Tryd.func11, Tryd.ntmps11
  go_wp2_with fail
  refine hS.mono ?_
  rintro e w1 ⟨v1, rfl, hB1, k, p, rfl, hk, hp⟩
  go_wp2_with fail
  refine (hBS w1).mono ?_
  rintro e w2 ⟨v2, rfl, hB2, hP2⟩
  have hB12 := hB1.trans (hB2.mono hB1.size)
  have hC := hPT w2 v2 hP2 _ (Bts.stb _ _ _ _ hB2 hk)
  go_wp2_with fail
  refine hC.mono ?_
  rintro e w3 ⟨v3, rfl, hB3, hP3⟩
  have hB13 := hB12.trans (hB3.mono hB12.size)
  go_wp2_with fail
  refine (rPBytesP w3 hP3).mono ?_
  rintro e w4 ⟨v4, rfl, hB4, hO4⟩
  have hB14 := hB13.trans (hB4.mono hB13.size)
  have hO := hO4.lo hB13.size
  clear hO4
  go_wp2
  go_ret
  exact ⟨_, rfl, hB14, hO⟩
end Go.Proofs.YtabgihjffjlfiaaDoor
set_option linter.unusedVariables false
namespace Go.Proofs.YtabgihjffjlfiaaDoor
open Go.RowKit Go.Sort Go.BigFrame EN
set_option maxRecDepth 100000
set_option maxHeartbeats 2000000
theorem cHalves {v : Value} {l : List Nat} (w : World) (h : Bts l v w) (hl : l.length = 64) : Ret 24 #[v] w (Tup2 (Bts (l.take 32)) (Bts (l.drop 32))) := by
  obtain ⟨a, cap, rfl, h1, h2, hv⟩ := h
  obtain ⟨g, off, rfl, hb⟩ := hv (by omega)
  rw [hl] at h1 ⊢
  refine (halves24 g off cap w h1 h2).mono ?_
  rintro e w' ⟨rfl, hB⟩
  have hv' := hv.below hB
  refine ⟨_, rfl, hB, _, _, rfl, ⟨_, 32, by rw [List.length_take]; congr 1; omega, by rw [List.length_take]; omega, by decide, fun _ => ⟨g, off, rfl, fun i hi => ?_⟩⟩, ⟨_, 32, by rw [List.length_drop, hl], by rw [List.length_drop]; omega, by decide, fun _ => ⟨g, off + 32, rfl, fun i hi => ?_⟩⟩⟩
  · obtain ⟨g', off', e, hb'⟩ := hv' (by omega)
    injection e with e; injection e with e1 e2; subst e1 e2
    rw [List.length_take] at hi
    rw [hb' i (by omega), List.getD_eq_getElem?_getD, List.getD_eq_getElem?_getD, List.getElem?_take_of_lt (by omega)]
  · obtain ⟨g', off', e, hb'⟩ := hv' (by omega)
    injection e with e; injection e with e1 e2; subst e1 e2
    rw [List.length_drop] at hi
    rw [show off + 32 + i = off + (32 + i) by omega, hb' (32 + i) (by omega), List.getD_eq_getElem?_getD, List.getD_eq_getElem?_getD, List.getElem?_drop]
section
variable {ρ : Operand → Value} {o : Oper} {x y z t : Operand} {w : World}
theorem dLenB {l : List Nat} {n : Nat} (hn : l.length = n) (ho : o.op = .call { callee := .builtin .len, args := #[x], argTypes := #[22] }) (h : Bts l (ρ x) w) : Does Tryd.prog o ρ w (fun v w' => Below w.heap.size w w' ∧ Is (.int .i64 (n : Int)) v w') := by
  obtain ⟨a, c, h1, _⟩ := h
  rw [hn] at h1
  exact Does.run _ (run_lenO ho h1) rfl
theorem run_neqN {n k : Nat} (h : n ≠ k) (ho : o.op = .binOp .neq 3 x y 3) (hx : ρ x = .int .i64 (n : Int)) (hy : ρ y = .int .i64 (k : Int)) : (execOp ρ o).run Tryd.prog w = .ok (.value (.bool true)) w := by
  have h2 : (n : Int) ≠ (k : Int) := by omega
  simp [execOp, ho, hx, hy, go_sem, h2]
theorem dParts2 {a b : List Nat} (ho : o.op = .buildSlice 58 2 #[(0, x), (1, y)]) (hx : Bts a (ρ x) w) (hy : Bts b (ρ y) w) : Does Tryd.prog o ρ w (fun v w' => Below w.heap.size w w' ∧ Parts 2 a b [] v w') := by
  refine Does.new (.slice (some ⟨w.heap.size, 0, none⟩) 2 2) (.cells #[ρ x, ρ y] 22) ?_ (parts2 hx hy)
  obtain ⟨a1, c1, e1⟩ := hx.form
  obtain ⟨a2, c2, e2⟩ := hy.form
  simp only [execOp, ho, List.map_toArray, List.map, e1, e2]; kernel_rfl
theorem dParts3 {a b c : List Nat} (ho : o.op = .buildSlice 58 3 #[(0, x), (1, y), (2, z)]) (hx : Bts a (ρ x) w) (hy : Bts b (ρ y) w) (hz : Bts c (ρ z) w) : Does Tryd.prog o ρ w (fun v w' => Below w.heap.size w w' ∧ Parts 3 a b c v w') := by
  refine Does.new (.slice (some ⟨w.heap.size, 0, none⟩) 3 3) (.cells #[ρ x, ρ y, ρ z] 22) ?_ (parts3 hx hy hz)
  obtain ⟨a1, c1, e1⟩ := hx.form
  obtain ⟨a2, c2, e2⟩ := hy.form
  obtain ⟨a3, c3, e3⟩ := hz.form
  simp only [execOp, ho, List.map_toArray, List.map, e1, e2, e3]; kernel_rfl
end
theorem cIsB {v : Value} {l : List Nat} {b : Bool} (hb : isL l = b) (w : World) (hT : TabA w) (h : Bts l v w) (hd : Dig l) : Ret 25 #[v] w (Is (.bool b)) := by
  rw [← hb]; exact cIs w hT h hd
theorem cEqualB {v1 v2 : Value} {x y : List Nat} {b : Bool} (hb : decide (x = y) = b) (w : World) (hx : Bts x v1 w) (hy : Bts y v2 w) (dx : Dig x) (dy : Dig y) : Ret 30 #[v1, v2] w (Is (.bool b)) := by
  rw [← hb]; exact cEqual w hx hy dx dy
theorem cNumber3 {x y z : List Nat} {v : Value} (w : World) (hT : TabA w) (h : Parts 3 x y z v w) (dx : Dig x) (dy : Dig y) (dz : Dig z) (h0 : 0 < x.length) (hl : x.length + y.length + z.length ≤ 100000) : Ret 16 #[v] w (Own w.heap.size (digs 32 (numL (x ++ y ++ z)))) := by
  have := numberP w hT (by omega) h (by rw [cat3, List.length_append, List.length_append]; omega) (by rw [cat3, List.length_append, List.length_append]; omega) dx dy dz
  rwa [cat3] at this
theorem ownLo' {f : FuncId} {args : Array Value} {w : World} {l : List Nat} {lo : Nat} (hlo : lo ≤ w.heap.size) (h : Ret f args w (Own w.heap.size l)) : Ret f args w (Own lo l) :=
  h.mono fun e w' ⟨v, h1, h2, g, h3, h4, h5⟩ => ⟨v, h1, h2, g, h3, by omega, h5⟩
theorem few06 (a : Option Addr) (len cap most : Nat) (w : World) (hcap : len ≤ cap) (hcap2 : cap ≤ 9223372036854775807) (hm : most ≤ 1000) :
    Calls Tryd.prog 7 #[.slice a len cap, .int .i64 (most : Int)] w fun e w' => e = .returned (.slice a (min len most) cap) ∧ w = w' := by
  by_cases h : most < len
  · rw [show min len most = most by omega]
    go_enter Tryd.func7, Tryd.ntmps7
    go_wp2
    go_ret
    exact ⟨rfl, rfl⟩
  · rw [show min len most = len by omega]
    go_enter Tryd.func7, Tryd.ntmps7
    go_wp2
    go_ret
    exact ⟨rfl, rfl⟩
/-- The first so many bytes. -/
theorem cFew {v : Value} {l : List Nat} (most : Nat) (w : World) (h : Bts l v w) (hm : most ≤ 1000) : Ret 7 #[v, .int .i64 (most : Int)] w (Bts (l.take most)) := by
  obtain ⟨a, cap, rfl, h1, h2, hv⟩ := h
  refine (few06 a l.length cap most w h1 h2 hm).mono fun e w' ⟨he, hw⟩ => ?_
  subst hw
  refine ⟨_, he, Below.refl _ _, a, cap, ?_, ?_, h2, hv.take most⟩
  · rw [List.length_take, Nat.min_comm]
  · rw [List.length_take]; omega
/-- 32 bytes of any. -/
def SEED (l : List Nat) : List Nat := l.take 32 ++ List.replicate (32 - l.length) 0
end Go.Proofs.YtabgihjffjlfiaaDoor
set_option linter.unusedVariables false
namespace Go.Proofs.YtabgihjffjlfiaaDoor
open Go.RowKit Go.Sort Go.BigFrame EN
set_option maxRecDepth 100000
set_option maxHeartbeats 2000000
theorem btsNil {v : Value} {w : World} (h : v = .slice none 0 0) : Bts [] v w := ⟨none, 0, h, Nat.le_refl _, by decide, fun h => absurd h (by simp)⟩
theorem verKey {pub m sig : List Nat} {v1 v2 v3 : Value} (w : World) (hT : TabV w) (hp : Bts pub v1 w) (hm : Bts m v2 w) (hs : Bts sig v3 w) (hpub : Dig pub) (hmd : Dig m) (hsig : Dig sig) (h11 : ∀ v w, TabV w → Bts pub v w → Ret 23 #[v] w (Tup2 (Is (.agg (ptc zeroE zeroE zeroE zeroE))) (Is (.int .i64 2)))) : Ret 13 #[v1, v2, v3] w (Is (.int .i64 11)) := by
  unfold Ret
  have hO0 : Below w.heap.size w w := Below.refl _ _
  go_enter Tryd.func13, Tryd.ntmps13
  refine wp_seq_k fun K1 hK1 => ?_
  refine wp_plain_inv 1 (specs [Is (.int .i64 0)]) (specs_stb ⟨Is.stb _, trivial⟩) (by kernel_rfl) ?_ ?_
  · refine ⟨fun a w hB hfr hdep => Step.plain rfl (dAssign (R := Is (.int .i64 0)) rfl rfl), trivial⟩
  intro u1 hb1
  simp only [List.take, List.drop, FinAll, Act.put, List.setIfInBounds_toArray, List.set_cons_succ, List.set_cons_zero]
  rintro _ rfl
  have hO1 := (hO0).trans (hb1.mono (hO0).size)
  have hT1 := TabV.below hT hb1
  refine hK1 _ _ ?_
  clear hK1 K1
  refine wp_seq_k fun K2 hK2 => ?_
  refine wp_plain_inv 6 (specs [Bts (pub), Tup2 (Is (.agg (ptc zeroE zeroE zeroE zeroE))) (Is (.int .i64 2)), Tup2 (Is (.agg (ptc zeroE zeroE zeroE zeroE))) (Is (.int .i64 2)), Is (.agg (ptc zeroE zeroE zeroE zeroE)), Is (.int .i64 2), Box u1.heap.size (ptc zeroE zeroE zeroE zeroE) 51]) (specs_stb ⟨Bts.stb _, Tup2.stb (Is.stb _) (Is.stb _), Tup2.stb (Is.stb _) (Is.stb _), Is.stb _, Is.stb _, Box.stb _ _ _, trivial⟩) (by kernel_rfl) ?_ ?_
  · refine ⟨fun a w hB hfr hdep => Step.plain rfl (dMove (R := Bts (pub)) rfl (use (hfr 0 (by kernel_rfl)) ((Bts.stb _) _ _ _ hB ((Bts.stb _) _ _ _ hb1 hp)))),
      fun a w hB hfr hdep => Step.plain rfl (Does.call 23 #[(a.eval (.tmp 14))] (by kernel_rfl) (h11 _ w (TabV.below hT1 hB) (hdep 0 14 (by kernel_rfl)))),
      fun a w hB hfr hdep => Step.plain rfl (dMove (R := Tup2 (Is (.agg (ptc zeroE zeroE zeroE zeroE))) (Is (.int .i64 2))) rfl (hdep 1 15 (by kernel_rfl))),
      fun a w hB hfr hdep => Step.plain rfl (dExt0 rfl (hdep 2 13 (by kernel_rfl))),
      fun a w hB hfr hdep => Step.plain rfl (dExt1 rfl (hdep 2 13 (by kernel_rfl))),
      fun a w hB hfr hdep => Step.plain rfl (dAlloc29 hB.size rfl), trivial⟩
  intro u2 hb2
  simp only [List.take, List.drop, FinAll, Act.put, List.setIfInBounds_toArray, List.set_cons_succ, List.set_cons_zero]
  rintro v14_2 h14_2 v15_2 h15_2 v13_2 h13_2 _ rfl _ rfl _ ⟨g7_2, rfl, l7_2, m7_2⟩
  refine wpList_store_row rfl 51 (.tmp 7) (.tmp 16) rfl _ (ptc zeroE zeroE zeroE zeroE) rfl rfl 51 _ m7_2 info29 rfl (ptc_one _ _ _ _) ?_
  have n7_2 := setRow_heap _ _ _ (ptc zeroE zeroE zeroE zeroE) _ _ m7_2
  replace hb2 := setRow_below hb2 l7_2 (ptc zeroE zeroE zeroE zeroE)
  generalize hw2_1 : u2.setRow g7_2 (ptc zeroE zeroE zeroE zeroE) = u2_1 at n7_2 hb2  ⊢
  clear hw2_1 m7_2
  refine wpList_assign rfl rfl rfl ?_
  simp only [Act.put, Act.eval, Array.getD_eq_getD_getElem?, List.getElem?_toArray, List.getElem?_cons_succ, List.getElem?_cons_zero, Option.getD_some, List.setIfInBounds_toArray, List.set_cons_succ, List.set_cons_zero]
  have hO2 := (hO1).trans (hb2.mono (hO1).size)
  have lwn7_2 := Nat.le_trans (hO1).size l7_2
  have hT2 := TabV.below hT1 hb2
  refine hK2 _ _ ?_
  clear hK2 K2
  refine wp_seq_k fun KO1 hKO1 => ?_
  refine wp_seq_k fun K3 hK3 => ?_
  refine wp_plain_inv 2 (specs [Is (.int .i64 2), Is (.bool true)]) (specs_stb ⟨Is.stb _, Is.stb _, trivial⟩) (by kernel_rfl) ?_ ?_
  · refine ⟨fun a w hB hfr hdep => Step.plain rfl (dMove (R := Is (.int .i64 2)) rfl (hfr 8 (by kernel_rfl))),
      fun a w hB hfr hdep => Step.plain rfl (Does.run _ (run_binO rfl (hdep 0 18 (by kernel_rfl)) rfl (by kernel_rfl)) rfl), trivial⟩
  intro u3 hb3
  simp only [List.take, List.drop, FinAll, Act.put, List.setIfInBounds_toArray, List.set_cons_succ, List.set_cons_zero]
  rintro _ rfl _ rfl
  have hO3 := (hO2).trans (hb3.mono (hO2).size)
  have n7_2__3 := block_below hb3 (lt_of_heap n7_2) n7_2
  have hT3 := TabV.below hT2 hb3
  refine hK3 _ _ ?_
  clear hK3 K3
  refine wp_cond_true rfl ?_
  refine wp_seq_k fun K4 hK4 => ?_
  refine wp_plain_inv 1 (specs [Is (.int .i64 11)]) (specs_stb ⟨Is.stb _, trivial⟩) (by kernel_rfl) ?_ ?_
  · refine ⟨fun a w hB hfr hdep => Step.plain rfl (dAssign (R := Is (.int .i64 11)) rfl rfl), trivial⟩
  intro u4 hb4
  simp only [List.take, List.drop, FinAll, Act.put, List.setIfInBounds_toArray, List.set_cons_succ, List.set_cons_zero]
  rintro _ rfl
  have hO4 := (hO3).trans (hb4.mono (hO3).size)
  have n7_2__4 := block_below hb4 (lt_of_heap n7_2__3) n7_2__3
  have hT4 := TabV.below hT3 hb4
  refine hK4 _ _ ?_
  clear hK4 K4
  refine wp_ret ?_
  simp only [Exit.then]
  refine bodyPost_ret (results_tmp rfl _ _ _) rfl ?_
  exact ⟨_, rfl, hO4, rfl⟩
theorem verLen {pub m sig : List Nat} {v1 v2 v3 : Value} (w : World) (hT : TabV w) (hp : Bts pub v1 w) (hm : Bts m v2 w) (hs : Bts sig v3 w) (hpub : Dig pub) (hmd : Dig m) (hsig : Dig sig) {P : Pt} (hP : P.enc = valD pub) (hp32 : pub.length = 32) {n : Nat} (hsn : sig.length = n) (hn : n ≠ 64) : Ret 13 #[v1, v2, v3] w (Is (.int .i64 10)) := by
  unfold Ret
  have hO0 : Below w.heap.size w w := Below.refl _ _
  go_enter Tryd.func13, Tryd.ntmps13
  refine wp_seq_k fun K1 hK1 => ?_
  refine wp_plain_inv 1 (specs [Is (.int .i64 0)]) (specs_stb ⟨Is.stb _, trivial⟩) (by kernel_rfl) ?_ ?_
  · refine ⟨fun a w hB hfr hdep => Step.plain rfl (dAssign (R := Is (.int .i64 0)) rfl rfl), trivial⟩
  intro u1 hb1
  simp only [List.take, List.drop, FinAll, Act.put, List.setIfInBounds_toArray, List.set_cons_succ, List.set_cons_zero]
  rintro _ rfl
  have hO1 := (hO0).trans (hb1.mono (hO0).size)
  have hT1 := TabV.below hT hb1
  refine hK1 _ _ ?_
  clear hK1 K1
  refine wp_seq_k fun K2 hK2 => ?_
  refine wp_plain_inv 6 (specs [Bts (pub), Tup2 (PtV (P)) (Is (.int .i64 0)), Tup2 (PtV (P)) (Is (.int .i64 0)), PtV (P), Is (.int .i64 0), Box u1.heap.size (ptc zeroE zeroE zeroE zeroE) 51]) (specs_stb ⟨Bts.stb _, Tup2.stb (PtV.stb _) (Is.stb _), Tup2.stb (PtV.stb _) (Is.stb _), PtV.stb _, Is.stb _, Box.stb _ _ _, trivial⟩) (by kernel_rfl) ?_ ?_
  · refine ⟨fun a w hB hfr hdep => Step.plain rfl (dMove (R := Bts (pub)) rfl (use (hfr 0 (by kernel_rfl)) ((Bts.stb _) _ _ _ hB ((Bts.stb _) _ _ _ hb1 hp)))),
      fun a w hB hfr hdep => Step.plain rfl (Does.call 23 #[(a.eval (.tmp 14))] (by kernel_rfl) (cReadPt w (TabV.below hT1 hB).2 (hdep 0 14 (by kernel_rfl)) hp32 hpub hP)),
      fun a w hB hfr hdep => Step.plain rfl (dMove (R := Tup2 (PtV (P)) (Is (.int .i64 0))) rfl (hdep 1 15 (by kernel_rfl))),
      fun a w hB hfr hdep => Step.plain rfl (dExt0 rfl (hdep 2 13 (by kernel_rfl))),
      fun a w hB hfr hdep => Step.plain rfl (dExt1 rfl (hdep 2 13 (by kernel_rfl))),
      fun a w hB hfr hdep => Step.plain rfl (dAlloc29 hB.size rfl), trivial⟩
  intro u2 hb2
  simp only [List.take, List.drop, FinAll, Act.put, List.setIfInBounds_toArray, List.set_cons_succ, List.set_cons_zero]
  rintro v14_2 h14_2 v15_2 h15_2 v13_2 h13_2 _ ⟨e16_2, rfl, x16_2⟩ _ rfl _ ⟨g7_2, rfl, l7_2, m7_2⟩
  refine wpList_store_row rfl 51 (.tmp 7) (.tmp 16) rfl _ (e16_2) rfl rfl 51 _ m7_2 (by rw [cellsP_size x16_2]; exact info29) (by rw [cellsP_size x16_2]; rfl) (cellsP_one x16_2) ?_
  have n7_2 := setRow_heap _ _ _ (e16_2) _ _ m7_2
  replace hb2 := setRow_below hb2 l7_2 (e16_2)
  generalize hw2_1 : u2.setRow g7_2 (e16_2) = u2_1 at n7_2 hb2  ⊢
  clear hw2_1 m7_2
  refine wpList_assign rfl rfl rfl ?_
  simp only [Act.put, Act.eval, Array.getD_eq_getD_getElem?, List.getElem?_toArray, List.getElem?_cons_succ, List.getElem?_cons_zero, Option.getD_some, List.setIfInBounds_toArray, List.set_cons_succ, List.set_cons_zero]
  have hO2 := (hO1).trans (hb2.mono (hO1).size)
  have lwn7_2 := Nat.le_trans (hO1).size l7_2
  have hT2 := TabV.below hT1 hb2
  refine hK2 _ _ ?_
  clear hK2 K2
  refine wp_seq_k fun KO1 hKO1 => ?_
  refine wp_seq_k fun K3 hK3 => ?_
  refine wp_plain_inv 2 (specs [Is (.int .i64 0), Is (.bool false)]) (specs_stb ⟨Is.stb _, Is.stb _, trivial⟩) (by kernel_rfl) ?_ ?_
  · refine ⟨fun a w hB hfr hdep => Step.plain rfl (dMove (R := Is (.int .i64 0)) rfl (hfr 8 (by kernel_rfl))),
      fun a w hB hfr hdep => Step.plain rfl (Does.run _ (run_binO rfl (hdep 0 18 (by kernel_rfl)) rfl (by kernel_rfl)) rfl), trivial⟩
  intro u3 hb3
  simp only [List.take, List.drop, FinAll, Act.put, List.setIfInBounds_toArray, List.set_cons_succ, List.set_cons_zero]
  rintro _ rfl _ rfl
  have hO3 := (hO2).trans (hb3.mono (hO2).size)
  have n7_2__3 := block_below hb3 (lt_of_heap n7_2) n7_2
  have hT3 := TabV.below hT2 hb3
  refine hK3 _ _ ?_
  clear hK3 K3
  refine wp_cond_false rfl ?_
  refine wp_skip ?_
  refine hKO1 _ _ ?_
  clear hKO1 KO1
  refine wp_seq_k fun KO2 hKO2 => ?_
  refine wp_seq_k fun K4 hK4 => ?_
  refine wp_plain_inv 3 (specs [Bts (sig), Is (.int .i64 (n : Int)), Is (.bool true)]) (specs_stb ⟨Bts.stb _, Is.stb _, Is.stb _, trivial⟩) (by kernel_rfl) ?_ ?_
  · refine ⟨fun a w hB hfr hdep => Step.plain rfl (dMove (R := Bts (sig)) rfl (use (hfr 2 (by kernel_rfl)) ((Bts.stb _) _ _ _ hB ((Bts.stb _) _ _ _ hb3 ((Bts.stb _) _ _ _ hb2 ((Bts.stb _) _ _ _ hb1 hs)))))),
      fun a w hB hfr hdep => Step.plain rfl (dLenB hsn rfl (hdep 0 20 (by kernel_rfl))),
      fun a w hB hfr hdep => Step.plain rfl (Does.run _ (run_neqN (n := n) (k := 64) hn rfl (hdep 1 21 (by kernel_rfl)) rfl) rfl), trivial⟩
  intro u4 hb4
  simp only [List.take, List.drop, FinAll, Act.put, List.setIfInBounds_toArray, List.set_cons_succ, List.set_cons_zero]
  rintro v20_4 h20_4 _ rfl _ rfl
  have hO4 := (hO3).trans (hb4.mono (hO3).size)
  have n7_2__4 := block_below hb4 (lt_of_heap n7_2__3) n7_2__3
  have hT4 := TabV.below hT3 hb4
  refine hK4 _ _ ?_
  clear hK4 K4
  refine wp_cond_true rfl ?_
  refine wp_seq_k fun K5 hK5 => ?_
  refine wp_plain_inv 1 (specs [Is (.int .i64 10)]) (specs_stb ⟨Is.stb _, trivial⟩) (by kernel_rfl) ?_ ?_
  · refine ⟨fun a w hB hfr hdep => Step.plain rfl (dAssign (R := Is (.int .i64 10)) rfl rfl), trivial⟩
  intro u5 hb5
  simp only [List.take, List.drop, FinAll, Act.put, List.setIfInBounds_toArray, List.set_cons_succ, List.set_cons_zero]
  rintro _ rfl
  have hO5 := (hO4).trans (hb5.mono (hO4).size)
  have n7_2__5 := block_below hb5 (lt_of_heap n7_2__4) n7_2__4
  have hT5 := TabV.below hT4 hb5
  refine hK5 _ _ ?_
  clear hK5 K5
  refine wp_ret ?_
  simp only [Exit.then]
  refine bodyPost_ret (results_tmp rfl _ _ _) rfl ?_
  exact ⟨_, rfl, hO5, rfl⟩
theorem verIs {pub m sig : List Nat} {v1 v2 v3 : Value} (w : World) (hT : TabV w) (hp : Bts pub v1 w) (hm : Bts m v2 w) (hs : Bts sig v3 w) (hpub : Dig pub) (hmd : Dig m) (hsig : Dig sig) {P : Pt} (hP : P.enc = valD pub) (hp32 : pub.length = 32) (hs64 : sig.length = 64) (hIs : isL ((sig).drop 32) = false) : Ret 13 #[v1, v2, v3] w (Is (.int .i64 10)) := by
  unfold Ret
  have hO0 : Below w.heap.size w w := Below.refl _ _
  go_enter Tryd.func13, Tryd.ntmps13
  refine wp_seq_k fun K1 hK1 => ?_
  refine wp_plain_inv 1 (specs [Is (.int .i64 0)]) (specs_stb ⟨Is.stb _, trivial⟩) (by kernel_rfl) ?_ ?_
  · refine ⟨fun a w hB hfr hdep => Step.plain rfl (dAssign (R := Is (.int .i64 0)) rfl rfl), trivial⟩
  intro u1 hb1
  simp only [List.take, List.drop, FinAll, Act.put, List.setIfInBounds_toArray, List.set_cons_succ, List.set_cons_zero]
  rintro _ rfl
  have hO1 := (hO0).trans (hb1.mono (hO0).size)
  have hT1 := TabV.below hT hb1
  refine hK1 _ _ ?_
  clear hK1 K1
  refine wp_seq_k fun K2 hK2 => ?_
  refine wp_plain_inv 6 (specs [Bts (pub), Tup2 (PtV (P)) (Is (.int .i64 0)), Tup2 (PtV (P)) (Is (.int .i64 0)), PtV (P), Is (.int .i64 0), Box u1.heap.size (ptc zeroE zeroE zeroE zeroE) 51]) (specs_stb ⟨Bts.stb _, Tup2.stb (PtV.stb _) (Is.stb _), Tup2.stb (PtV.stb _) (Is.stb _), PtV.stb _, Is.stb _, Box.stb _ _ _, trivial⟩) (by kernel_rfl) ?_ ?_
  · refine ⟨fun a w hB hfr hdep => Step.plain rfl (dMove (R := Bts (pub)) rfl (use (hfr 0 (by kernel_rfl)) ((Bts.stb _) _ _ _ hB ((Bts.stb _) _ _ _ hb1 hp)))),
      fun a w hB hfr hdep => Step.plain rfl (Does.call 23 #[(a.eval (.tmp 14))] (by kernel_rfl) (cReadPt w (TabV.below hT1 hB).2 (hdep 0 14 (by kernel_rfl)) hp32 hpub hP)),
      fun a w hB hfr hdep => Step.plain rfl (dMove (R := Tup2 (PtV (P)) (Is (.int .i64 0))) rfl (hdep 1 15 (by kernel_rfl))),
      fun a w hB hfr hdep => Step.plain rfl (dExt0 rfl (hdep 2 13 (by kernel_rfl))),
      fun a w hB hfr hdep => Step.plain rfl (dExt1 rfl (hdep 2 13 (by kernel_rfl))),
      fun a w hB hfr hdep => Step.plain rfl (dAlloc29 hB.size rfl), trivial⟩
  intro u2 hb2
  simp only [List.take, List.drop, FinAll, Act.put, List.setIfInBounds_toArray, List.set_cons_succ, List.set_cons_zero]
  rintro v14_2 h14_2 v15_2 h15_2 v13_2 h13_2 _ ⟨e16_2, rfl, x16_2⟩ _ rfl _ ⟨g7_2, rfl, l7_2, m7_2⟩
  refine wpList_store_row rfl 51 (.tmp 7) (.tmp 16) rfl _ (e16_2) rfl rfl 51 _ m7_2 (by rw [cellsP_size x16_2]; exact info29) (by rw [cellsP_size x16_2]; rfl) (cellsP_one x16_2) ?_
  have n7_2 := setRow_heap _ _ _ (e16_2) _ _ m7_2
  replace hb2 := setRow_below hb2 l7_2 (e16_2)
  generalize hw2_1 : u2.setRow g7_2 (e16_2) = u2_1 at n7_2 hb2  ⊢
  clear hw2_1 m7_2
  refine wpList_assign rfl rfl rfl ?_
  simp only [Act.put, Act.eval, Array.getD_eq_getD_getElem?, List.getElem?_toArray, List.getElem?_cons_succ, List.getElem?_cons_zero, Option.getD_some, List.setIfInBounds_toArray, List.set_cons_succ, List.set_cons_zero]
  have hO2 := (hO1).trans (hb2.mono (hO1).size)
  have lwn7_2 := Nat.le_trans (hO1).size l7_2
  have hT2 := TabV.below hT1 hb2
  refine hK2 _ _ ?_
  clear hK2 K2
  refine wp_seq_k fun KO1 hKO1 => ?_
  refine wp_seq_k fun K3 hK3 => ?_
  refine wp_plain_inv 2 (specs [Is (.int .i64 0), Is (.bool false)]) (specs_stb ⟨Is.stb _, Is.stb _, trivial⟩) (by kernel_rfl) ?_ ?_
  · refine ⟨fun a w hB hfr hdep => Step.plain rfl (dMove (R := Is (.int .i64 0)) rfl (hfr 8 (by kernel_rfl))),
      fun a w hB hfr hdep => Step.plain rfl (Does.run _ (run_binO rfl (hdep 0 18 (by kernel_rfl)) rfl (by kernel_rfl)) rfl), trivial⟩
  intro u3 hb3
  simp only [List.take, List.drop, FinAll, Act.put, List.setIfInBounds_toArray, List.set_cons_succ, List.set_cons_zero]
  rintro _ rfl _ rfl
  have hO3 := (hO2).trans (hb3.mono (hO2).size)
  have n7_2__3 := block_below hb3 (lt_of_heap n7_2) n7_2
  have hT3 := TabV.below hT2 hb3
  refine hK3 _ _ ?_
  clear hK3 K3
  refine wp_cond_false rfl ?_
  refine wp_skip ?_
  refine hKO1 _ _ ?_
  clear hKO1 KO1
  refine wp_seq_k fun KO2 hKO2 => ?_
  refine wp_seq_k fun K4 hK4 => ?_
  refine wp_plain_inv 3 (specs [Bts (sig), Is (.int .i64 64), Is (.bool false)]) (specs_stb ⟨Bts.stb _, Is.stb _, Is.stb _, trivial⟩) (by kernel_rfl) ?_ ?_
  · refine ⟨fun a w hB hfr hdep => Step.plain rfl (dMove (R := Bts (sig)) rfl (use (hfr 2 (by kernel_rfl)) ((Bts.stb _) _ _ _ hB ((Bts.stb _) _ _ _ hb3 ((Bts.stb _) _ _ _ hb2 ((Bts.stb _) _ _ _ hb1 hs)))))),
      fun a w hB hfr hdep => Step.plain rfl (dLenB hs64 rfl (hdep 0 20 (by kernel_rfl))),
      fun a w hB hfr hdep => Step.plain rfl (Does.run _ (run_binO rfl (hdep 1 21 (by kernel_rfl)) rfl (by kernel_rfl)) rfl), trivial⟩
  intro u4 hb4
  simp only [List.take, List.drop, FinAll, Act.put, List.setIfInBounds_toArray, List.set_cons_succ, List.set_cons_zero]
  rintro v20_4 h20_4 _ rfl _ rfl
  have hO4 := (hO3).trans (hb4.mono (hO3).size)
  have n7_2__4 := block_below hb4 (lt_of_heap n7_2__3) n7_2__3
  have hT4 := TabV.below hT3 hb4
  refine hK4 _ _ ?_
  clear hK4 K4
  refine wp_cond_false rfl ?_
  refine wp_skip ?_
  refine hKO2 _ _ ?_
  clear hKO2 KO2
  refine wp_seq_k fun K5 hK5 => ?_
  refine wp_plain_inv 7 (specs [Bts (sig), Tup2 (Bts ((sig).take 32)) (Bts ((sig).drop 32)), Tup2 (Bts ((sig).take 32)) (Bts ((sig).drop 32)), Bts ((sig).take 32), Bts ((sig).drop 32), Bts ((sig).take 32), Bts ((sig).drop 32)]) (specs_stb ⟨Bts.stb _, Tup2.stb (Bts.stb _) (Bts.stb _), Tup2.stb (Bts.stb _) (Bts.stb _), Bts.stb _, Bts.stb _, Bts.stb _, Bts.stb _, trivial⟩) (by kernel_rfl) ?_ ?_
  · refine ⟨fun a w hB hfr hdep => Step.plain rfl (dMove (R := Bts (sig)) rfl (use (hfr 2 (by kernel_rfl)) ((Bts.stb _) _ _ _ hB ((Bts.stb _) _ _ _ hb4 ((Bts.stb _) _ _ _ hb3 ((Bts.stb _) _ _ _ hb2 ((Bts.stb _) _ _ _ hb1 hs))))))),
      fun a w hB hfr hdep => Step.plain rfl (Does.call 24 #[(a.eval (.tmp 24))] (by kernel_rfl) (cHalves w (hdep 0 24 (by kernel_rfl)) hs64)),
      fun a w hB hfr hdep => Step.plain rfl (dMove (R := Tup2 (Bts ((sig).take 32)) (Bts ((sig).drop 32))) rfl (hdep 1 25 (by kernel_rfl))),
      fun a w hB hfr hdep => Step.plain rfl (dExt0 rfl (hdep 2 23 (by kernel_rfl))),
      fun a w hB hfr hdep => Step.plain rfl (dExt1 rfl (hdep 2 23 (by kernel_rfl))),
      fun a w hB hfr hdep => Step.plain rfl (dAssign (R := Bts ((sig).take 32)) rfl (hdep 3 26 (by kernel_rfl))),
      fun a w hB hfr hdep => Step.plain rfl (dAssign (R := Bts ((sig).drop 32)) rfl (hdep 4 27 (by kernel_rfl))), trivial⟩
  intro u5 hb5
  simp only [List.take, List.drop, FinAll, Act.put, List.setIfInBounds_toArray, List.set_cons_succ, List.set_cons_zero]
  rintro v24_5 h24_5 v25_5 h25_5 v23_5 h23_5 v26_5 h26_5 v27_5 h27_5 v9_5 h9_5 v10_5 h10_5
  have hO5 := (hO4).trans (hb5.mono (hO4).size)
  have n7_2__5 := block_below hb5 (lt_of_heap n7_2__4) n7_2__4
  have hT5 := TabV.below hT4 hb5
  refine hK5 _ _ ?_
  clear hK5 K5
  refine wp_seq_k fun KO3 hKO3 => ?_
  refine wp_seq_k fun K6 hK6 => ?_
  refine wp_plain_inv 3 (specs [Bts ((sig).drop 32), Is (.bool false), Is (.bool true)]) (specs_stb ⟨Bts.stb _, Is.stb _, Is.stb _, trivial⟩) (by kernel_rfl) ?_ ?_
  · refine ⟨fun a w hB hfr hdep => Step.plain rfl (dMove (R := Bts ((sig).drop 32)) rfl (use (hfr 10 (by kernel_rfl)) ((Bts.stb _) _ _ _ hB h10_5))),
      fun a w hB hfr hdep => Step.plain rfl (Does.call 25 #[(a.eval (.tmp 28))] (by kernel_rfl) (cIsB hIs w (TabV.below hT5 hB).1 (hdep 0 28 (by kernel_rfl)) (Dig.drop hsig _))),
      fun a w hB hfr hdep => Step.plain rfl (Does.run _ (run_notO rfl (hdep 1 29 (by kernel_rfl))) rfl), trivial⟩
  intro u6 hb6
  simp only [List.take, List.drop, FinAll, Act.put, List.setIfInBounds_toArray, List.set_cons_succ, List.set_cons_zero]
  rintro v28_6 h28_6 _ rfl _ rfl
  have hO6 := (hO5).trans (hb6.mono (hO5).size)
  have n7_2__6 := block_below hb6 (lt_of_heap n7_2__5) n7_2__5
  have hT6 := TabV.below hT5 hb6
  refine hK6 _ _ ?_
  clear hK6 K6
  refine wp_cond_true rfl ?_
  refine wp_seq_k fun K7 hK7 => ?_
  refine wp_plain_inv 1 (specs [Is (.int .i64 10)]) (specs_stb ⟨Is.stb _, trivial⟩) (by kernel_rfl) ?_ ?_
  · refine ⟨fun a w hB hfr hdep => Step.plain rfl (dAssign (R := Is (.int .i64 10)) rfl rfl), trivial⟩
  intro u7 hb7
  simp only [List.take, List.drop, FinAll, Act.put, List.setIfInBounds_toArray, List.set_cons_succ, List.set_cons_zero]
  rintro _ rfl
  have hO7 := (hO6).trans (hb7.mono (hO6).size)
  have n7_2__7 := block_below hb7 (lt_of_heap n7_2__6) n7_2__6
  have hT7 := TabV.below hT6 hb7
  refine hK7 _ _ ?_
  clear hK7 K7
  refine wp_ret ?_
  simp only [Exit.then]
  refine bodyPost_ret (results_tmp rfl _ _ _) rfl ?_
  exact ⟨_, rfl, hO7, rfl⟩
theorem verNo {pub m sig : List Nat} {v1 v2 v3 : Value} (w : World) (hT : TabV w) (hp : Bts pub v1 w) (hm : Bts m v2 w) (hs : Bts sig v3 w) (hpub : Dig pub) (hmd : Dig m) (hsig : Dig sig) {P : Pt} (hP : P.enc = valD pub) (hp32 : pub.length = 32) (hs64 : sig.length = 64) (hml : m.length ≤ 50000) (hIs : isL ((sig).drop 32) = true) (hE : decide ((sig).take 32 = digs 32 (Pt.enc ((bp.nm (valD ((sig).drop 32))).add ((P.nm (valD (digs 32 (numL ((sig).take 32 ++ pub ++ m))))).neg)))) = false) : Ret 13 #[v1, v2, v3] w (Is (.int .i64 10)) := by
  unfold Ret
  have hO0 : Below w.heap.size w w := Below.refl _ _
  go_enter Tryd.func13, Tryd.ntmps13
  refine wp_seq_k fun K1 hK1 => ?_
  refine wp_plain_inv 1 (specs [Is (.int .i64 0)]) (specs_stb ⟨Is.stb _, trivial⟩) (by kernel_rfl) ?_ ?_
  · refine ⟨fun a w hB hfr hdep => Step.plain rfl (dAssign (R := Is (.int .i64 0)) rfl rfl), trivial⟩
  intro u1 hb1
  simp only [List.take, List.drop, FinAll, Act.put, List.setIfInBounds_toArray, List.set_cons_succ, List.set_cons_zero]
  rintro _ rfl
  have hO1 := (hO0).trans (hb1.mono (hO0).size)
  have hT1 := TabV.below hT hb1
  refine hK1 _ _ ?_
  clear hK1 K1
  refine wp_seq_k fun K2 hK2 => ?_
  refine wp_plain_inv 6 (specs [Bts (pub), Tup2 (PtV (P)) (Is (.int .i64 0)), Tup2 (PtV (P)) (Is (.int .i64 0)), PtV (P), Is (.int .i64 0), Box u1.heap.size (ptc zeroE zeroE zeroE zeroE) 51]) (specs_stb ⟨Bts.stb _, Tup2.stb (PtV.stb _) (Is.stb _), Tup2.stb (PtV.stb _) (Is.stb _), PtV.stb _, Is.stb _, Box.stb _ _ _, trivial⟩) (by kernel_rfl) ?_ ?_
  · refine ⟨fun a w hB hfr hdep => Step.plain rfl (dMove (R := Bts (pub)) rfl (use (hfr 0 (by kernel_rfl)) ((Bts.stb _) _ _ _ hB ((Bts.stb _) _ _ _ hb1 hp)))),
      fun a w hB hfr hdep => Step.plain rfl (Does.call 23 #[(a.eval (.tmp 14))] (by kernel_rfl) (cReadPt w (TabV.below hT1 hB).2 (hdep 0 14 (by kernel_rfl)) hp32 hpub hP)),
      fun a w hB hfr hdep => Step.plain rfl (dMove (R := Tup2 (PtV (P)) (Is (.int .i64 0))) rfl (hdep 1 15 (by kernel_rfl))),
      fun a w hB hfr hdep => Step.plain rfl (dExt0 rfl (hdep 2 13 (by kernel_rfl))),
      fun a w hB hfr hdep => Step.plain rfl (dExt1 rfl (hdep 2 13 (by kernel_rfl))),
      fun a w hB hfr hdep => Step.plain rfl (dAlloc29 hB.size rfl), trivial⟩
  intro u2 hb2
  simp only [List.take, List.drop, FinAll, Act.put, List.setIfInBounds_toArray, List.set_cons_succ, List.set_cons_zero]
  rintro v14_2 h14_2 v15_2 h15_2 v13_2 h13_2 _ ⟨e16_2, rfl, x16_2⟩ _ rfl _ ⟨g7_2, rfl, l7_2, m7_2⟩
  refine wpList_store_row rfl 51 (.tmp 7) (.tmp 16) rfl _ (e16_2) rfl rfl 51 _ m7_2 (by rw [cellsP_size x16_2]; exact info29) (by rw [cellsP_size x16_2]; rfl) (cellsP_one x16_2) ?_
  have n7_2 := setRow_heap _ _ _ (e16_2) _ _ m7_2
  replace hb2 := setRow_below hb2 l7_2 (e16_2)
  generalize hw2_1 : u2.setRow g7_2 (e16_2) = u2_1 at n7_2 hb2  ⊢
  clear hw2_1 m7_2
  refine wpList_assign rfl rfl rfl ?_
  simp only [Act.put, Act.eval, Array.getD_eq_getD_getElem?, List.getElem?_toArray, List.getElem?_cons_succ, List.getElem?_cons_zero, Option.getD_some, List.setIfInBounds_toArray, List.set_cons_succ, List.set_cons_zero]
  have hO2 := (hO1).trans (hb2.mono (hO1).size)
  have lwn7_2 := Nat.le_trans (hO1).size l7_2
  have hT2 := TabV.below hT1 hb2
  refine hK2 _ _ ?_
  clear hK2 K2
  refine wp_seq_k fun KO1 hKO1 => ?_
  refine wp_seq_k fun K3 hK3 => ?_
  refine wp_plain_inv 2 (specs [Is (.int .i64 0), Is (.bool false)]) (specs_stb ⟨Is.stb _, Is.stb _, trivial⟩) (by kernel_rfl) ?_ ?_
  · refine ⟨fun a w hB hfr hdep => Step.plain rfl (dMove (R := Is (.int .i64 0)) rfl (hfr 8 (by kernel_rfl))),
      fun a w hB hfr hdep => Step.plain rfl (Does.run _ (run_binO rfl (hdep 0 18 (by kernel_rfl)) rfl (by kernel_rfl)) rfl), trivial⟩
  intro u3 hb3
  simp only [List.take, List.drop, FinAll, Act.put, List.setIfInBounds_toArray, List.set_cons_succ, List.set_cons_zero]
  rintro _ rfl _ rfl
  have hO3 := (hO2).trans (hb3.mono (hO2).size)
  have n7_2__3 := block_below hb3 (lt_of_heap n7_2) n7_2
  have hT3 := TabV.below hT2 hb3
  refine hK3 _ _ ?_
  clear hK3 K3
  refine wp_cond_false rfl ?_
  refine wp_skip ?_
  refine hKO1 _ _ ?_
  clear hKO1 KO1
  refine wp_seq_k fun KO2 hKO2 => ?_
  refine wp_seq_k fun K4 hK4 => ?_
  refine wp_plain_inv 3 (specs [Bts (sig), Is (.int .i64 64), Is (.bool false)]) (specs_stb ⟨Bts.stb _, Is.stb _, Is.stb _, trivial⟩) (by kernel_rfl) ?_ ?_
  · refine ⟨fun a w hB hfr hdep => Step.plain rfl (dMove (R := Bts (sig)) rfl (use (hfr 2 (by kernel_rfl)) ((Bts.stb _) _ _ _ hB ((Bts.stb _) _ _ _ hb3 ((Bts.stb _) _ _ _ hb2 ((Bts.stb _) _ _ _ hb1 hs)))))),
      fun a w hB hfr hdep => Step.plain rfl (dLenB hs64 rfl (hdep 0 20 (by kernel_rfl))),
      fun a w hB hfr hdep => Step.plain rfl (Does.run _ (run_binO rfl (hdep 1 21 (by kernel_rfl)) rfl (by kernel_rfl)) rfl), trivial⟩
  intro u4 hb4
  simp only [List.take, List.drop, FinAll, Act.put, List.setIfInBounds_toArray, List.set_cons_succ, List.set_cons_zero]
  rintro v20_4 h20_4 _ rfl _ rfl
  have hO4 := (hO3).trans (hb4.mono (hO3).size)
  have n7_2__4 := block_below hb4 (lt_of_heap n7_2__3) n7_2__3
  have hT4 := TabV.below hT3 hb4
  refine hK4 _ _ ?_
  clear hK4 K4
  refine wp_cond_false rfl ?_
  refine wp_skip ?_
  refine hKO2 _ _ ?_
  clear hKO2 KO2
  refine wp_seq_k fun K5 hK5 => ?_
  refine wp_plain_inv 7 (specs [Bts (sig), Tup2 (Bts ((sig).take 32)) (Bts ((sig).drop 32)), Tup2 (Bts ((sig).take 32)) (Bts ((sig).drop 32)), Bts ((sig).take 32), Bts ((sig).drop 32), Bts ((sig).take 32), Bts ((sig).drop 32)]) (specs_stb ⟨Bts.stb _, Tup2.stb (Bts.stb _) (Bts.stb _), Tup2.stb (Bts.stb _) (Bts.stb _), Bts.stb _, Bts.stb _, Bts.stb _, Bts.stb _, trivial⟩) (by kernel_rfl) ?_ ?_
  · refine ⟨fun a w hB hfr hdep => Step.plain rfl (dMove (R := Bts (sig)) rfl (use (hfr 2 (by kernel_rfl)) ((Bts.stb _) _ _ _ hB ((Bts.stb _) _ _ _ hb4 ((Bts.stb _) _ _ _ hb3 ((Bts.stb _) _ _ _ hb2 ((Bts.stb _) _ _ _ hb1 hs))))))),
      fun a w hB hfr hdep => Step.plain rfl (Does.call 24 #[(a.eval (.tmp 24))] (by kernel_rfl) (cHalves w (hdep 0 24 (by kernel_rfl)) hs64)),
      fun a w hB hfr hdep => Step.plain rfl (dMove (R := Tup2 (Bts ((sig).take 32)) (Bts ((sig).drop 32))) rfl (hdep 1 25 (by kernel_rfl))),
      fun a w hB hfr hdep => Step.plain rfl (dExt0 rfl (hdep 2 23 (by kernel_rfl))),
      fun a w hB hfr hdep => Step.plain rfl (dExt1 rfl (hdep 2 23 (by kernel_rfl))),
      fun a w hB hfr hdep => Step.plain rfl (dAssign (R := Bts ((sig).take 32)) rfl (hdep 3 26 (by kernel_rfl))),
      fun a w hB hfr hdep => Step.plain rfl (dAssign (R := Bts ((sig).drop 32)) rfl (hdep 4 27 (by kernel_rfl))), trivial⟩
  intro u5 hb5
  simp only [List.take, List.drop, FinAll, Act.put, List.setIfInBounds_toArray, List.set_cons_succ, List.set_cons_zero]
  rintro v24_5 h24_5 v25_5 h25_5 v23_5 h23_5 v26_5 h26_5 v27_5 h27_5 v9_5 h9_5 v10_5 h10_5
  have hO5 := (hO4).trans (hb5.mono (hO4).size)
  have n7_2__5 := block_below hb5 (lt_of_heap n7_2__4) n7_2__4
  have hT5 := TabV.below hT4 hb5
  refine hK5 _ _ ?_
  clear hK5 K5
  refine wp_seq_k fun KO3 hKO3 => ?_
  refine wp_seq_k fun K6 hK6 => ?_
  refine wp_plain_inv 3 (specs [Bts ((sig).drop 32), Is (.bool true), Is (.bool false)]) (specs_stb ⟨Bts.stb _, Is.stb _, Is.stb _, trivial⟩) (by kernel_rfl) ?_ ?_
  · refine ⟨fun a w hB hfr hdep => Step.plain rfl (dMove (R := Bts ((sig).drop 32)) rfl (use (hfr 10 (by kernel_rfl)) ((Bts.stb _) _ _ _ hB h10_5))),
      fun a w hB hfr hdep => Step.plain rfl (Does.call 25 #[(a.eval (.tmp 28))] (by kernel_rfl) (cIsB hIs w (TabV.below hT5 hB).1 (hdep 0 28 (by kernel_rfl)) (Dig.drop hsig _))),
      fun a w hB hfr hdep => Step.plain rfl (Does.run _ (run_notO rfl (hdep 1 29 (by kernel_rfl))) rfl), trivial⟩
  intro u6 hb6
  simp only [List.take, List.drop, FinAll, Act.put, List.setIfInBounds_toArray, List.set_cons_succ, List.set_cons_zero]
  rintro v28_6 h28_6 _ rfl _ rfl
  have hO6 := (hO5).trans (hb6.mono (hO5).size)
  have n7_2__6 := block_below hb6 (lt_of_heap n7_2__5) n7_2__5
  have hT6 := TabV.below hT5 hb6
  refine hK6 _ _ ?_
  clear hK6 K6
  refine wp_cond_false rfl ?_
  refine wp_skip ?_
  refine hKO3 _ _ ?_
  clear hKO3 KO3
  refine wp_seq_k fun K7 hK7 => ?_
  refine wp_plain_inv 6 (specs [Bts ((sig).take 32), Bts (pub), Bts (m), Parts 3 ((sig).take 32) (pub) (m), Own u6.heap.size (digs 32 (numL ((sig).take 32 ++ pub ++ m))), Own u6.heap.size (digs 32 (numL ((sig).take 32 ++ pub ++ m)))]) (specs_stb ⟨Bts.stb _, Bts.stb _, Bts.stb _, Parts.stb _ _ _ _, Own.stb _ _, Own.stb _ _, trivial⟩) (by kernel_rfl) ?_ ?_
  · refine ⟨fun a w hB hfr hdep => Step.plain rfl (dMove (R := Bts ((sig).take 32)) rfl (use (hfr 9 (by kernel_rfl)) ((Bts.stb _) _ _ _ hB ((Bts.stb _) _ _ _ hb6 h9_5)))),
      fun a w hB hfr hdep => Step.plain rfl (dMove (R := Bts (pub)) rfl (use (hfr 0 (by kernel_rfl)) ((Bts.stb _) _ _ _ hB ((Bts.stb _) _ _ _ hb6 ((Bts.stb _) _ _ _ hb5 ((Bts.stb _) _ _ _ hb4 ((Bts.stb _) _ _ _ hb3 ((Bts.stb _) _ _ _ hb2 ((Bts.stb _) _ _ _ hb1 hp))))))))),
      fun a w hB hfr hdep => Step.plain rfl (dMove (R := Bts (m)) rfl (use (hfr 1 (by kernel_rfl)) ((Bts.stb _) _ _ _ hB ((Bts.stb _) _ _ _ hb6 ((Bts.stb _) _ _ _ hb5 ((Bts.stb _) _ _ _ hb4 ((Bts.stb _) _ _ _ hb3 ((Bts.stb _) _ _ _ hb2 ((Bts.stb _) _ _ _ hb1 hm))))))))),
      fun a w hB hfr hdep => Step.plain rfl (dParts3 rfl (hdep 0 31 (by kernel_rfl)) (hdep 1 32 (by kernel_rfl)) (hdep 2 33 (by kernel_rfl))),
      fun a w hB hfr hdep => Step.plain rfl (Does.call 16 #[(a.eval (.tmp 34))] (by kernel_rfl) (ownLo' hB.size (cNumber3 w (TabV.below hT6 hB).1 (hdep 3 34 (by kernel_rfl)) (Dig.take hsig _) hpub hmd (by rw [List.length_take]; omega) (by rw [List.length_take]; omega)))),
      fun a w hB hfr hdep => Step.plain rfl (dAssign (R := Own u6.heap.size (digs 32 (numL ((sig).take 32 ++ pub ++ m)))) rfl (hdep 4 35 (by kernel_rfl))), trivial⟩
  intro u7 hb7
  simp only [List.take, List.drop, FinAll, Act.put, List.setIfInBounds_toArray, List.set_cons_succ, List.set_cons_zero]
  rintro v31_7 h31_7 v32_7 h32_7 v33_7 h33_7 v34_7 h34_7 v35_7 h35_7 v11_7 h11_7
  have hO7 := (hO6).trans (hb7.mono (hO6).size)
  have n7_2__7 := block_below hb7 (lt_of_heap n7_2__6) n7_2__6
  have hT7 := TabV.below hT6 hb7
  refine hK7 _ _ ?_
  clear hK7 K7
  refine wp_seq_k fun K8 hK8 => ?_
  refine wp_region_inv 9 (specs [PtV (bp), Bts ((sig).drop 32), PtV ((bp).nm (valD ((sig).drop 32))), PtV (P), Own u6.heap.size (digs 32 (numL ((sig).take 32 ++ pub ++ m))), PtV ((P).nm (valD (digs 32 (numL ((sig).take 32 ++ pub ++ m))))), PtV (((P).nm (valD (digs 32 (numL ((sig).take 32 ++ pub ++ m))))).neg), PtV (((bp).nm (valD ((sig).drop 32))).add (((P).nm (valD (digs 32 (numL ((sig).take 32 ++ pub ++ m))))).neg)), Box u7.heap.size (ptc zeroE zeroE zeroE zeroE) 51]) (by kernel_rfl) (specs_stb ⟨PtV.stb _, Bts.stb _, PtV.stb _, PtV.stb _, Own.stb _ _, PtV.stb _, PtV.stb _, PtV.stb _, Box.stb _ _ _, trivial⟩) (by kernel_rfl) ?_ ?_
  · refine ⟨fun a w hB hfr hdep => Step.plain rfl (Does.call 26 #[] (by kernel_rfl) (cBase w (TabV.below hT7 hB).1.t)),
      fun a w hB hfr hdep => Step.plain rfl (dMove (R := Bts ((sig).drop 32)) rfl (use (hfr 10 (by kernel_rfl)) ((Bts.stb _) _ _ _ hB ((Bts.stb _) _ _ _ hb7 ((Bts.stb _) _ _ _ hb6 h10_5))))),
      fun a w hB hfr hdep => Step.plain rfl (Does.call 27 #[(a.eval (.tmp 36)), (a.eval (.tmp 37))] (by kernel_rfl) (cMulP w w (TabV.below hT7 hB).1.t (hdep 0 36 (by kernel_rfl)) (hdep 1 37 (by kernel_rfl)) (Dig.drop hsig _) (by rw [List.length_drop]; omega))),
      fun a w hB hfr hdep => Step.plain rfl (dLoadPt x16_2 (block_below hB (lt_of_heap n7_2__7) n7_2__7) rfl (hfr 7 (by kernel_rfl)) (fun _ h => h)),
      fun a w hB hfr hdep => Step.plain rfl (dMove (R := Own u6.heap.size (digs 32 (numL ((sig).take 32 ++ pub ++ m)))) rfl (use (hfr 11 (by kernel_rfl)) ((Own.stb _ _) _ _ _ hB h11_7))),
      fun a w hB hfr hdep => Step.plain rfl (Does.call 27 #[(a.eval (.tmp 39)), (a.eval (.tmp 40))] (by kernel_rfl) (cMulP w w (TabV.below hT7 hB).1.t (hdep 3 39 (by kernel_rfl)) (Own.bts (hdep 4 40 (by kernel_rfl)) (by first | decide | (rw [digs_len]; omega) | (rw [SEED_len]; omega) | (unfold PUB; rw [digs_len]; omega) | simp)) (digs_dig _ _) (by first | decide | (rw [digs_len]; omega) | simp))),
      fun a w hB hfr hdep => Step.plain rfl (Does.call 29 #[(a.eval (.tmp 41))] (by kernel_rfl) (cNeg w w (hdep 5 41 (by kernel_rfl)))),
      fun a w hB hfr hdep => Step.plain rfl (Does.call 28 #[(a.eval (.tmp 38)), (a.eval (.tmp 42))] (by kernel_rfl) (cPAdd w w w (TabV.below hT7 hB).1.t (hdep 2 38 (by kernel_rfl)) (hdep 6 42 (by kernel_rfl)))),
      fun a w hB hfr hdep => Step.plain rfl (dAlloc29 hB.size rfl), trivial⟩
  intro u8 hb8
  simp only [List.take, List.drop, FinAll, Act.put, List.setIfInBounds_toArray, List.set_cons_succ, List.set_cons_zero]
  rintro v36_8 h36_8 v37_8 h37_8 v38_8 h38_8 v39_8 h39_8 v40_8 h40_8 v41_8 h41_8 v42_8 h42_8 _ ⟨e43_8, rfl, x43_8⟩ _ ⟨g12_8, rfl, l12_8, m12_8⟩
  refine wpList_store_row rfl 51 (.tmp 12) (.tmp 43) rfl _ (e43_8) rfl rfl 51 _ m12_8 (by rw [cellsP_size x43_8]; exact info29) (by rw [cellsP_size x43_8]; rfl) (cellsP_one x43_8) ?_
  have n12_8 := setRow_heap _ _ _ (e43_8) _ _ m12_8
  replace hb8 := setRow_below hb8 l12_8 (e43_8)
  generalize hw8_1 : u8.setRow g12_8 (e43_8) = u8_1 at n12_8 hb8  ⊢
  clear hw8_1 m12_8
  have hO8 := (hO7).trans (hb8.mono (hO7).size)
  have n7_2__8 := block_below hb8 (lt_of_heap n7_2__7) n7_2__7
  have lwn12_8 := Nat.le_trans (hO7).size l12_8
  have hT8 := TabV.below hT7 hb8
  refine hK8 _ _ ?_
  clear hK8 K8
  refine wp_seq_k fun KO4 hKO4 => ?_
  refine wp_seq_k fun K9 hK9 => ?_
  refine wp_plain_inv 5 (specs [Bts ((sig).take 32), PtV (((bp).nm (valD ((sig).drop 32))).add (((P).nm (valD (digs 32 (numL ((sig).take 32 ++ pub ++ m))))).neg)), Own u8_1.heap.size (digs 32 (Pt.enc (((bp).nm (valD ((sig).drop 32))).add (((P).nm (valD (digs 32 (numL ((sig).take 32 ++ pub ++ m))))).neg)))), Is (.bool false), Is (.bool true)]) (specs_stb ⟨Bts.stb _, PtV.stb _, Own.stb _ _, Is.stb _, Is.stb _, trivial⟩) (by kernel_rfl) ?_ ?_
  · refine ⟨fun a w hB hfr hdep => Step.plain rfl (dMove (R := Bts ((sig).take 32)) rfl (use (hfr 9 (by kernel_rfl)) ((Bts.stb _) _ _ _ hB ((Bts.stb _) _ _ _ hb8 ((Bts.stb _) _ _ _ hb7 ((Bts.stb _) _ _ _ hb6 h9_5)))))),
      fun a w hB hfr hdep => Step.plain rfl (dLoadPt x43_8 (block_below hB (lt_of_heap n12_8) n12_8) rfl (hfr 12 (by kernel_rfl)) (fun _ h => h)),
      fun a w hB hfr hdep => Step.plain rfl (Does.call 31 #[(a.eval (.tmp 45))] (by kernel_rfl) (ownLo hB.size (cPBytes w w (hdep 1 45 (by kernel_rfl))))),
      fun a w hB hfr hdep => Step.plain rfl (Does.call 30 #[(a.eval (.tmp 44)), (a.eval (.tmp 46))] (by kernel_rfl) (cEqualB hE w (hdep 0 44 (by kernel_rfl)) (Own.bts (hdep 2 46 (by kernel_rfl)) (by first | decide | (rw [digs_len]; omega) | (rw [SEED_len]; omega) | (unfold PUB; rw [digs_len]; omega) | simp)) (Dig.take hsig _) (digs_dig _ _))),
      fun a w hB hfr hdep => Step.plain rfl (Does.run _ (run_notO rfl (hdep 3 47 (by kernel_rfl))) rfl), trivial⟩
  intro u9 hb9
  simp only [List.take, List.drop, FinAll, Act.put, List.setIfInBounds_toArray, List.set_cons_succ, List.set_cons_zero]
  rintro v44_9 h44_9 v45_9 h45_9 v46_9 h46_9 _ rfl _ rfl
  have hO9 := (hO8).trans (hb9.mono (hO8).size)
  have n7_2__9 := block_below hb9 (lt_of_heap n7_2__8) n7_2__8
  have n12_8__9 := block_below hb9 (lt_of_heap n12_8) n12_8
  have hT9 := TabV.below hT8 hb9
  refine hK9 _ _ ?_
  clear hK9 K9
  refine wp_cond_true rfl ?_
  refine wp_seq_k fun K10 hK10 => ?_
  refine wp_plain_inv 1 (specs [Is (.int .i64 10)]) (specs_stb ⟨Is.stb _, trivial⟩) (by kernel_rfl) ?_ ?_
  · refine ⟨fun a w hB hfr hdep => Step.plain rfl (dAssign (R := Is (.int .i64 10)) rfl rfl), trivial⟩
  intro u10 hb10
  simp only [List.take, List.drop, FinAll, Act.put, List.setIfInBounds_toArray, List.set_cons_succ, List.set_cons_zero]
  rintro _ rfl
  have hO10 := (hO9).trans (hb10.mono (hO9).size)
  have n7_2__10 := block_below hb10 (lt_of_heap n7_2__9) n7_2__9
  have n12_8__10 := block_below hb10 (lt_of_heap n12_8__9) n12_8__9
  have hT10 := TabV.below hT9 hb10
  refine hK10 _ _ ?_
  clear hK10 K10
  refine wp_ret ?_
  simp only [Exit.then]
  refine bodyPost_ret (results_tmp rfl _ _ _) rfl ?_
  exact ⟨_, rfl, hO10, rfl⟩
theorem verOk {pub m sig : List Nat} {v1 v2 v3 : Value} (w : World) (hT : TabV w) (hp : Bts pub v1 w) (hm : Bts m v2 w) (hs : Bts sig v3 w) (hpub : Dig pub) (hmd : Dig m) (hsig : Dig sig) {P : Pt} (hP : P.enc = valD pub) (hp32 : pub.length = 32) (hs64 : sig.length = 64) (hml : m.length ≤ 50000) (hIs : isL ((sig).drop 32) = true) (hE : decide ((sig).take 32 = digs 32 (Pt.enc ((bp.nm (valD ((sig).drop 32))).add ((P.nm (valD (digs 32 (numL ((sig).take 32 ++ pub ++ m))))).neg)))) = true) : Ret 13 #[v1, v2, v3] w (Is (.int .i64 0)) := by
  unfold Ret
  have hO0 : Below w.heap.size w w := Below.refl _ _
  go_enter Tryd.func13, Tryd.ntmps13
  refine wp_seq_k fun K1 hK1 => ?_
  refine wp_plain_inv 1 (specs [Is (.int .i64 0)]) (specs_stb ⟨Is.stb _, trivial⟩) (by kernel_rfl) ?_ ?_
  · refine ⟨fun a w hB hfr hdep => Step.plain rfl (dAssign (R := Is (.int .i64 0)) rfl rfl), trivial⟩
  intro u1 hb1
  simp only [List.take, List.drop, FinAll, Act.put, List.setIfInBounds_toArray, List.set_cons_succ, List.set_cons_zero]
  rintro _ rfl
  have hO1 := (hO0).trans (hb1.mono (hO0).size)
  have hT1 := TabV.below hT hb1
  refine hK1 _ _ ?_
  clear hK1 K1
  refine wp_seq_k fun K2 hK2 => ?_
  refine wp_plain_inv 6 (specs [Bts (pub), Tup2 (PtV (P)) (Is (.int .i64 0)), Tup2 (PtV (P)) (Is (.int .i64 0)), PtV (P), Is (.int .i64 0), Box u1.heap.size (ptc zeroE zeroE zeroE zeroE) 51]) (specs_stb ⟨Bts.stb _, Tup2.stb (PtV.stb _) (Is.stb _), Tup2.stb (PtV.stb _) (Is.stb _), PtV.stb _, Is.stb _, Box.stb _ _ _, trivial⟩) (by kernel_rfl) ?_ ?_
  · refine ⟨fun a w hB hfr hdep => Step.plain rfl (dMove (R := Bts (pub)) rfl (use (hfr 0 (by kernel_rfl)) ((Bts.stb _) _ _ _ hB ((Bts.stb _) _ _ _ hb1 hp)))),
      fun a w hB hfr hdep => Step.plain rfl (Does.call 23 #[(a.eval (.tmp 14))] (by kernel_rfl) (cReadPt w (TabV.below hT1 hB).2 (hdep 0 14 (by kernel_rfl)) hp32 hpub hP)),
      fun a w hB hfr hdep => Step.plain rfl (dMove (R := Tup2 (PtV (P)) (Is (.int .i64 0))) rfl (hdep 1 15 (by kernel_rfl))),
      fun a w hB hfr hdep => Step.plain rfl (dExt0 rfl (hdep 2 13 (by kernel_rfl))),
      fun a w hB hfr hdep => Step.plain rfl (dExt1 rfl (hdep 2 13 (by kernel_rfl))),
      fun a w hB hfr hdep => Step.plain rfl (dAlloc29 hB.size rfl), trivial⟩
  intro u2 hb2
  simp only [List.take, List.drop, FinAll, Act.put, List.setIfInBounds_toArray, List.set_cons_succ, List.set_cons_zero]
  rintro v14_2 h14_2 v15_2 h15_2 v13_2 h13_2 _ ⟨e16_2, rfl, x16_2⟩ _ rfl _ ⟨g7_2, rfl, l7_2, m7_2⟩
  refine wpList_store_row rfl 51 (.tmp 7) (.tmp 16) rfl _ (e16_2) rfl rfl 51 _ m7_2 (by rw [cellsP_size x16_2]; exact info29) (by rw [cellsP_size x16_2]; rfl) (cellsP_one x16_2) ?_
  have n7_2 := setRow_heap _ _ _ (e16_2) _ _ m7_2
  replace hb2 := setRow_below hb2 l7_2 (e16_2)
  generalize hw2_1 : u2.setRow g7_2 (e16_2) = u2_1 at n7_2 hb2  ⊢
  clear hw2_1 m7_2
  refine wpList_assign rfl rfl rfl ?_
  simp only [Act.put, Act.eval, Array.getD_eq_getD_getElem?, List.getElem?_toArray, List.getElem?_cons_succ, List.getElem?_cons_zero, Option.getD_some, List.setIfInBounds_toArray, List.set_cons_succ, List.set_cons_zero]
  have hO2 := (hO1).trans (hb2.mono (hO1).size)
  have lwn7_2 := Nat.le_trans (hO1).size l7_2
  have hT2 := TabV.below hT1 hb2
  refine hK2 _ _ ?_
  clear hK2 K2
  refine wp_seq_k fun KO1 hKO1 => ?_
  refine wp_seq_k fun K3 hK3 => ?_
  refine wp_plain_inv 2 (specs [Is (.int .i64 0), Is (.bool false)]) (specs_stb ⟨Is.stb _, Is.stb _, trivial⟩) (by kernel_rfl) ?_ ?_
  · refine ⟨fun a w hB hfr hdep => Step.plain rfl (dMove (R := Is (.int .i64 0)) rfl (hfr 8 (by kernel_rfl))),
      fun a w hB hfr hdep => Step.plain rfl (Does.run _ (run_binO rfl (hdep 0 18 (by kernel_rfl)) rfl (by kernel_rfl)) rfl), trivial⟩
  intro u3 hb3
  simp only [List.take, List.drop, FinAll, Act.put, List.setIfInBounds_toArray, List.set_cons_succ, List.set_cons_zero]
  rintro _ rfl _ rfl
  have hO3 := (hO2).trans (hb3.mono (hO2).size)
  have n7_2__3 := block_below hb3 (lt_of_heap n7_2) n7_2
  have hT3 := TabV.below hT2 hb3
  refine hK3 _ _ ?_
  clear hK3 K3
  refine wp_cond_false rfl ?_
  refine wp_skip ?_
  refine hKO1 _ _ ?_
  clear hKO1 KO1
  refine wp_seq_k fun KO2 hKO2 => ?_
  refine wp_seq_k fun K4 hK4 => ?_
  refine wp_plain_inv 3 (specs [Bts (sig), Is (.int .i64 64), Is (.bool false)]) (specs_stb ⟨Bts.stb _, Is.stb _, Is.stb _, trivial⟩) (by kernel_rfl) ?_ ?_
  · refine ⟨fun a w hB hfr hdep => Step.plain rfl (dMove (R := Bts (sig)) rfl (use (hfr 2 (by kernel_rfl)) ((Bts.stb _) _ _ _ hB ((Bts.stb _) _ _ _ hb3 ((Bts.stb _) _ _ _ hb2 ((Bts.stb _) _ _ _ hb1 hs)))))),
      fun a w hB hfr hdep => Step.plain rfl (dLenB hs64 rfl (hdep 0 20 (by kernel_rfl))),
      fun a w hB hfr hdep => Step.plain rfl (Does.run _ (run_binO rfl (hdep 1 21 (by kernel_rfl)) rfl (by kernel_rfl)) rfl), trivial⟩
  intro u4 hb4
  simp only [List.take, List.drop, FinAll, Act.put, List.setIfInBounds_toArray, List.set_cons_succ, List.set_cons_zero]
  rintro v20_4 h20_4 _ rfl _ rfl
  have hO4 := (hO3).trans (hb4.mono (hO3).size)
  have n7_2__4 := block_below hb4 (lt_of_heap n7_2__3) n7_2__3
  have hT4 := TabV.below hT3 hb4
  refine hK4 _ _ ?_
  clear hK4 K4
  refine wp_cond_false rfl ?_
  refine wp_skip ?_
  refine hKO2 _ _ ?_
  clear hKO2 KO2
  refine wp_seq_k fun K5 hK5 => ?_
  refine wp_plain_inv 7 (specs [Bts (sig), Tup2 (Bts ((sig).take 32)) (Bts ((sig).drop 32)), Tup2 (Bts ((sig).take 32)) (Bts ((sig).drop 32)), Bts ((sig).take 32), Bts ((sig).drop 32), Bts ((sig).take 32), Bts ((sig).drop 32)]) (specs_stb ⟨Bts.stb _, Tup2.stb (Bts.stb _) (Bts.stb _), Tup2.stb (Bts.stb _) (Bts.stb _), Bts.stb _, Bts.stb _, Bts.stb _, Bts.stb _, trivial⟩) (by kernel_rfl) ?_ ?_
  · refine ⟨fun a w hB hfr hdep => Step.plain rfl (dMove (R := Bts (sig)) rfl (use (hfr 2 (by kernel_rfl)) ((Bts.stb _) _ _ _ hB ((Bts.stb _) _ _ _ hb4 ((Bts.stb _) _ _ _ hb3 ((Bts.stb _) _ _ _ hb2 ((Bts.stb _) _ _ _ hb1 hs))))))),
      fun a w hB hfr hdep => Step.plain rfl (Does.call 24 #[(a.eval (.tmp 24))] (by kernel_rfl) (cHalves w (hdep 0 24 (by kernel_rfl)) hs64)),
      fun a w hB hfr hdep => Step.plain rfl (dMove (R := Tup2 (Bts ((sig).take 32)) (Bts ((sig).drop 32))) rfl (hdep 1 25 (by kernel_rfl))),
      fun a w hB hfr hdep => Step.plain rfl (dExt0 rfl (hdep 2 23 (by kernel_rfl))),
      fun a w hB hfr hdep => Step.plain rfl (dExt1 rfl (hdep 2 23 (by kernel_rfl))),
      fun a w hB hfr hdep => Step.plain rfl (dAssign (R := Bts ((sig).take 32)) rfl (hdep 3 26 (by kernel_rfl))),
      fun a w hB hfr hdep => Step.plain rfl (dAssign (R := Bts ((sig).drop 32)) rfl (hdep 4 27 (by kernel_rfl))), trivial⟩
  intro u5 hb5
  simp only [List.take, List.drop, FinAll, Act.put, List.setIfInBounds_toArray, List.set_cons_succ, List.set_cons_zero]
  rintro v24_5 h24_5 v25_5 h25_5 v23_5 h23_5 v26_5 h26_5 v27_5 h27_5 v9_5 h9_5 v10_5 h10_5
  have hO5 := (hO4).trans (hb5.mono (hO4).size)
  have n7_2__5 := block_below hb5 (lt_of_heap n7_2__4) n7_2__4
  have hT5 := TabV.below hT4 hb5
  refine hK5 _ _ ?_
  clear hK5 K5
  refine wp_seq_k fun KO3 hKO3 => ?_
  refine wp_seq_k fun K6 hK6 => ?_
  refine wp_plain_inv 3 (specs [Bts ((sig).drop 32), Is (.bool true), Is (.bool false)]) (specs_stb ⟨Bts.stb _, Is.stb _, Is.stb _, trivial⟩) (by kernel_rfl) ?_ ?_
  · refine ⟨fun a w hB hfr hdep => Step.plain rfl (dMove (R := Bts ((sig).drop 32)) rfl (use (hfr 10 (by kernel_rfl)) ((Bts.stb _) _ _ _ hB h10_5))),
      fun a w hB hfr hdep => Step.plain rfl (Does.call 25 #[(a.eval (.tmp 28))] (by kernel_rfl) (cIsB hIs w (TabV.below hT5 hB).1 (hdep 0 28 (by kernel_rfl)) (Dig.drop hsig _))),
      fun a w hB hfr hdep => Step.plain rfl (Does.run _ (run_notO rfl (hdep 1 29 (by kernel_rfl))) rfl), trivial⟩
  intro u6 hb6
  simp only [List.take, List.drop, FinAll, Act.put, List.setIfInBounds_toArray, List.set_cons_succ, List.set_cons_zero]
  rintro v28_6 h28_6 _ rfl _ rfl
  have hO6 := (hO5).trans (hb6.mono (hO5).size)
  have n7_2__6 := block_below hb6 (lt_of_heap n7_2__5) n7_2__5
  have hT6 := TabV.below hT5 hb6
  refine hK6 _ _ ?_
  clear hK6 K6
  refine wp_cond_false rfl ?_
  refine wp_skip ?_
  refine hKO3 _ _ ?_
  clear hKO3 KO3
  refine wp_seq_k fun K7 hK7 => ?_
  refine wp_plain_inv 6 (specs [Bts ((sig).take 32), Bts (pub), Bts (m), Parts 3 ((sig).take 32) (pub) (m), Own u6.heap.size (digs 32 (numL ((sig).take 32 ++ pub ++ m))), Own u6.heap.size (digs 32 (numL ((sig).take 32 ++ pub ++ m)))]) (specs_stb ⟨Bts.stb _, Bts.stb _, Bts.stb _, Parts.stb _ _ _ _, Own.stb _ _, Own.stb _ _, trivial⟩) (by kernel_rfl) ?_ ?_
  · refine ⟨fun a w hB hfr hdep => Step.plain rfl (dMove (R := Bts ((sig).take 32)) rfl (use (hfr 9 (by kernel_rfl)) ((Bts.stb _) _ _ _ hB ((Bts.stb _) _ _ _ hb6 h9_5)))),
      fun a w hB hfr hdep => Step.plain rfl (dMove (R := Bts (pub)) rfl (use (hfr 0 (by kernel_rfl)) ((Bts.stb _) _ _ _ hB ((Bts.stb _) _ _ _ hb6 ((Bts.stb _) _ _ _ hb5 ((Bts.stb _) _ _ _ hb4 ((Bts.stb _) _ _ _ hb3 ((Bts.stb _) _ _ _ hb2 ((Bts.stb _) _ _ _ hb1 hp))))))))),
      fun a w hB hfr hdep => Step.plain rfl (dMove (R := Bts (m)) rfl (use (hfr 1 (by kernel_rfl)) ((Bts.stb _) _ _ _ hB ((Bts.stb _) _ _ _ hb6 ((Bts.stb _) _ _ _ hb5 ((Bts.stb _) _ _ _ hb4 ((Bts.stb _) _ _ _ hb3 ((Bts.stb _) _ _ _ hb2 ((Bts.stb _) _ _ _ hb1 hm))))))))),
      fun a w hB hfr hdep => Step.plain rfl (dParts3 rfl (hdep 0 31 (by kernel_rfl)) (hdep 1 32 (by kernel_rfl)) (hdep 2 33 (by kernel_rfl))),
      fun a w hB hfr hdep => Step.plain rfl (Does.call 16 #[(a.eval (.tmp 34))] (by kernel_rfl) (ownLo' hB.size (cNumber3 w (TabV.below hT6 hB).1 (hdep 3 34 (by kernel_rfl)) (Dig.take hsig _) hpub hmd (by rw [List.length_take]; omega) (by rw [List.length_take]; omega)))),
      fun a w hB hfr hdep => Step.plain rfl (dAssign (R := Own u6.heap.size (digs 32 (numL ((sig).take 32 ++ pub ++ m)))) rfl (hdep 4 35 (by kernel_rfl))), trivial⟩
  intro u7 hb7
  simp only [List.take, List.drop, FinAll, Act.put, List.setIfInBounds_toArray, List.set_cons_succ, List.set_cons_zero]
  rintro v31_7 h31_7 v32_7 h32_7 v33_7 h33_7 v34_7 h34_7 v35_7 h35_7 v11_7 h11_7
  have hO7 := (hO6).trans (hb7.mono (hO6).size)
  have n7_2__7 := block_below hb7 (lt_of_heap n7_2__6) n7_2__6
  have hT7 := TabV.below hT6 hb7
  refine hK7 _ _ ?_
  clear hK7 K7
  refine wp_seq_k fun K8 hK8 => ?_
  refine wp_region_inv 9 (specs [PtV (bp), Bts ((sig).drop 32), PtV ((bp).nm (valD ((sig).drop 32))), PtV (P), Own u6.heap.size (digs 32 (numL ((sig).take 32 ++ pub ++ m))), PtV ((P).nm (valD (digs 32 (numL ((sig).take 32 ++ pub ++ m))))), PtV (((P).nm (valD (digs 32 (numL ((sig).take 32 ++ pub ++ m))))).neg), PtV (((bp).nm (valD ((sig).drop 32))).add (((P).nm (valD (digs 32 (numL ((sig).take 32 ++ pub ++ m))))).neg)), Box u7.heap.size (ptc zeroE zeroE zeroE zeroE) 51]) (by kernel_rfl) (specs_stb ⟨PtV.stb _, Bts.stb _, PtV.stb _, PtV.stb _, Own.stb _ _, PtV.stb _, PtV.stb _, PtV.stb _, Box.stb _ _ _, trivial⟩) (by kernel_rfl) ?_ ?_
  · refine ⟨fun a w hB hfr hdep => Step.plain rfl (Does.call 26 #[] (by kernel_rfl) (cBase w (TabV.below hT7 hB).1.t)),
      fun a w hB hfr hdep => Step.plain rfl (dMove (R := Bts ((sig).drop 32)) rfl (use (hfr 10 (by kernel_rfl)) ((Bts.stb _) _ _ _ hB ((Bts.stb _) _ _ _ hb7 ((Bts.stb _) _ _ _ hb6 h10_5))))),
      fun a w hB hfr hdep => Step.plain rfl (Does.call 27 #[(a.eval (.tmp 36)), (a.eval (.tmp 37))] (by kernel_rfl) (cMulP w w (TabV.below hT7 hB).1.t (hdep 0 36 (by kernel_rfl)) (hdep 1 37 (by kernel_rfl)) (Dig.drop hsig _) (by rw [List.length_drop]; omega))),
      fun a w hB hfr hdep => Step.plain rfl (dLoadPt x16_2 (block_below hB (lt_of_heap n7_2__7) n7_2__7) rfl (hfr 7 (by kernel_rfl)) (fun _ h => h)),
      fun a w hB hfr hdep => Step.plain rfl (dMove (R := Own u6.heap.size (digs 32 (numL ((sig).take 32 ++ pub ++ m)))) rfl (use (hfr 11 (by kernel_rfl)) ((Own.stb _ _) _ _ _ hB h11_7))),
      fun a w hB hfr hdep => Step.plain rfl (Does.call 27 #[(a.eval (.tmp 39)), (a.eval (.tmp 40))] (by kernel_rfl) (cMulP w w (TabV.below hT7 hB).1.t (hdep 3 39 (by kernel_rfl)) (Own.bts (hdep 4 40 (by kernel_rfl)) (by first | decide | (rw [digs_len]; omega) | (rw [SEED_len]; omega) | (unfold PUB; rw [digs_len]; omega) | simp)) (digs_dig _ _) (by first | decide | (rw [digs_len]; omega) | simp))),
      fun a w hB hfr hdep => Step.plain rfl (Does.call 29 #[(a.eval (.tmp 41))] (by kernel_rfl) (cNeg w w (hdep 5 41 (by kernel_rfl)))),
      fun a w hB hfr hdep => Step.plain rfl (Does.call 28 #[(a.eval (.tmp 38)), (a.eval (.tmp 42))] (by kernel_rfl) (cPAdd w w w (TabV.below hT7 hB).1.t (hdep 2 38 (by kernel_rfl)) (hdep 6 42 (by kernel_rfl)))),
      fun a w hB hfr hdep => Step.plain rfl (dAlloc29 hB.size rfl), trivial⟩
  intro u8 hb8
  simp only [List.take, List.drop, FinAll, Act.put, List.setIfInBounds_toArray, List.set_cons_succ, List.set_cons_zero]
  rintro v36_8 h36_8 v37_8 h37_8 v38_8 h38_8 v39_8 h39_8 v40_8 h40_8 v41_8 h41_8 v42_8 h42_8 _ ⟨e43_8, rfl, x43_8⟩ _ ⟨g12_8, rfl, l12_8, m12_8⟩
  refine wpList_store_row rfl 51 (.tmp 12) (.tmp 43) rfl _ (e43_8) rfl rfl 51 _ m12_8 (by rw [cellsP_size x43_8]; exact info29) (by rw [cellsP_size x43_8]; rfl) (cellsP_one x43_8) ?_
  have n12_8 := setRow_heap _ _ _ (e43_8) _ _ m12_8
  replace hb8 := setRow_below hb8 l12_8 (e43_8)
  generalize hw8_1 : u8.setRow g12_8 (e43_8) = u8_1 at n12_8 hb8  ⊢
  clear hw8_1 m12_8
  have hO8 := (hO7).trans (hb8.mono (hO7).size)
  have n7_2__8 := block_below hb8 (lt_of_heap n7_2__7) n7_2__7
  have lwn12_8 := Nat.le_trans (hO7).size l12_8
  have hT8 := TabV.below hT7 hb8
  refine hK8 _ _ ?_
  clear hK8 K8
  refine wp_seq_k fun KO4 hKO4 => ?_
  refine wp_seq_k fun K9 hK9 => ?_
  refine wp_plain_inv 5 (specs [Bts ((sig).take 32), PtV (((bp).nm (valD ((sig).drop 32))).add (((P).nm (valD (digs 32 (numL ((sig).take 32 ++ pub ++ m))))).neg)), Own u8_1.heap.size (digs 32 (Pt.enc (((bp).nm (valD ((sig).drop 32))).add (((P).nm (valD (digs 32 (numL ((sig).take 32 ++ pub ++ m))))).neg)))), Is (.bool true), Is (.bool false)]) (specs_stb ⟨Bts.stb _, PtV.stb _, Own.stb _ _, Is.stb _, Is.stb _, trivial⟩) (by kernel_rfl) ?_ ?_
  · refine ⟨fun a w hB hfr hdep => Step.plain rfl (dMove (R := Bts ((sig).take 32)) rfl (use (hfr 9 (by kernel_rfl)) ((Bts.stb _) _ _ _ hB ((Bts.stb _) _ _ _ hb8 ((Bts.stb _) _ _ _ hb7 ((Bts.stb _) _ _ _ hb6 h9_5)))))),
      fun a w hB hfr hdep => Step.plain rfl (dLoadPt x43_8 (block_below hB (lt_of_heap n12_8) n12_8) rfl (hfr 12 (by kernel_rfl)) (fun _ h => h)),
      fun a w hB hfr hdep => Step.plain rfl (Does.call 31 #[(a.eval (.tmp 45))] (by kernel_rfl) (ownLo hB.size (cPBytes w w (hdep 1 45 (by kernel_rfl))))),
      fun a w hB hfr hdep => Step.plain rfl (Does.call 30 #[(a.eval (.tmp 44)), (a.eval (.tmp 46))] (by kernel_rfl) (cEqualB hE w (hdep 0 44 (by kernel_rfl)) (Own.bts (hdep 2 46 (by kernel_rfl)) (by first | decide | (rw [digs_len]; omega) | (rw [SEED_len]; omega) | (unfold PUB; rw [digs_len]; omega) | simp)) (Dig.take hsig _) (digs_dig _ _))),
      fun a w hB hfr hdep => Step.plain rfl (Does.run _ (run_notO rfl (hdep 3 47 (by kernel_rfl))) rfl), trivial⟩
  intro u9 hb9
  simp only [List.take, List.drop, FinAll, Act.put, List.setIfInBounds_toArray, List.set_cons_succ, List.set_cons_zero]
  rintro v44_9 h44_9 v45_9 h45_9 v46_9 h46_9 _ rfl _ rfl
  have hO9 := (hO8).trans (hb9.mono (hO8).size)
  have n7_2__9 := block_below hb9 (lt_of_heap n7_2__8) n7_2__8
  have n12_8__9 := block_below hb9 (lt_of_heap n12_8) n12_8
  have hT9 := TabV.below hT8 hb9
  refine hK9 _ _ ?_
  clear hK9 K9
  refine wp_cond_false rfl ?_
  refine wp_skip ?_
  refine hKO4 _ _ ?_
  clear hKO4 KO4
  refine wp_seq_k fun K10 hK10 => ?_
  refine wp_plain_inv 1 (specs [Is (.int .i64 0)]) (specs_stb ⟨Is.stb _, trivial⟩) (by kernel_rfl) ?_ ?_
  · refine ⟨fun a w hB hfr hdep => Step.plain rfl (dAssign (R := Is (.int .i64 0)) rfl rfl), trivial⟩
  intro u10 hb10
  simp only [List.take, List.drop, FinAll, Act.put, List.setIfInBounds_toArray, List.set_cons_succ, List.set_cons_zero]
  rintro _ rfl
  have hO10 := (hO9).trans (hb10.mono (hO9).size)
  have n7_2__10 := block_below hb10 (lt_of_heap n7_2__9) n7_2__9
  have n12_8__10 := block_below hb10 (lt_of_heap n12_8__9) n12_8__9
  have hT10 := TabV.below hT9 hb10
  refine hK10 _ _ ?_
  clear hK10 K10
  refine wp_ret ?_
  refine bodyPost_ret (results_tmp rfl _ _ _) rfl ?_
  exact ⟨_, rfl, hO10, rfl⟩
end Go.Proofs.YtabgihjffjlfiaaDoor
set_option linter.unusedVariables false
namespace Go.Proofs.YtabgihjffjlfiaaDoor
open Go.RowKit Go.Sort Go.BigFrame EN
set_option maxRecDepth 100000
set_option maxHeartbeats 2000000
def mids (l : List Nat) (k : Nat) : List Nat := l.take k ++ List.replicate (32 - k) 0
theorem mids_len {l : List Nat} {k : Nat} (h : k ≤ l.length) (h2 : k ≤ 32) : (mids l k).length = 32 := by
  unfold mids
  rw [List.length_append, List.length_take, List.length_replicate]; omega
theorem mids_step {l : List Nat} {k : Nat} (h : k < l.length) (h2 : k < 32) : (mids l k).set k (l.getD k 0) = mids l (k + 1) := by
  unfold mids
  rw [List.set_append_right _ _ (by rw [List.length_take]; omega), List.length_take, show k - min k l.length = 0 by omega, show 32 - k = (32 - (k + 1)) + 1 by omega, List.replicate_succ, List.set_cons_zero, List.take_add_one, List.append_assoc]
  rw [List.getD_eq_getElem?_getD, List.getElem?_eq_getElem h]; rfl
theorem mids_end {l : List Nat} {k : Nat} (h : k ≤ l.length) (h2 : k ≤ 32) (h3 : k = 32 ∨ k = l.length) : mids l k = SEED l := by
  unfold mids SEED
  rcases h3 with rfl | rfl
  · rw [show 32 - 32 = 32 - l.length by omega]
  · rw [List.take_of_length_le (Nat.le_refl _), List.take_of_length_le h2]
theorem SEED_len (l : List Nat) : (SEED l).length = 32 := by
  unfold SEED
  rw [List.length_append, List.length_take, List.length_replicate]; omega
theorem SEED_dig {l : List Nat} (h : Dig l) : Dig (SEED l) := by
  unfold SEED
  exact (h.take 32).app (dig_lt fun x hx => by rw [List.mem_replicate] at hx; omega)
theorem seed12 (a : Option Addr) (len cap : Nat) (l : List Nat) (w : World) (hlen : Hid (l.length = len)) (h1 : len ≤ cap) (h2 : cap ≤ 9223372036854775807) (hv : View w a l) :
    Calls Tryd.prog 12 #[.slice a len cap] w fun e w' => ∃ g, e = .returned (.slice (some ⟨g, 0, none⟩) 32 32) ∧ w.heap.size ≤ g ∧ Below w.heap.size w w' ∧ w'.heap[g]? = some (.cells (ints .u8 (SEED l)) 5 (0, 0)) := by
  have hmk := make32 w
  have h0 : (w.alloc (.cells (ints .u8 (digs 32 0)) 5)).heap[w.heap.size]? = some (.cells (ints .u8 (mids l 0)) 5 (0, 0)) := heap_alloc_new _ _
  have hB0 : Below w.heap.size w (w.alloc (.cells (ints .u8 (digs 32 0)) 5)) := below1 _ _
  go_enter Tryd.func12, Tryd.ntmps12
  go_wp2_with fail
  generalize w.alloc (.cells (ints .u8 (digs 32 0)) 5) = w0 at *
  go_loopw [4] (fun i wr => ∃ k : Nat, k ≤ 32 ∧ k ≤ len ∧ i = .int .i64 k ∧ Below w.heap.size w wr ∧ wr.heap[w.heap.size]? = some (.cells (ints .u8 (mids l k)) 5 (0, 0))) (fun i _ => 32 - (intOf i).toNat)
  case atStart => exact ⟨0, by omega, by omega, rfl, hB0, h0⟩
  case round =>
    obtain ⟨k, hk, hk2, rfl, hB, hrow⟩ := hrel
    clear hmk h0 hB0
    by_cases hlt : k < 32
    · by_cases hlt2 : k < len
      · obtain ⟨g, off, rfl, hb⟩ := hv (by rw [hlen.out]; omega)
        have hc := (hv.below hB)
        obtain ⟨g', off', e, hb'⟩ := hc (by rw [hlen.out]; omega)
        injection e with e; injection e with e1 e2; subst e1 e2
        have c0 := hb' k (by rw [hlen.out]; omega)
        have f0 := frozen_of_row _ w.heap.size k _ _ hrow
        have hset := set_ints hrow k (l.getD k 0)
        rw [mids_step (by rw [hlen.out]; omega) hlt] at hset
        have hB2 := hB.setCell (p := ⟨w.heap.size, k, none⟩) (Nat.le_refl _) (.int .u8 ((l.getD k 0 : Nat) : Int))
        have HS1 : Hid _ := hset
        have HB2 : Hid _ := hB2
        have hcc : wr.cell? ⟨w.heap.size, k, none⟩ = some (.int .u8 (((mids l k).getD k 0 : Nat) : Int)) := cell_ints hrow k (by rw [mids_len (by rw [hlen.out]; omega) hk]; omega)
        clear hset hB2 hb hb' hc
        generalize (l.getD k 0 : Nat) = x at *
        generalize ((mids l k).getD k 0 : Nat) = y at *
        go_wp2
        go_roundw
        case rel => exact ⟨k + 1, by omega, by omega, by go_num, HB2.out, HS1.out⟩
        case measure => simp [intOf]; omega
      · have hend := mids_end (l := l) (k := k) (by rw [hlen.out]; omega) hk (.inr (by rw [hlen.out]; omega))
        rw [hend] at hrow
        clear hend
        have hnl : ¬ ((k : Int) < (len : Int)) := by omega
        go_wp2_with fail
        go_ret
        exact ⟨_, rfl, Nat.le_refl _, hB, hrow⟩
    · obtain rfl : k = 32 := by omega
      have hend := mids_end (l := l) (k := 32) (by rw [hlen.out]; omega) hk (.inl rfl)
      rw [hend] at hrow
      clear hend
      go_wp2_with fail
      go_ret
      exact ⟨_, rfl, Nat.le_refl _, hB, hrow⟩
theorem cSeed {v : Value} {l : List Nat} (w : World) (h : Bts l v w) : Ret 12 #[v] w (Own w.heap.size (SEED l)) := by
  obtain ⟨a, cap, rfl, h1, h2, hv⟩ := h
  exact (seed12 a l.length cap l w rfl h1 h2 hv).mono fun e w' ⟨g, he, hg, hB, hr⟩ => ⟨_, he, hB, g, by rw [SEED_len], hg, hr⟩
end Go.Proofs.YtabgihjffjlfiaaDoor
set_option linter.unusedVariables false
namespace Go.Proofs.YtabgihjffjlfiaaDoor
open Go.RowKit Go.Sort Go.BigFrame EN
set_option maxRecDepth 100000
set_option maxHeartbeats 2000000
def LV : List Nat := [157, 97, 177, 157, 239, 253, 90, 96, 186, 132, 74, 244, 146, 236, 44, 196, 68, 73, 197, 105, 123, 50, 105, 25, 112, 59, 172, 3, 28, 174, 127, 96]
theorem SH_LV : SH LV = [53, 124, 131, 134, 79, 40, 51, 203, 66, 122, 46, 241, 192, 10, 1, 60, 253, 255, 39, 104, 217, 128, 192, 163, 165, 32, 240, 6, 144, 77, 233, 15, 155, 79, 10, 254, 40, 11, 116, 106, 119, 134, 132, 231, 84, 66, 80, 32, 87, 183, 71, 58, 3, 240, 143, 150, 245, 163, 142, 146, 135, 224, 31, 143] := by kernel_rfl
theorem PRE_LV : PRE LV = [155, 79, 10, 254, 40, 11, 116, 106, 119, 134, 132, 231, 84, 66, 80, 32, 87, 183, 71, 58, 3, 240, 143, 150, 245, 163, 142, 146, 135, 224, 31, 143] := by unfold PRE; rw [SH_LV]; rfl
theorem SH_PRE : SH (PRE LV ++ []) = [182, 177, 156, 216, 224, 66, 111, 89, 131, 250, 17, 45, 137, 161, 67, 170, 151, 218, 184, 188, 93, 235, 141, 91, 98, 83, 201, 40, 182, 82, 114, 244, 4, 64, 152, 194, 169, 144, 3, 156, 222, 91, 106, 72, 24, 223, 11, 251, 110, 64, 220, 93, 238, 84, 36, 128, 50, 150, 35, 35, 231, 1, 53, 45] := by rw [PRE_LV]; kernel_rfl
def aN : Nat := 36144925721603087658594284515452164870581325872720374094707712194495455132720
def rN : Nat := 2015312323900227545039973048451112962192803170366412514267238242679089760755
theorem SEC_LV : valD (SEC LV) = aN := by unfold SEC; rw [SH_LV]; kernel_rfl
theorem RN_LV : RN LV [] = rN := by unfold RN numL; rw [SH_PRE]; kernel_rfl
def chk (x y X Y Z T : Nat) : Bool := Nat.beq (x * Z % pp) (X % pp) && Nat.beq (y * Z % pp) (Y % pp)
theorem at_chk {n x y : Nat} (hn : n < 2 ^ 256) (h : qmul 256 n bxN byN 1 btN 0 1 1 0 (chk x y) = true) : (bp.nm n).x = fe x ∧ (bp.nm n).y = fe y := by
  obtain ⟨X, Y, Z, T, hr, e⟩ := qmul_spec (chk x y) 256 n hn bp_rep zero_rep
  rw [h] at e
  rw [Pt.zero_add] at hr
  have e' := e.symm
  unfold chk at e'
  rw [Bool.and_eq_true] at e'
  have e1 := fe_eq (Nat.eq_of_beq_eq_true e'.1)
  have e2 := fe_eq (Nat.eq_of_beq_eq_true e'.2)
  rw [fe_mul] at e1 e2
  obtain ⟨_, hZ, hx, hy, _⟩ := hr
  exact ⟨mul_cancel hZ (by rw [hx, e1]), mul_cancel hZ (by rw [hy, e2])⟩
def axN : Nat := 38815646466658113194383306759739515082307681141926459231621296960732224964046
def ayN : Nat := 11903303657706407974989296177215005343713679411332034699907763981919547054807
def sxN : Nat := 44370630452101398467924320556439323233869374150616132215183787387252341590058
def syN : Nat := 38448863731492799660668882834560725606410712239157980760146247592118262650597
theorem enc_of {p : Pt} {x y E : Nat} (h : p.x = fe x ∧ p.y = fe y) (h2 : y % pp + t255 * (x % pp % 2) = E) : p.enc = E := by
  unfold Pt.enc
  rw [h.1, h.2, fe_val, fe_val]; exact h2
theorem a_at : (bp.nm aN).x = fe axN ∧ (bp.nm aN).y = fe ayN := at_chk (by decide) (by kernel_rfl)
theorem r_at : (bp.nm rN).x = fe sxN ∧ (bp.nm rN).y = fe syN := at_chk (by decide) (by kernel_rfl)
theorem a_enc : (bp.nm aN).enc = 11903303657706407974989296177215005343713679411332034699907763981919547054807 := enc_of a_at (by decide)
theorem a_enc_d : digs 32 11903303657706407974989296177215005343713679411332034699907763981919547054807 = [215, 90, 152, 1, 130, 177, 10, 183, 213, 75, 254, 211, 201, 100, 7, 58, 14, 225, 114, 243, 218, 166, 35, 37, 175, 2, 26, 104, 247, 7, 81, 26] := by decide
theorem PUB_of {n E : Nat} {s : List Nat} (h : valD (SEC s) = n) (h2 : (bp.nm n).enc = E) : PUB s = digs 32 E := by unfold PUB PT; rw [h, h2]
theorem PUB_LV : PUB LV = [215, 90, 152, 1, 130, 177, 10, 183, 213, 75, 254, 211, 201, 100, 7, 58, 14, 225, 114, 243, 218, 166, 35, 37, 175, 2, 26, 104, 247, 7, 81, 26] := by
  rw [PUB_of SEC_LV a_enc, a_enc_d]
theorem r_enc : (bp.nm rN).enc = 38448863731492799660668882834560725606410712239157980760146247592118262650597 := enc_of r_at (by decide)
theorem r_enc_d : digs 32 38448863731492799660668882834560725606410712239157980760146247592118262650597 = [229, 86, 67, 0, 195, 96, 172, 114, 144, 134, 226, 204, 128, 110, 130, 138, 132, 135, 127, 30, 184, 229, 217, 116, 216, 115, 224, 101, 34, 73, 1, 85] := by decide
theorem RB_of {n E : Nat} {s m : List Nat} (h : RN s m = n) (h2 : (bp.nm n).enc = E) : RB s m = digs 32 E := by unfold RB; rw [h, h2]
theorem RB_LV : RB LV [] = [229, 86, 67, 0, 195, 96, 172, 114, 144, 134, 226, 204, 128, 110, 130, 138, 132, 135, 127, 30, 184, 229, 217, 116, 216, 115, 224, 101, 34, 73, 1, 85] := by
  rw [RB_of RN_LV r_enc, r_enc_d]
theorem SIG_LV (k : Nat) (hk : k < 32) : (SIG LV []).getD k 0 = (RB LV []).getD k 0 := by
  unfold SIG
  rw [List.getD_eq_getElem?_getD, List.getD_eq_getElem?_getD, List.getElem?_append_left (by unfold RB; rw [digs_len]; exact hk)]
theorem LV_dig : Dig LV := dig_lt (by decide)
end Go.Proofs.YtabgihjffjlfiaaDoor
set_option linter.unusedVariables false
namespace Go.Proofs.YtabgihjffjlfiaaDoor
open Go.RowKit Go.Sort Go.BigFrame EN
set_option maxRecDepth 100000
set_option maxHeartbeats 2000000
theorem cell_cur {w : World} {g v : Nat} {cur : Array Value} {l : List Nat} (h : w.heap[g]? = some (.cells cur 5 (0, 0))) (hc : ∀ i, i < l.length → cur[i]? = some (.int .u8 ((l.getD i 0 : Nat) : Int))) (i : Nat) (hi : i < l.length) (hv : l.getD i 0 = v) : w.cell? ⟨g, i, none⟩ = some (.int .u8 (v : Int)) := by
  rw [cell_of_row w g i _ 5 _ h, hc i hi, hv]
theorem SIG_len (s m : List Nat) : (SIG s m).length = 64 := by
  unfold SIG RB
  rw [List.length_append, digs_len, digs_len]
theorem PUB_len (s : List Nat) : (PUB s).length = 32 := by
  unfold PUB
  rw [digs_len]
theorem tupLo {f : FuncId} {args : Array Value} {w : World} {l : List Nat} {lo : Nat} {R : Value → World → Prop} (hlo : lo ≤ w.heap.size) (h : Ret f args w (Tup2 (Own w.heap.size l) R)) : Ret f args w (Tup2 (Own lo l) R) :=
  h.mono fun e w' ⟨v, h1, h2, a, b, h3, ⟨g, h4, h5, h6⟩, h7⟩ => ⟨v, h1, h2, a, b, h3, ⟨g, h4, by omega, h6⟩, h7⟩
theorem tupLoC {f : FuncId} {args : Array Value} {w : World} {l : List Nat} {lo : Nat} {R : Value → World → Prop} (hlo : lo ≤ w.heap.size) (h : Ret f args w (Tup2 (OwnC w.heap.size l) R)) : Ret f args w (Tup2 (OwnC lo l) R) :=
  h.mono fun e w' ⟨v, h1, h2, a, b, h3, h4, h7⟩ => ⟨v, h1, h2, a, b, h3, h4.lo hlo, h7⟩
theorem dLV {a : Act} {o : Oper} {w : World} {lo : Nat} (hlo : lo ≤ w.heap.size) (ho : o.op = .buildSlice 22 32 #[(0, .const (.int .u8 157)), (1, .const (.int .u8 97)), (2, .const (.int .u8 177)), (3, .const (.int .u8 157)), (4, .const (.int .u8 239)), (5, .const (.int .u8 253)), (6, .const (.int .u8 90)), (7, .const (.int .u8 96)), (8, .const (.int .u8 186)), (9, .const (.int .u8 132)), (10, .const (.int .u8 74)), (11, .const (.int .u8 244)), (12, .const (.int .u8 146)), (13, .const (.int .u8 236)), (14, .const (.int .u8 44)), (15, .const (.int .u8 196)), (16, .const (.int .u8 68)), (17, .const (.int .u8 73)), (18, .const (.int .u8 197)), (19, .const (.int .u8 105)), (20, .const (.int .u8 123)), (21, .const (.int .u8 50)), (22, .const (.int .u8 105)), (23, .const (.int .u8 25)), (24, .const (.int .u8 112)), (25, .const (.int .u8 59)), (26, .const (.int .u8 172)), (27, .const (.int .u8 3)), (28, .const (.int .u8 28)), (29, .const (.int .u8 174)), (30, .const (.int .u8 127)), (31, .const (.int .u8 96))]) : Does Tryd.prog o a.eval w (fun v w' => Below w.heap.size w w' ∧ Own lo LV v w') :=
  Does.new (.slice (some ⟨w.heap.size, 0, none⟩) 32 32) (.cells (ints .u8 LV) 5) (by simp only [execOp, ho, Act.eval, List.map_toArray, List.map]; kernel_rfl) ⟨_, rfl, hlo, heap_alloc_new _ _⟩
theorem cLives (w : World) (hT : TabA w) : Ret 10 #[] w (Is (.bool true)) := by
  unfold Ret
  have hO0 : Below w.heap.size w w := Below.refl _ _
  go_enter Tryd.func10, Tryd.ntmps10
  refine wp_seq_k fun K1 hK1 => ?_
  refine wp_plain_inv 1 (specs [Is (.bool false)]) (specs_stb ⟨Is.stb _, trivial⟩) (by kernel_rfl) ?_ ?_
  · refine ⟨fun a w hB hfr hdep => Step.plain rfl (dAssign (R := Is (.bool false)) rfl rfl), trivial⟩
  intro u1 hb1
  simp only [List.take, List.drop, FinAll, Act.put, List.setIfInBounds_toArray, List.set_cons_zero]
  rintro _ rfl
  have hO1 := (hO0).trans (hb1.mono (hO0).size)
  have hT1 := TabA.below hT hb1
  refine hK1 _ _ ?_
  clear hK1 K1
  refine wp_seq_k fun K2 hK2 => ?_
  refine wp_plain_inv 2 (specs [Own u1.heap.size (LV), Own u1.heap.size (LV)]) (specs_stb ⟨Own.stb _ _, Own.stb _ _, trivial⟩) (by kernel_rfl) ?_ ?_
  · refine ⟨fun a w hB hfr hdep => Step.plain rfl (dLV hB.size rfl),
      fun a w hB hfr hdep => Step.plain rfl (dAssign (R := Own u1.heap.size (LV)) rfl (hdep 0 6 (by kernel_rfl))), trivial⟩
  intro u2 hb2
  simp only [List.take, List.drop, FinAll, Act.put, List.setIfInBounds_toArray, List.set_cons_succ, List.set_cons_zero]
  rintro v6_2 h6_2 v1_2 h1_2
  have hO2 := (hO1).trans (hb2.mono (hO1).size)
  have hT2 := TabA.below hT1 hb2
  refine hK2 _ _ ?_
  clear hK2 K2
  refine wp_seq_k fun K3 hK3 => ?_
  refine wp_plain_inv 7 (specs [Own u1.heap.size (LV), Tup2 (Own u2.heap.size (PUB (LV))) (Is (.int .i64 0)), Tup2 (Own u2.heap.size (PUB (LV))) (Is (.int .i64 0)), Own u2.heap.size (PUB (LV)), Is (.int .i64 0), Own u2.heap.size (PUB (LV)), Is (.int .i64 0)]) (specs_stb ⟨Own.stb _ _, Tup2.stb (Own.stb _ _) (Is.stb _), Tup2.stb (Own.stb _ _) (Is.stb _), Own.stb _ _, Is.stb _, Own.stb _ _, Is.stb _, trivial⟩) (by kernel_rfl) ?_ ?_
  · refine ⟨fun a w hB hfr hdep => Step.plain rfl (dMove (R := Own u1.heap.size (LV)) rfl (use (hfr 1 (by kernel_rfl)) ((Own.stb _ _) _ _ _ hB h1_2))),
      fun a w hB hfr hdep => Step.plain rfl (Does.call 8 #[(a.eval (.tmp 8))] (by kernel_rfl) (tupLo hB.size (cPublic w (TabA.below hT2 hB) (Own.bts (hdep 0 8 (by kernel_rfl)) (by first | decide | (rw [digs_len]; omega) | (rw [SEED_len]; omega) | (unfold PUB; rw [digs_len]; omega) | simp)) LV_dig rfl))),
      fun a w hB hfr hdep => Step.plain rfl (dMove (R := Tup2 (Own u2.heap.size (PUB (LV))) (Is (.int .i64 0))) rfl (hdep 1 9 (by kernel_rfl))),
      fun a w hB hfr hdep => Step.plain rfl (dExt0 rfl (hdep 2 7 (by kernel_rfl))),
      fun a w hB hfr hdep => Step.plain rfl (dExt1 rfl (hdep 2 7 (by kernel_rfl))),
      fun a w hB hfr hdep => Step.plain rfl (dAssign (R := Own u2.heap.size (PUB (LV))) rfl (hdep 3 10 (by kernel_rfl))),
      fun a w hB hfr hdep => Step.plain rfl (dAssign (R := Is (.int .i64 0)) rfl (hdep 4 11 (by kernel_rfl))), trivial⟩
  intro u3 hb3
  simp only [List.take, List.drop, FinAll, Act.put, List.setIfInBounds_toArray, List.set_cons_succ, List.set_cons_zero]
  rintro v8_3 h8_3 v9_3 h9_3 v7_3 h7_3 v10_3 h10_3 _ rfl v2_3 h2_3 _ rfl
  have hO3 := (hO2).trans (hb3.mono (hO2).size)
  have hT3 := TabA.below hT2 hb3
  refine hK3 _ _ ?_
  clear hK3 K3
  refine wp_seq_k fun K4 hK4 => ?_
  refine wp_plain_inv 7 (specs [Own u1.heap.size (LV), Tup2 (OwnC u3.heap.size (SIG (LV) ([]))) (Is (.int .i64 0)), Tup2 (OwnC u3.heap.size (SIG (LV) ([]))) (Is (.int .i64 0)), OwnC u3.heap.size (SIG (LV) ([])), Is (.int .i64 0), OwnC u3.heap.size (SIG (LV) ([])), Is (.int .i64 0)]) (specs_stb ⟨Own.stb _ _, Tup2.stb (OwnC.stb _ _) (Is.stb _), Tup2.stb (OwnC.stb _ _) (Is.stb _), OwnC.stb _ _, Is.stb _, OwnC.stb _ _, Is.stb _, trivial⟩) (by kernel_rfl) ?_ ?_
  · refine ⟨fun a w hB hfr hdep => Step.plain rfl (dMove (R := Own u1.heap.size (LV)) rfl (use (hfr 1 (by kernel_rfl)) ((Own.stb _ _) _ _ _ hB ((Own.stb _ _) _ _ _ hb3 h1_2)))),
      fun a w hB hfr hdep => Step.plain rfl (Does.call 9 #[(a.eval (.tmp 13)), .slice none 0 0] (by kernel_rfl) (tupLoC hB.size (cSign w (TabA.below hT3 hB) (Own.bts (hdep 0 13 (by kernel_rfl)) (by first | decide | (rw [digs_len]; omega) | (rw [SEED_len]; omega) | (unfold PUB; rw [digs_len]; omega) | simp)) (btsNil rfl) LV_dig rfl (dig_lt (by simp; try omega)) (by decide)))),
      fun a w hB hfr hdep => Step.plain rfl (dMove (R := Tup2 (OwnC u3.heap.size (SIG (LV) ([]))) (Is (.int .i64 0))) rfl (hdep 1 14 (by kernel_rfl))),
      fun a w hB hfr hdep => Step.plain rfl (dExt0 rfl (hdep 2 12 (by kernel_rfl))),
      fun a w hB hfr hdep => Step.plain rfl (dExt1 rfl (hdep 2 12 (by kernel_rfl))),
      fun a w hB hfr hdep => Step.plain rfl (dAssign (R := OwnC u3.heap.size (SIG (LV) ([]))) rfl (hdep 3 15 (by kernel_rfl))),
      fun a w hB hfr hdep => Step.plain rfl (dAssign (R := Is (.int .i64 0)) rfl (hdep 4 16 (by kernel_rfl))), trivial⟩
  intro u4 hb4
  simp only [List.take, List.drop, FinAll, Act.put, List.setIfInBounds_toArray, List.set_cons_succ, List.set_cons_zero]
  rintro v13_4 h13_4 v14_4 h14_4 v12_4 h12_4 v15_4 h15_4 _ rfl v4_4 h4_4 _ rfl
  have hO4 := (hO3).trans (hb4.mono (hO3).size)
  have hT4 := TabA.below hT3 hb4
  refine hK4 _ _ ?_
  clear hK4 K4
  obtain ⟨gp, hvp, hlp, hrowp⟩ := ((Own.stb _ _) _ _ _ hb4 h2_3)
  rw [PUB_len] at hvp
  subst hvp
  obtain ⟨gs, caps, curs, hvs, hls, hrows, hcs, hds, hes⟩ := h4_4
  rw [SIG_len] at hvs
  subst hvs
  have kp0 : u4.cell? ⟨gp, 0, none⟩ = some (.int .u8 215) := cell_val hrowp 0 (by rw [PUB_len]; decide) (by rw [PUB_LV]; rfl)
  have kp1 : u4.cell? ⟨gp, 1, none⟩ = some (.int .u8 90) := cell_val hrowp 1 (by rw [PUB_len]; decide) (by rw [PUB_LV]; rfl)
  have kp2 : u4.cell? ⟨gp, 2, none⟩ = some (.int .u8 152) := cell_val hrowp 2 (by rw [PUB_len]; decide) (by rw [PUB_LV]; rfl)
  have kp3 : u4.cell? ⟨gp, 3, none⟩ = some (.int .u8 1) := cell_val hrowp 3 (by rw [PUB_len]; decide) (by rw [PUB_LV]; rfl)
  have ks0 : u4.cell? ⟨gs, 0, none⟩ = some (.int .u8 229) := cell_cur hrows hes 0 (by rw [SIG_len]; decide) (by rw [SIG_LV 0 (by decide), RB_LV]; rfl)
  have ks1 : u4.cell? ⟨gs, 1, none⟩ = some (.int .u8 86) := cell_cur hrows hes 1 (by rw [SIG_len]; decide) (by rw [SIG_LV 1 (by decide), RB_LV]; rfl)
  have ks2 : u4.cell? ⟨gs, 2, none⟩ = some (.int .u8 67) := cell_cur hrows hes 2 (by rw [SIG_len]; decide) (by rw [SIG_LV 2 (by decide), RB_LV]; rfl)
  have ks3 : u4.cell? ⟨gs, 3, none⟩ = some (.int .u8 0) := cell_cur hrows hes 3 (by rw [SIG_len]; decide) (by rw [SIG_LV 3 (by decide), RB_LV]; rfl)
  have HO : Hid _ := hO4
  clear hrows hes
  go_wp2
  go_ret
  exact ⟨_, rfl, HO.out, rfl⟩
end Go.Proofs.YtabgihjffjlfiaaDoor
