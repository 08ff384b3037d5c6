/-
  The walk of reduce.
-/
import Derived.Test.YtoehjkebfpoigaaDoorWB
set_option linter.unusedVariables false
namespace Go.Proofs.YtoehjkebfpoigaaDoor
open Go.RowKit Go.Sort Go.BigFrame
set_option maxRecDepth 100000
set_option maxHeartbeats 2000000
def LI : Int := 7237005577332262213973186563042994240857116359379907606001950938285454250989
theorem LI_LL : LI = (LL : Int) := by decide
theorem b9 : (268435456 : Int) ^ 9 = 7237005577332262213973186563042994240829374041602535252466099000494570602496 := by decide
theorem b9L : (268435456 : Int) ^ 9 + exc = LI := by decide
/-- What is known of the number at round m. -/
def RInv (m : Nat) (N V : Int) : Prop := V % LI = N % LI ∧ -(11417981541647679048466287755595961091061972992 * 268435456 ^ m) ≤ V ∧ V < LI * 268435456 ^ m
theorem rinv_times {m : Nat} {N V : Int} (h : RInv (m + 1) N V) : -1 ≤ V / 268435456 ^ (m + 9) ∧ V / 268435456 ^ (m + 9) ≤ 268435456 := by
  obtain ⟨_, h1, h2⟩ := h
  have hB := pos28 m
  rw [Int.pow_add 268435456 m 9, b9]
  rw [Int.pow_succ] at h1 h2
  obtain ⟨B, hBe⟩ : ∃ B : Int, B = 268435456 ^ m := ⟨_, rfl⟩
  rw [← hBe] at hB h1 h2 ⊢
  unfold LI at h2
  clear hBe
  constructor
  · refine Int.le_ediv_of_mul_le (by omega) (by omega)
  · refine Int.le_of_lt_add_one (Int.ediv_lt_of_lt_mul (by omega) ?_)
    omega
theorem rinv_step {m : Nat} {N V : Int} (h : RInv (m + 1) N V) : RInv m N (V - 268435456 ^ (m + 9) * (V / 268435456 ^ (m + 9)) - 268435456 ^ m * (V / 268435456 ^ (m + 9) * exc)) := by
  have ht := rinv_times h
  obtain ⟨h0, h1, h2⟩ := h
  have hB := pos28 m
  have hr1 := Int.emod_nonneg V (show (268435456 : Int) ^ (m + 9) ≠ 0 by have := pos28 (m + 9); omega)
  have hr2 := Int.emod_lt_of_pos V (pos28 (m + 9))
  have hr3 := Int.mul_ediv_add_emod V (268435456 ^ (m + 9))
  obtain ⟨t, hte⟩ : ∃ t : Int, t = V / 268435456 ^ (m + 9) := ⟨_, rfl⟩
  rw [← hte] at ht hr3 ⊢
  obtain ⟨r, hre⟩ : ∃ r : Int, r = V % 268435456 ^ (m + 9) := ⟨_, rfl⟩
  rw [← hre] at hr1 hr2 hr3
  have e9 : (268435456 : Int) ^ (m + 9) = 268435456 ^ m * 7237005577332262213973186563042994240829374041602535252466099000494570602496 := by rw [Int.pow_add 268435456 m 9, b9]
  obtain ⟨B, hBe⟩ : ∃ B : Int, B = 268435456 ^ m := ⟨_, rfl⟩
  rw [← hBe] at e9 hB ⊢
  have hV : V - 268435456 ^ (m + 9) * t - B * (t * exc) = V - LI * (B * t) := by
    rw [e9, ← b9L, b9, Int.add_mul]
    have a1 : B * 7237005577332262213973186563042994240829374041602535252466099000494570602496 * t = 7237005577332262213973186563042994240829374041602535252466099000494570602496 * (B * t) := by rw [Int.mul_comm B, Int.mul_assoc]
    have a2 : B * (t * exc) = exc * (B * t) := by rw [← Int.mul_assoc, Int.mul_comm]
    rw [a1, a2]; omega
  have hexc : (0 : Int) < exc ∧ exc < 42535295865117307932921825928971026432 := by decide
  have hu1 : -exc ≤ t * exc := by
    have := Int.mul_le_mul_of_nonneg_right ht.1 (Int.le_of_lt hexc.1)
    omega
  have hu2 : t * exc ≤ 268435456 * exc := Int.mul_le_mul_of_nonneg_right ht.2 (Int.le_of_lt hexc.1)
  have hw1 : B * (-exc) ≤ B * (t * exc) := Int.mul_le_mul_of_nonneg_left hu1 (Int.le_of_lt hB)
  have hw2 : B * (t * exc) ≤ B * (268435456 * exc) := Int.mul_le_mul_of_nonneg_left hu2 (Int.le_of_lt hB)
  refine ⟨?_, ?_, ?_⟩
  · rw [hV, Int.sub_mul_emod_self_left, h0]
  · have : B * (268435456 * exc) ≤ B * 11417981541647679048466287755595961091061972992 := Int.mul_le_mul_of_nonneg_left (by decide) (Int.le_of_lt hB)
    rw [← hBe]
    omega
  · rw [← hBe, ← b9L, b9, Int.add_mul]
    have : B * (-exc) = -(exc * B) := by rw [Int.mul_neg, Int.mul_comm]
    omega
theorem rinv_last {N V : Int} (h : RInv 0 N V) (hN : 0 ≤ V) : V = N % LI := by
  obtain ⟨h0, h1, h2⟩ := h
  rw [← h0, Int.emod_eq_of_lt hN (by simpa using h2)]
theorem rinv_last2 {N V : Int} (h : RInv 0 N V) (hN : V < 0) : V + LI = N % LI := by
  obtain ⟨h0, h1, h2⟩ := h
  rw [← h0, ← Int.add_emod_right V LI, Int.emod_eq_of_lt (by simp at h1; unfold LI; omega) (by omega)]
theorem row_bound {top : Nat} {V : Int} (h1 : -1 ≤ V / 268435456 ^ top) (h2 : V / 268435456 ^ top ≤ 268435456) (j : Nat) : -1 ≤ (row top V).getD j 0 ∧ (row top V).getD j 0 ≤ 268435456 := by
  rcases Nat.lt_trichotomy j top with h | h | h
  · rw [row_get_lt V h]; omega
  · subst h; rw [row_get_top]; omega
  · rw [row_get_gt V h]; omega
theorem reduce21 (g : Nat) (N : Int) (w : World) (h0 : 0 ≤ N) (h1 : N < 268435456 ^ 19) (hg : w.heap[g]? = some (.cells (zints (row 18 N)) 35 (0, 0))) (hT : Tab w) (hg0 : g ≠ 0) :
    Calls Tryd.prog 21 #[.pointer (some ⟨g, 0, none⟩)] w fun e w' => e = .returned (.tuple #[]) ∧ WRow w w' g (row 8 (N % LI)) := by
  have hR0 : WRow w w g (row (10 + 8) N) := ⟨Frm.refl _ _, hg⟩
  have hI0 : RInv 10 N N := by
    refine ⟨rfl, ?_, ?_⟩
    · have : (0 : Int) ≤ 11417981541647679048466287755595961091061972992 * 268435456 ^ 10 := by decide
      omega
    · have : (268435456 : Int) ^ 19 ≤ LI * 268435456 ^ 10 := by decide
      omega
  clear hg h0 h1
  go_enter Tryd.func21, Tryd.ntmps21
  go_wp2_with fail
  go_loopw [2] (fun i wr => ∃ m : Nat, ∃ V : Int, m ≤ 10 ∧ i = .int .i64 ((m + 8 : Nat) : Int) ∧ RInv m N V ∧ WRow w wr g (row (m + 8) V)) (fun i _ => (intOf i).toNat)
  case atStart => exact ⟨10, N, by omega, rfl, hI0, hR0⟩
  case round =>
    obtain ⟨m, V, hm, rfl, hI, hR⟩ := hrel
    clear hR0 hI0
    by_cases hm0 : m = 0
    · subst hm0
      have c8 := hR.at 8 (by rw [row_len (by omega)]; omega)
      have f8 := hR.free 8
      rw [show 0 + 8 = 8 from rfl] at hR c8
      rw [row_get_top] at c8
      have HI : Hid (RInv 0 N V) := hI
      have hq1 : -1 ≤ V / 268435456 ^ 8 ∧ V / 268435456 ^ 8 ≤ 268435456 := by
        obtain ⟨_, h1, h2⟩ := hI
        simp only [Int.pow_zero, Int.mul_one] at h1 h2
        unfold LI at h2
        have : (268435456 : Int) ^ 8 = 26959946667150639794667015087019630673637144422540572481103610249216 := by decide
        rw [this]
        omega
      have hneg : V / 268435456 ^ 8 < 0 ↔ V < 0 := by
        have : (268435456 : Int) ^ 8 = 26959946667150639794667015087019630673637144422540572481103610249216 := by decide
        rw [this]
        omega
      obtain ⟨q, hq⟩ : ∃ q, q = V / 268435456 ^ 8 := ⟨_, rfl⟩
      rw [← hq] at c8 hq1 hneg
      clear hI
      by_cases hlt : q < 0
      · have hl2 : valW ((row 8 V).set 8 (q + 268435456)) = V + 268435456 ^ 9 := by
          rw [valW_set _ _ _ (by rw [row_len (by omega)]; omega), valW_row, row_get_top, ← hq, show q + 268435456 - q = 268435456 by omega, ← Int.pow_succ]
        have hR1 := (hR.set 8 (q + 268435456)).drew
        have hc := takeExcess31 g 0 (-1) ((row 8 V).set 8 (q + 268435456)) (wr.setCell ⟨g, 8, none⟩ (.int .i64 (q + 268435456))).drew (by show _ = _; rw [List.length_set, row_len (by omega)]) (by omega) (by omega) (by omega)
          (fun j => by have := row_bound (top := 8) (V := V) (by omega) (by omega) j; rw [set_getD]; split <;> omega)
          (fun j hj => by rw [set_getD, if_neg (by omega)]; exact row_get_gt V (by omega)) hR1.2 (hT.frm hR1.1 hg0) hg0
        have HE : Hid (V + LI = N % LI) := rinv_last2 HI.out (hneg.1 hlt)
        rw [hl2, show V + 268435456 ^ 9 - 268435456 ^ 0 * (-1 * exc) = V + LI by rw [← b9L]; simp; omega, HE.out] at hc
        have hF := hR1.1
        clear hl2 hq hneg hR hR1 HE hT HI
        go_wp2_with fail
        go_region
        generalize (wr.setCell ⟨g, 8, none⟩ (.int .i64 (q + 268435456))).drew = w2 at hc hF ⊢
        go_wp2_with fail
        refine hc.mono ?_
        rintro e w1 ⟨rfl, hR1⟩
        go_wp2
        go_end0
        exact ⟨rfl, hF.trans hR1.1, hR1.2⟩
      · have HE : Hid (V = N % LI) := rinv_last HI.out (by omega)
        rw [HE.out] at hR
        clear hq hneg HE hT HI
        go_wp2
        go_end0
        exact ⟨rfl, hR⟩
    · obtain ⟨m, rfl⟩ : ∃ i, m = i + 1 := ⟨m - 1, by omega⟩
      clear hm0
      have ht := rinv_times hI
      have hI1 := rinv_step hI
      have eT : m + 1 + 8 = m + 9 := by omega
      rw [eT] at hR ⊢
      have c1 := hR.at (m + 9) (by rw [row_len (by omega)]; omega)
      have f1 := hR.free (m + 9)
      rw [row_get_top] at c1
      obtain ⟨t, hte⟩ : ∃ t : Int, t = V / 268435456 ^ (m + 9) := ⟨_, rfl⟩
      rw [← hte] at c1 ht hI1
      have hR1 := hR.set (m + 9) 0
      have hl2 : valW ((row (m + 9) V).set (m + 9) 0) = V - 268435456 ^ (m + 9) * t := by
        rw [valW_set _ _ _ (by rw [row_len (by omega)]; omega), valW_row, row_get_top, ← hte, Int.zero_sub, Int.mul_neg]; omega
      have hc := takeExcess31 g m t ((row (m + 9) V).set (m + 9) 0) (wr.setCell ⟨g, m + 9, none⟩ (.int .i64 0)) (by show _ = _; rw [List.length_set, row_len (by omega)]) (by omega) ht.1 ht.2
          (fun j => by have := row_bound (top := m + 9) (V := V) (by omega) (by omega) j; rw [set_getD]; split <;> omega)
          (fun j hj => by
            rw [set_getD]
            split
            · rfl
            · exact row_get_gt V (by rw [row_len (by omega)] at *; omega)) hR1.2 (hT.frm hR1.1 hg0) hg0
      rw [hl2] at hc
      have hF := hR1.1
      have HI : Hid (RInv m N (V - 268435456 ^ (m + 9) * t - 268435456 ^ m * (t * exc))) := hI1
      clear hl2 hte hR hR1 hI hI1
      go_wp2_with fail
      generalize (wr.setCell ⟨g, m + 9, none⟩ (.int .i64 0)) = w2 at hc hF ⊢
      refine hc.mono ?_
      rintro e w1 ⟨rfl, hR1⟩
      have hR2 : WRow w w1 g (row (m + 8) (V - 268435456 ^ (m + 9) * t - 268435456 ^ m * (t * exc))) := ⟨hF.trans hR1.1, hR1.2⟩
      clear hc hR1
      go_wp2
      go_roundw
      case rel => exact ⟨m, _, by omega, by go_num, HI.out, hR2⟩
      case measure => simp [intOf]; omega
end Go.Proofs.YtoehjkebfpoigaaDoor
