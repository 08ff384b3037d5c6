/-
  The walk of takeExcess.
-/
import Derived.Test.YtoehjkebfpoigaaDoorWA
set_option linter.unusedVariables false
namespace Go.Proofs.YtoehjkebfpoigaaDoor
open Go.RowKit Go.Sort Go.BigFrame
set_option maxRecDepth 100000
set_option maxHeartbeats 2000000
/-- The table, as the program's text lays it. -/
def exd : List Int := [217437165, 19280293, 127719000, 262007343, 5342]
theorem exd_val : valW exd = exc := by decide
theorem exd_bound (j : Nat) : 0 ≤ exd.getD j 0 ∧ exd.getD j 0 ≤ 268435455 := by
  match j with
  | 0 => decide
  | 1 => decide
  | 2 => decide
  | 3 => decide
  | 4 => decide
  | n + 5 => simp [exd]
def Tab (w : World) : Prop := ∀ i, i < 5 → w.cell? ⟨0, i, none⟩ = some (.int .i64 (exd.getD i 0))
theorem Tab.frm {g : Nat} {w w' : World} (h : Tab w) (hf : Frm g w w') (hg : g ≠ 0) : Tab w' := fun i hi => by
  have hb : Below 1 w w' := ⟨hf.os, hf.tape, hf.output, by rw [hf.size]; exact Nat.le_refl _, fun k hk => hf.block k (by omega)⟩
  exact (hb.cell (p := ⟨0, i, none⟩) (by show 0 < 1; omega)).trans (h i hi)
theorem Tab.below {w w' : World} (h : Tab w) (hb : Below w.heap.size w w') : Tab w' := fun i hi =>
  (hb.cell (p := ⟨0, i, none⟩) (block_lt_of_cell (h i hi))).trans (h i hi)
theorem Tab.pos {w : World} (h : Tab w) : 0 < w.heap.size := block_lt_of_cell (h 0 (by omega))
theorem prod_bound {t x : Int} (h1 : -1 ≤ t) (h2 : t ≤ 268435456) (h3 : 0 ≤ x) (h4 : x ≤ 268435455) : -268435456 ≤ t * x ∧ t * x ≤ 72057594037927936 := by
  by_cases h : t = -1
  · subst h; omega
  · have h5 : 0 ≤ t := by omega
    have h6 : 0 ≤ t * x := Int.mul_nonneg h5 h3
    have h7 : t * x ≤ 268435456 * 268435455 := Int.mul_le_mul h2 h4 h3 (by decide)
    omega
theorem set_getD (l : List Int) (k j : Nat) (v : Int) : (l.set k v).getD j 0 = if k = j ∧ k < l.length then v else l.getD j 0 := by
  simp only [List.getD_eq_getElem?_getD, List.getElem?_set]
  by_cases h : k = j
  · subst h
    by_cases h2 : k < l.length
    · simp [h2]
    · simp [h2]
  · simp [h]
theorem takeExcess31 (g m : Nat) (t : Int) (l : List Int) (w : World) (hl : Hid (l.length = 19)) (hm : m ≤ 9) (ht1 : -1 ≤ t) (ht2 : t ≤ 268435456) (hb : ∀ j, -600000000 ≤ l.getD j 0 ∧ l.getD j 0 ≤ 600000000)
    (hz : ∀ j, m + 9 ≤ j → l.getD j 0 = 0) (hg : w.heap[g]? = some (.cells (zints l) 35 (0, 0))) (hT : Tab w) (hg0 : g ≠ 0) :
    Calls Tryd.prog 31 #[.pointer (some ⟨g, 0, none⟩), .int .i64 ((m + 9 : Nat) : Int), .int .i64 t] w fun e w' => e = .returned (.tuple #[]) ∧ WRow w w' g (row (m + 8) (valW l - 268435456 ^ m * (t * exc))) := by
  have hR0 : WRow w w g l := ⟨Frm.refl _ _, hg⟩
  clear hg
  go_enter Tryd.func31, Tryd.ntmps31
  go_wp2_with fail
  go_loopw [7] (fun i wr => ∃ k : Nat, k ≤ 5 ∧ i = .int .i64 k ∧ ∃ l' : List Int, l'.length = 19 ∧ (∀ j, -(600000000 + 72057594037927936 * (k : Int)) ≤ l'.getD j 0 ∧ l'.getD j 0 ≤ 600000000 + 72057594037927936 * (k : Int)) ∧ (∀ j, m + 9 ≤ j → l'.getD j 0 = 0) ∧ valW l' = valW l - 268435456 ^ m * (t * valW (exd.take k)) ∧ WRow w wr g l') (fun i _ => 5 - (intOf i).toNat)
  case atStart => exact ⟨0, by omega, rfl, l, hl.out, by simpa using hb, hz, by simp [valW], hR0⟩
  case round =>
    obtain ⟨k, hk, rfl, l', hl', hb', hz', hv', hR⟩ := hrel
    clear hR0
    by_cases hlt : k < 5
    · have c1 := hR.at (m + k) (by omega)
      have f1 := hR.free (m + k)
      have c2 := (hT.frm hR.1 hg0) k hlt
      obtain ⟨x, hx⟩ : ∃ x, x = l'.getD (m + k) 0 := ⟨_, rfl⟩
      obtain ⟨y, hy⟩ : ∃ y, y = exd.getD k 0 := ⟨_, rfl⟩
      have hbx := hb' (m + k)
      have hby := exd_bound k
      rw [← hx] at c1 hbx
      rw [← hy] at c2 hby
      have hp := prod_bound ht1 ht2 hby.1 hby.2
      obtain ⟨p, hpe⟩ : ∃ p, p = t * y := ⟨_, rfl⟩
      rw [← hpe] at hp
      have hR1 := (hR.set (m + k) (x - p)).drew
      have HR1 : Hid (∃ l2 : List Int, l2.length = 19 ∧ (∀ j, -(600000000 + 72057594037927936 * ((k + 1 : Nat) : Int)) ≤ l2.getD j 0 ∧ l2.getD j 0 ≤ 600000000 + 72057594037927936 * ((k + 1 : Nat) : Int)) ∧ (∀ j, m + 9 ≤ j → l2.getD j 0 = 0) ∧ valW l2 = valW l - 268435456 ^ m * (t * valW (exd.take (k + 1))) ∧ WRow w (wr.setCell ⟨g, m + k, none⟩ (.int .i64 (x - p))).drew g l2) := by
        refine ⟨_, by rw [List.length_set]; exact hl', fun j => ?_, fun j hj => ?_, ?_, hR1⟩
        · have := hb' j
          rw [set_getD]
          split <;> omega
        · rw [set_getD, if_neg (by omega)]; exact hz' j hj
        · rw [valW_set _ _ _ (by omega), hv', valW_take_succ exd k, ← hx, ← hy, Int.pow_add, Int.mul_add, Int.mul_add, hpe, show x - t * y - x = -(t * y) by omega, Int.mul_neg]
          have e1 : 268435456 ^ m * (t * (268435456 ^ k * y)) = 268435456 ^ m * 268435456 ^ k * (t * y) := by
            rw [Int.mul_assoc, ← Int.mul_assoc t, Int.mul_comm t, Int.mul_assoc]
          omega
      have HP : Hid (p = t * y) := hpe
      have ei : ((m : Int) + 9 - 9 + (k : Int)) = ((m + k : Nat) : Int) := by omega
      have ep : t * y = p := hpe.symm
      clear hx hy hpe hR hR1 hb' hz' hv' hl' hb hz hT
      go_wp2_with fail
      go_region
      go_wp2
      go_roundw
      case rel => exact ⟨k + 1, by omega, by go_num, HR1.out⟩
      case measure => simp [intOf]; omega
    · obtain rfl : k = 5 := by omega
      have hc := settle30 g (m + 8) l' wr hl' (by omega) (fun j => by have := hb' j; omega) hR.2
      have HE : Hid (stl l' (m + 8) = row (m + 8) (valW l - 268435456 ^ m * (t * exc))) := by
        show _ = _
        rw [stl_row hl' (by omega) (fun j hj => hz' j (by omega)), hv', show exd.take 5 = exd from rfl, exd_val]
      rw [HE.out] at hc
      have hF := hR.1
      have es : ((m : Int) + 9 - 1) = ((m + 8 : Nat) : Int) := by omega
      clear hb' hz' hv' hl' hb hz hT hR
      go_wp2_with fail
      refine hc.mono ?_
      rintro e w1 ⟨rfl, hR1⟩
      go_wp2
      go_end0
      exact ⟨rfl, hF.trans hR1.1, hR1.2⟩
end Go.Proofs.YtoehjkebfpoigaaDoor
