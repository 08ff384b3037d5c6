/-
  The walk of the reference's Less.
-/
import Derived.Test.YtomfnkbghlpkeaaDoorR5
set_option linter.unusedVariables false
namespace Go.Proofs.YtomfnkbghlpkeaaDoor
open Go.RowKit Go.Sort Go.BigFrame
set_option maxRecDepth 100000
set_option maxHeartbeats 600000

theorem less9_10 (ga ca gb cb : Nat) (a b : List Nat) (w : World) (hla : a.length = 9) (hlb : b.length = 10) (hda : ∀ d ∈ a, d < 65536) (hdb : ∀ d ∈ b, d < 65536)
    (ha : Ints w ga 9 a) (hb : Ints w gb 10 b) :
    Calls Tryd.prog 34 #[.slice (some ⟨ga, 0, none⟩) 9 ca, .slice (some ⟨gb, 0, none⟩) 10 cb] w fun e w' => e = .returned (.bool (decide (val a < val b))) ∧ w' = w := by
  have HLA : Hid (a.length = 9) := hla
  have HLB : Hid (b.length = 10) := hlb
  clear hla hlb
  obtain ⟨t, ht⟩ : ∃ t, t = decide (val a < val b) := ⟨_, rfl⟩
  rw [← ht]
  have HT : Hid (t = decide (val a < val b)) := ht
  clear ht
  go_enter Tryd.func34, Tryd.ntmps34
  go_wp2_with fail
  go_loop [6] (fun iv => ∃ m : Nat, m ≤ 10 ∧ iv = .int .i64 ((m : Int) - 1) ∧ ∀ j, m ≤ j → a.getD j 0 = b.getD j 0) (fun iv => (intOf iv + 1).toNat)
  case atStart => exact ⟨10, by omega, rfl, fun j hj => by rw [List.getD_eq_getElem?_getD, List.getD_eq_getElem?_getD, List.getElem?_eq_none (by rw [HLA.out]; omega), List.getElem?_eq_none (by rw [HLB.out]; omega)]⟩
  case round =>
    obtain ⟨m, hm, rfl, hag⟩ := hrel
    have HAG : Hid (∀ j, m ≤ j → a.getD j 0 = b.getD j 0) := hag
    clear hag
    by_cases hlt : 0 < m
    · obtain ⟨x, hx⟩ : ∃ x, x = a.getD (m - 1) 0 := ⟨_, rfl⟩
      obtain ⟨y, hy⟩ : ∃ x, x = b.getD (m - 1) 0 := ⟨_, rfl⟩
      have bx : x < 65536 := by rw [hx]; exact digit_lt hda _
      have bY : y < 65536 := by rw [hy]; exact digit_lt hdb _
      have HXY : Hid (x = a.getD (m - 1) 0 ∧ y = b.getD (m - 1) 0) := ⟨hx, hy⟩
      have hxa : m - 1 < 9 → w.cell? ⟨ga, m - 1, none⟩ = some (.int .i64 (x : Int)) := fun h => by rw [hx]; exact ha _ h
      have hyb : m - 1 < 10 → w.cell? ⟨gb, m - 1, none⟩ = some (.int .i64 (y : Int)) := fun h => by rw [hy]; exact hb _ h
      have hx0 : ¬ m - 1 < 9 → x = 0 := fun h => by rw [hx, List.getD_eq_getElem?_getD, List.getElem?_eq_none (by rw [HLA.out]; omega)]; rfl
      have hy0 : ¬ m - 1 < 10 → y = 0 := fun h => by rw [hy, List.getD_eq_getElem?_getD, List.getElem?_eq_none (by rw [HLB.out]; omega)]; rfl
      have fin1 : x < y → decide (val a < val b) = true := fun h => decide_eq_true (val_less a b hda hdb (m - 1) (fun i hi => HAG.out i (by omega)) (by rw [← hx, ← hy]; exact h))
      have fin2 : y < x → decide (val a < val b) = false := fun h => decide_eq_false (by have := val_less b a hdb hda (m - 1) (fun i hi => (HAG.out i (by omega)).symm) (by rw [← hx, ← hy]; exact h); omega)
      have fin3 : x = y → ∀ j, m - 1 ≤ j → a.getD j 0 = b.getD j 0 := fun h j hj => by
        by_cases e : j = m - 1
        · rw [e, ← hx, ← hy]; exact h
        · exact HAG.out j (by omega)
      clear hx hy
      have F1 : Hid (x < y → t = true) := fun h => HT.out.trans (fin1 h)
      have F2 : Hid (y < x → t = false) := fun h => HT.out.trans (fin2 h)
      have F3 : Hid (x = y → ∀ j, m - 1 ≤ j → a.getD j 0 = b.getD j 0) := fin3
      clear fin1 fin2 fin3
      by_cases h1 : m - 1 < 9
      · have k1 := hxa h1
        have k2 := hyb (by omega)
        clear hxa hyb hx0 hy0
        rcases Nat.lt_trichotomy x y with h | h | h
        · have h' : (x : Int) < (y : Int) := by omega
          go_wp2_with fail
          go_ret
          exact ⟨by rw [F1.out h]; simp, rfl⟩
        · have HX : Hid (x = y) := h
          subst h
          go_wp2_with fail
          go_round
          case rel => exact ⟨m - 1, by omega, by go_num, F3.out rfl⟩
          case measure => simp [intOf]; omega
        · have h' : ¬ (x : Int) < (y : Int) := by omega
          go_wp2_with fail
          go_ret
          exact ⟨by rw [F2.out h]; simp, rfl⟩
      · have k1 := hx0 h1
        have k2 := hyb (by omega)
        clear hxa hyb hx0 hy0
        subst k1
        by_cases h : 0 < y
        · go_wp2_with fail
          go_ret
          exact ⟨by rw [F1.out h]; simp, rfl⟩
        · obtain rfl : y = 0 := by omega
          go_wp2_with fail
          go_round
          case rel => exact ⟨m - 1, by omega, by go_num, F3.out rfl⟩
          case measure => simp [intOf]; omega
    · obtain rfl : m = 0 := by omega
      have e : val a = val b := by have := drop_val_eq a b 0 (fun i _ => HAG.out i (by omega)); simpa using this
      have hf : t = false := HT.out.trans (decide_eq_false (by omega))
      have HF : Hid (t = false) := hf
      clear hf e
      go_wp2_with fail
      go_ret
      exact ⟨by rw [HF.out]; rfl, rfl⟩

theorem less13_15 (ga ca gb cb : Nat) (a b : List Nat) (w : World) (hla : a.length = 13) (hlb : b.length = 15) (hda : ∀ d ∈ a, d < 65536) (hdb : ∀ d ∈ b, d < 65536)
    (ha : Ints w ga 13 a) (hb : Ints w gb 15 b) :
    Calls Tryd.prog 34 #[.slice (some ⟨ga, 0, none⟩) 13 ca, .slice (some ⟨gb, 0, none⟩) 15 cb] w fun e w' => e = .returned (.bool (decide (val a < val b))) ∧ w' = w := by
  have HLA : Hid (a.length = 13) := hla
  have HLB : Hid (b.length = 15) := hlb
  clear hla hlb
  obtain ⟨t, ht⟩ : ∃ t, t = decide (val a < val b) := ⟨_, rfl⟩
  rw [← ht]
  have HT : Hid (t = decide (val a < val b)) := ht
  clear ht
  go_enter Tryd.func34, Tryd.ntmps34
  go_wp2_with fail
  go_loop [6] (fun iv => ∃ m : Nat, m ≤ 15 ∧ iv = .int .i64 ((m : Int) - 1) ∧ ∀ j, m ≤ j → a.getD j 0 = b.getD j 0) (fun iv => (intOf iv + 1).toNat)
  case atStart => exact ⟨15, by omega, rfl, fun j hj => by rw [List.getD_eq_getElem?_getD, List.getD_eq_getElem?_getD, List.getElem?_eq_none (by rw [HLA.out]; omega), List.getElem?_eq_none (by rw [HLB.out]; omega)]⟩
  case round =>
    obtain ⟨m, hm, rfl, hag⟩ := hrel
    have HAG : Hid (∀ j, m ≤ j → a.getD j 0 = b.getD j 0) := hag
    clear hag
    by_cases hlt : 0 < m
    · obtain ⟨x, hx⟩ : ∃ x, x = a.getD (m - 1) 0 := ⟨_, rfl⟩
      obtain ⟨y, hy⟩ : ∃ x, x = b.getD (m - 1) 0 := ⟨_, rfl⟩
      have bx : x < 65536 := by rw [hx]; exact digit_lt hda _
      have bY : y < 65536 := by rw [hy]; exact digit_lt hdb _
      have HXY : Hid (x = a.getD (m - 1) 0 ∧ y = b.getD (m - 1) 0) := ⟨hx, hy⟩
      have hxa : m - 1 < 13 → w.cell? ⟨ga, m - 1, none⟩ = some (.int .i64 (x : Int)) := fun h => by rw [hx]; exact ha _ h
      have hyb : m - 1 < 15 → w.cell? ⟨gb, m - 1, none⟩ = some (.int .i64 (y : Int)) := fun h => by rw [hy]; exact hb _ h
      have hx0 : ¬ m - 1 < 13 → x = 0 := fun h => by rw [hx, List.getD_eq_getElem?_getD, List.getElem?_eq_none (by rw [HLA.out]; omega)]; rfl
      have hy0 : ¬ m - 1 < 15 → y = 0 := fun h => by rw [hy, List.getD_eq_getElem?_getD, List.getElem?_eq_none (by rw [HLB.out]; omega)]; rfl
      have fin1 : x < y → decide (val a < val b) = true := fun h => decide_eq_true (val_less a b hda hdb (m - 1) (fun i hi => HAG.out i (by omega)) (by rw [← hx, ← hy]; exact h))
      have fin2 : y < x → decide (val a < val b) = false := fun h => decide_eq_false (by have := val_less b a hdb hda (m - 1) (fun i hi => (HAG.out i (by omega)).symm) (by rw [← hx, ← hy]; exact h); omega)
      have fin3 : x = y → ∀ j, m - 1 ≤ j → a.getD j 0 = b.getD j 0 := fun h j hj => by
        by_cases e : j = m - 1
        · rw [e, ← hx, ← hy]; exact h
        · exact HAG.out j (by omega)
      clear hx hy
      have F1 : Hid (x < y → t = true) := fun h => HT.out.trans (fin1 h)
      have F2 : Hid (y < x → t = false) := fun h => HT.out.trans (fin2 h)
      have F3 : Hid (x = y → ∀ j, m - 1 ≤ j → a.getD j 0 = b.getD j 0) := fin3
      clear fin1 fin2 fin3
      by_cases h1 : m - 1 < 13
      · have k1 := hxa h1
        have k2 := hyb (by omega)
        clear hxa hyb hx0 hy0
        rcases Nat.lt_trichotomy x y with h | h | h
        · have h' : (x : Int) < (y : Int) := by omega
          go_wp2_with fail
          go_ret
          exact ⟨by rw [F1.out h]; simp, rfl⟩
        · have HX : Hid (x = y) := h
          subst h
          go_wp2_with fail
          go_round
          case rel => exact ⟨m - 1, by omega, by go_num, F3.out rfl⟩
          case measure => simp [intOf]; omega
        · have h' : ¬ (x : Int) < (y : Int) := by omega
          go_wp2_with fail
          go_ret
          exact ⟨by rw [F2.out h]; simp, rfl⟩
      · have k1 := hx0 h1
        have k2 := hyb (by omega)
        clear hxa hyb hx0 hy0
        subst k1
        by_cases h : 0 < y
        · go_wp2_with fail
          go_ret
          exact ⟨by rw [F1.out h]; simp, rfl⟩
        · obtain rfl : y = 0 := by omega
          go_wp2_with fail
          go_round
          case rel => exact ⟨m - 1, by omega, by go_num, F3.out rfl⟩
          case measure => simp [intOf]; omega
    · obtain rfl : m = 0 := by omega
      have e : val a = val b := by have := drop_val_eq a b 0 (fun i _ => HAG.out i (by omega)); simpa using this
      have hf : t = false := HT.out.trans (decide_eq_false (by omega))
      have HF : Hid (t = false) := hf
      clear hf e
      go_wp2_with fail
      go_ret
      exact ⟨by rw [HF.out]; rfl, rfl⟩
end Go.Proofs.YtomfnkbghlpkeaaDoor
