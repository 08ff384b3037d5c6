/-
  The roots that the reference reckons are the program's two tables.
-/
import Derived.Test.YtomfnkbghlpkeaaDoorR7
import Derived.Test.YtomfnkbghlpkeaaDoorR8
import Derived.Test.YtomfnkbghlpkeaaDoorH
set_option linter.unusedVariables false
namespace Go.Proofs.YtomfnkbghlpkeaaDoor
open Go.RowKit Go.Sort Go.BigFrame
set_option maxRecDepth 100000
set_option maxHeartbeats 600000
def Q3 : List Nat := [1, 1, 1, 1, 2, 2, 2, 2, 2, 3, 3, 3, 3, 3, 3, 3, 3, 3, 4, 4, 4, 4, 4, 4, 4, 4, 4, 4, 4, 4, 5, 5, 5, 5, 5, 5, 5, 5, 5, 5, 5, 5, 5, 5, 5, 5, 5, 6, 6, 6, 6, 6, 6, 6, 6, 6, 6, 6, 6, 6, 6, 6, 6, 6, 6, 6, 6, 6, 7, 7, 7, 7, 7, 7, 7, 7, 7, 7, 7, 7]
def Q2 : List Nat := [1, 1, 2, 2, 3, 3, 4, 4]
def rc (k : Nat) (q t : List Nat) (i : Nat) : Bool := Nat.ble ((q.getD i 0 * 18446744073709551616 + t.getD i 0) ^ k) (PT.getD i 0 * 2 ^ (64 * k)) && Nat.blt (PT.getD i 0 * 2 ^ (64 * k)) ((q.getD i 0 * 18446744073709551616 + t.getD i 0 + 1) ^ k)
theorem rc3 : (List.range 80).all (rc 3 Q3 KS) = true := by kernel_rfl
theorem rc2 : (List.range 8).all (rc 2 Q2 HS) = true := by kernel_rfl
theorem rc_of {k n : Nat} {q t : List Nat} (h : (List.range n).all (rc k q t) = true) (i : Nat) (hi : i < n) : (q.getD i 0 * 18446744073709551616 + t.getD i 0) ^ k ≤ PT.getD i 0 * 2 ^ (64 * k) ∧ PT.getD i 0 * 2 ^ (64 * k) < (q.getD i 0 * 18446744073709551616 + t.getD i 0 + 1) ^ k := by
  have := List.all_eq_true.1 h i (List.mem_range.2 hi)
  unfold rc at this
  rw [Bool.and_eq_true] at this
  exact ⟨Nat.le_of_ble_eq_true this.1, Nat.blt_eq.mp this.2⟩
theorem PT_getD (i : Nat) : PT.getD i 0 < 512 := by
  rw [List.getD_eq_getElem?_getD]
  cases h : PT[i]? with
  | none => decide
  | some x => exact PT_lt x (List.mem_of_getElem? h)
theorem root3_at (i : Nat) (hi : i < 80) (w : World) : Calls Tryd.prog 27 #[.int .i64 ((PT.getD i 0 : Nat) : Int), .int .i64 3] w fun e w' => e = .returned (.int .u64 ((KS.getD i 0 : Nat) : Int)) ∧ Below w.heap.size w w' :=
  (root3 (PT.getD i 0) w (PT_getD i)).mono fun e w' ⟨X, he, h1, h2, hb⟩ => by
    obtain ⟨r1, r2⟩ := rc_of rc3 i hi
    have hX := root_one 3 _ _ _ (by decide) h1 h2 r1 r2
    have hk := KS_lt i
    exact ⟨by rw [he, hX, show (Q3.getD i 0 * 18446744073709551616 + KS.getD i 0) % 18446744073709551616 = KS.getD i 0 by omega], hb⟩
theorem root2_at (i : Nat) (hi : i < 8) (w : World) : Calls Tryd.prog 27 #[.int .i64 ((PT.getD i 0 : Nat) : Int), .int .i64 2] w fun e w' => e = .returned (.int .u64 ((HS.getD i 0 : Nat) : Int)) ∧ Below w.heap.size w w' :=
  (root2 (PT.getD i 0) w (PT_getD i)).mono fun e w' ⟨X, he, h1, h2, hb⟩ => by
    obtain ⟨r1, r2⟩ := rc_of rc2 i hi
    have hX := root_one 2 _ _ _ (by decide) h1 h2 r1 r2
    have hk := HS_lt i
    exact ⟨by rw [he, hX, show (Q2.getD i 0 * 18446744073709551616 + HS.getD i 0) % 18446744073709551616 = HS.getD i 0 by omega], hb⟩
end Go.Proofs.YtomfnkbghlpkeaaDoor
