/-
  Numbers as digits of 65536, the lowest first. Digits and roots: plain mathematics. The walks of the reference's turn, low, top. The walks of the reference's mixed. The walk of the reference's bytes. The walk of the reference's Mul. The walk of the reference's Less. The walk of the reference's Root. The walk of the reference's Primes, at 80. The plain mathematics of the reference's block: its words are the program's. The walk of the reference's block, at words of 32 bits. The walk of the reference's Primes, at 80. The roots that the reference reckons are the program's two tables. append(nil, data...), the data wherever they lie (nil too). What the reference hashes is the message filled up, block after block.
-/
import Derived.Test.YtabgihjffjlfiaaGreatDoorC7
import Derived.Test.YtabgihjffjlfiaaGreatDoorC6
import Derived.Deep.RegionHeld3
import Derived.Deep.AppendLies
import Derived.Deep.DrawnRows
set_option linter.unusedVariables false
namespace Go.Proofs.YtabgihjffjlfiaaGreatDoor
namespace SR
def val : List Nat → Nat
 | [] => 0
 | d :: r => d + 65536 * val r
theorem val_append (a b : List Nat) : val (a ++ b) = val a + 65536 ^ a.length * val b := by
 induction a with
 | nil => simp [val]
 | cons d r ih =>
  simp only [List.cons_append, val, ih, List.length_cons, Nat.pow_succ, Nat.mul_add]
  rw [Nat.mul_comm (65536 ^ r.length) 65536, Nat.mul_assoc, Nat.add_assoc]
theorem val_set (l : List Nat) (i v : Nat) (h : i < l.length) : val (l.set i v) + 65536 ^ i * l.getD i 0 = val l + 65536 ^ i * v := by
 induction l generalizing i with
 | nil => simp at h
 | cons d r ih =>
  cases i with
  | zero => simp [val]; omega
  | succ i =>
   have := ih i (by simpa using h)
   simp only [lS, val, List.getD_cons_succ, Nat.pow_succ]
   rw [Nat.mul_comm (65536 ^ i) 65536, Nat.mul_assoc, Nat.mul_assoc]
   omega
theorem val_zero (n : Nat) : val (List.replicate n 0) = 0 := by
 induction n with
 | zero => rfl
 | succ n ih => simp [List.replicate_succ, val, ih]
theorem val_lt (l : List Nat) (h : ∀ d ∈ l, d < 65536) : val l < 65536 ^ l.length := by
 induction l with
 | nil => simp [val]
 | cons d r ih =>
  have h1 := ih (fun x hx => h x (by simp [hx]))
  have h2 := h d (by simp)
  simp only [val, List.length_cons, Nat.pow_succ]
  have : 65536 * (val r + 1) ≤ 65536 * 65536 ^ r.length := Nat.mul_le_mul_left _ h1
  rw [Nat.mul_comm (65536 ^ r.length)]
  omega
theorem val_take (l : List Nat) (n : Nat) (h : n < l.length) : val (l.take (n + 1)) = val (l.take n) + 65536 ^ n * l.getD n 0 := by
 rw [List.take_succ_eq_append_getElem h, val_append]
 simp [val, h, Nat.min_eq_left (Nat.le_of_lt h)]
theorem val_drop (l : List Nat) (n : Nat) : val l = val (l.take n) + 65536 ^ n * val (l.drop n) := by
 by_cases h : n ≤ l.length
 ·conv => lhs; rw [← List.take_append_drop n l, val_append]
  rw [List.length_take, Nat.min_eq_left h]
 ·rw [List.take_of_length_le (by omega), List.drop_eq_nil_of_le (by omega)]; simp [val]
theorem drop_val_eq (a b : List Nat) (n : Nat) (h : ∀ i, n ≤ i → a.getD i 0 = b.getD i 0) : val (a.drop n) = val (b.drop n) := by
 have key : ∀ (m : Nat) (x y : List Nat), x.length + y.length ≤ m → (∀ i, x.getD i 0 = y.getD i 0) → val x = val y := by
  intro m
  induction m with
  | zero =>
   intro x y hl _
   have hx : x = [] := List.length_eq_zero_iff.1 (by omega)
   have hy : y = [] := List.length_eq_zero_iff.1 (by omega)
   rw [hx, hy]
  | succ m ih =>
   intro x y hl he
   cases x with
   | nil =>
    cases y with
    | nil => rfl
    | cons d r =>
     have h0 := he 0
     have h1 := ih [] r (by simp at hl ⊢; omega) (fun i => by have := he (i + 1); simpa using this)
     simp [val] at h0 h1 ⊢
     omega
   | cons d r =>
    cases y with
    | nil =>
     have h0 := he 0
     have h1 := ih r [] (by simp at hl ⊢; omega) (fun i => by have := he (i + 1); simpa using this)
     simp [val] at h0 h1 ⊢
     omega
    | cons d' r' =>
     have h0 := he 0
     have h1 := ih r r' (by simp at hl ⊢; omega) (fun i => by have := he (i + 1); simpa using this)
     simp at h0
     simp [val, h0, h1]
 exact key _ _ _ (Nat.le_refl _) (fun i => by have := h (n + i) (by omega); simpa using this)
theorem val_less (a b : List Nat) (ha : ∀ d ∈ a, d < 65536) (hb : ∀ d ∈ b, d < 65536) (n : Nat) (h : ∀ i, n < i → a.getD i 0 = b.getD i 0) (hn : a.getD n 0 < b.getD n 0) : val a < val b := by
 have d1 := drop_val_eq a b (n + 1) (fun i hi => h i hi)
 have e : ∀ l : List Nat, (∀ d ∈ l, d < 65536) → val l = val (l.take n) + 65536 ^ n * l.getD n 0 + 65536 ^ (n + 1) * val (l.drop (n + 1)) := by
  intro l hl
  rw [val_drop l (n + 1)]
  congr 1
  by_cases h : n < l.length
  ·exact val_take l n h
  ·rw [List.take_of_length_le (by omega), List.take_of_length_le (by omega), List.getD_eq_getElem?_getD, List.getElem?_eq_none (by omega)]; simp
 rw [e a ha, e b hb, d1]
 have l1 : val (a.take n) < 65536 ^ n := by
  have := val_lt (a.take n) (fun d hd => ha d (List.mem_of_mem_take hd))
  refine Nat.lt_of_lt_of_le this (Nat.pow_le_pow_right (by decide) ?_)
  simp; omega
 have l2 : 65536 ^ n * (a.getD n 0 + 1) ≤ 65536 ^ n * b.getD n 0 := Nat.mul_le_mul_left _ hn
 rw [Nat.mul_add, Nat.mul_one] at l2
 omega
end SR
end Go.Proofs.YtabgihjffjlfiaaGreatDoor
set_option linter.unusedVariables false
namespace Go.Proofs.YtabgihjffjlfiaaGreatDoor
namespace SR
theorem val_digit (l : List Nat) (h : ∀ d ∈ l, d < 65536) (n : Nat) : l.getD n 0 = val l / 65536 ^ n % 65536 := by
 have h1 : val (l.take n) < 65536 ^ n := by
  have := val_lt (l.take n) (fun d hd => h d (List.mem_of_mem_take hd))
  exact Nat.lt_of_lt_of_le this (Nat.pow_le_pow_right (by decide) (by simp; omega))
 have h2 : val l / 65536 ^ n = val (l.drop n) := by
  rw [val_drop l n, Nat.add_mul_div_left _ _ (Nat.pow_pos (by decide)), Nat.div_eq_of_lt h1, Nat.zero_add]
 rw [h2]
 by_cases hn : n < l.length
 ·have e : l.drop n = l[n] :: l.drop (n + 1) := List.drop_eq_getElem_cons hn
  rw [e, val, Nat.add_mul_mod_self_left, Nat.mod_eq_of_lt (h _ (List.getElem_mem hn))]
  simp [hn]
 ·rw [List.drop_eq_nil_of_le (by omega), List.getD_eq_getElem?_getD, List.getElem?_eq_none (by omega)]; rfl
theorem digit_room (X q r : Nat) (hr : r < 16) (hd : 2 ^ (16 * q + r + 1) ∣ X) : X / 65536 ^ q % 65536 + 2 ^ r < 65536 := by
 obtain ⟨Y, rfl⟩ := hd
 have e1 : 65536 ^ q = 2 ^ (16 * q) := by rw [Nat.pow_mul]
 have e2 : 2 ^ (16 * q + r + 1) * Y = 2 ^ (16 * q) * (2 ^ (r + 1) * Y) := by rw [Nat.add_assoc, Nat.pow_add, Nat.mul_assoc]
 rw [e1, e2, Nat.mul_div_cancel_left _ (Nat.two_pow_pos _)]
 have e3 : (65536 : Nat) = 2 ^ (r + 1) * 2 ^ (15 - r) := by rw [← Nat.pow_add, show r + 1 + (15 - r) = 16 by omega]
 conv => lhs; rw [e3]
 rw [Nat.mul_mod_mul_left, e3]
 have h1 : Y % 2 ^ (15 - r) + 1 ≤ 2 ^ (15 - r) := Nat.mod_lt _ (Nat.two_pow_pos _)
 have h2 : 2 ^ (r + 1) * (Y % 2 ^ (15 - r) + 1) ≤ 2 ^ (r + 1) * 2 ^ (15 - r) := Nat.mul_le_mul_left _ h1
 have h3 : 2 ^ (r + 1) = 2 * 2 ^ r := by rw [Nat.pow_succ, Nat.mul_comm]
 have h4 := Nat.two_pow_pos r
 rw [Nat.mul_add, Nat.mul_one] at h2
 omega
theorem val_add (l : List Nat) (q d : Nat) (h : q < l.length) : val (l.set q (l.getD q 0 + d)) = val l + 65536 ^ q * d := by
 have := val_set l q (l.getD q 0 + d) h
 rw [Nat.mul_add] at this
 omega
theorem pow_place (b : Nat) : 65536 ^ (b / 16) * 2 ^ (b % 16) = 2 ^ b := by
 rw [show (65536 : Nat) = 2 ^ 16 from rfl, ← Nat.pow_mul, ← Nat.pow_add, Nat.div_add_mod]
theorem root_one (k T X Y : Nat) (hk : 0 < k) (h1 : X ^ k ≤ T) (h2 : T < (X + 1) ^ k) (h3 : Y ^ k ≤ T) (h4 : T < (Y + 1) ^ k) : X = Y := by
 have a : X < Y + 1 := by
  apply Classical.byContradiction
  intro h
  have : (Y + 1) ^ k ≤ X ^ k := Nat.pow_le_pow_left (by omega) k
  omega
 have b : Y < X + 1 := by
  apply Classical.byContradiction
  intro h
  have : (X + 1) ^ k ≤ Y ^ k := Nat.pow_le_pow_left (by omega) k
  omega
 omega
theorem val5 (l : List Nat) (h : l.length = 5) : val l = l.getD 0 0 + 65536 * l.getD 1 0 + 4294967296 * l.getD 2 0 + 281474976710656 * l.getD 3 0 + 18446744073709551616 * l.getD 4 0 := by
 match l, h with
 | [a, b, c, d, e], _ => simp [val]; omega
end SR
end Go.Proofs.YtabgihjffjlfiaaGreatDoor
set_option linter.unusedVariables false
namespace Go.Proofs.YtabgihjffjlfiaaGreatDoor
namespace SR
open Go.RowKit Go.Sort Go.BigFrame
set_option maxRecDepth 100000
set_option maxHeartbeats 1000000
theorem turnH32 (vA vB vC vD vK vF : Value) (x n : Nat) (w : World) (hx : x < 2 ^ 32) (hn : n ≤ 64) :
  Calls Tryz.prog 121 #[.agg #[.int .i64 32, .int .i64 64, vA, vB, vC, vD, vK, vF], .int .u64 (x : Int), .int .i64 (n : Int)] w fun e w' => e = .returned (.int .u64 ((turnN 32 x n : Nat) : Int)) ∧ Below w.heap.size w w' := by
 go_enter Tryz.func121, Tryz.ntmps121
 go_wp2_with fail
 have hB := below1 w (.cells #[.int .i64 32, .int .i64 64, vA, vB, vC, vD, vK, vF] 102)
 have c0 : (w.alloc (.cells #[.int .i64 32, .int .i64 64, vA, vB, vC, vD, vK, vF] 102)).cell? ⟨w.heap.size, 0, none⟩ = some (.int .i64 32) := by rw [cell_of_row _ _ _ _ _ _ (heap_alloc_new _ _)]; rfl
 obtain ⟨w1, hw1⟩ : ∃ x, x = w.alloc (.cells #[.int .i64 32, .int .i64 64, vA, vB, vC, vD, vK, vF] 102) := ⟨_, rfl⟩
 rw [← hw1] at hB c0 ⊢
 clear hw1
 go_loop [7, 1] (fun i v => ∃ k : Nat, k ≤ n ∧ i = .int .i64 (k : Int) ∧ v = .int .u64 ((turnN 32 x k : Nat) : Int)) (fun i _ => n - (intOf i).toNat)
 case atStart => exact ⟨0, by omega, rfl, rfl⟩
 case round =>
  obtain ⟨k, hk, rfl, rfl⟩ := hrel
  by_cases hlt : k < n
  ·have hb := turnN_lt 32 x (by decide) hx k
   have hT : turnN 32 x (k + 1) = turnN 32 x k / 2 + turnN 32 x k % 2 * 2147483648 := rfl
   obtain ⟨y, hy⟩ : ∃ y, y = turnN 32 x k := ⟨_, rfl⟩
   rw [← hy] at hb hT ⊢
   have hy64 : y < 4294967296 := hb
   have HT : Hid (turnN 32 x (k + 1) = y / 2 + y % 2 * 2147483648) := hT
   clear hb hT hy
   by_cases ho : y % 2 = 1
   ·have ho' : (y : Int) % 2 = 1 := by omega
    have HO : Hid (y % 2 = 1) := ho
    clear ho
    go_wp2_with fail
    go_round
    case rel => exact ⟨k + 1, by omega, by go_num, by rw [HT.out, HO.out]; go_num⟩
    case measure => simp [intOf]; omega
   ·have ho' : (y : Int) % 2 = 0 := by omega
    have HO : Hid (y % 2 = 0) := by show y % 2 = 0; omega
    clear ho
    go_wp2_with fail
    go_round
    case rel => exact ⟨k + 1, by omega, by go_num, by rw [HT.out, HO.out]; go_num⟩
    case measure => simp [intOf]; omega
  ·obtain rfl : k = n := by omega
   go_wp2_with fail
   go_ret
   exact ⟨rfl, hB⟩
theorem turnH64 (vA vB vC vD vK vF : Value) (x n : Nat) (w : World) (hx : x < 2 ^ 64) (hn : n ≤ 64) :
  Calls Tryz.prog 121 #[.agg #[.int .i64 64, .int .i64 80, vA, vB, vC, vD, vK, vF], .int .u64 (x : Int), .int .i64 (n : Int)] w fun e w' => e = .returned (.int .u64 ((turnN 64 x n : Nat) : Int)) ∧ Below w.heap.size w w' := by
 go_enter Tryz.func121, Tryz.ntmps121
 go_wp2_with fail
 have hB := below1 w (.cells #[.int .i64 64, .int .i64 80, vA, vB, vC, vD, vK, vF] 102)
 have c0 : (w.alloc (.cells #[.int .i64 64, .int .i64 80, vA, vB, vC, vD, vK, vF] 102)).cell? ⟨w.heap.size, 0, none⟩ = some (.int .i64 64) := by rw [cell_of_row _ _ _ _ _ _ (heap_alloc_new _ _)]; rfl
 obtain ⟨w1, hw1⟩ : ∃ x, x = w.alloc (.cells #[.int .i64 64, .int .i64 80, vA, vB, vC, vD, vK, vF] 102) := ⟨_, rfl⟩
 rw [← hw1] at hB c0 ⊢
 clear hw1
 go_loop [7, 1] (fun i v => ∃ k : Nat, k ≤ n ∧ i = .int .i64 (k : Int) ∧ v = .int .u64 ((turnN 64 x k : Nat) : Int)) (fun i _ => n - (intOf i).toNat)
 case atStart => exact ⟨0, by omega, rfl, rfl⟩
 case round =>
  obtain ⟨k, hk, rfl, rfl⟩ := hrel
  by_cases hlt : k < n
  ·have hb := turnN_lt 64 x (by decide) hx k
   have hT : turnN 64 x (k + 1) = turnN 64 x k / 2 + turnN 64 x k % 2 * 9223372036854775808 := rfl
   obtain ⟨y, hy⟩ : ∃ y, y = turnN 64 x k := ⟨_, rfl⟩
   rw [← hy] at hb hT ⊢
   have hy64 : y < 18446744073709551616 := hb
   have HT : Hid (turnN 64 x (k + 1) = y / 2 + y % 2 * 9223372036854775808) := hT
   clear hb hT hy
   by_cases ho : y % 2 = 1
   ·have ho' : (y : Int) % 2 = 1 := by omega
    have HO : Hid (y % 2 = 1) := ho
    clear ho
    go_wp2_with fail
    go_round
    case rel => exact ⟨k + 1, by omega, by go_num, by rw [HT.out, HO.out]; go_num⟩
    case measure => simp [intOf]; omega
   ·have ho' : (y : Int) % 2 = 0 := by omega
    have HO : Hid (y % 2 = 0) := by show y % 2 = 0; omega
    clear ho
    go_wp2_with fail
    go_round
    case rel => exact ⟨k + 1, by omega, by go_num, by rw [HT.out, HO.out]; go_num⟩
    case measure => simp [intOf]; omega
  ·obtain rfl : k = n := by omega
   go_wp2_with fail
   go_ret
   exact ⟨rfl, hB⟩
theorem lowH64 (vA vB vC vD vK vF : Value) (x : Nat) (w : World) (hx : x < 18446744073709551616) :
  Calls Tryz.prog 118 #[.agg #[.int .i64 64, .int .i64 80, vA, vB, vC, vD, vK, vF], .int .u64 (x : Int)] w fun e w' => e = .returned (.int .u64 ((x : Nat) : Int)) ∧ Below w.heap.size w w' := by
 go_enter Tryz.func118, Tryz.ntmps118
 go_wp2
 go_ret
 exact ⟨ret_int (by simp), below1 _ _⟩
theorem topH64 (vA vB vC vD vK vF : Value) (x : Nat) (w : World) (hx : x < 18446744073709551616) :
  Calls Tryz.prog 105 #[.agg #[.int .i64 64, .int .i64 80, vA, vB, vC, vD, vK, vF], .int .u64 (x : Int)] w fun e w' => e = .returned (.int .u64 ((x : Nat) : Int)) ∧ Below w.heap.size w w' := by
 go_enter Tryz.func105, Tryz.ntmps105
 go_wp2
 go_ret
 exact ⟨ret_int (by simp), below1 _ _⟩
end SR
end Go.Proofs.YtabgihjffjlfiaaGreatDoor
set_option linter.unusedVariables false
namespace Go.Proofs.YtabgihjffjlfiaaGreatDoor
namespace SR
open Go.RowKit Go.Sort Go.BigFrame
set_option maxRecDepth 100000
set_option maxHeartbeats 400000
theorem row_at {w : World} {g t : Nat} {cs : Array Value} (h : w.heap[g]? = some (.cells cs t (0, 0))) (j : Nat) (v : Value) (hv : cs[j]? = some v) : w.cell? ⟨g, j, none⟩ = some v := by
 rw [cell_of_row w g j _ _ _ h]; exact hv
theorem mixed32n (vA vB vC vD vK vF : Value) (x g c b0 b1 b2 : Nat) (w : World) (hx : x < 2 ^ 32) (h0 : b0 ≤ 32) (h1 : b1 ≤ 32) (h2 : b2 ≤ 32)
  (k0 : w.cell? ⟨g, 0, none⟩ = some (.int .i64 (b0 : Int))) (k1 : w.cell? ⟨g, 1, none⟩ = some (.int .i64 (b1 : Int))) (k2 : w.cell? ⟨g, 2, none⟩ = some (.int .i64 (b2 : Int))) :
  Calls Tryz.prog 117 #[.agg #[.int .i64 32, .int .i64 64, vA, vB, vC, vD, vK, vF], .int .u64 (x : Int), .slice (some ⟨g, 0, none⟩) 3 c, .bool false] w fun e w' => e = .returned (.int .u64 ((tn 32 x b0 b1 b2 : Nat) : Int)) ∧ Below w.heap.size w w' := by
 have hg : g < w.heap.size := block_lt_of_cell k0
 go_enter Tryz.func117, Tryz.ntmps117
 go_wp2_with fail
 have hB1 := below1 w (.cells #[.int .i64 32, .int .i64 64, vA, vB, vC, vD, vK, vF] 102)
 have hr1 : (w.alloc (.cells #[.int .i64 32, .int .i64 64, vA, vB, vC, vD, vK, vF] 102)).heap[w.heap.size]? = some (.cells #[.int .i64 32, .int .i64 64, vA, vB, vC, vD, vK, vF] 102 (0, 0)) := heap_alloc_new _ _
 have a0 := (hB1.cell (p := ⟨g, 0, none⟩) hg).trans k0
 have a1 := (hB1.cell (p := ⟨g, 1, none⟩) hg).trans k1
 have a2 := (hB1.cell (p := ⟨g, 2, none⟩) hg).trans k2
 obtain ⟨w1, hw1⟩ : ∃ x, x = w.alloc (.cells #[.int .i64 32, .int .i64 64, vA, vB, vC, vD, vK, vF] 102) := ⟨_, rfl⟩
 rw [← hw1] at hB1 hr1 a0 a1 a2 ⊢
 clear hw1 k0 k1 k2
 have q0 := cell_regrown (row_at hr1 0 (.int .i64 32) rfl)
 have q1 := cell_regrown (row_at hr1 1 (.int .i64 64) rfl)
 have q2 := cell_regrown (row_at hr1 2 vA rfl)
 have q3 := cell_regrown (row_at hr1 3 vB rfl)
 have q4 := cell_regrown (row_at hr1 4 vC rfl)
 have q5 := cell_regrown (row_at hr1 5 vD rfl)
 have q6 := cell_regrown (row_at hr1 6 vK rfl)
 have q7 := cell_regrown (row_at hr1 7 vF rfl)
 have p2 := cell_regrown a2
 have cQ : ∀ d os, Calls Tryz.prog 121 #[.agg #[.int .i64 32, .int .i64 64, vA, vB, vC, vD, vK, vF], .int .u64 (x : Int), .int .i64 (b2 : Int)] (grow (redrawn w1 d) os) fun e w'' => e = .returned (.int .u64 ((turnN 32 x b2 : Nat) : Int)) ∧ ∃ p : Regrown, w'' = grow (redrawn w1 p.d) p.os :=
  fun d os => Calls.regrown_of (turnH32 vA vB vC vD vK vF x b2 _ hx (by omega))
 refine wp_region_quiet_below (by kernel_rfl) (by kernel_rfl) ?_
 repeat (go_big_quiet_step (exact cQ _ _))
 refine wpQuiet_nil ?_
 intro w2 hw'
 have hb2 : Below w1.heap.size w1 w2 := by obtain ⟨p, rfl⟩ := hw'; exact below_regrown _ _ _
 have hB2 : Below w.heap.size w w2 := hB1.trans (hb2.mono hB1.size)
 have hr2 := block_below hb2 (lt_of_heap hr1) hr1
 have e0 := (hb2.cell (p := ⟨g, 0, none⟩) (by have := hB1.size; simp; omega)).trans a0
 have e1 := (hb2.cell (p := ⟨g, 1, none⟩) (by have := hB1.size; simp; omega)).trans a1
 have e2 := (hb2.cell (p := ⟨g, 2, none⟩) (by have := hB1.size; simp; omega)).trans a2
 clear hw' q0 q1 q2 q3 q4 q5 q6 q7 p2 cQ a0 a1 a2 hr1 hb2
 go_wp2_with fail
 have q0 := cell_regrown (row_at hr2 0 (.int .i64 32) rfl)
 have q1 := cell_regrown (row_at hr2 1 (.int .i64 64) rfl)
 have q2 := cell_regrown (row_at hr2 2 vA rfl)
 have q3 := cell_regrown (row_at hr2 3 vB rfl)
 have q4 := cell_regrown (row_at hr2 4 vC rfl)
 have q5 := cell_regrown (row_at hr2 5 vD rfl)
 have q6 := cell_regrown (row_at hr2 6 vK rfl)
 have q7 := cell_regrown (row_at hr2 7 vF rfl)
 have p0 := cell_regrown e0
 have p1 := cell_regrown e1
 have cQ0 : ∀ d os, Calls Tryz.prog 121 #[.agg #[.int .i64 32, .int .i64 64, vA, vB, vC, vD, vK, vF], .int .u64 (x : Int), .int .i64 (b0 : Int)] (grow (redrawn w2 d) os) fun e w'' => e = .returned (.int .u64 ((turnN 32 x b0 : Nat) : Int)) ∧ ∃ p : Regrown, w'' = grow (redrawn w2 p.d) p.os :=
  fun d os => Calls.regrown_of (turnH32 vA vB vC vD vK vF x b0 _ hx (by omega))
 have cQ1 : ∀ d os, Calls Tryz.prog 121 #[.agg #[.int .i64 32, .int .i64 64, vA, vB, vC, vD, vK, vF], .int .u64 (x : Int), .int .i64 (b1 : Int)] (grow (redrawn w2 d) os) fun e w'' => e = .returned (.int .u64 ((turnN 32 x b1 : Nat) : Int)) ∧ ∃ p : Regrown, w'' = grow (redrawn w2 p.d) p.os :=
  fun d os => Calls.regrown_of (turnH32 vA vB vC vD vK vF x b1 _ hx (by omega))
 refine wp_region_quiet_below (by kernel_rfl) (by kernel_rfl) ?_
 iterate 5 (go_big_quiet_step (fail))
 go_big_quiet_step (exact cQ0 _ _)
 iterate 5 (go_big_quiet_step (fail))
 go_big_quiet_step (exact cQ1 _ _)
 repeat (go_big_quiet_step (fail))
 refine wpQuiet_nil ?_
 intro w3 hw'
 have hb3 : Below w2.heap.size w2 w3 := by obtain ⟨p, rfl⟩ := hw'; exact below_regrown _ _ _
 have hB3 : Below w.heap.size w w3 := hB2.trans (hb3.mono hB2.size)
 clear hw' q0 q1 q2 q3 q4 q5 q6 q7 p0 p1 cQ0 cQ1
 go_wp2_with fail
 go_ret
 refine ⟨ret_int ?_, hB3⟩
 refine (xor3_64 _ _ _ (Nat.lt_of_lt_of_le (turnN_lt 32 x (by decide) hx _) (by decide)) (Nat.lt_of_lt_of_le (turnN_lt 32 x (by decide) hx _) (by decide)) (Nat.lt_of_lt_of_le (turnN_lt 32 x (by decide) hx _) (by decide))).trans ?_
 rw [turnN_rot 32 x b0 hx h0, turnN_rot 32 x b1 hx h1, turnN_rot 32 x b2 hx h2]
 rfl
theorem mixed32s (vA vB vC vD vK vF : Value) (x g c b0 b1 b2 : Nat) (w : World) (hx : x < 2 ^ 32) (h0 : b0 ≤ 32) (h1 : b1 ≤ 32) (h2 : b2 ≤ 32)
  (k0 : w.cell? ⟨g, 0, none⟩ = some (.int .i64 (b0 : Int))) (k1 : w.cell? ⟨g, 1, none⟩ = some (.int .i64 (b1 : Int))) (k2 : w.cell? ⟨g, 2, none⟩ = some (.int .i64 (b2 : Int))) :
  Calls Tryz.prog 117 #[.agg #[.int .i64 32, .int .i64 64, vA, vB, vC, vD, vK, vF], .int .u64 (x : Int), .slice (some ⟨g, 0, none⟩) 3 c, .bool true] w fun e w' => e = .returned (.int .u64 ((ts 32 x b0 b1 b2 : Nat) : Int)) ∧ Below w.heap.size w w' := by
 have hg : g < w.heap.size := block_lt_of_cell k0
 go_enter Tryz.func117, Tryz.ntmps117
 go_wp2_with fail
 have hB1 := below1 w (.cells #[.int .i64 32, .int .i64 64, vA, vB, vC, vD, vK, vF] 102)
 have hr1 : (w.alloc (.cells #[.int .i64 32, .int .i64 64, vA, vB, vC, vD, vK, vF] 102)).heap[w.heap.size]? = some (.cells #[.int .i64 32, .int .i64 64, vA, vB, vC, vD, vK, vF] 102 (0, 0)) := heap_alloc_new _ _
 have a0 := (hB1.cell (p := ⟨g, 0, none⟩) hg).trans k0
 have a1 := (hB1.cell (p := ⟨g, 1, none⟩) hg).trans k1
 have a2 := (hB1.cell (p := ⟨g, 2, none⟩) hg).trans k2
 obtain ⟨w1, hw1⟩ : ∃ x, x = w.alloc (.cells #[.int .i64 32, .int .i64 64, vA, vB, vC, vD, vK, vF] 102) := ⟨_, rfl⟩
 rw [← hw1] at hB1 hr1 a0 a1 a2 ⊢
 clear hw1 k0 k1 k2
 have q0 := cell_regrown (row_at hr1 0 (.int .i64 32) rfl)
 have q1 := cell_regrown (row_at hr1 1 (.int .i64 64) rfl)
 have q2 := cell_regrown (row_at hr1 2 vA rfl)
 have q3 := cell_regrown (row_at hr1 3 vB rfl)
 have q4 := cell_regrown (row_at hr1 4 vC rfl)
 have q5 := cell_regrown (row_at hr1 5 vD rfl)
 have q6 := cell_regrown (row_at hr1 6 vK rfl)
 have q7 := cell_regrown (row_at hr1 7 vF rfl)
 have p2 := cell_regrown a2
 have cQ : ∀ d os, Calls Tryz.prog 121 #[.agg #[.int .i64 32, .int .i64 64, vA, vB, vC, vD, vK, vF], .int .u64 (x : Int), .int .i64 (b2 : Int)] (grow (redrawn w1 d) os) fun e w'' => e = .returned (.int .u64 ((turnN 32 x b2 : Nat) : Int)) ∧ ∃ p : Regrown, w'' = grow (redrawn w1 p.d) p.os :=
  fun d os => Calls.regrown_of (turnH32 vA vB vC vD vK vF x b2 _ hx (by omega))
 refine wp_region_quiet_below (by kernel_rfl) (by kernel_rfl) ?_
 repeat (go_big_quiet_step (exact cQ _ _))
 refine wpQuiet_nil ?_
 intro w2 hw'
 have hb2 : Below w1.heap.size w1 w2 := by obtain ⟨p, rfl⟩ := hw'; exact below_regrown _ _ _
 have hB2 : Below w.heap.size w w2 := hB1.trans (hb2.mono hB1.size)
 have hr2 := block_below hb2 (lt_of_heap hr1) hr1
 have e0 := (hb2.cell (p := ⟨g, 0, none⟩) (by have := hB1.size; simp; omega)).trans a0
 have e1 := (hb2.cell (p := ⟨g, 1, none⟩) (by have := hB1.size; simp; omega)).trans a1
 have e2 := (hb2.cell (p := ⟨g, 2, none⟩) (by have := hB1.size; simp; omega)).trans a2
 clear hw' q0 q1 q2 q3 q4 q5 q6 q7 p2 cQ a0 a1 a2 hr1 hb2
 go_wp2_with fail
 go_loop [10, 9] (fun i v => ∃ k : Nat, k ≤ b2 ∧ i = .int .i64 (k : Int) ∧ v = .int .u64 ((halfN x k : Nat) : Int)) (fun i _ => b2 - (intOf i).toNat)
 case atStart => exact ⟨0, by omega, rfl, rfl⟩
 case round =>
  obtain ⟨k, hk, rfl, rfl⟩ := hrel
  by_cases hlt : k < b2
  ·have HT : Hid (halfN x (k + 1) = halfN x k / 2) := rfl
   have hb : halfN x k < 18446744073709551616 := by rw [halfN_shr]; exact shr_lt (Nat.lt_of_lt_of_le hx (by decide))
   obtain ⟨y, hy⟩ : ∃ y, y = halfN x k := ⟨_, rfl⟩
   rw [← hy] at HT hb ⊢
   clear hy
   go_wp2_with fail
   go_round
   case rel => exact ⟨k + 1, by omega, by go_num, by rw [HT.out]; go_num⟩
   case measure => simp [intOf]; omega
  ·obtain rfl : k = b2 := by omega
   go_wp2_with fail
   have q0 := cell_regrown (row_at hr2 0 (.int .i64 32) rfl)
   have q1 := cell_regrown (row_at hr2 1 (.int .i64 64) rfl)
   have q2 := cell_regrown (row_at hr2 2 vA rfl)
   have q3 := cell_regrown (row_at hr2 3 vB rfl)
   have q4 := cell_regrown (row_at hr2 4 vC rfl)
   have q5 := cell_regrown (row_at hr2 5 vD rfl)
   have q6 := cell_regrown (row_at hr2 6 vK rfl)
   have q7 := cell_regrown (row_at hr2 7 vF rfl)
   have p0 := cell_regrown e0
   have p1 := cell_regrown e1
   have cQ0 : ∀ d os, Calls Tryz.prog 121 #[.agg #[.int .i64 32, .int .i64 64, vA, vB, vC, vD, vK, vF], .int .u64 (x : Int), .int .i64 (b0 : Int)] (grow (redrawn w2 d) os) fun e w'' => e = .returned (.int .u64 ((turnN 32 x b0 : Nat) : Int)) ∧ ∃ p : Regrown, w'' = grow (redrawn w2 p.d) p.os :=
    fun d os => Calls.regrown_of (turnH32 vA vB vC vD vK vF x b0 _ hx (by omega))
   have cQ1 : ∀ d os, Calls Tryz.prog 121 #[.agg #[.int .i64 32, .int .i64 64, vA, vB, vC, vD, vK, vF], .int .u64 (x : Int), .int .i64 (b1 : Int)] (grow (redrawn w2 d) os) fun e w'' => e = .returned (.int .u64 ((turnN 32 x b1 : Nat) : Int)) ∧ ∃ p : Regrown, w'' = grow (redrawn w2 p.d) p.os :=
    fun d os => Calls.regrown_of (turnH32 vA vB vC vD vK vF x b1 _ hx (by omega))
   refine wp_region_quiet_below (by kernel_rfl) (by kernel_rfl) ?_
   iterate 5 (go_big_quiet_step (fail))
   go_big_quiet_step (exact cQ0 _ _)
   iterate 5 (go_big_quiet_step (fail))
   go_big_quiet_step (exact cQ1 _ _)
   repeat (go_big_quiet_step (fail))
   refine wpQuiet_nil ?_
   intro w3 hw'
   have hb3 : Below w2.heap.size w2 w3 := by obtain ⟨p, rfl⟩ := hw'; exact below_regrown _ _ _
   have hB3 : Below w.heap.size w w3 := hB2.trans (hb3.mono hB2.size)
   clear hw' q0 q1 q2 q3 q4 q5 q6 q7 p0 p1 cQ0 cQ1
   go_wp2_with fail
   go_ret
   refine ⟨ret_int ?_, hB3⟩
   refine (xor3_64 _ _ _ (Nat.lt_of_lt_of_le (turnN_lt 32 x (by decide) hx _) (by decide)) (Nat.lt_of_lt_of_le (turnN_lt 32 x (by decide) hx _) (by decide)) (by rw [halfN_shr]; exact shr_lt (Nat.lt_of_lt_of_le hx (by decide)))).trans ?_
   rw [turnN_rot 32 x b0 hx h0, turnN_rot 32 x b1 hx h1, halfN_shr]
   rfl
theorem mixed64n (vA vB vC vD vK vF : Value) (x g c b0 b1 b2 : Nat) (w : World) (hx : x < 2 ^ 64) (h0 : b0 ≤ 64) (h1 : b1 ≤ 64) (h2 : b2 ≤ 64)
  (k0 : w.cell? ⟨g, 0, none⟩ = some (.int .i64 (b0 : Int))) (k1 : w.cell? ⟨g, 1, none⟩ = some (.int .i64 (b1 : Int))) (k2 : w.cell? ⟨g, 2, none⟩ = some (.int .i64 (b2 : Int))) :
  Calls Tryz.prog 117 #[.agg #[.int .i64 64, .int .i64 80, vA, vB, vC, vD, vK, vF], .int .u64 (x : Int), .slice (some ⟨g, 0, none⟩) 3 c, .bool false] w fun e w' => e = .returned (.int .u64 ((tn 64 x b0 b1 b2 : Nat) : Int)) ∧ Below w.heap.size w w' := by
 have hg : g < w.heap.size := block_lt_of_cell k0
 go_enter Tryz.func117, Tryz.ntmps117
 go_wp2_with fail
 have hB1 := below1 w (.cells #[.int .i64 64, .int .i64 80, vA, vB, vC, vD, vK, vF] 102)
 have hr1 : (w.alloc (.cells #[.int .i64 64, .int .i64 80, vA, vB, vC, vD, vK, vF] 102)).heap[w.heap.size]? = some (.cells #[.int .i64 64, .int .i64 80, vA, vB, vC, vD, vK, vF] 102 (0, 0)) := heap_alloc_new _ _
 have a0 := (hB1.cell (p := ⟨g, 0, none⟩) hg).trans k0
 have a1 := (hB1.cell (p := ⟨g, 1, none⟩) hg).trans k1
 have a2 := (hB1.cell (p := ⟨g, 2, none⟩) hg).trans k2
 obtain ⟨w1, hw1⟩ : ∃ x, x = w.alloc (.cells #[.int .i64 64, .int .i64 80, vA, vB, vC, vD, vK, vF] 102) := ⟨_, rfl⟩
 rw [← hw1] at hB1 hr1 a0 a1 a2 ⊢
 clear hw1 k0 k1 k2
 have q0 := cell_regrown (row_at hr1 0 (.int .i64 64) rfl)
 have q1 := cell_regrown (row_at hr1 1 (.int .i64 80) rfl)
 have q2 := cell_regrown (row_at hr1 2 vA rfl)
 have q3 := cell_regrown (row_at hr1 3 vB rfl)
 have q4 := cell_regrown (row_at hr1 4 vC rfl)
 have q5 := cell_regrown (row_at hr1 5 vD rfl)
 have q6 := cell_regrown (row_at hr1 6 vK rfl)
 have q7 := cell_regrown (row_at hr1 7 vF rfl)
 have p2 := cell_regrown a2
 have cQ : ∀ d os, Calls Tryz.prog 121 #[.agg #[.int .i64 64, .int .i64 80, vA, vB, vC, vD, vK, vF], .int .u64 (x : Int), .int .i64 (b2 : Int)] (grow (redrawn w1 d) os) fun e w'' => e = .returned (.int .u64 ((turnN 64 x b2 : Nat) : Int)) ∧ ∃ p : Regrown, w'' = grow (redrawn w1 p.d) p.os :=
  fun d os => Calls.regrown_of (turnH64 vA vB vC vD vK vF x b2 _ hx (by omega))
 refine wp_region_quiet_below (by kernel_rfl) (by kernel_rfl) ?_
 repeat (go_big_quiet_step (exact cQ _ _))
 refine wpQuiet_nil ?_
 intro w2 hw'
 have hb2 : Below w1.heap.size w1 w2 := by obtain ⟨p, rfl⟩ := hw'; exact below_regrown _ _ _
 have hB2 : Below w.heap.size w w2 := hB1.trans (hb2.mono hB1.size)
 have hr2 := block_below hb2 (lt_of_heap hr1) hr1
 have e0 := (hb2.cell (p := ⟨g, 0, none⟩) (by have := hB1.size; simp; omega)).trans a0
 have e1 := (hb2.cell (p := ⟨g, 1, none⟩) (by have := hB1.size; simp; omega)).trans a1
 have e2 := (hb2.cell (p := ⟨g, 2, none⟩) (by have := hB1.size; simp; omega)).trans a2
 clear hw' q0 q1 q2 q3 q4 q5 q6 q7 p2 cQ a0 a1 a2 hr1 hb2
 go_wp2_with fail
 have q0 := cell_regrown (row_at hr2 0 (.int .i64 64) rfl)
 have q1 := cell_regrown (row_at hr2 1 (.int .i64 80) rfl)
 have q2 := cell_regrown (row_at hr2 2 vA rfl)
 have q3 := cell_regrown (row_at hr2 3 vB rfl)
 have q4 := cell_regrown (row_at hr2 4 vC rfl)
 have q5 := cell_regrown (row_at hr2 5 vD rfl)
 have q6 := cell_regrown (row_at hr2 6 vK rfl)
 have q7 := cell_regrown (row_at hr2 7 vF rfl)
 have p0 := cell_regrown e0
 have p1 := cell_regrown e1
 have cQ0 : ∀ d os, Calls Tryz.prog 121 #[.agg #[.int .i64 64, .int .i64 80, vA, vB, vC, vD, vK, vF], .int .u64 (x : Int), .int .i64 (b0 : Int)] (grow (redrawn w2 d) os) fun e w'' => e = .returned (.int .u64 ((turnN 64 x b0 : Nat) : Int)) ∧ ∃ p : Regrown, w'' = grow (redrawn w2 p.d) p.os :=
  fun d os => Calls.regrown_of (turnH64 vA vB vC vD vK vF x b0 _ hx (by omega))
 have cQ1 : ∀ d os, Calls Tryz.prog 121 #[.agg #[.int .i64 64, .int .i64 80, vA, vB, vC, vD, vK, vF], .int .u64 (x : Int), .int .i64 (b1 : Int)] (grow (redrawn w2 d) os) fun e w'' => e = .returned (.int .u64 ((turnN 64 x b1 : Nat) : Int)) ∧ ∃ p : Regrown, w'' = grow (redrawn w2 p.d) p.os :=
  fun d os => Calls.regrown_of (turnH64 vA vB vC vD vK vF x b1 _ hx (by omega))
 refine wp_region_quiet_below (by kernel_rfl) (by kernel_rfl) ?_
 iterate 5 (go_big_quiet_step (fail))
 go_big_quiet_step (exact cQ0 _ _)
 iterate 5 (go_big_quiet_step (fail))
 go_big_quiet_step (exact cQ1 _ _)
 repeat (go_big_quiet_step (fail))
 refine wpQuiet_nil ?_
 intro w3 hw'
 have hb3 : Below w2.heap.size w2 w3 := by obtain ⟨p, rfl⟩ := hw'; exact below_regrown _ _ _
 have hB3 : Below w.heap.size w w3 := hB2.trans (hb3.mono hB2.size)
 clear hw' q0 q1 q2 q3 q4 q5 q6 q7 p0 p1 cQ0 cQ1
 go_wp2_with fail
 go_ret
 refine ⟨ret_int ?_, hB3⟩
 refine (xor3_64 _ _ _ (Nat.lt_of_lt_of_le (turnN_lt 64 x (by decide) hx _) (by decide)) (Nat.lt_of_lt_of_le (turnN_lt 64 x (by decide) hx _) (by decide)) (Nat.lt_of_lt_of_le (turnN_lt 64 x (by decide) hx _) (by decide))).trans ?_
 rw [turnN_rot 64 x b0 hx h0, turnN_rot 64 x b1 hx h1, turnN_rot 64 x b2 hx h2]
 rfl
theorem mixed64s (vA vB vC vD vK vF : Value) (x g c b0 b1 b2 : Nat) (w : World) (hx : x < 2 ^ 64) (h0 : b0 ≤ 64) (h1 : b1 ≤ 64) (h2 : b2 ≤ 64)
  (k0 : w.cell? ⟨g, 0, none⟩ = some (.int .i64 (b0 : Int))) (k1 : w.cell? ⟨g, 1, none⟩ = some (.int .i64 (b1 : Int))) (k2 : w.cell? ⟨g, 2, none⟩ = some (.int .i64 (b2 : Int))) :
  Calls Tryz.prog 117 #[.agg #[.int .i64 64, .int .i64 80, vA, vB, vC, vD, vK, vF], .int .u64 (x : Int), .slice (some ⟨g, 0, none⟩) 3 c, .bool true] w fun e w' => e = .returned (.int .u64 ((ts 64 x b0 b1 b2 : Nat) : Int)) ∧ Below w.heap.size w w' := by
 have hg : g < w.heap.size := block_lt_of_cell k0
 go_enter Tryz.func117, Tryz.ntmps117
 go_wp2_with fail
 have hB1 := below1 w (.cells #[.int .i64 64, .int .i64 80, vA, vB, vC, vD, vK, vF] 102)
 have hr1 : (w.alloc (.cells #[.int .i64 64, .int .i64 80, vA, vB, vC, vD, vK, vF] 102)).heap[w.heap.size]? = some (.cells #[.int .i64 64, .int .i64 80, vA, vB, vC, vD, vK, vF] 102 (0, 0)) := heap_alloc_new _ _
 have a0 := (hB1.cell (p := ⟨g, 0, none⟩) hg).trans k0
 have a1 := (hB1.cell (p := ⟨g, 1, none⟩) hg).trans k1
 have a2 := (hB1.cell (p := ⟨g, 2, none⟩) hg).trans k2
 obtain ⟨w1, hw1⟩ : ∃ x, x = w.alloc (.cells #[.int .i64 64, .int .i64 80, vA, vB, vC, vD, vK, vF] 102) := ⟨_, rfl⟩
 rw [← hw1] at hB1 hr1 a0 a1 a2 ⊢
 clear hw1 k0 k1 k2
 have q0 := cell_regrown (row_at hr1 0 (.int .i64 64) rfl)
 have q1 := cell_regrown (row_at hr1 1 (.int .i64 80) rfl)
 have q2 := cell_regrown (row_at hr1 2 vA rfl)
 have q3 := cell_regrown (row_at hr1 3 vB rfl)
 have q4 := cell_regrown (row_at hr1 4 vC rfl)
 have q5 := cell_regrown (row_at hr1 5 vD rfl)
 have q6 := cell_regrown (row_at hr1 6 vK rfl)
 have q7 := cell_regrown (row_at hr1 7 vF rfl)
 have p2 := cell_regrown a2
 have cQ : ∀ d os, Calls Tryz.prog 121 #[.agg #[.int .i64 64, .int .i64 80, vA, vB, vC, vD, vK, vF], .int .u64 (x : Int), .int .i64 (b2 : Int)] (grow (redrawn w1 d) os) fun e w'' => e = .returned (.int .u64 ((turnN 64 x b2 : Nat) : Int)) ∧ ∃ p : Regrown, w'' = grow (redrawn w1 p.d) p.os :=
  fun d os => Calls.regrown_of (turnH64 vA vB vC vD vK vF x b2 _ hx (by omega))
 refine wp_region_quiet_below (by kernel_rfl) (by kernel_rfl) ?_
 repeat (go_big_quiet_step (exact cQ _ _))
 refine wpQuiet_nil ?_
 intro w2 hw'
 have hb2 : Below w1.heap.size w1 w2 := by obtain ⟨p, rfl⟩ := hw'; exact below_regrown _ _ _
 have hB2 : Below w.heap.size w w2 := hB1.trans (hb2.mono hB1.size)
 have hr2 := block_below hb2 (lt_of_heap hr1) hr1
 have e0 := (hb2.cell (p := ⟨g, 0, none⟩) (by have := hB1.size; simp; omega)).trans a0
 have e1 := (hb2.cell (p := ⟨g, 1, none⟩) (by have := hB1.size; simp; omega)).trans a1
 have e2 := (hb2.cell (p := ⟨g, 2, none⟩) (by have := hB1.size; simp; omega)).trans a2
 clear hw' q0 q1 q2 q3 q4 q5 q6 q7 p2 cQ a0 a1 a2 hr1 hb2
 go_wp2_with fail
 go_loop [10, 9] (fun i v => ∃ k : Nat, k ≤ b2 ∧ i = .int .i64 (k : Int) ∧ v = .int .u64 ((halfN x k : Nat) : Int)) (fun i _ => b2 - (intOf i).toNat)
 case atStart => exact ⟨0, by omega, rfl, rfl⟩
 case round =>
  obtain ⟨k, hk, rfl, rfl⟩ := hrel
  by_cases hlt : k < b2
  ·have HT : Hid (halfN x (k + 1) = halfN x k / 2) := rfl
   have hb : halfN x k < 18446744073709551616 := by rw [halfN_shr]; exact shr_lt (Nat.lt_of_lt_of_le hx (by decide))
   obtain ⟨y, hy⟩ : ∃ y, y = halfN x k := ⟨_, rfl⟩
   rw [← hy] at HT hb ⊢
   clear hy
   go_wp2_with fail
   go_round
   case rel => exact ⟨k + 1, by omega, by go_num, by rw [HT.out]; go_num⟩
   case measure => simp [intOf]; omega
  ·obtain rfl : k = b2 := by omega
   go_wp2_with fail
   have q0 := cell_regrown (row_at hr2 0 (.int .i64 64) rfl)
   have q1 := cell_regrown (row_at hr2 1 (.int .i64 80) rfl)
   have q2 := cell_regrown (row_at hr2 2 vA rfl)
   have q3 := cell_regrown (row_at hr2 3 vB rfl)
   have q4 := cell_regrown (row_at hr2 4 vC rfl)
   have q5 := cell_regrown (row_at hr2 5 vD rfl)
   have q6 := cell_regrown (row_at hr2 6 vK rfl)
   have q7 := cell_regrown (row_at hr2 7 vF rfl)
   have p0 := cell_regrown e0
   have p1 := cell_regrown e1
   have cQ0 : ∀ d os, Calls Tryz.prog 121 #[.agg #[.int .i64 64, .int .i64 80, vA, vB, vC, vD, vK, vF], .int .u64 (x : Int), .int .i64 (b0 : Int)] (grow (redrawn w2 d) os) fun e w'' => e = .returned (.int .u64 ((turnN 64 x b0 : Nat) : Int)) ∧ ∃ p : Regrown, w'' = grow (redrawn w2 p.d) p.os :=
    fun d os => Calls.regrown_of (turnH64 vA vB vC vD vK vF x b0 _ hx (by omega))
   have cQ1 : ∀ d os, Calls Tryz.prog 121 #[.agg #[.int .i64 64, .int .i64 80, vA, vB, vC, vD, vK, vF], .int .u64 (x : Int), .int .i64 (b1 : Int)] (grow (redrawn w2 d) os) fun e w'' => e = .returned (.int .u64 ((turnN 64 x b1 : Nat) : Int)) ∧ ∃ p : Regrown, w'' = grow (redrawn w2 p.d) p.os :=
    fun d os => Calls.regrown_of (turnH64 vA vB vC vD vK vF x b1 _ hx (by omega))
   refine wp_region_quiet_below (by kernel_rfl) (by kernel_rfl) ?_
   iterate 5 (go_big_quiet_step (fail))
   go_big_quiet_step (exact cQ0 _ _)
   iterate 5 (go_big_quiet_step (fail))
   go_big_quiet_step (exact cQ1 _ _)
   repeat (go_big_quiet_step (fail))
   refine wpQuiet_nil ?_
   intro w3 hw'
   have hb3 : Below w2.heap.size w2 w3 := by obtain ⟨p, rfl⟩ := hw'; exact below_regrown _ _ _
   have hB3 : Below w.heap.size w w3 := hB2.trans (hb3.mono hB2.size)
   clear hw' q0 q1 q2 q3 q4 q5 q6 q7 p0 p1 cQ0 cQ1
   go_wp2_with fail
   go_ret
   refine ⟨ret_int ?_, hB3⟩
   refine (xor3_64 _ _ _ (Nat.lt_of_lt_of_le (turnN_lt 64 x (by decide) hx _) (by decide)) (Nat.lt_of_lt_of_le (turnN_lt 64 x (by decide) hx _) (by decide)) (by rw [halfN_shr]; exact shr_lt (Nat.lt_of_lt_of_le hx (by decide)))).trans ?_
   rw [turnN_rot 64 x b0 hx h0, turnN_rot 64 x b1 hx h1, halfN_shr]
   rfl
end SR
end Go.Proofs.YtabgihjffjlfiaaGreatDoor
set_option linter.unusedVariables false
namespace Go.Proofs.YtabgihjffjlfiaaGreatDoor
namespace SR
open Go.RowKit Go.Sort Go.BigFrame
set_option maxRecDepth 100000
set_option maxHeartbeats 400000
def divN (x : Nat) : Nat → Nat
 | 0 => x
 | j + 1 => divN x j / 256
theorem divN_lt (x : Nat) (h : x < 18446744073709551616) : ∀ j, divN x j < 18446744073709551616
 | 0 => h
 | j + 1 => Nat.lt_of_le_of_lt (Nat.div_le_self _ _) (divN_lt x h j)
def bwN (m x : Nat) : Nat → List Nat
 | 0 => List.replicate m 0
 | j + 1 => (bwN m x j).set (m - 1 - j) (divN x j % 256)
theorem bwN_len (m x : Nat) : ∀ j, (bwN m x j).length = m
 | 0 => by simp [bwN]
 | j + 1 => by simp [bwN, bwN_len m x j]
def bz32 : List Nat := List.replicate 4 0
theorem bytes_wb32 (x : Nat) : bwN 4 x 4 = wb 32 x 4 := by
 simp [bwN, divN, wb, Nat.shiftRight_eq_div_pow, Nat.div_div_eq_div_mul, List.replicate]
theorem bytesH32 (vA vB vC vD vK vF : Value) (x : Nat) (w : World) (hx : x < 18446744073709551616) :
  Calls Tryz.prog 108 #[.agg #[.int .i64 32, .int .i64 64, vA, vB, vC, vD, vK, vF], .int .u64 (x : Int)] w fun e w' => ∃ v, e = .returned v ∧ ∃ g, v = .slice (some ⟨g, 0, none⟩) 4 4 ∧ Below w.heap.size w w' ∧ w.heap.size ≤ g ∧ w'.heap[g]? = some (.cells (ints .u8 (wb 32 x 4)) 5 (0, 0)) := by
 have hmk : ∀ w, (Instr.makeSlice 22 (.int .i64 4) (.int .i64 4)).run Tryz.prog w = .ok (.slice (some ⟨w.heap.size, 0, none⟩) 4 4) (w.alloc (.cells (ints .u8 bz32) 5)) := fun _ => by kernel_rfl
 go_enter Tryz.func108, Tryz.ntmps108
 go_wp2_with fail
 go_loopw [6, 1] (fun i v wr => ∃ j : Nat, j ≤ 4 ∧ i = .int .i64 (3 - (j : Int)) ∧ v = .int .u64 ((divN x j : Nat) : Int) ∧ Below w.heap.size w wr ∧ wr.heap[w.heap.size + 1]? = some (.cells (ints .u8 (bwN 4 x j)) 5 (0, 0))) (fun i _ _ => (intOf i + 1).toNat)
 case atStart => exact ⟨0, by omega, rfl, rfl, below2 _ _ _, heap_alloc2_new _ _ _⟩
 case round =>
  obtain ⟨j, hj, rfl, rfl, hB, hr⟩ := hrel
  have hd := divN_lt x hx j
  obtain ⟨y, hy⟩ : ∃ y, y = divN x j := ⟨_, rfl⟩
  rw [← hy] at hd ⊢
  by_cases hlt : j < 4
  ·obtain ⟨v0, c0⟩ : ∃ v, wr.cell? ⟨w.heap.size + 1, 3 - j, none⟩ = some v := ⟨_, cell_ints hr (3 - j) (by rw [bwN_len]; omega)⟩
   have f0 := free_ints hr (3 - j)
   have HN : Hid (Below w.heap.size w (wr.setCell ⟨w.heap.size + 1, 3 - j, none⟩ (.int .u8 ((y % 256 : Nat) : Int))) ∧ (wr.setCell ⟨w.heap.size + 1, 3 - j, none⟩ (.int .u8 ((y % 256 : Nat) : Int))).heap[w.heap.size + 1]? = some (.cells (ints .u8 (bwN 4 x (j + 1))) 5 (0, 0))) := by
    rw [hy]; exact ⟨hB.setCell (by simp) _, set_ints hr _ _⟩
   have HD : Hid (divN x (j + 1) = y / 256) := by rw [hy]; rfl
   clear hy hB hr
   go_wp2_with fail
   go_roundw
   case rel => exact ⟨j + 1, by omega, by go_num, by rw [HD.out]; go_num, HN.out.1, HN.out.2⟩
   case measure => simp [intOf]; omega
  ·obtain rfl : j = 4 := by omega
   go_wp2_with fail
   go_ret
   exact ⟨_, rfl, w.heap.size + 1, rfl, hB, by omega, by rw [← bytes_wb32]; exact hr⟩
def bz64 : List Nat := List.replicate 8 0
theorem bytes_wb64 (x : Nat) : bwN 8 x 8 = wb 64 x 8 := by
 simp [bwN, divN, wb, Nat.shiftRight_eq_div_pow, Nat.div_div_eq_div_mul, List.replicate]
theorem bytesH64 (vA vB vC vD vK vF : Value) (x : Nat) (w : World) (hx : x < 18446744073709551616) :
  Calls Tryz.prog 108 #[.agg #[.int .i64 64, .int .i64 80, vA, vB, vC, vD, vK, vF], .int .u64 (x : Int)] w fun e w' => ∃ v, e = .returned v ∧ ∃ g, v = .slice (some ⟨g, 0, none⟩) 8 8 ∧ Below w.heap.size w w' ∧ w.heap.size ≤ g ∧ w'.heap[g]? = some (.cells (ints .u8 (wb 64 x 8)) 5 (0, 0)) := by
 have hmk : ∀ w, (Instr.makeSlice 22 (.int .i64 8) (.int .i64 8)).run Tryz.prog w = .ok (.slice (some ⟨w.heap.size, 0, none⟩) 8 8) (w.alloc (.cells (ints .u8 bz64) 5)) := fun _ => by kernel_rfl
 go_enter Tryz.func108, Tryz.ntmps108
 go_wp2_with fail
 go_loopw [6, 1] (fun i v wr => ∃ j : Nat, j ≤ 8 ∧ i = .int .i64 (7 - (j : Int)) ∧ v = .int .u64 ((divN x j : Nat) : Int) ∧ Below w.heap.size w wr ∧ wr.heap[w.heap.size + 1]? = some (.cells (ints .u8 (bwN 8 x j)) 5 (0, 0))) (fun i _ _ => (intOf i + 1).toNat)
 case atStart => exact ⟨0, by omega, rfl, rfl, below2 _ _ _, heap_alloc2_new _ _ _⟩
 case round =>
  obtain ⟨j, hj, rfl, rfl, hB, hr⟩ := hrel
  have hd := divN_lt x hx j
  obtain ⟨y, hy⟩ : ∃ y, y = divN x j := ⟨_, rfl⟩
  rw [← hy] at hd ⊢
  by_cases hlt : j < 8
  ·obtain ⟨v0, c0⟩ : ∃ v, wr.cell? ⟨w.heap.size + 1, 7 - j, none⟩ = some v := ⟨_, cell_ints hr (7 - j) (by rw [bwN_len]; omega)⟩
   have f0 := free_ints hr (7 - j)
   have HN : Hid (Below w.heap.size w (wr.setCell ⟨w.heap.size + 1, 7 - j, none⟩ (.int .u8 ((y % 256 : Nat) : Int))) ∧ (wr.setCell ⟨w.heap.size + 1, 7 - j, none⟩ (.int .u8 ((y % 256 : Nat) : Int))).heap[w.heap.size + 1]? = some (.cells (ints .u8 (bwN 8 x (j + 1))) 5 (0, 0))) := by
    rw [hy]; exact ⟨hB.setCell (by simp) _, set_ints hr _ _⟩
   have HD : Hid (divN x (j + 1) = y / 256) := by rw [hy]; rfl
   clear hy hB hr
   go_wp2_with fail
   go_roundw
   case rel => exact ⟨j + 1, by omega, by go_num, by rw [HD.out]; go_num, HN.out.1, HN.out.2⟩
   case measure => simp [intOf]; omega
  ·obtain rfl : j = 8 := by omega
   go_wp2_with fail
   go_ret
   exact ⟨_, rfl, w.heap.size + 1, rfl, hB, by omega, by rw [← bytes_wb64]; exact hr⟩
end SR
end Go.Proofs.YtabgihjffjlfiaaGreatDoor
set_option linter.unusedVariables false
namespace Go.Proofs.YtabgihjffjlfiaaGreatDoor
namespace SR
open Go.RowKit Go.Sort Go.BigFrame
set_option maxRecDepth 100000
set_option maxHeartbeats 600000
def Ints (w : World) (g n : Nat) (l : List Nat) : Prop := ∀ i, i < n → w.cell? ⟨g, i, none⟩ = some (.int .i64 ((l.getD i 0 : Nat) : Int))
theorem Ints.on {w w1 : World} {g n : Nat} {l : List Nat} (h : Ints w g n l) (hb : Below w.heap.size w w1) : Ints w1 g n l :=
 fun j hj => (hb.cell (p := ⟨g, j, none⟩) (block_lt_of_cell (a := ⟨g, j, none⟩) (h j hj))).trans (h j hj)
theorem ints_row {w : World} {g t : Nat} {l : List Nat} (h : w.heap[g]? = some (.cells (ints .i64 l) t (0, 0))) : Ints w g l.length l := fun i hi => cell_ints h i hi
theorem digit_lt {l : List Nat} (h : ∀ d ∈ l, d < 65536) (j : Nat) : l.getD j 0 < 65536 := by
 by_cases hj : j < l.length
 ·rw [List.getD_eq_getElem?_getD, List.getElem?_eq_getElem hj]; exact h _ (List.getElem_mem hj)
 ·rw [List.getD_eq_getElem?_getD, List.getElem?_eq_none (by omega)]; decide
theorem mul_step {u b : List Nat} {i j c uo ai v : Nat} {vo : Nat} (hl : i + j < u.length) (huo : uo = u.getD (i + j) 0) (hv : v = uo + ai * b.getD j 0 + c)
  (h : val u + 65536 ^ (i + j) * c = vo + 65536 ^ i * (ai * val (b.take j))) (hj : j < b.length) :
  val (u.set (i + j) (v % 65536)) + 65536 ^ (i + (j + 1)) * (v / 65536) = vo + 65536 ^ i * (ai * val (b.take (j + 1))) := by
 have h1 := val_set u (i + j) (v % 65536) hl
 rw [← huo] at h1
 have e1 : 65536 ^ (i + (j + 1)) = 65536 ^ (i + j) * 65536 := by rw [← Nat.add_assoc, Nat.pow_succ]
 have e2 : 65536 ^ i * (ai * val (b.take (j + 1))) = 65536 ^ i * (ai * val (b.take j)) + 65536 ^ (i + j) * (ai * b.getD j 0) := by
  rw [val_take b j hj, Nat.mul_add, Nat.mul_add, Nat.pow_add]
  congr 1
  rw [Nat.mul_assoc, Nat.mul_left_comm ai]
 have e3 : 65536 ^ (i + j) * v = 65536 ^ (i + j) * (v % 65536) + 65536 ^ (i + j) * 65536 * (v / 65536) := by
  rw [Nat.mul_assoc, ← Nat.mul_add, Nat.mod_add_div]
 have e4 : 65536 ^ (i + j) * v = 65536 ^ (i + j) * uo + 65536 ^ (i + j) * (ai * b.getD j 0) + 65536 ^ (i + j) * c := by
  rw [hv, Nat.mul_add, Nat.mul_add]
 rw [e1, e2]
 omega
def zi10 : List Nat := List.replicate 10 0
theorem mul5_5 (ga ca gb cb : Nat) (a b : List Nat) (w : World) (hla : a.length = 5) (hlb : b.length = 5) (hda : ∀ d ∈ a, d < 65536) (hdb : ∀ d ∈ b, d < 65536)
  (ha : Ints w ga 5 a) (hb : Ints w gb 5 b) :
  Calls Tryz.prog 115 #[.slice (some ⟨ga, 0, none⟩) 5 ca, .slice (some ⟨gb, 0, none⟩) 5 cb] w fun e w' => ∃ v, e = .returned v ∧ ∃ g c, v = .slice (some ⟨g, 0, none⟩) 10 10 ∧ Below w.heap.size w w' ∧ w'.heap[g]? = some (.cells (ints .i64 c) 3 (0, 0)) ∧ c.length = 10 ∧ (∀ d ∈ c, d < 65536) ∧ val c = val a * val b := by
 have hmk : ∀ w, (Instr.makeSlice 43 (.int .i64 10) (.int .i64 10)).run Tryz.prog w = .ok (.slice (some ⟨w.heap.size, 0, none⟩) 10 10) (w.alloc (.cells (ints .i64 zi10) 3)) := fun _ => by kernel_rfl
 have HLA : Hid (a.length = 5) := hla
 have HLB : Hid (b.length = 5) := hlb
 clear hla hlb
 go_enter Tryz.func115, Tryz.ntmps115
 go_wp2_with fail
 go_loopw [6] (fun iv wr => ∃ i : Nat, ∃ o : List Nat, i ≤ 5 ∧ iv = .int .i64 (i : Int) ∧ Below w.heap.size w wr ∧ wr.heap[w.heap.size]? = some (.cells (ints .i64 o) 3 (0, 0)) ∧ o.length = 10 ∧ (∀ d ∈ o, d < 65536) ∧ (∀ j, i + 5 ≤ j → o.getD j 0 = 0) ∧ val o = val (a.take i) * val b) (fun iv _ => 5 - (intOf iv).toNat)
 case atStart => exact ⟨0, zi10, by omega, rfl, below1 _ _, heap_alloc_new _ _, rfl, fun d hd => by rw [List.eq_of_mem_replicate hd]; decide, fun j _ => by rw [List.getD_eq_getElem?_getD, zi10, List.getElem?_replicate]; split <;> rfl, by rw [show a.take 0 = [] from rfl, val, Nat.zero_mul]; exact val_zero 10⟩
 case round =>
  obtain ⟨i, o, hi, rfl, hB, hr, hol, hod, hoz, hov⟩ := hrel
  have HO : Hid (val o = val (a.take i) * val b) := hov
  have HOL : Hid (o.length = 10) := hol
  have HOZ : Hid (∀ j, i + 5 ≤ j → o.getD j 0 = 0) := hoz
  have HOD : Hid (∀ d ∈ o, d < 65536) := hod
  clear hov hol hoz hod
  by_cases hlt : i < 5
  ·obtain ⟨ai, hai⟩ : ∃ x, x = a.getD i 0 := ⟨_, rfl⟩
   have bai : ai < 65536 := by rw [hai]; exact digit_lt hda _
   have HAI : Hid (ai = a.getD i 0) := hai
   clear hai
   go_wp2_with fail
   go_loopw [8, 7] (fun jv cv wr => ∃ j c : Nat, ∃ u : List Nat, j ≤ 5 ∧ jv = .int .i64 (j : Int) ∧ cv = .int .i64 (c : Int) ∧ c ≤ 65535 ∧ Below w.heap.size w wr ∧ wr.heap[w.heap.size]? = some (.cells (ints .i64 u) 3 (0, 0)) ∧ u.length = 10 ∧ (∀ d ∈ u, d < 65536) ∧ (∀ k, i + 5 ≤ k → u.getD k 0 = 0) ∧
     val u + 65536 ^ (i + j) * c = val o + 65536 ^ i * (ai * val (b.take j))) (fun jv _ _ => 5 - (intOf jv).toNat)
   case atStart => exact ⟨0, 0, o, by omega, rfl, rfl, by omega, hB, hr, HOL.out, HOD.out, HOZ.out, by simp [val]⟩
   case round =>
    obtain ⟨j, c, u, hj, rfl, rfl, hc, hBu, hru, hul, hud, huz, huv⟩ := hrel
    have HUV : Hid (val u + 65536 ^ (i + j) * c = val o + 65536 ^ i * (ai * val (b.take j))) := huv
    have HUL : Hid (u.length = 10) := hul
    have HUD : Hid (∀ d ∈ u, d < 65536) := hud
    have HUZ : Hid (∀ k, i + 5 ≤ k → u.getD k 0 = 0) := huz
    clear huv hul hud huz
    by_cases hlt2 : j < 5
    ·obtain ⟨bj, hbj⟩ : ∃ x, x = b.getD j 0 := ⟨_, rfl⟩
     obtain ⟨uo, huo⟩ : ∃ x, x = u.getD (i + j) 0 := ⟨_, rfl⟩
     have bbj : bj < 65536 := by rw [hbj]; exact digit_lt hdb _
     have buo : uo < 65536 := by rw [huo]; exact digit_lt HUD.out _
     have k1 : wr.cell? ⟨w.heap.size, i + j, none⟩ = some (.int .i64 (uo : Int)) := by rw [huo]; exact cell_ints hru (i + j) (by rw [HUL.out]; omega)
     have k2 : wr.cell? ⟨ga, i, none⟩ = some (.int .i64 (ai : Int)) := by rw [HAI.out]; exact (hBu.cell (p := ⟨ga, i, none⟩) (block_lt_of_cell (a := ⟨ga, 0, none⟩) (ha 0 (by omega)))).trans (ha i hlt)
     have k3 : wr.cell? ⟨gb, j, none⟩ = some (.int .i64 (bj : Int)) := by rw [hbj]; exact (hBu.cell (p := ⟨gb, j, none⟩) (block_lt_of_cell (a := ⟨gb, 0, none⟩) (hb 0 (by omega)))).trans (hb j hlt2)
     have f1 := free_ints hru (i + j)
     obtain ⟨m, hm⟩ : ∃ x, x = ai * bj := ⟨_, rfl⟩
     have bm : m ≤ 65535 * 65535 := by rw [hm]; exact Nat.mul_le_mul (by omega) (by omega)
     have hmI : (ai : Int) * (bj : Int) = (m : Int) := by rw [hm]; simp
     obtain ⟨v, hv⟩ : ∃ x, x = uo + m + c := ⟨_, rfl⟩
     have hvI : (uo : Int) + (m : Int) + (c : Int) = (v : Int) := by rw [hv]; simp
     have Hbv : v < 4294967296 := by omega
     have HN : Hid (∀ n, Below w.heap.size w ((wr.drewN n).setCell ⟨w.heap.size, i + j, none⟩ (.int .i64 ((v : Int) % 65536))) ∧ ((wr.drewN n).setCell ⟨w.heap.size, i + j, none⟩ (.int .i64 ((v : Int) % 65536))).heap[w.heap.size]? = some (.cells (ints .i64 (u.set (i + j) (v % 65536))) 3 (0, 0))) := fun n => by
      have h : ((v : Int) % 65536) = ((v % 65536 : Nat) : Int) := by omega
      rw [h]
      exact ⟨(below_drewN hBu n).setCell (Nat.le_refl _) _, set_ints (w := wr.drewN n) hru _ _⟩
     have HV : Hid (val (u.set (i + j) (v % 65536)) + 65536 ^ (i + (j + 1)) * (v / 65536) = val o + 65536 ^ i * (ai * val (b.take (j + 1)))) := by
      refine mul_step (u := u) (c := c) (by rw [HUL.out]; omega) huo ?_ HUV.out (by rw [HLB.out]; omega)
      rw [hv, hm, hbj]
     have HZ : Hid (∀ k, i + 5 ≤ k → (u.set (i + j) (v % 65536)).getD k 0 = 0) := fun k hk => by
      rw [List.getD_eq_getElem?_getD, List.getElem?_set_ne (by omega), ← List.getD_eq_getElem?_getD]; exact HUZ.out k hk
     have HD : Hid (∀ d ∈ u.set (i + j) (v % 65536), d < 65536) := fun d hd => by
      rcases List.mem_or_eq_of_mem_set hd with h | h
      ·exact HUD.out d h
      ·rw [h]; exact Nat.mod_lt _ (by decide)
     clear hv hm huo hbj hru hBu
     go_wp2_with fail
     go_quiet (fail)
     go_wp2_with fail
     go_roundw
     case rel => exact ⟨j + 1, v / 65536, u.set (i + j) (v % 65536), by omega, by go_num, by go_num, by omega, (HN.out _).1, (HN.out _).2, by rw [List.length_set]; exact HUL.out, HD.out, HZ.out, HV.out⟩
     case measure => simp [intOf]; omega
    ·obtain rfl : j = 5 := by omega
     have k1 : wr.cell? ⟨w.heap.size, i + 5, none⟩ = some (.int .i64 (0 : Int)) := by
      have := cell_ints hru (i + 5) (by rw [HUL.out]; omega)
      rw [HUZ.out _ (Nat.le_refl _)] at this; exact this
     have f1 := free_ints hru (i + 5)
     have HN : Hid (Below w.heap.size w (wr.setCell ⟨w.heap.size, i + 5, none⟩ (.int .i64 (c : Int))) ∧ (wr.setCell ⟨w.heap.size, i + 5, none⟩ (.int .i64 (c : Int))).heap[w.heap.size]? = some (.cells (ints .i64 (u.set (i + 5) c)) 3 (0, 0))) :=
      ⟨hBu.setCell (Nat.le_refl _) _, set_ints hru _ _⟩
     have HV : Hid (val (u.set (i + 5) c) = val (a.take (i + 1)) * val b) := by
      show val (u.set (i + 5) c) = val (a.take (i + 1)) * val b
      have h1 := val_set u (i + 5) c (by rw [HUL.out]; omega)
      rw [HUZ.out _ (Nat.le_refl _)] at h1
      have h2 := HUV.out
      rw [List.take_of_length_le (by rw [HLB.out]; omega)] at h2
      rw [val_take a i (by rw [HLA.out]; omega), ← HAI.out, Nat.add_mul, ← HO.out, Nat.mul_assoc]
      omega
     have HZ : Hid (∀ k, i + 1 + 5 ≤ k → (u.set (i + 5) c).getD k 0 = 0) := fun k hk => by
      rw [List.getD_eq_getElem?_getD, List.getElem?_set_ne (by omega), ← List.getD_eq_getElem?_getD]; exact HUZ.out k (by omega)
     have HD : Hid (∀ d ∈ u.set (i + 5) c, d < 65536) := fun d hd => by
      rcases List.mem_or_eq_of_mem_set hd with h | h
      ·exact HUD.out d h
      ·rw [h]; omega
     clear hru hBu
     go_wp2_with fail
     go_roundw
     case rel => exact ⟨i + 1, u.set (i + 5) c, by omega, by go_num, HN.out.1, HN.out.2, by rw [List.length_set]; exact HUL.out, HD.out, HZ.out, HV.out⟩
     case measure => simp [intOf]; omega
  ·obtain rfl : i = 5 := by omega
   go_wp2_with fail
   go_ret
   exact ⟨_, rfl, w.heap.size, o, rfl, hB, hr, HOL.out, HOD.out, by have := HO.out; rwa [List.take_of_length_le (by rw [HLA.out]; omega)] at this⟩
def zi15 : List Nat := List.replicate 15 0
theorem mul10_5 (ga ca gb cb : Nat) (a b : List Nat) (w : World) (hla : a.length = 10) (hlb : b.length = 5) (hda : ∀ d ∈ a, d < 65536) (hdb : ∀ d ∈ b, d < 65536)
  (ha : Ints w ga 10 a) (hb : Ints w gb 5 b) :
  Calls Tryz.prog 115 #[.slice (some ⟨ga, 0, none⟩) 10 ca, .slice (some ⟨gb, 0, none⟩) 5 cb] w fun e w' => ∃ v, e = .returned v ∧ ∃ g c, v = .slice (some ⟨g, 0, none⟩) 15 15 ∧ Below w.heap.size w w' ∧ w'.heap[g]? = some (.cells (ints .i64 c) 3 (0, 0)) ∧ c.length = 15 ∧ (∀ d ∈ c, d < 65536) ∧ val c = val a * val b := by
 have hmk : ∀ w, (Instr.makeSlice 43 (.int .i64 15) (.int .i64 15)).run Tryz.prog w = .ok (.slice (some ⟨w.heap.size, 0, none⟩) 15 15) (w.alloc (.cells (ints .i64 zi15) 3)) := fun _ => by kernel_rfl
 have HLA : Hid (a.length = 10) := hla
 have HLB : Hid (b.length = 5) := hlb
 clear hla hlb
 go_enter Tryz.func115, Tryz.ntmps115
 go_wp2_with fail
 go_loopw [6] (fun iv wr => ∃ i : Nat, ∃ o : List Nat, i ≤ 10 ∧ iv = .int .i64 (i : Int) ∧ Below w.heap.size w wr ∧ wr.heap[w.heap.size]? = some (.cells (ints .i64 o) 3 (0, 0)) ∧ o.length = 15 ∧ (∀ d ∈ o, d < 65536) ∧ (∀ j, i + 5 ≤ j → o.getD j 0 = 0) ∧ val o = val (a.take i) * val b) (fun iv _ => 10 - (intOf iv).toNat)
 case atStart => exact ⟨0, zi15, by omega, rfl, below1 _ _, heap_alloc_new _ _, rfl, fun d hd => by rw [List.eq_of_mem_replicate hd]; decide, fun j _ => by rw [List.getD_eq_getElem?_getD, zi15, List.getElem?_replicate]; split <;> rfl, by rw [show a.take 0 = [] from rfl, val, Nat.zero_mul]; exact val_zero 15⟩
 case round =>
  obtain ⟨i, o, hi, rfl, hB, hr, hol, hod, hoz, hov⟩ := hrel
  have HO : Hid (val o = val (a.take i) * val b) := hov
  have HOL : Hid (o.length = 15) := hol
  have HOZ : Hid (∀ j, i + 5 ≤ j → o.getD j 0 = 0) := hoz
  have HOD : Hid (∀ d ∈ o, d < 65536) := hod
  clear hov hol hoz hod
  by_cases hlt : i < 10
  ·obtain ⟨ai, hai⟩ : ∃ x, x = a.getD i 0 := ⟨_, rfl⟩
   have bai : ai < 65536 := by rw [hai]; exact digit_lt hda _
   have HAI : Hid (ai = a.getD i 0) := hai
   clear hai
   go_wp2_with fail
   go_loopw [8, 7] (fun jv cv wr => ∃ j c : Nat, ∃ u : List Nat, j ≤ 5 ∧ jv = .int .i64 (j : Int) ∧ cv = .int .i64 (c : Int) ∧ c ≤ 65535 ∧ Below w.heap.size w wr ∧ wr.heap[w.heap.size]? = some (.cells (ints .i64 u) 3 (0, 0)) ∧ u.length = 15 ∧ (∀ d ∈ u, d < 65536) ∧ (∀ k, i + 5 ≤ k → u.getD k 0 = 0) ∧
     val u + 65536 ^ (i + j) * c = val o + 65536 ^ i * (ai * val (b.take j))) (fun jv _ _ => 5 - (intOf jv).toNat)
   case atStart => exact ⟨0, 0, o, by omega, rfl, rfl, by omega, hB, hr, HOL.out, HOD.out, HOZ.out, by simp [val]⟩
   case round =>
    obtain ⟨j, c, u, hj, rfl, rfl, hc, hBu, hru, hul, hud, huz, huv⟩ := hrel
    have HUV : Hid (val u + 65536 ^ (i + j) * c = val o + 65536 ^ i * (ai * val (b.take j))) := huv
    have HUL : Hid (u.length = 15) := hul
    have HUD : Hid (∀ d ∈ u, d < 65536) := hud
    have HUZ : Hid (∀ k, i + 5 ≤ k → u.getD k 0 = 0) := huz
    clear huv hul hud huz
    by_cases hlt2 : j < 5
    ·obtain ⟨bj, hbj⟩ : ∃ x, x = b.getD j 0 := ⟨_, rfl⟩
     obtain ⟨uo, huo⟩ : ∃ x, x = u.getD (i + j) 0 := ⟨_, rfl⟩
     have bbj : bj < 65536 := by rw [hbj]; exact digit_lt hdb _
     have buo : uo < 65536 := by rw [huo]; exact digit_lt HUD.out _
     have k1 : wr.cell? ⟨w.heap.size, i + j, none⟩ = some (.int .i64 (uo : Int)) := by rw [huo]; exact cell_ints hru (i + j) (by rw [HUL.out]; omega)
     have k2 : wr.cell? ⟨ga, i, none⟩ = some (.int .i64 (ai : Int)) := by rw [HAI.out]; exact (hBu.cell (p := ⟨ga, i, none⟩) (block_lt_of_cell (a := ⟨ga, 0, none⟩) (ha 0 (by omega)))).trans (ha i hlt)
     have k3 : wr.cell? ⟨gb, j, none⟩ = some (.int .i64 (bj : Int)) := by rw [hbj]; exact (hBu.cell (p := ⟨gb, j, none⟩) (block_lt_of_cell (a := ⟨gb, 0, none⟩) (hb 0 (by omega)))).trans (hb j hlt2)
     have f1 := free_ints hru (i + j)
     obtain ⟨m, hm⟩ : ∃ x, x = ai * bj := ⟨_, rfl⟩
     have bm : m ≤ 65535 * 65535 := by rw [hm]; exact Nat.mul_le_mul (by omega) (by omega)
     have hmI : (ai : Int) * (bj : Int) = (m : Int) := by rw [hm]; simp
     obtain ⟨v, hv⟩ : ∃ x, x = uo + m + c := ⟨_, rfl⟩
     have hvI : (uo : Int) + (m : Int) + (c : Int) = (v : Int) := by rw [hv]; simp
     have Hbv : v < 4294967296 := by omega
     have HN : Hid (∀ n, Below w.heap.size w ((wr.drewN n).setCell ⟨w.heap.size, i + j, none⟩ (.int .i64 ((v : Int) % 65536))) ∧ ((wr.drewN n).setCell ⟨w.heap.size, i + j, none⟩ (.int .i64 ((v : Int) % 65536))).heap[w.heap.size]? = some (.cells (ints .i64 (u.set (i + j) (v % 65536))) 3 (0, 0))) := fun n => by
      have h : ((v : Int) % 65536) = ((v % 65536 : Nat) : Int) := by omega
      rw [h]
      exact ⟨(below_drewN hBu n).setCell (Nat.le_refl _) _, set_ints (w := wr.drewN n) hru _ _⟩
     have HV : Hid (val (u.set (i + j) (v % 65536)) + 65536 ^ (i + (j + 1)) * (v / 65536) = val o + 65536 ^ i * (ai * val (b.take (j + 1)))) := by
      refine mul_step (u := u) (c := c) (by rw [HUL.out]; omega) huo ?_ HUV.out (by rw [HLB.out]; omega)
      rw [hv, hm, hbj]
     have HZ : Hid (∀ k, i + 5 ≤ k → (u.set (i + j) (v % 65536)).getD k 0 = 0) := fun k hk => by
      rw [List.getD_eq_getElem?_getD, List.getElem?_set_ne (by omega), ← List.getD_eq_getElem?_getD]; exact HUZ.out k hk
     have HD : Hid (∀ d ∈ u.set (i + j) (v % 65536), d < 65536) := fun d hd => by
      rcases List.mem_or_eq_of_mem_set hd with h | h
      ·exact HUD.out d h
      ·rw [h]; exact Nat.mod_lt _ (by decide)
     clear hv hm huo hbj hru hBu
     go_wp2_with fail
     go_quiet (fail)
     go_wp2_with fail
     go_roundw
     case rel => exact ⟨j + 1, v / 65536, u.set (i + j) (v % 65536), by omega, by go_num, by go_num, by omega, (HN.out _).1, (HN.out _).2, by rw [List.length_set]; exact HUL.out, HD.out, HZ.out, HV.out⟩
     case measure => simp [intOf]; omega
    ·obtain rfl : j = 5 := by omega
     have k1 : wr.cell? ⟨w.heap.size, i + 5, none⟩ = some (.int .i64 (0 : Int)) := by
      have := cell_ints hru (i + 5) (by rw [HUL.out]; omega)
      rw [HUZ.out _ (Nat.le_refl _)] at this; exact this
     have f1 := free_ints hru (i + 5)
     have HN : Hid (Below w.heap.size w (wr.setCell ⟨w.heap.size, i + 5, none⟩ (.int .i64 (c : Int))) ∧ (wr.setCell ⟨w.heap.size, i + 5, none⟩ (.int .i64 (c : Int))).heap[w.heap.size]? = some (.cells (ints .i64 (u.set (i + 5) c)) 3 (0, 0))) :=
      ⟨hBu.setCell (Nat.le_refl _) _, set_ints hru _ _⟩
     have HV : Hid (val (u.set (i + 5) c) = val (a.take (i + 1)) * val b) := by
      show val (u.set (i + 5) c) = val (a.take (i + 1)) * val b
      have h1 := val_set u (i + 5) c (by rw [HUL.out]; omega)
      rw [HUZ.out _ (Nat.le_refl _)] at h1
      have h2 := HUV.out
      rw [List.take_of_length_le (by rw [HLB.out]; omega)] at h2
      rw [val_take a i (by rw [HLA.out]; omega), ← HAI.out, Nat.add_mul, ← HO.out, Nat.mul_assoc]
      omega
     have HZ : Hid (∀ k, i + 1 + 5 ≤ k → (u.set (i + 5) c).getD k 0 = 0) := fun k hk => by
      rw [List.getD_eq_getElem?_getD, List.getElem?_set_ne (by omega), ← List.getD_eq_getElem?_getD]; exact HUZ.out k (by omega)
     have HD : Hid (∀ d ∈ u.set (i + 5) c, d < 65536) := fun d hd => by
      rcases List.mem_or_eq_of_mem_set hd with h | h
      ·exact HUD.out d h
      ·rw [h]; omega
     clear hru hBu
     go_wp2_with fail
     go_roundw
     case rel => exact ⟨i + 1, u.set (i + 5) c, by omega, by go_num, HN.out.1, HN.out.2, by rw [List.length_set]; exact HUL.out, HD.out, HZ.out, HV.out⟩
     case measure => simp [intOf]; omega
  ·obtain rfl : i = 10 := by omega
   go_wp2_with fail
   go_ret
   exact ⟨_, rfl, w.heap.size, o, rfl, hB, hr, HOL.out, HOD.out, by have := HO.out; rwa [List.take_of_length_le (by rw [HLA.out]; omega)] at this⟩
end SR
end Go.Proofs.YtabgihjffjlfiaaGreatDoor
set_option linter.unusedVariables false
namespace Go.Proofs.YtabgihjffjlfiaaGreatDoor
namespace SR
open Go.RowKit Go.Sort Go.BigFrame
set_option maxRecDepth 100000
set_option maxHeartbeats 600000
theorem less9_10 (ga ca gb cb : Nat) (a b : List Nat) (w : World) (hla : a.length = 9) (hlb : b.length = 10) (hda : ∀ d ∈ a, d < 65536) (hdb : ∀ d ∈ b, d < 65536)
  (ha : Ints w ga 9 a) (hb : Ints w gb 10 b) :
  Calls Tryz.prog 116 #[.slice (some ⟨ga, 0, none⟩) 9 ca, .slice (some ⟨gb, 0, none⟩) 10 cb] w fun e w' => e = .returned (.bool (decide (val a < val b))) ∧ w' = w := by
 have HLA : Hid (a.length = 9) := hla
 have HLB : Hid (b.length = 10) := hlb
 clear hla hlb
 obtain ⟨t, ht⟩ : ∃ t, t = decide (val a < val b) := ⟨_, rfl⟩
 rw [← ht]
 have HT : Hid (t = decide (val a < val b)) := ht
 clear ht
 go_enter Tryz.func116, Tryz.ntmps116
 go_wp2_with fail
 go_loop [6] (fun iv => ∃ m : Nat, m ≤ 10 ∧ iv = .int .i64 ((m : Int) - 1) ∧ ∀ j, m ≤ j → a.getD j 0 = b.getD j 0) (fun iv => (intOf iv + 1).toNat)
 case atStart => exact ⟨10, by omega, rfl, fun j hj => by rw [List.getD_eq_getElem?_getD, List.getD_eq_getElem?_getD, List.getElem?_eq_none (by rw [HLA.out]; omega), List.getElem?_eq_none (by rw [HLB.out]; omega)]⟩
 case round =>
  obtain ⟨m, hm, rfl, hag⟩ := hrel
  have HAG : Hid (∀ j, m ≤ j → a.getD j 0 = b.getD j 0) := hag
  clear hag
  by_cases hlt : 0 < m
  ·obtain ⟨x, hx⟩ : ∃ x, x = a.getD (m - 1) 0 := ⟨_, rfl⟩
   obtain ⟨y, hy⟩ : ∃ x, x = b.getD (m - 1) 0 := ⟨_, rfl⟩
   have bx : x < 65536 := by rw [hx]; exact digit_lt hda _
   have bY : y < 65536 := by rw [hy]; exact digit_lt hdb _
   have HXY : Hid (x = a.getD (m - 1) 0 ∧ y = b.getD (m - 1) 0) := ⟨hx, hy⟩
   have hxa : m - 1 < 9 → w.cell? ⟨ga, m - 1, none⟩ = some (.int .i64 (x : Int)) := fun h => by rw [hx]; exact ha _ h
   have hyb : m - 1 < 10 → w.cell? ⟨gb, m - 1, none⟩ = some (.int .i64 (y : Int)) := fun h => by rw [hy]; exact hb _ h
   have hx0 : ¬ m - 1 < 9 → x = 0 := fun h => by rw [hx, List.getD_eq_getElem?_getD, List.getElem?_eq_none (by rw [HLA.out]; omega)]; rfl
   have hy0 : ¬ m - 1 < 10 → y = 0 := fun h => by rw [hy, List.getD_eq_getElem?_getD, List.getElem?_eq_none (by rw [HLB.out]; omega)]; rfl
   have fin1 : x < y → decide (val a < val b) = true := fun h => decide_eq_true (val_less a b hda hdb (m - 1) (fun i hi => HAG.out i (by omega)) (by rw [← hx, ← hy]; exact h))
   have fin2 : y < x → decide (val a < val b) = false := fun h => decide_eq_false (by have := val_less b a hdb hda (m - 1) (fun i hi => (HAG.out i (by omega)).symm) (by rw [← hx, ← hy]; exact h); omega)
   have fin3 : x = y → ∀ j, m - 1 ≤ j → a.getD j 0 = b.getD j 0 := fun h j hj => by
    by_cases e : j = m - 1
    ·rw [e, ← hx, ← hy]; exact h
    ·exact HAG.out j (by omega)
   clear hx hy
   have F1 : Hid (x < y → t = true) := fun h => HT.out.trans (fin1 h)
   have F2 : Hid (y < x → t = false) := fun h => HT.out.trans (fin2 h)
   have F3 : Hid (x = y → ∀ j, m - 1 ≤ j → a.getD j 0 = b.getD j 0) := fin3
   clear fin1 fin2 fin3
   by_cases h1 : m - 1 < 9
   ·have k1 := hxa h1
    have k2 := hyb (by omega)
    clear hxa hyb hx0 hy0
    rcases Nat.lt_trichotomy x y with h | h | h
    ·have h' : (x : Int) < (y : Int) := by omega
     go_wp2_with fail
     go_ret
     exact ⟨by rw [F1.out h]; simp, rfl⟩
    ·have HX : Hid (x = y) := h
     subst h
     go_wp2_with fail
     go_round
     case rel => exact ⟨m - 1, by omega, by go_num, F3.out rfl⟩
     case measure => simp [intOf]; omega
    ·have h' : ¬ (x : Int) < (y : Int) := by omega
     go_wp2_with fail
     go_ret
     exact ⟨by rw [F2.out h]; simp, rfl⟩
   ·have k1 := hx0 h1
    have k2 := hyb (by omega)
    clear hxa hyb hx0 hy0
    subst k1
    by_cases h : 0 < y
    ·go_wp2_with fail
     go_ret
     exact ⟨by rw [F1.out h]; simp, rfl⟩
    ·obtain rfl : y = 0 := by omega
     go_wp2_with fail
     go_round
     case rel => exact ⟨m - 1, by omega, by go_num, F3.out rfl⟩
     case measure => simp [intOf]; omega
  ·obtain rfl : m = 0 := by omega
   have e : val a = val b := by have := drop_val_eq a b 0 (fun i _ => HAG.out i (by omega)); simpa using this
   have hf : t = false := HT.out.trans (decide_eq_false (by omega))
   have HF : Hid (t = false) := hf
   clear hf e
   go_wp2_with fail
   go_ret
   exact ⟨by rw [HF.out]; rfl, rfl⟩
theorem less13_15 (ga ca gb cb : Nat) (a b : List Nat) (w : World) (hla : a.length = 13) (hlb : b.length = 15) (hda : ∀ d ∈ a, d < 65536) (hdb : ∀ d ∈ b, d < 65536)
  (ha : Ints w ga 13 a) (hb : Ints w gb 15 b) :
  Calls Tryz.prog 116 #[.slice (some ⟨ga, 0, none⟩) 13 ca, .slice (some ⟨gb, 0, none⟩) 15 cb] w fun e w' => e = .returned (.bool (decide (val a < val b))) ∧ w' = w := by
 have HLA : Hid (a.length = 13) := hla
 have HLB : Hid (b.length = 15) := hlb
 clear hla hlb
 obtain ⟨t, ht⟩ : ∃ t, t = decide (val a < val b) := ⟨_, rfl⟩
 rw [← ht]
 have HT : Hid (t = decide (val a < val b)) := ht
 clear ht
 go_enter Tryz.func116, Tryz.ntmps116
 go_wp2_with fail
 go_loop [6] (fun iv => ∃ m : Nat, m ≤ 15 ∧ iv = .int .i64 ((m : Int) - 1) ∧ ∀ j, m ≤ j → a.getD j 0 = b.getD j 0) (fun iv => (intOf iv + 1).toNat)
 case atStart => exact ⟨15, by omega, rfl, fun j hj => by rw [List.getD_eq_getElem?_getD, List.getD_eq_getElem?_getD, List.getElem?_eq_none (by rw [HLA.out]; omega), List.getElem?_eq_none (by rw [HLB.out]; omega)]⟩
 case round =>
  obtain ⟨m, hm, rfl, hag⟩ := hrel
  have HAG : Hid (∀ j, m ≤ j → a.getD j 0 = b.getD j 0) := hag
  clear hag
  by_cases hlt : 0 < m
  ·obtain ⟨x, hx⟩ : ∃ x, x = a.getD (m - 1) 0 := ⟨_, rfl⟩
   obtain ⟨y, hy⟩ : ∃ x, x = b.getD (m - 1) 0 := ⟨_, rfl⟩
   have bx : x < 65536 := by rw [hx]; exact digit_lt hda _
   have bY : y < 65536 := by rw [hy]; exact digit_lt hdb _
   have HXY : Hid (x = a.getD (m - 1) 0 ∧ y = b.getD (m - 1) 0) := ⟨hx, hy⟩
   have hxa : m - 1 < 13 → w.cell? ⟨ga, m - 1, none⟩ = some (.int .i64 (x : Int)) := fun h => by rw [hx]; exact ha _ h
   have hyb : m - 1 < 15 → w.cell? ⟨gb, m - 1, none⟩ = some (.int .i64 (y : Int)) := fun h => by rw [hy]; exact hb _ h
   have hx0 : ¬ m - 1 < 13 → x = 0 := fun h => by rw [hx, List.getD_eq_getElem?_getD, List.getElem?_eq_none (by rw [HLA.out]; omega)]; rfl
   have hy0 : ¬ m - 1 < 15 → y = 0 := fun h => by rw [hy, List.getD_eq_getElem?_getD, List.getElem?_eq_none (by rw [HLB.out]; omega)]; rfl
   have fin1 : x < y → decide (val a < val b) = true := fun h => decide_eq_true (val_less a b hda hdb (m - 1) (fun i hi => HAG.out i (by omega)) (by rw [← hx, ← hy]; exact h))
   have fin2 : y < x → decide (val a < val b) = false := fun h => decide_eq_false (by have := val_less b a hdb hda (m - 1) (fun i hi => (HAG.out i (by omega)).symm) (by rw [← hx, ← hy]; exact h); omega)
   have fin3 : x = y → ∀ j, m - 1 ≤ j → a.getD j 0 = b.getD j 0 := fun h j hj => by
    by_cases e : j = m - 1
    ·rw [e, ← hx, ← hy]; exact h
    ·exact HAG.out j (by omega)
   clear hx hy
   have F1 : Hid (x < y → t = true) := fun h => HT.out.trans (fin1 h)
   have F2 : Hid (y < x → t = false) := fun h => HT.out.trans (fin2 h)
   have F3 : Hid (x = y → ∀ j, m - 1 ≤ j → a.getD j 0 = b.getD j 0) := fin3
   clear fin1 fin2 fin3
   by_cases h1 : m - 1 < 13
   ·have k1 := hxa h1
    have k2 := hyb (by omega)
    clear hxa hyb hx0 hy0
    rcases Nat.lt_trichotomy x y with h | h | h
    ·have h' : (x : Int) < (y : Int) := by omega
     go_wp2_with fail
     go_ret
     exact ⟨by rw [F1.out h]; simp, rfl⟩
    ·have HX : Hid (x = y) := h
     subst h
     go_wp2_with fail
     go_round
     case rel => exact ⟨m - 1, by omega, by go_num, F3.out rfl⟩
     case measure => simp [intOf]; omega
    ·have h' : ¬ (x : Int) < (y : Int) := by omega
     go_wp2_with fail
     go_ret
     exact ⟨by rw [F2.out h]; simp, rfl⟩
   ·have k1 := hx0 h1
    have k2 := hyb (by omega)
    clear hxa hyb hx0 hy0
    subst k1
    by_cases h : 0 < y
    ·go_wp2_with fail
     go_ret
     exact ⟨by rw [F1.out h]; simp, rfl⟩
    ·obtain rfl : y = 0 := by omega
     go_wp2_with fail
     go_round
     case rel => exact ⟨m - 1, by omega, by go_num, F3.out rfl⟩
     case measure => simp [intOf]; omega
  ·obtain rfl : m = 0 := by omega
   have e : val a = val b := by have := drop_val_eq a b 0 (fun i _ => HAG.out i (by omega)); simpa using this
   have hf : t = false := HT.out.trans (decide_eq_false (by omega))
   have HF : Hid (t = false) := hf
   clear hf e
   go_wp2_with fail
   go_ret
   exact ⟨by rw [HF.out]; rfl, rfl⟩
end SR
end Go.Proofs.YtabgihjffjlfiaaGreatDoor
set_option linter.unusedVariables false
namespace Go.Proofs.YtabgihjffjlfiaaGreatDoor
namespace SR
open Go.RowKit Go.Sort Go.BigFrame
set_option maxRecDepth 100000
set_option maxHeartbeats 600000
def zi5 : List Nat := List.replicate 5 0
def zi9 : List Nat := List.replicate 9 0
theorem root2 (p : Nat) (w : World) (hp : p < 512) :
  Calls Tryz.prog 106 #[.int .i64 (p : Int), .int .i64 2] w fun e w' => ∃ X, e = .returned (.int .u64 ((X % 18446744073709551616 : Nat) : Int)) ∧ X ^ 2 ≤ p * 2 ^ 128 ∧ p * 2 ^ 128 < (X + 1) ^ 2 ∧ Below w.heap.size w w' := by
 have hmk : ∀ w, (Instr.makeSlice 43 (.int .i64 9) (.int .i64 9)).run Tryz.prog w = .ok (.slice (some ⟨w.heap.size, 0, none⟩) 9 9) (w.alloc (.cells (ints .i64 zi9) 3)) := fun _ => by kernel_rfl
 have hmk5 : ∀ w, (Instr.makeSlice 43 (.int .i64 5) (.int .i64 5)).run Tryz.prog w = .ok (.slice (some ⟨w.heap.size, 0, none⟩) 5 5) (w.alloc (.cells (ints .i64 zi5) 3)) := fun _ => by kernel_rfl
 obtain ⟨tg, htg⟩ : ∃ x, x = zi9.set 8 p := ⟨_, rfl⟩
 have htl : tg.length = 9 := by rw [htg]; rfl
 have htd : ∀ d ∈ tg, d < 65536 := fun d hd => by
  rw [htg] at hd
  rcases List.mem_or_eq_of_mem_set hd with h | h
  ·rw [List.eq_of_mem_replicate h]; decide
  ·omega
 have htv : val tg = p * 2 ^ 128 := by
  have h := val_add zi9 8 p (by decide)
  rw [show zi9.getD 8 0 = 0 from rfl, Nat.zero_add, ← htg, show val zi9 = 0 from val_zero 9, Nat.zero_add] at h
  rw [h, Nat.mul_comm, show (65536 : Nat) ^ 8 = 2 ^ 128 by decide]
 have HTG : Hid (tg = zi9.set 8 p) := htg
 have HTV : Hid (val tg = p * 2 ^ 128) := htv
 clear htg htv
 have hst : (ints .i64 zi9).setIfInBounds 8 (.int .i64 (p : Int)) = ints .i64 tg := by rw [HTG.out]; exact ints_set .i64 zi9 8 p
 have HST : Hid ((ints .i64 zi9).setIfInBounds 8 (.int .i64 (p : Int)) = ints .i64 tg) := hst
 clear hst
 have k0 : (w.alloc (.cells (ints .i64 zi9) 3)).cell? ⟨w.heap.size, 8, none⟩ = some (.int .i64 0) := cell_ints (heap_alloc_new _ _) 8 (by decide)
 have f0 := free_ints (heap_alloc_new w (.cells (ints .i64 zi9) 3)) 8
 go_enter Tryz.func106, Tryz.ntmps106
 go_wp2_with fail
 clear k0 f0
 rw [HST.out]
 go_loopw [7] (fun Hbv wr => ∃ m : Nat, ∃ xs : List Nat, m ≤ 69 ∧ Hbv = .int .i64 ((m : Int) - 1) ∧ Below w.heap.size w wr ∧ wr.heap[w.heap.size]? = some (.cells (ints .i64 tg) 3 (0, 0)) ∧ wr.heap[w.heap.size + 1]? = some (.cells (ints .i64 xs) 3 (0, 0)) ∧ xs.length = 5 ∧ (∀ d ∈ xs, d < 65536) ∧
   2 ^ m ∣ val xs ∧ val xs ^ 2 ≤ val tg ∧ val tg < (val xs + 2 ^ m) ^ 2) (fun Hbv _ => (intOf Hbv + 1).toNat)
 case atStart =>
  refine ⟨69, zi5, by omega, rfl, below2 _ _ _, heap_alloc2_old _ _ _, heap_alloc2_new _ _ _, rfl, fun d hd => by rw [List.eq_of_mem_replicate hd]; decide, ?_, ?_, ?_⟩
  ·rw [show val zi5 = 0 from val_zero 5]; exact Nat.dvd_zero _
  ·rw [show val zi5 = 0 from val_zero 5]; exact Nat.zero_le _
  ·rw [show val zi5 = 0 from val_zero 5, HTV.out, Nat.zero_add]
   have h1 : p * 2 ^ 128 < 512 * 2 ^ 128 := Nat.mul_lt_mul_of_pos_right hp (by decide)
   exact Nat.lt_of_lt_of_le h1 (by decide)
 case round =>
  obtain ⟨m, xs, hm, rfl, hB, hrt, hrx, hxl, hxd, hdv, hlo, hhi⟩ := hrel
  have HXL : Hid (xs.length = 5) := hxl
  have HXD : Hid (∀ d ∈ xs, d < 65536) := hxd
  have HDV : Hid (2 ^ m ∣ val xs) := hdv
  have HLO : Hid (val xs ^ 2 ≤ val tg) := hlo
  have HHI : Hid (val tg < (val xs + 2 ^ m) ^ 2) := hhi
  clear hxl hxd hdv hlo hhi
  by_cases hlt : 0 < m
  ·obtain ⟨b, rfl⟩ : ∃ b, m = b + 1 := ⟨m - 1, by omega⟩
   have e0 : ((b + 1 : Nat) : Int) - 1 = (b : Int) := by omega
   rw [e0]
   clear e0
   go_wp2_with fail
   go_loop [9, 8] (fun iv dv => ∃ i : Nat, i ≤ b % 16 ∧ iv = .int .i64 (i : Int) ∧ dv = .int .i64 ((2 ^ i : Nat) : Int)) (fun iv _ => b % 16 - (intOf iv).toNat)
   case atStart => exact ⟨0, by omega, rfl, rfl⟩
   case round =>
    obtain ⟨i, hi, rfl, rfl⟩ := hrel
    have hb16 : b % 16 < 16 := Nat.mod_lt _ (by decide)
    by_cases hlt2 : i < b % 16
    ·have hpi : 2 ^ i ≤ 2 ^ 15 := Nat.pow_le_pow_right (by decide) (by omega)
     obtain ⟨y, hy⟩ : ∃ y, y = 2 ^ i := ⟨_, rfl⟩
     have HY : Hid (2 ^ (i + 1) = 2 * y) := by rw [hy]; show 2 ^ (i + 1) = 2 * 2 ^ i; rw [Nat.pow_succ, Nat.mul_comm]
     rw [← hy] at hpi ⊢
     have hpi' : y ≤ 32768 := hpi
     clear hy hpi
     go_wp2_with fail
     go_round
     case rel => exact ⟨i + 1, by omega, by go_num, by rw [HY.out]; go_num⟩
     case measure => simp [intOf]; omega
    ·obtain rfl : i = b % 16 := by omega
     obtain ⟨q, hq⟩ : ∃ q, q = b / 16 := ⟨_, rfl⟩
     obtain ⟨pd, hpd⟩ : ∃ y, y = 2 ^ (b % 16) := ⟨_, rfl⟩
     obtain ⟨dg, hdg⟩ : ∃ y, y = xs.getD q 0 := ⟨_, rfl⟩
     have hq5 : q < 5 := by omega
     have hroom : dg + pd < 65536 := by
      rw [hdg, hpd, val_digit xs HXD.out]
      refine digit_room _ q (b % 16) hb16 ?_
      have e : 16 * q + b % 16 + 1 = b + 1 := by omega
      rw [e]; exact HDV.out
     have kx : wr.cell? ⟨w.heap.size + 1, b / 16, none⟩ = some (.int .i64 (dg : Int)) := by rw [hdg, hq]; exact cell_ints hrx (b / 16) (by rw [HXL.out]; omega)
     have fx := free_ints hrx (b / 16)
     obtain ⟨ys, hys⟩ : ∃ y, y = xs.set q (dg + pd) := ⟨_, rfl⟩
     have hrw : (wr.setCell ⟨w.heap.size + 1, b / 16, none⟩ (.int .i64 ((dg + pd : Nat) : Int))).heap[w.heap.size + 1]? = some (.cells (ints .i64 ys) 3 (0, 0)) := by rw [hys, hq]; exact set_ints hrx _ _
     have hrtw : (wr.setCell ⟨w.heap.size + 1, b / 16, none⟩ (.int .i64 ((dg + pd : Nat) : Int))).heap[w.heap.size]? = some (.cells (ints .i64 tg) 3 (0, 0)) := by rw [heap_setCell_other _ _ _ _ (by simp)]; exact hrt
     have hBw : Below w.heap.size w (wr.setCell ⟨w.heap.size + 1, b / 16, none⟩ (.int .i64 ((dg + pd : Nat) : Int))) := hB.setCell (by simp) _
     obtain ⟨W1, hW1⟩ : ∃ W1, W1 = wr.setCell ⟨w.heap.size + 1, b / 16, none⟩ (.int .i64 ((dg + pd : Nat) : Int)) := ⟨_, rfl⟩
     rw [← hW1] at hrw hrtw hBw
     have hyl : ys.length = 5 := by rw [hys, List.length_set]; exact HXL.out
     have hyd : ∀ d ∈ ys, d < 65536 := fun d hd => by
      rw [hys] at hd
      rcases List.mem_or_eq_of_mem_set hd with h | h
      ·exact HXD.out d h
      ·omega
     have hyv : val ys = val xs + 2 ^ b := by rw [hys, hdg, val_add xs q pd (by rw [HXL.out]; omega), hpd, hq, pow_place]
     have HYV : Hid (val ys = val xs + 2 ^ b) := hyv
     have hback : ys.set (b / 16) dg = xs := by
      rw [hys, hq, List.set_set, hdg, hq, List.getD_eq_getElem?_getD, List.getElem?_eq_getElem (by rw [HXL.out]; omega)]
      simp
     have HBK : Hid (ys.set (b / 16) dg = xs) := hback
     have kyv : ys.getD (b / 16) 0 = dg + pd := by rw [hys, hq, List.getD_eq_getElem?_getD, List.getElem?_set_self (by rw [HXL.out]; omega)]; rfl
     have HKY : Hid (ys.getD (b / 16) 0 = dg + pd) := kyv
     have HYL : Hid (ys.length = 5) := hyl
     clear hq hdg hys hyv hback kyv hrx hrt hB
     rw [← hpd]
     clear hpd
     have hgo : wr.setCell ⟨w.heap.size + 1, b / 16, none⟩ (.int .i64 ((dg : Int) + (pd : Int))) = W1 := by rw [hW1]; rfl
     clear hW1
     have HGO : Hid (wr.setCell ⟨w.heap.size + 1, b / 16, none⟩ (.int .i64 ((dg : Int) + (pd : Int))) = W1) := hgo
     clear hgo
     go_wp2_with fail
     rw [HGO.out]
     clear kx fx HGO
     have hyI : ∀ w', Below W1.heap.size W1 w' → Ints w' (w.heap.size + 1) 5 ys := fun w' hb => Ints.on (by have := ints_row hrw; rwa [HYL.out] at this) hb
     have htI : ∀ w', Below W1.heap.size W1 w' → Ints w' w.heap.size 9 tg := fun w' hb => Ints.on (by have := ints_row hrtw; rwa [htl] at this) hb
     refine (mul5_5 (w.heap.size + 1) 5 (w.heap.size + 1) 5 ys ys W1 hyl hyl hyd hyd (hyI W1 (Below.refl _ _)) (hyI W1 (Below.refl _ _))).mono ?_
     rintro e w2 ⟨_, rfl, gp, pw, rfl, hb2, hpr, hpl, hpd, hpv⟩
     go_wp2_with fail
     refine (less9_10 w.heap.size 9 gp 10 tg pw w2 htl hpl htd hpd (htI w2 hb2) (by have := ints_row hpr; rwa [hpl] at this)).mono ?_
     rintro e w4 ⟨rfl, rfl⟩
     have hpw : val pw = val ys ^ 2 := by rw [hpv, Nat.pow_two]
     have hBf := hb2
     have hrow := block_below hBf (lt_of_heap hrw) hrw
     have hrtf := block_below hBf (lt_of_heap hrtw) hrtw
     have hBg : Below w.heap.size w w4 := hBw.trans (hBf.mono hBw.size)
     have HPW : Hid (val pw = val ys ^ 2) := hpw
     clear hpw hrw hrtw hBw hyI htI hBf hb2 hpr hpl hpd hpv
     have hdvb : 2 ^ b ∣ val xs := Nat.dvd_trans ⟨2, by rw [Nat.pow_succ]⟩ HDV.out
     have HDB : Hid (2 ^ b ∣ val xs) := hdvb
     clear hdvb
     by_cases hmore : val tg < val pw
     ·have hdc : decide (val tg < val pw) = true := decide_eq_true hmore
      rw [hdc]
      have HMO : Hid (val tg < val pw) := hmore
      clear hdc hmore
      have kq : w4.cell? ⟨w.heap.size + 1, b / 16, none⟩ = some (.int .i64 ((dg : Int) + (pd : Int))) := by
       have := cell_ints hrow (b / 16) (by rw [HYL.out]; omega)
       rw [HKY.out] at this; exact this
      have fq := free_ints hrow (b / 16)
      have hset := set_ints hrow (b / 16) dg
      rw [HBK.out] at hset
      have hsett : (w4.setCell ⟨w.heap.size + 1, b / 16, none⟩ (.int .i64 (dg : Int))).heap[w.heap.size]? = some (.cells (ints .i64 tg) 3 (0, 0)) := by rw [heap_setCell_other _ _ _ _ (by simp)]; exact hrtf
      have hBs : Below w.heap.size w (w4.setCell ⟨w.heap.size + 1, b / 16, none⟩ (.int .i64 (dg : Int))) := hBg.setCell (by simp) _
      have hnew : val tg < (val xs + 2 ^ b) ^ 2 := by rw [← HYV.out, ← HPW.out]; exact HMO.out
      have HNEW : Hid (val tg < (val xs + 2 ^ b) ^ 2) := hnew
      clear hnew hrow hrtf hBg
      go_wp2_with fail
      go_roundw
      case rel => first | exact ⟨b, xs, by omega, by go_num, hBs, hsett, hset, HXL.out, HXD.out, HDB.out, HLO.out, HNEW.out⟩ | ((repeat apply Exists.intro); exact ⟨⟨b, xs, by omega, by go_num, hBs, hsett, hset, HXL.out, HXD.out, HDB.out, HLO.out, HNEW.out⟩, rfl⟩)
      case measure => simp [intOf]
     ·have hdc : decide (val tg < val pw) = false := decide_eq_false hmore
      rw [hdc]
      have hle : val ys ^ 2 ≤ val tg := by rw [← HPW.out]; omega
      have HLE : Hid (val ys ^ 2 ≤ val tg) := hle
      have HUP : Hid (val tg < (val ys + 2 ^ b) ^ 2) := by
       show val tg < (val ys + 2 ^ b) ^ 2
       rw [HYV.out, Nat.add_assoc, show 2 ^ b + 2 ^ b = 2 ^ (b + 1) by rw [Nat.pow_succ]; omega]
       exact HHI.out
      have HDY : Hid (2 ^ b ∣ val ys) := by
       show 2 ^ b ∣ val ys
       rw [HYV.out]; exact Nat.dvd_add HDB.out (Nat.dvd_refl _)
      clear hdc hmore hle
      go_wp2_with fail
      go_roundw
      case rel => first | exact ⟨b, ys, by omega, by go_num, hBg, hrtf, hrow, hyl, hyd, HDY.out, HLE.out, HUP.out⟩ | ((repeat apply Exists.intro); exact ⟨⟨b, ys, by omega, by go_num, hBg, hrtf, hrow, hyl, hyd, HDY.out, HLE.out, HUP.out⟩, rfl⟩)
      case measure => simp [intOf]
  ·obtain rfl : m = 0 := by omega
   rw [show ((0 : Nat) : Int) - 1 = -1 from rfl]
   obtain ⟨d0, e0⟩ : ∃ x, x = xs.getD 0 0 := ⟨_, rfl⟩
   obtain ⟨d1, e1⟩ : ∃ x, x = xs.getD 1 0 := ⟨_, rfl⟩
   obtain ⟨d2, e2⟩ : ∃ x, x = xs.getD 2 0 := ⟨_, rfl⟩
   obtain ⟨d3, e3⟩ : ∃ x, x = xs.getD 3 0 := ⟨_, rfl⟩
   have b0 : d0 < 65536 := by rw [e0]; exact digit_lt HXD.out 0
   have b1 : d1 < 65536 := by rw [e1]; exact digit_lt HXD.out 1
   have b2 : d2 < 65536 := by rw [e2]; exact digit_lt HXD.out 2
   have b3 : d3 < 65536 := by rw [e3]; exact digit_lt HXD.out 3
   have k0 : wr.cell? ⟨w.heap.size + 1, 0, none⟩ = some (.int .i64 (d0 : Int)) := by rw [e0]; exact cell_ints hrx 0 (by rw [HXL.out]; decide)
   have k1 : wr.cell? ⟨w.heap.size + 1, 1, none⟩ = some (.int .i64 (d1 : Int)) := by rw [e1]; exact cell_ints hrx 1 (by rw [HXL.out]; decide)
   have k2 : wr.cell? ⟨w.heap.size + 1, 2, none⟩ = some (.int .i64 (d2 : Int)) := by rw [e2]; exact cell_ints hrx 2 (by rw [HXL.out]; decide)
   have k3 : wr.cell? ⟨w.heap.size + 1, 3, none⟩ = some (.int .i64 (d3 : Int)) := by rw [e3]; exact cell_ints hrx 3 (by rw [HXL.out]; decide)
   have HV : Hid (val xs % 18446744073709551616 = d0 + 65536 * d1 + 4294967296 * d2 + 281474976710656 * d3) := by
    show val xs % 18446744073709551616 = d0 + 65536 * d1 + 4294967296 * d2 + 281474976710656 * d3
    rw [val5 xs HXL.out, ← e0, ← e1, ← e2, ← e3]; omega
   have hlo2 := HLO.out
   have hhi2 := HHI.out
   rw [HTV.out] at hlo2 hhi2
   have HL2 : Hid (val xs ^ 2 ≤ p * 2 ^ 128) := hlo2
   have HH2 : Hid (p * 2 ^ 128 < (val xs + 2 ^ 0) ^ 2) := hhi2
   clear e0 e1 e2 e3 hlo2 hhi2 hrx hrt
   go_wp2_with fail
   go_quiet (fail)
   go_wp2_with fail
   go_ret
   exact ⟨val xs, by rw [HV.out]; go_num, HL2.out, HH2.out, below_drewN hB _⟩
def zi13 : List Nat := List.replicate 13 0
theorem root3 (p : Nat) (w : World) (hp : p < 512) :
  Calls Tryz.prog 106 #[.int .i64 (p : Int), .int .i64 3] w fun e w' => ∃ X, e = .returned (.int .u64 ((X % 18446744073709551616 : Nat) : Int)) ∧ X ^ 3 ≤ p * 2 ^ 192 ∧ p * 2 ^ 192 < (X + 1) ^ 3 ∧ Below w.heap.size w w' := by
 have hmk : ∀ w, (Instr.makeSlice 43 (.int .i64 13) (.int .i64 13)).run Tryz.prog w = .ok (.slice (some ⟨w.heap.size, 0, none⟩) 13 13) (w.alloc (.cells (ints .i64 zi13) 3)) := fun _ => by kernel_rfl
 have hmk5 : ∀ w, (Instr.makeSlice 43 (.int .i64 5) (.int .i64 5)).run Tryz.prog w = .ok (.slice (some ⟨w.heap.size, 0, none⟩) 5 5) (w.alloc (.cells (ints .i64 zi5) 3)) := fun _ => by kernel_rfl
 obtain ⟨tg, htg⟩ : ∃ x, x = zi13.set 12 p := ⟨_, rfl⟩
 have htl : tg.length = 13 := by rw [htg]; rfl
 have htd : ∀ d ∈ tg, d < 65536 := fun d hd => by
  rw [htg] at hd
  rcases List.mem_or_eq_of_mem_set hd with h | h
  ·rw [List.eq_of_mem_replicate h]; decide
  ·omega
 have htv : val tg = p * 2 ^ 192 := by
  have h := val_add zi13 12 p (by decide)
  rw [show zi13.getD 12 0 = 0 from rfl, Nat.zero_add, ← htg, show val zi13 = 0 from val_zero 13, Nat.zero_add] at h
  rw [h, Nat.mul_comm, show (65536 : Nat) ^ 12 = 2 ^ 192 by decide]
 have HTG : Hid (tg = zi13.set 12 p) := htg
 have HTV : Hid (val tg = p * 2 ^ 192) := htv
 clear htg htv
 have hst : (ints .i64 zi13).setIfInBounds 12 (.int .i64 (p : Int)) = ints .i64 tg := by rw [HTG.out]; exact ints_set .i64 zi13 12 p
 have HST : Hid ((ints .i64 zi13).setIfInBounds 12 (.int .i64 (p : Int)) = ints .i64 tg) := hst
 clear hst
 have k0 : (w.alloc (.cells (ints .i64 zi13) 3)).cell? ⟨w.heap.size, 12, none⟩ = some (.int .i64 0) := cell_ints (heap_alloc_new _ _) 12 (by decide)
 have f0 := free_ints (heap_alloc_new w (.cells (ints .i64 zi13) 3)) 12
 go_enter Tryz.func106, Tryz.ntmps106
 go_wp2_with fail
 clear k0 f0
 rw [HST.out]
 go_loopw [7] (fun Hbv wr => ∃ m : Nat, ∃ xs : List Nat, m ≤ 69 ∧ Hbv = .int .i64 ((m : Int) - 1) ∧ Below w.heap.size w wr ∧ wr.heap[w.heap.size]? = some (.cells (ints .i64 tg) 3 (0, 0)) ∧ wr.heap[w.heap.size + 1]? = some (.cells (ints .i64 xs) 3 (0, 0)) ∧ xs.length = 5 ∧ (∀ d ∈ xs, d < 65536) ∧
   2 ^ m ∣ val xs ∧ val xs ^ 3 ≤ val tg ∧ val tg < (val xs + 2 ^ m) ^ 3) (fun Hbv _ => (intOf Hbv + 1).toNat)
 case atStart =>
  refine ⟨69, zi5, by omega, rfl, below2 _ _ _, heap_alloc2_old _ _ _, heap_alloc2_new _ _ _, rfl, fun d hd => by rw [List.eq_of_mem_replicate hd]; decide, ?_, ?_, ?_⟩
  ·rw [show val zi5 = 0 from val_zero 5]; exact Nat.dvd_zero _
  ·rw [show val zi5 = 0 from val_zero 5]; exact Nat.zero_le _
  ·rw [show val zi5 = 0 from val_zero 5, HTV.out, Nat.zero_add]
   have h1 : p * 2 ^ 192 < 512 * 2 ^ 192 := Nat.mul_lt_mul_of_pos_right hp (by decide)
   exact Nat.lt_of_lt_of_le h1 (by decide)
 case round =>
  obtain ⟨m, xs, hm, rfl, hB, hrt, hrx, hxl, hxd, hdv, hlo, hhi⟩ := hrel
  have HXL : Hid (xs.length = 5) := hxl
  have HXD : Hid (∀ d ∈ xs, d < 65536) := hxd
  have HDV : Hid (2 ^ m ∣ val xs) := hdv
  have HLO : Hid (val xs ^ 3 ≤ val tg) := hlo
  have HHI : Hid (val tg < (val xs + 2 ^ m) ^ 3) := hhi
  clear hxl hxd hdv hlo hhi
  by_cases hlt : 0 < m
  ·obtain ⟨b, rfl⟩ : ∃ b, m = b + 1 := ⟨m - 1, by omega⟩
   have e0 : ((b + 1 : Nat) : Int) - 1 = (b : Int) := by omega
   rw [e0]
   clear e0
   go_wp2_with fail
   go_loop [9, 8] (fun iv dv => ∃ i : Nat, i ≤ b % 16 ∧ iv = .int .i64 (i : Int) ∧ dv = .int .i64 ((2 ^ i : Nat) : Int)) (fun iv _ => b % 16 - (intOf iv).toNat)
   case atStart => exact ⟨0, by omega, rfl, rfl⟩
   case round =>
    obtain ⟨i, hi, rfl, rfl⟩ := hrel
    have hb16 : b % 16 < 16 := Nat.mod_lt _ (by decide)
    by_cases hlt2 : i < b % 16
    ·have hpi : 2 ^ i ≤ 2 ^ 15 := Nat.pow_le_pow_right (by decide) (by omega)
     obtain ⟨y, hy⟩ : ∃ y, y = 2 ^ i := ⟨_, rfl⟩
     have HY : Hid (2 ^ (i + 1) = 2 * y) := by rw [hy]; show 2 ^ (i + 1) = 2 * 2 ^ i; rw [Nat.pow_succ, Nat.mul_comm]
     rw [← hy] at hpi ⊢
     have hpi' : y ≤ 32768 := hpi
     clear hy hpi
     go_wp2_with fail
     go_round
     case rel => exact ⟨i + 1, by omega, by go_num, by rw [HY.out]; go_num⟩
     case measure => simp [intOf]; omega
    ·obtain rfl : i = b % 16 := by omega
     obtain ⟨q, hq⟩ : ∃ q, q = b / 16 := ⟨_, rfl⟩
     obtain ⟨pd, hpd⟩ : ∃ y, y = 2 ^ (b % 16) := ⟨_, rfl⟩
     obtain ⟨dg, hdg⟩ : ∃ y, y = xs.getD q 0 := ⟨_, rfl⟩
     have hq5 : q < 5 := by omega
     have hroom : dg + pd < 65536 := by
      rw [hdg, hpd, val_digit xs HXD.out]
      refine digit_room _ q (b % 16) hb16 ?_
      have e : 16 * q + b % 16 + 1 = b + 1 := by omega
      rw [e]; exact HDV.out
     have kx : wr.cell? ⟨w.heap.size + 1, b / 16, none⟩ = some (.int .i64 (dg : Int)) := by rw [hdg, hq]; exact cell_ints hrx (b / 16) (by rw [HXL.out]; omega)
     have fx := free_ints hrx (b / 16)
     obtain ⟨ys, hys⟩ : ∃ y, y = xs.set q (dg + pd) := ⟨_, rfl⟩
     have hrw : (wr.setCell ⟨w.heap.size + 1, b / 16, none⟩ (.int .i64 ((dg + pd : Nat) : Int))).heap[w.heap.size + 1]? = some (.cells (ints .i64 ys) 3 (0, 0)) := by rw [hys, hq]; exact set_ints hrx _ _
     have hrtw : (wr.setCell ⟨w.heap.size + 1, b / 16, none⟩ (.int .i64 ((dg + pd : Nat) : Int))).heap[w.heap.size]? = some (.cells (ints .i64 tg) 3 (0, 0)) := by rw [heap_setCell_other _ _ _ _ (by simp)]; exact hrt
     have hBw : Below w.heap.size w (wr.setCell ⟨w.heap.size + 1, b / 16, none⟩ (.int .i64 ((dg + pd : Nat) : Int))) := hB.setCell (by simp) _
     obtain ⟨W1, hW1⟩ : ∃ W1, W1 = wr.setCell ⟨w.heap.size + 1, b / 16, none⟩ (.int .i64 ((dg + pd : Nat) : Int)) := ⟨_, rfl⟩
     rw [← hW1] at hrw hrtw hBw
     have hyl : ys.length = 5 := by rw [hys, List.length_set]; exact HXL.out
     have hyd : ∀ d ∈ ys, d < 65536 := fun d hd => by
      rw [hys] at hd
      rcases List.mem_or_eq_of_mem_set hd with h | h
      ·exact HXD.out d h
      ·omega
     have hyv : val ys = val xs + 2 ^ b := by rw [hys, hdg, val_add xs q pd (by rw [HXL.out]; omega), hpd, hq, pow_place]
     have HYV : Hid (val ys = val xs + 2 ^ b) := hyv
     have hback : ys.set (b / 16) dg = xs := by
      rw [hys, hq, List.set_set, hdg, hq, List.getD_eq_getElem?_getD, List.getElem?_eq_getElem (by rw [HXL.out]; omega)]
      simp
     have HBK : Hid (ys.set (b / 16) dg = xs) := hback
     have kyv : ys.getD (b / 16) 0 = dg + pd := by rw [hys, hq, List.getD_eq_getElem?_getD, List.getElem?_set_self (by rw [HXL.out]; omega)]; rfl
     have HKY : Hid (ys.getD (b / 16) 0 = dg + pd) := kyv
     have HYL : Hid (ys.length = 5) := hyl
     clear hq hdg hys hyv hback kyv hrx hrt hB
     rw [← hpd]
     clear hpd
     have hgo : wr.setCell ⟨w.heap.size + 1, b / 16, none⟩ (.int .i64 ((dg : Int) + (pd : Int))) = W1 := by rw [hW1]; rfl
     clear hW1
     have HGO : Hid (wr.setCell ⟨w.heap.size + 1, b / 16, none⟩ (.int .i64 ((dg : Int) + (pd : Int))) = W1) := hgo
     clear hgo
     go_wp2_with fail
     rw [HGO.out]
     clear kx fx HGO
     have hyI : ∀ w', Below W1.heap.size W1 w' → Ints w' (w.heap.size + 1) 5 ys := fun w' hb => Ints.on (by have := ints_row hrw; rwa [HYL.out] at this) hb
     have htI : ∀ w', Below W1.heap.size W1 w' → Ints w' w.heap.size 13 tg := fun w' hb => Ints.on (by have := ints_row hrtw; rwa [htl] at this) hb
     refine (mul5_5 (w.heap.size + 1) 5 (w.heap.size + 1) 5 ys ys W1 hyl hyl hyd hyd (hyI W1 (Below.refl _ _)) (hyI W1 (Below.refl _ _))).mono ?_
     rintro e w2 ⟨_, rfl, gp, pw, rfl, hb2, hpr, hpl, hpd, hpv⟩
     go_wp2_with fail
     refine (mul10_5 gp 10 (w.heap.size + 1) 5 pw ys w2 hpl hyl hpd hyd (by have := ints_row hpr; rwa [hpl] at this) (hyI w2 hb2)).mono ?_
     rintro e w3 ⟨_, rfl, gp3, pw3, rfl, hb3, hpr3, hpl3, hpd3, hpv3⟩
     have hB3 := hb2.trans (hb3.mono hb2.size)
     go_wp2_with fail
     refine (less13_15 w.heap.size 13 gp3 15 tg pw3 w3 htl hpl3 htd hpd3 (htI w3 hB3) (by have := ints_row hpr3; rwa [hpl3] at this)).mono ?_
     rintro e w4 ⟨rfl, rfl⟩
     have hpw : val pw3 = val ys ^ 3 := by rw [hpv3, hpv, Nat.pow_succ, Nat.pow_two]
     have hBf := hB3
     have hrow := block_below hBf (lt_of_heap hrw) hrw
     have hrtf := block_below hBf (lt_of_heap hrtw) hrtw
     have hBg : Below w.heap.size w w4 := hBw.trans (hBf.mono hBw.size)
     have HPW : Hid (val pw3 = val ys ^ 3) := hpw
     clear hpw hrw hrtw hBw hyI htI hBf hb2 hb3 hpr3 hpl3 hpd3 hpv3 hB3 hpr hpl hpd hpv
     have hdvb : 2 ^ b ∣ val xs := Nat.dvd_trans ⟨2, by rw [Nat.pow_succ]⟩ HDV.out
     have HDB : Hid (2 ^ b ∣ val xs) := hdvb
     clear hdvb
     by_cases hmore : val tg < val pw3
     ·have hdc : decide (val tg < val pw3) = true := decide_eq_true hmore
      rw [hdc]
      have HMO : Hid (val tg < val pw3) := hmore
      clear hdc hmore
      have kq : w4.cell? ⟨w.heap.size + 1, b / 16, none⟩ = some (.int .i64 ((dg : Int) + (pd : Int))) := by
       have := cell_ints hrow (b / 16) (by rw [HYL.out]; omega)
       rw [HKY.out] at this; exact this
      have fq := free_ints hrow (b / 16)
      have hset := set_ints hrow (b / 16) dg
      rw [HBK.out] at hset
      have hsett : (w4.setCell ⟨w.heap.size + 1, b / 16, none⟩ (.int .i64 (dg : Int))).heap[w.heap.size]? = some (.cells (ints .i64 tg) 3 (0, 0)) := by rw [heap_setCell_other _ _ _ _ (by simp)]; exact hrtf
      have hBs : Below w.heap.size w (w4.setCell ⟨w.heap.size + 1, b / 16, none⟩ (.int .i64 (dg : Int))) := hBg.setCell (by simp) _
      have hnew : val tg < (val xs + 2 ^ b) ^ 3 := by rw [← HYV.out, ← HPW.out]; exact HMO.out
      have HNEW : Hid (val tg < (val xs + 2 ^ b) ^ 3) := hnew
      clear hnew hrow hrtf hBg
      go_wp2_with fail
      go_roundw
      case rel => first | exact ⟨b, xs, by omega, by go_num, hBs, hsett, hset, HXL.out, HXD.out, HDB.out, HLO.out, HNEW.out⟩ | ((repeat apply Exists.intro); exact ⟨⟨b, xs, by omega, by go_num, hBs, hsett, hset, HXL.out, HXD.out, HDB.out, HLO.out, HNEW.out⟩, rfl⟩)
      case measure => simp [intOf]
     ·have hdc : decide (val tg < val pw3) = false := decide_eq_false hmore
      rw [hdc]
      have hle : val ys ^ 3 ≤ val tg := by rw [← HPW.out]; omega
      have HLE : Hid (val ys ^ 3 ≤ val tg) := hle
      have HUP : Hid (val tg < (val ys + 2 ^ b) ^ 3) := by
       show val tg < (val ys + 2 ^ b) ^ 3
       rw [HYV.out, Nat.add_assoc, show 2 ^ b + 2 ^ b = 2 ^ (b + 1) by rw [Nat.pow_succ]; omega]
       exact HHI.out
      have HDY : Hid (2 ^ b ∣ val ys) := by
       show 2 ^ b ∣ val ys
       rw [HYV.out]; exact Nat.dvd_add HDB.out (Nat.dvd_refl _)
      clear hdc hmore hle
      go_wp2_with fail
      go_roundw
      case rel => first | exact ⟨b, ys, by omega, by go_num, hBg, hrtf, hrow, hyl, hyd, HDY.out, HLE.out, HUP.out⟩ | ((repeat apply Exists.intro); exact ⟨⟨b, ys, by omega, by go_num, hBg, hrtf, hrow, hyl, hyd, HDY.out, HLE.out, HUP.out⟩, rfl⟩)
      case measure => simp [intOf]
  ·obtain rfl : m = 0 := by omega
   rw [show ((0 : Nat) : Int) - 1 = -1 from rfl]
   obtain ⟨d0, e0⟩ : ∃ x, x = xs.getD 0 0 := ⟨_, rfl⟩
   obtain ⟨d1, e1⟩ : ∃ x, x = xs.getD 1 0 := ⟨_, rfl⟩
   obtain ⟨d2, e2⟩ : ∃ x, x = xs.getD 2 0 := ⟨_, rfl⟩
   obtain ⟨d3, e3⟩ : ∃ x, x = xs.getD 3 0 := ⟨_, rfl⟩
   have b0 : d0 < 65536 := by rw [e0]; exact digit_lt HXD.out 0
   have b1 : d1 < 65536 := by rw [e1]; exact digit_lt HXD.out 1
   have b2 : d2 < 65536 := by rw [e2]; exact digit_lt HXD.out 2
   have b3 : d3 < 65536 := by rw [e3]; exact digit_lt HXD.out 3
   have k0 : wr.cell? ⟨w.heap.size + 1, 0, none⟩ = some (.int .i64 (d0 : Int)) := by rw [e0]; exact cell_ints hrx 0 (by rw [HXL.out]; decide)
   have k1 : wr.cell? ⟨w.heap.size + 1, 1, none⟩ = some (.int .i64 (d1 : Int)) := by rw [e1]; exact cell_ints hrx 1 (by rw [HXL.out]; decide)
   have k2 : wr.cell? ⟨w.heap.size + 1, 2, none⟩ = some (.int .i64 (d2 : Int)) := by rw [e2]; exact cell_ints hrx 2 (by rw [HXL.out]; decide)
   have k3 : wr.cell? ⟨w.heap.size + 1, 3, none⟩ = some (.int .i64 (d3 : Int)) := by rw [e3]; exact cell_ints hrx 3 (by rw [HXL.out]; decide)
   have HV : Hid (val xs % 18446744073709551616 = d0 + 65536 * d1 + 4294967296 * d2 + 281474976710656 * d3) := by
    show val xs % 18446744073709551616 = d0 + 65536 * d1 + 4294967296 * d2 + 281474976710656 * d3
    rw [val5 xs HXL.out, ← e0, ← e1, ← e2, ← e3]; omega
   have hlo2 := HLO.out
   have hhi2 := HHI.out
   rw [HTV.out] at hlo2 hhi2
   have HL2 : Hid (val xs ^ 3 ≤ p * 2 ^ 192) := hlo2
   have HH2 : Hid (p * 2 ^ 192 < (val xs + 2 ^ 0) ^ 3) := hhi2
   clear e0 e1 e2 e3 hlo2 hhi2 hrx hrt
   go_wp2_with fail
   go_quiet (fail)
   go_wp2_with fail
   go_ret
   exact ⟨val xs, by rw [HV.out]; go_num, HL2.out, HH2.out, below_drewN hB _⟩
end SR
end Go.Proofs.YtabgihjffjlfiaaGreatDoor
set_option linter.unusedVariables false
namespace Go.Proofs.YtabgihjffjlfiaaGreatDoor
namespace SR
open Go.RowKit Go.Sort Go.BigFrame
set_option maxRecDepth 100000
set_option maxHeartbeats 600000
def PT : List Nat := [2, 3, 5, 7, 11, 13, 17, 19, 23, 29, 31, 37, 41, 43, 47, 53, 59, 61, 67, 71, 73, 79, 83, 89, 97, 101, 103, 107, 109, 113, 127, 131, 137, 139, 149, 151, 157, 163, 167, 173, 179, 181, 191, 193, 197, 199, 211, 223, 227, 229, 233, 239, 241, 251, 257, 263, 269, 271, 277, 281, 283, 293, 307, 311, 313, 317, 331, 337, 347, 349, 353, 359, 367, 373, 379, 383, 389, 397, 401, 409]
def pf (m : Nat) : List Nat := PT.filter (fun p => Nat.blt p m)
def pcheck (m : Nat) : Bool := ((pf m).all (fun p => !(Nat.beq (m % p) 0)) == PT.contains m) && (pf (m + 1) == pf m ++ (if PT.contains m then [m] else [])) && Nat.blt (pf m).length 80 && (pf m).all (fun p => Nat.blt 1 p)
theorem pcheck_all : (List.range 410).all (fun m => Nat.blt m 2 || pcheck m) = true := by kernel_rfl
theorem pf_end : pf 410 = PT := by kernel_rfl
theorem PT_len : PT.length = 80 := by kernel_rfl
theorem PT_lt : ∀ p ∈ PT, p < 512 := by decide
structure Pf (m : Nat) : Prop where
 is : (pf m).all (fun p => !(Nat.beq (m % p) 0)) = PT.contains m
 nx : pf (m + 1) = pf m ++ (if PT.contains m then [m] else [])
 len : (pf m).length < 80
 one : ∀ p ∈ pf m, 1 < p
theorem pf_of (m : Nat) (h : m < 410) (h2 : 2 ≤ m) : Pf m := by
 have := List.all_eq_true.1 pcheck_all m (List.mem_range.2 h)
 rw [show Nat.blt m 2 = false from Bool.eq_false_iff.2 (fun e => by have := Nat.blt_eq.mp e; omega), Bool.false_or] at this
 unfold pcheck at this
 simp only [Bool.and_eq_true, beq_iff_eq] at this
 obtain ⟨⟨⟨h1, h2⟩, h3⟩, h4⟩ := this
 exact ⟨h1, h2, Nat.blt_eq.mp h3, fun p hp => Nat.blt_eq.mp (List.all_eq_true.1 h4 p hp)⟩
end SR
end Go.Proofs.YtabgihjffjlfiaaGreatDoor
set_option linter.unusedVariables false
namespace Go.Proofs.YtabgihjffjlfiaaGreatDoor
namespace SR
def wv (m : Nat) (bs : List Nat) (t : Nat) : Nat → Nat
 | 0 => 0
 | j + 1 => wv m bs t j * 256 + bs.getD (t * m + j) 0
theorem wv_lt (m : Nat) (bs : List Nat) (hb : ∀ j, bs.getD j 0 < 256) (t : Nat) : ∀ j, wv m bs t j < 256 ^ j
 | 0 => by simp [wv]
 | j + 1 => by
  have h1 := wv_lt m bs hb t j
  have h2 := hb (t * m + j)
  rw [wv, Nat.pow_succ]
  have : (wv m bs t j + 1) * 256 ≤ 256 ^ j * 256 := Nat.mul_le_mul_right _ h1
  omega
theorem P1_wv (s : Sh) (m : Nat) (hm : 0 < m) (hW : s.W = 8 * m) (bs : List Nat) (hb : ∀ j, bs.getD j 0 < 256) : ∀ k, k ≤ 80 * m → ∀ t, t < 80 → (P1 s bs k).getD t 0 = wv m bs t (min (k - t * m) m)
 | 0, _, t, ht => by
  have e : (List.replicate 80 0 : List Nat).getD t 0 = 0 := by rw [List.getD_eq_getElem?_getD, List.getElem?_replicate, if_pos ht]; rfl
  rw [P1, e]; simp [wv]
 | k + 1, hk, t, ht => by
  have ih := P1_wv s m hm hW bs hb k (by omega)
  have h8 : s.W / 8 = m := by rw [hW]; omega
  rw [P1, put1, h8]
  have hkm : k / m < 80 := by rw [Nat.div_lt_iff_lt_mul hm]; omega
  have hdm := Nat.div_add_mod k m
  have hml := Nat.mod_lt k hm
  by_cases e : t = k / m
  ·subst e
   rw [List.getD_eq_getElem?_getD, List.getElem?_set_self (by rw [P1_len]; exact hkm), Option.getD_some, ih _ hkm]
   have e1 : k - k / m * m = k % m := by rw [Nat.mul_comm]; omega
   have e2 : k + 1 - k / m * m = k % m + 1 := by rw [Nat.mul_comm]; omega
   rw [e1, e2, Nat.min_eq_left (by omega), Nat.min_eq_left (by omega), wv]
   have e3 : k / m * m + k % m = k := by rw [Nat.mul_comm]; omega
   rw [e3]
   have h1 := wv_lt m bs hb (k / m) (k % m)
   have h2 : wv m bs (k / m) (k % m) * 256 < 2 ^ s.W := by
    have : 256 ^ (k % m) * 256 ≤ 2 ^ s.W := by
     rw [← Nat.pow_succ, hW, show (256 : Nat) = 2 ^ 8 from rfl, ← Nat.pow_mul]
     exact Nat.pow_le_pow_right (by decide) (by omega)
    omega
   have e4 : wv m bs (k / m) (k % m) <<< 8 = wv m bs (k / m) (k % m) * 256 := by rw [Nat.shiftLeft_eq]
   rw [Nat.mod_eq_of_lt (by rw [e4]; exact h2), ← Nat.shiftLeft_add_eq_or_of_lt (show bs.getD k 0 < 2 ^ 8 from hb k), e4]
  ·rw [List.getD_eq_getElem?_getD, List.getElem?_set_ne (by omega), ← List.getD_eq_getElem?_getD, ih t ht]
   congr 1
   rcases Nat.lt_or_gt_of_ne e with h | h
   ·have : (t + 1) * m ≤ k / m * m := Nat.mul_le_mul_right _ h
    have h3 : k / m * m ≤ k := Nat.div_mul_le_self k m
    rw [Nat.add_mul] at this
    omega
   ·have : (k / m + 1) * m ≤ t * m := Nat.mul_le_mul_right _ h
    rw [Nat.add_mul, Nat.mul_comm (k / m) m] at this
    omega
theorem take_set {l : List Nat} {t v : Nat} (h : t < l.length) : (l.set t v).take (t + 1) = l.take t ++ [v] := by
 rw [List.take_succ_eq_append_getElem (by simpa using h)]
 simp [List.take_set_of_le (Nat.le_refl t)]
theorem take_snoc' {l : List Nat} {t : Nat} (h : t < l.length) : l.take (t + 1) = l.take t ++ [l.getD t 0] := by
 rw [List.take_succ_eq_append_getElem h]; simp [h]
def Rr (s : Sh) (kk ws : List Nat) (q : S8) : Nat → S8
 | 0 => q
 | t + 1 => rnd s (kk.getD t 0) (ws.getD t 0) (Rr s kk ws q t)
theorem Rr_R (s : Sh) (kk ks ws : List Nat) (q : S8) (n : Nat) (h : ∀ t, t < n → kk.getD t 0 = ks.getD t 0 >>> (64 - s.W)) : ∀ t, t ≤ n → Rr s kk ws q t = R s ks ws q t
 | 0, _ => rfl
 | t + 1, ht => by rw [Rr, R, Rr_R s kk ks ws q n h t (by omega), h t (by omega)]
theorem Rr_lt (s : Sh) (ks ws : List Nat) (q : S8) (h : q.lt (2 ^ s.W)) : ∀ t, (Rr s ks ws q t).lt (2 ^ s.W)
 | 0 => h
 | t + 1 => by
  obtain ⟨h1, h2, h3, h4, h5, h6, h7, h8⟩ := Rr_lt s ks ws q h t
  exact ⟨Nat.mod_lt _ (Nat.two_pow_pos _), h1, h2, h3, Nat.mod_lt _ (Nat.two_pow_pos _), h5, h6, h7⟩
end SR
end Go.Proofs.YtabgihjffjlfiaaGreatDoor
set_option linter.unusedVariables false
namespace Go.Proofs.YtabgihjffjlfiaaGreatDoor
namespace SR
open Go.RowKit Go.Sort Go.BigFrame
set_option maxRecDepth 100000
set_option maxHeartbeats 2000000
attribute [local go_sem ↓] Go.wp_at_zero Go.wp_at_succ
def uv (l : List Nat) : List Value := l.map fun (x : Nat) => Value.int .u64 (x : Int)
theorem one_word {n : Int} : ∀ u ∈ [Value.int .u64 n], u.oneCell' = true := fun u hu => by rw [List.mem_singleton.1 hu]; rfl
structure Row3 (w : World) (g a b c : Nat) : Prop where
 a : w.cell? ⟨g, 0, none⟩ = some (.int .i64 (a : Int))
 b : w.cell? ⟨g, 1, none⟩ = some (.int .i64 (b : Int))
 c : w.cell? ⟨g, 2, none⟩ = some (.int .i64 (c : Int))
theorem Row3.below {w w' : World} {g a b c : Nat} (h : Row3 w g a b c) (hb : Below w.heap.size w w') : Row3 w' g a b c :=
 ⟨(hb.cell (p := ⟨g, 0, none⟩) (block_lt_of_cell (a := ⟨g, 0, none⟩) h.a)).trans h.a, (hb.cell (p := ⟨g, 1, none⟩) (block_lt_of_cell (a := ⟨g, 1, none⟩) h.b)).trans h.b, (hb.cell (p := ⟨g, 2, none⟩) (block_lt_of_cell (a := ⟨g, 2, none⟩) h.c)).trans h.c⟩
theorem own_form {w : World} {base n : Nat} {v : Value} {xs : List Value} (h : w.ownsRow base 55 1 v n xs) (hn : 0 < n) : ∃ g cap, v = .slice (some ⟨g, 0, none⟩) n cap ∧ base ≤ g ∧ n ≤ cap := by
 rcases h.2 with ⟨_, h0⟩ | ⟨g, cap, cur, hv, hb, hg, hnc, _⟩
 ·omega
 ·exact ⟨g, cap, hv, hb, hnc⟩
theorem own_word {w : World} {g B n cap : Nat} {l : List Nat} (h : w.ownsRow B 55 1 (.slice (some ⟨g, 0, none⟩) n cap) n (uv l)) (j : Nat) (hj : j < n) (x : Nat) (hx : l[j]? = some x) : w.cell? ⟨g, j, none⟩ = some (.int .u64 (x : Int)) := by
 rw [h.cellAt j (by omega)]; simp [uv, hx]
theorem own_on {w w1 : World} {g B n cap : Nat} {xs : List Value} (h : w.ownsRow B 55 1 (.slice (some ⟨g, 0, none⟩) n cap) n xs) (hb : Below w.heap.size w w1) : w1.ownsRow B 55 1 (.slice (some ⟨g, 0, none⟩) n cap) n xs :=
 h.kept (row := none) ⟨hb.os, hb.tape, hb.output, hb.size, fun k hk _ => hb.block k hk⟩ (.inr (by simp [Value.ownBlock]))
def Words (w : World) (g n : Nat) (l : List Nat) : Prop := ∀ j, j < n → w.cell? ⟨g, j, none⟩ = some (.int .u64 ((l.getD j 0 : Nat) : Int))
theorem Words.on {w w1 : World} {g n : Nat} {l : List Nat} (h : Words w g n l) (hb : Below w.heap.size w w1) : Words w1 g n l :=
 fun j hj => (hb.cell (p := ⟨g, j, none⟩) (block_lt_of_cell (a := ⟨g, j, none⟩) (h j hj))).trans (h j hj)
theorem words_of {w : World} {g B n cap : Nat} {l : List Nat} (h : w.ownsRow B 55 1 (.slice (some ⟨g, 0, none⟩) n cap) n (uv (l.take n))) (hl : n ≤ l.length) : Words w g n l :=
 fun j hj => own_word h j hj _ (by simp [hj, show j < l.length by omega])
theorem words_of8 {w : World} {g B cap : Nat} {l : List Nat} (h : w.ownsRow B 55 1 (.slice (some ⟨g, 0, none⟩) 8 cap) 8 (uv l)) (hl : l.length = 8) : Words w g 8 (ofL l).list := by
 have e : (ofL l).list = l := by
  match l, hl with
  | [a, b, c, d, e, f, g, h], _ => rfl
 rw [e]
 exact fun j hj => own_word h j hj _ (by simp [show j < l.length by omega])
theorem news_words {w : World} {g : Nat} (st : List Nat) (hst : st.length = 8) (h : ∀ i, i < 8 → w.cell? ⟨g, i, none⟩ = some (.int .u64 ((st.getD i 0 : Nat) : Int))) : ∀ (j : Nat) u, (uv st)[j]? = some u → w.cell? ((⟨g, 0, none⟩ : Addr).add j) = some u := by
 intro j u hj
 have hj' : j < 8 := by
  by_cases h : j < 8
  ·exact h
  ·rw [List.getElem?_eq_none (by simp [uv, hst]; omega)] at hj; cases hj
 rw [Addr.add_mid, Nat.zero_add, h j hj', ← hj]
 simp [uv, show j < st.length by omega]
theorem uv_one {l : List Nat} : ∀ u ∈ uv l, u.oneCell' = true := fun u hu => by
 obtain ⟨x, _, rfl⟩ := List.mem_map.1 hu; rfl
theorem ofL_lt (st : List Nat) (M : Nat) (h : ∀ j, st.getD j 0 < M) : (ofL st).lt M := ⟨h _, h _, h _, h _, h _, h _, h _, h _⟩
theorem words_alloc (w : World) (l : List Nat) (hl : l.length = 8) : Words (w.alloc (.cells (ints .u64 l) 55)) w.heap.size 8 l := fun j hj => cell_ints (heap_alloc_new _ _) j (by omega)
theorem zip8 (st : List Nat) (hst : st.length = 8) (a b c d e f g h M : Nat) (k : Nat) (hk : k < 8) : (List.zipWith (fun x y => (x + y) % M) st (⟨a, b, c, d, e, f, g, h⟩ : S8).list).getD k 0 = (st.getD k 0 + [a, b, c, d, e, f, g, h].getD k 0) % M := by
 match st, hst with
 | [s0, s1, s2, s3, s4, s5, s6, s7], _ =>
  have h8 : k = 0 ∨ k = 1 ∨ k = 2 ∨ k = 3 ∨ k = 4 ∨ k = 5 ∨ k = 6 ∨ k = 7 := by omega
  rcases h8 with rfl | rfl | rfl | rfl | rfl | rfl | rfl | rfl <;> rfl
theorem list8_lt {a b c d e f g h M : Nat} (ha : a < M) (hb : b < M) (hc : c < M) (hd : d < M) (he : e < M) (hf : f < M) (hg : g < M) (hh : h < M) (k : Nat) : [a, b, c, d, e, f, g, h].getD k 0 < M := by
 by_cases hk : k < 8
 ·have h8 : k = 0 ∨ k = 1 ∨ k = 2 ∨ k = 3 ∨ k = 4 ∨ k = 5 ∨ k = 6 ∨ k = 7 := by omega
  rcases h8 with rfl | rfl | rfl | rfl | rfl | rfl | rfl | rfl <;> simpa
 ·rw [List.getD_eq_getElem?_getD, List.getElem?_eq_none (by simp; omega)]; simp; omega
theorem ones64 (e : Nat) (he : e < 18446744073709551616) : bits .xor .u64 18446744073709551615 (e : Int) = ((2 ^ 64 - 1 - e : Nat) : Int) := by
 have h := u64_xor_nat 18446744073709551615 e (by decide) (by omega)
 have h2 : 18446744073709551615 ^^^ e = 2 ^ 64 - 1 - e := ones_xor 64 e he
 rw [h2] at h
 exact h
def RelB (w : World) (H : Array Value) (wr : World) : Prop := Below w.heap.size w wr ∧ wr.heap[w.heap.size]? = some (.cells H 102 (0, 0))
theorem RelB.on {w wr w1 : World} {H : Array Value} (h : RelB w H wr) (hb : Below wr.heap.size wr w1) : RelB w H w1 := ⟨h.1.trans (hb.mono h.1.size), block_below hb (lt_of_heap h.2) h.2⟩
theorem RelB.onB {w wr w1 : World} {H : Array Value} {B : Nat} (h : RelB w H wr) (hB : w.heap.size < B) (hb : Below B wr w1) : RelB w H w1 := ⟨h.1.trans (hb.mono (Nat.le_of_lt hB)), (hb.block _ hB).trans h.2⟩
theorem Words.onB {w w1 : World} {g n B : Nat} {l : List Nat} (h : Words w g n l) (hg : g < B) (hb : Below B w w1) : Words w1 g n l :=
 fun j hj => (hb.cell (p := ⟨g, j, none⟩) hg).trans (h j hj)
theorem own_onV {w w1 : World} {B n : Nat} {v : Value} {xs : List Value} (h : w.ownsRow B 55 1 v n xs) (hb : Below w.heap.size w w1) : w1.ownsRow B 55 1 v n xs := by
 refine h.kept (row := none) ⟨hb.os, hb.tape, hb.output, hb.size, fun k hk _ => hb.block k hk⟩ ?_
 cases h : v.ownBlock with
 | none => exact .inl rfl
 | some x => exact .inr (by simp)
theorem RelB.grown {w wr w1 : World} {H : Array Value} {row : Option Nat} (h : RelB w H wr) (o : Obj) (hg : (wr.alloc o).grownBy w1 row) (hr : ∀ k, row = some k → w.heap.size < k) : RelB w H w1 :=
 ⟨(h.1.alloc h.1.size _).grown hg (Nat.le_trans h.1.size (by simp)) (fun k hk => Nat.le_of_lt (hr k hk)),
  (hg.block _ (by have := lt_of_heap h.2; simp; omega) (fun e => by have := hr _ e.symm; omega)).trans ((heap_alloc_old _ _ (lt_of_heap h.2)).trans h.2)⟩
end SR
end Go.Proofs.YtabgihjffjlfiaaGreatDoor
set_option linter.unusedVariables false
namespace Go.Proofs.YtabgihjffjlfiaaGreatDoor
namespace SR
open Go.RowKit Go.Sort Go.BigFrame
set_option maxRecDepth 100000
set_option maxHeartbeats 600000
def iv (l : List Nat) : List Value := l.map fun (x : Nat) => Value.int .i64 (x : Int)
theorem one_int {n : Int} : ∀ u ∈ [Value.int .i64 n], u.oneCell' = true := fun u hu => by rw [List.mem_singleton.1 hu]; rfl
theorem own_slice {w : World} {base t n : Nat} {v : Value} {xs : List Value} (h : w.ownsRow base t 1 v n xs) : ∃ a cap, v = .slice a n cap := by
 rcases h.2 with ⟨h1, h0⟩ | ⟨g, cap, cur, hv, _⟩
 ·exact ⟨none, 0, by rw [h1, h0]⟩
 ·exact ⟨_, _, hv⟩
theorem own_formT {w : World} {base t n : Nat} {v : Value} {xs : List Value} (h : w.ownsRow base t 1 v n xs) (hn : 0 < n) : ∃ g cap, v = .slice (some ⟨g, 0, none⟩) n cap ∧ base ≤ g ∧ n ≤ cap := by
 rcases h.2 with ⟨_, h0⟩ | ⟨g, cap, cur, hv, hb, hg, hnc, _⟩
 ·omega
 ·exact ⟨g, cap, hv, hb, hnc⟩
theorem all_take {l : List Nat} {f : Nat → Bool} (j : Nat) (h : j < l.length) : (l.take (j + 1)).all f = ((l.take j).all f && f (l.getD j 0)) := by
 rw [take_snoc' h, List.all_append]; simp
theorem primes80 (w : World) :
  Calls Tryz.prog 104 #[.int .i64 80] w fun e w' => ∃ v, e = .returned v ∧ Below w.heap.size w w' ∧ w'.ownsRow w.heap.size 3 1 v 80 (iv PT) := by
 have h3i : (Tryz.prog.info? 3).map (fun i => (i.zero, i.size, i.bytes)) = some (some (.int .i64 0), 1, 8) := by kernel_rfl
 obtain ⟨i0, hi, hz0, hz1, hz2⟩ := info_parts h3i
 go_enter Tryz.func104, Tryz.ntmps104
 go_wp2_with fail
 go_loopw [4, 3] (fun v4 v3 wr => ∃ m n : Nat, 2 ≤ m ∧ m ≤ 410 ∧ v4 = .int .i64 (m : Int) ∧ Below w.heap.size w wr ∧ n = (pf m).length ∧ ∃ a cap, v3 = .slice a n cap ∧ wr.ownsRow w.heap.size 3 1 (.slice a n cap) n (iv (pf m))) (fun i _ _ => 410 - (intOf i).toNat)
 case atStart => exact ⟨2, 0, by omega, by omega, rfl, Below.refl _ _, rfl, none, 0, rfl, World.ownsRow_nil _ _ _ _⟩
 case round =>
  obtain ⟨m, n, h2, hm, rfl, hB, hn, a, cap, rfl, hown⟩ := hrel
  have HN : Hid (n = (pf m).length) := hn
  clear hn
  by_cases hlt : m < 410
  ·obtain ⟨his, hnx, hlen, hone⟩ := pf_of m hlt h2
   have hn80 : n < 80 := by rw [HN.out]; exact hlen
   have HIS : Hid ((pf m).all (fun p => !(Nat.beq (m % p) 0)) = PT.contains m) := his
   have HNX : Hid (pf (m + 1) = pf m ++ (if PT.contains m then [m] else [])) := hnx
   have HON : Hid (∀ p ∈ pf m, 1 < p) := hone
   clear his hnx hlen hone
   go_wp2_with fail
   go_loop [6, 5] (fun i ok => ∃ j : Nat, j ≤ n ∧ i = .int .i64 (j : Int) ∧ ok = .bool (((pf m).take j).all (fun p => !(Nat.beq (m % p) 0)))) (fun i _ => n - (intOf i).toNat)
   case atStart => exact ⟨0, by omega, rfl, rfl⟩
   case round =>
    obtain ⟨j, hj, rfl, rfl⟩ := hrel
    by_cases hlt2 : j < n
    ·obtain ⟨g, cap', he, _, _⟩ := own_formT hown (by omega)
     cases he
     obtain ⟨p, hp⟩ : ∃ p, p = (pf m).getD j 0 := ⟨_, rfl⟩
     have hjl : j < (pf m).length := by rw [← HN.out]; exact hlt2
     have hp1 : 1 < p := by rw [hp, List.getD_eq_getElem?_getD, List.getElem?_eq_getElem hjl]; exact HON.out _ (List.getElem_mem hjl)
     have hpm : p < 512 := by
      rw [hp, List.getD_eq_getElem?_getD, List.getElem?_eq_getElem hjl]; exact PT_lt _ ((List.mem_filter.1 (List.getElem_mem hjl)).1)
     have kx : wr.cell? ⟨g, j, none⟩ = some (.int .i64 (p : Int)) := by
      rw [hown.cellAt j (by omega)]; simp [iv, hp, hjl]
     have hst := all_take (f := fun p => !(Nat.beq (m % p) 0)) j hjl
     rw [← hp] at hst
     have HS : Hid (((pf m).take (j + 1)).all (fun p => !(Nat.beq (m % p) 0)) = (((pf m).take j).all (fun p => !(Nat.beq (m % p) 0)) && !(Nat.beq (m % p) 0))) := hst
     clear hst hp hjl
     obtain ⟨ok, hok⟩ : ∃ x, x = ((pf m).take j).all (fun p => !(Nat.beq (m % p) 0)) := ⟨_, rfl⟩
     rw [← hok] at HS ⊢
     clear hok
     by_cases hz : m % p = 0
     ·have HE : Hid ((ok && !(Nat.beq (m % p) 0)) = false) := by show (ok && !(Nat.beq (m % p) 0)) = false; rw [hz]; simp
      go_wp2_with fail
      go_round
      case rel => exact ⟨j + 1, by omega, by go_num, by rw [HS.out, HE.out]⟩
      case measure => simp [intOf]; omega
     ·have HE : Hid ((ok && !(Nat.beq (m % p) 0)) = ok) := by
       show (ok && !(Nat.beq (m % p) 0)) = ok
       rw [show Nat.beq (m % p) 0 = false from Bool.eq_false_iff.2 (fun e => hz (Nat.eq_of_beq_eq_true e))]; simp
      go_wp2_with fail
      go_round
      case rel => exact ⟨j + 1, by omega, by go_num, by rw [HS.out, HE.out]⟩
      case measure => simp [intOf]; omega
    ·obtain rfl : j = n := by omega
     have hend : ((pf m).take j).all (fun p => !(Nat.beq (m % p) 0)) = PT.contains m := by rw [← HIS.out, HN.out, List.take_length]
     rw [hend]
     clear hend
     by_cases hc : PT.contains m = true
     ·rw [hc]
      have hnx := HNX.out
      rw [if_pos hc] at hnx
      have HX : Hid (pf (m + 1) = pf m ++ [m]) := hnx
      clear hnx hc
      have hsz := hB.size
      go_wp2_with (at_builtin; refine wpList_append_own _ rfl (.tmp 27) (.tmp 29) 43 rfl w.heap.size 3 i0 (.int .i64 0) 1 8 Tryz.underlying43 hi hz0 hz1 hz2 rfl (by decide) _ _ _ rfl (hown.alloc _) ⟨wr.heap.size, 0, none⟩ 1 1 [.int .i64 (m : Int)] rfl rfl (Hnews_one _ _ _) one_int (by unfold maxLen; omega) (by omega) (by simp; omega) ?_; intro v' w1 hown' hgrow _)
      have hlt1 := hown.lt
      have HE : Hid (iv (pf m) ++ [.int .i64 (m : Int)] = iv (pf (m + 1))) := by
       show iv (pf m) ++ [.int .i64 (m : Int)] = iv (pf (m + 1))
       rw [HX.out]; simp [iv]
      rw [HE.out] at hown'
      have hBn := (hB.alloc hB.size _).grown hgrow (by simp; omega) (fun k hk => (hlt1 k hk).1)
      obtain ⟨a', cap', rfl⟩ := own_slice hown'
      have HN1 : Hid (j + 1 = (pf (m + 1)).length) := by show j + 1 = (pf (m + 1)).length; rw [HX.out, List.length_append, HN.out]; rfl
      go_roundw
      case rel => first | exact ⟨m + 1, j + 1, by omega, by omega, by go_num, hBn, HN1.out, _, _, rfl, hown'⟩ | ((repeat apply Exists.intro); exact ⟨⟨m + 1, j + 1, by omega, by omega, by go_num, hBn, HN1.out, _, _, rfl, hown'⟩, rfl⟩)
      case measure => simp [intOf]; omega
     ·have hcf : PT.contains m = false := Bool.eq_false_iff.2 hc
      rw [hcf]
      have hnx := HNX.out
      rw [if_neg hc, List.append_nil] at hnx
      rw [← hnx] at hown
      have HN1 : Hid (j = (pf (m + 1)).length) := by show j = (pf (m + 1)).length; rw [hnx]; exact HN.out
      clear hnx hcf hc
      go_wp2_with fail
      go_roundw
      case rel => first | exact ⟨m + 1, j, by omega, by omega, by go_num, hB, HN1.out, _, _, rfl, hown⟩ | ((repeat apply Exists.intro); exact ⟨⟨m + 1, j, by omega, by omega, by go_num, hB, HN1.out, _, _, rfl, hown⟩, rfl⟩)
      case measure => simp [intOf]; omega
  ·obtain rfl : m = 410 := by omega
   obtain rfl : n = 80 := by rw [HN.out, pf_end]; exact PT_len
   rw [pf_end] at hown
   go_wp2_with fail
   go_ret
   exact ⟨_, rfl, hB, hown⟩
end SR
end Go.Proofs.YtabgihjffjlfiaaGreatDoor
set_option linter.unusedVariables false
namespace Go.Proofs.YtabgihjffjlfiaaGreatDoor
namespace SR
open Go.RowKit Go.Sort Go.BigFrame
set_option maxRecDepth 100000
set_option maxHeartbeats 600000
def Q3 : List Nat := [1, 1, 1, 1, 2, 2, 2, 2, 2, 3, 3, 3, 3, 3, 3, 3, 3, 3, 4, 4, 4, 4, 4, 4, 4, 4, 4, 4, 4, 4, 5, 5, 5, 5, 5, 5, 5, 5, 5, 5, 5, 5, 5, 5, 5, 5, 5, 6, 6, 6, 6, 6, 6, 6, 6, 6, 6, 6, 6, 6, 6, 6, 6, 6, 6, 6, 6, 6, 7, 7, 7, 7, 7, 7, 7, 7, 7, 7, 7, 7]
def Q2 : List Nat := [1, 1, 2, 2, 3, 3, 4, 4]
def rc (k : Nat) (q t : List Nat) (i : Nat) : Bool := Nat.ble ((q.getD i 0 * 18446744073709551616 + t.getD i 0) ^ k) (PT.getD i 0 * 2 ^ (64 * k)) && Nat.blt (PT.getD i 0 * 2 ^ (64 * k)) ((q.getD i 0 * 18446744073709551616 + t.getD i 0 + 1) ^ k)
theorem rc3 : (List.range 80).all (rc 3 Q3 KS) = true := by kernel_rfl
theorem rc2 : (List.range 8).all (rc 2 Q2 HS) = true := by kernel_rfl
theorem rc_of {k n : Nat} {q t : List Nat} (h : (List.range n).all (rc k q t) = true) (i : Nat) (hi : i < n) : (q.getD i 0 * 18446744073709551616 + t.getD i 0) ^ k ≤ PT.getD i 0 * 2 ^ (64 * k) ∧ PT.getD i 0 * 2 ^ (64 * k) < (q.getD i 0 * 18446744073709551616 + t.getD i 0 + 1) ^ k := by
 have := List.all_eq_true.1 h i (List.mem_range.2 hi)
 unfold rc at this
 rw [Bool.and_eq_true] at this
 exact ⟨Nat.le_of_ble_eq_true this.1, Nat.blt_eq.mp this.2⟩
theorem PT_getD (i : Nat) : PT.getD i 0 < 512 := by
 rw [List.getD_eq_getElem?_getD]
 cases h : PT[i]? with
 | none => decide
 | some x => exact PT_lt x (List.mem_of_getElem? h)
theorem root3_at (i : Nat) (hi : i < 80) (w : World) : Calls Tryz.prog 106 #[.int .i64 ((PT.getD i 0 : Nat) : Int), .int .i64 3] w fun e w' => e = .returned (.int .u64 ((KS.getD i 0 : Nat) : Int)) ∧ Below w.heap.size w w' :=
 (root3 (PT.getD i 0) w (PT_getD i)).mono fun e w' ⟨X, he, h1, h2, hb⟩ => by
  obtain ⟨r1, r2⟩ := rc_of rc3 i hi
  have hX := root_one 3 _ _ _ (by decide) h1 h2 r1 r2
  have hk := KS_lt i
  exact ⟨by rw [he, hX, show (Q3.getD i 0 * 18446744073709551616 + KS.getD i 0) % 18446744073709551616 = KS.getD i 0 by omega], hb⟩
theorem root2_at (i : Nat) (hi : i < 8) (w : World) : Calls Tryz.prog 106 #[.int .i64 ((PT.getD i 0 : Nat) : Int), .int .i64 2] w fun e w' => e = .returned (.int .u64 ((HS.getD i 0 : Nat) : Int)) ∧ Below w.heap.size w w' :=
 (root2 (PT.getD i 0) w (PT_getD i)).mono fun e w' ⟨X, he, h1, h2, hb⟩ => by
  obtain ⟨r1, r2⟩ := rc_of rc2 i hi
  have hX := root_one 2 _ _ _ (by decide) h1 h2 r1 r2
  have hk := HS_lt i
  exact ⟨by rw [he, hX, show (Q2.getD i 0 * 18446744073709551616 + HS.getD i 0) % 18446744073709551616 = HS.getD i 0 by omega], hb⟩
end SR
end Go.Proofs.YtabgihjffjlfiaaGreatDoor
set_option linter.unusedVariables false
namespace Go.Proofs.YtabgihjffjlfiaaGreatDoor
namespace SR
open Go.RowKit Go.Sort Go.BigFrame
theorem bv_one {l : List Nat} : ∀ u ∈ Hbv l, u.oneCell' = true := fun u hu => by
 obtain ⟨x, _, rfl⟩ := List.mem_map.1 hu; rfl
theorem news_view {w : World} {p : Addr} {bs : List Nat} (h : View w (some p) bs) : ∀ (j : Nat) u, (Hbv bs)[j]? = some u → w.cell? (p.add j) = some u := by
 intro j u hj
 have hj' : j < bs.length := by
  by_cases h : j < bs.length
  ·exact h
  ·rw [List.getElem?_eq_none (by simp [Hbv]; omega)] at hj; cases hj
 obtain ⟨b, off, e, hc⟩ := h (by omega)
 injection e with e
 rw [e, Addr.add_mid, hc j hj', ← hj]
 simp [Hbv, hj']
theorem wpList_append_data (w : World) {ops : Array Oper} {rest : List Oper} {o : Oper} {a : Act} {Q : Exit → Act → World → Prop} (hgd : o.guard = none) (s x : Operand)
  (ho : o.op = .call { callee := .builtin .append, args := #[s, x], argTypes := #[22, 22] }) (hs : a.eval s = .slice none 0 0) (ad : Option Addr) (len cap : Nat) (bs : List Nat) (hx : a.eval x = .slice ad len cap)
  (hlen : bs.length = len) (hv : View w ad bs) (base : Nat) (hbase : base ≤ w.heap.size) (hb : len ≤ 100000000000000)
  (h : ∀ v' w', w'.ownsRow base 5 1 v' len (Hbv bs) → w.grownBy w' none → wpList Tryz.prog ops Q rest (a.put o.dst v') w') : wpList Tryz.prog ops Q (o :: rest) a w := by
 have h5i : (Tryz.prog.info? 5).map (fun i => (i.zero, i.size, i.bytes)) = some (some (.int .u8 0), 1, 1) := by kernel_rfl
 obtain ⟨i0, hi, hz0, hz1, hz2⟩ := info_parts h5i
 cases ad with
 | some p =>
  refine wpList_append_own w hgd s x 22 ho base 5 i0 (.int .u8 0) 1 1 Tryz.underlying22 hi hz0 hz1 hz2 rfl (by decide) (.slice none 0 0) 0 [] hs (World.ownsRow_nil _ _ _ _) p len cap (Hbv bs) hx (by simp [Hbv, hlen]) (news_view hv) bv_one (by unfold maxLen; omega) (by omega) hbase ?_
  intro v' w' h1 h2 _
  refine h v' w' ?_ h2
  rw [Nat.zero_add, List.nil_append] at h1
  exact h1
 | none =>
  have hb0 : bs = [] := by
   by_cases hp : 0 < bs.length
   ·obtain ⟨b, off, e, _⟩ := hv hp; cases e
   ·exact List.eq_nil_of_length_eq_zero (by omega)
  subst hb0
  obtain rfl : len = 0 := hlen.symm
  have hr : (Builtin.append_ #[22, 22] o.type #[.slice none 0 0, .slice none 0 cap]).run Tryz.prog w = .ok (.slice none 0 0) w := by kernel_rfl
  refine wpList_plain hgd fun K hK => ?_
  unfold Oper.wp execOp
  simp only [ho, resolve, invoke, builtin, Sem.run_bind, Sem.run_pure, Result.andThen_ok, List.map_toArray, List.map_cons, List.map_nil, hs, hx, hr]
  exact hK _ _ (h _ _ (World.ownsRow_nil _ _ _ _) ⟨rfl, rfl, rfl, Nat.le_refl _, fun _ _ _ => rfl⟩)
end SR
end Go.Proofs.YtabgihjffjlfiaaGreatDoor
set_option linter.unusedVariables false
namespace Go.Proofs.YtabgihjffjlfiaaGreatDoor
namespace SR
def be (x : Nat) : Nat → List Nat
 | 0 => []
 | n + 1 => be (x / 256) n ++ [x % 256]
theorem be_len (n : Nat) : ∀ x, (be x n).length = n := by
 induction n with
 | zero => intro x; rfl
 | succ n ih => intro x; simp [be, ih]
theorem be_front (n : Nat) : ∀ x, be x (n + 1) = (x >>> (8 * n)) % 256 :: be x n := by
 induction n with
 | zero => intro x; simp [be]
 | succ n ih =>
  intro x
  show be (x / 256) (n + 1) ++ [x % 256] = _
  rw [ih (x / 256), show be x (n + 1) = be (x / 256) n ++ [x % 256] from rfl, List.cons_append]
  congr 2
  rw [Nat.shiftRight_eq_div_pow, Nat.shiftRight_eq_div_pow, Nat.div_div_eq_div_mul, show 2 ^ (8 * (n + 1)) = 256 * 2 ^ (8 * n) by rw [Nat.mul_add, Nat.pow_add]; omega]
theorem be_zero (n : Nat) : be 0 n = List.replicate n 0 := by
 induction n with
 | zero => rfl
 | succ n ih => show be (0 / 256) n ++ [0 % 256] = _; rw [show 0 / 256 = 0 from rfl, ih, List.replicate_succ']
theorem be_more (m n : Nat) : ∀ x, x < 256 ^ n → be x (m + n) = List.replicate m 0 ++ be x n := by
 induction n with
 | zero => intro x hx; obtain rfl : x = 0 := (by simpa using hx); rw [Nat.add_zero, be_zero]; simp [be]
 | succ n ih =>
  intro x hx
  show be (x / 256) (m + n) ++ [x % 256] = _
  rw [ih (x / 256) (by rw [Nat.pow_succ] at hx; omega), List.append_assoc]; rfl
theorem take_set' (l : List Nat) (t v : Nat) (h : t < l.length) : (l.take (t + 1)).set t v = l.take t ++ [v] := by
 rw [← List.take_set, take_set h]
theorem tailN_be (size bits : Nat) (base : List Nat) (hb : base.length = size) : ∀ i, i ≤ size → tailN size bits base i = base.take (size - i) ++ be bits i
 | 0, _ => by simp [tailN, be, ← hb]
 | i + 1, hi => by
  rw [tailN, tailN_be size bits base hb i (by omega), be_front]
  rw [List.set_append_left _ _ (by simp; omega)]
  rw [show size - i = (size - 1 - i) + 1 by omega, take_set' _ _ _ (by omega), show size - (i + 1) = size - 1 - i by omega, List.append_assoc]
  rfl
theorem padB_eq (size : Nat) (rest : List Nat) (h : rest.length < size) : padB size rest = rest ++ 128 :: List.replicate (size - rest.length - 1) 0 := by
 unfold padB
 rw [List.set_append_right _ _ (Nat.le_refl _), Nat.sub_self, show size - rest.length = (size - rest.length - 1) + 1 by omega, List.replicate_succ, lZ]
 simp
def zeros (s : Sh) (L : Nat) : Nat := (2 * s.W - (L + 1 + s.W / 4) % (2 * s.W)) % (2 * s.W)
def padd (s : Sh) (bs : List Nat) : List Nat := bs ++ 128 :: List.replicate (zeros s bs.length) 0 ++ be (8 * bs.length) (s.W / 4)
theorem lastB_eq (s : Sh) (rest : List Nat) (L : Nat) (h8 : 8 ≤ s.W / 4) (hr : rest.length < 2 * s.W) (hL : 8 * L < 256 ^ 8) :
  lastB s rest L = rest ++ 128 :: List.replicate ((if 2 * s.W < rest.length + 1 + s.W / 4 then 4 * s.W else 2 * s.W) - rest.length - 1 - s.W / 4) 0 ++ be (8 * L) (s.W / 4) := by
 unfold lastB
 obtain ⟨size, hs⟩ : ∃ x, x = if 2 * s.W < rest.length + 1 + s.W / 4 then 4 * s.W else 2 * s.W := ⟨_, rfl⟩
 rw [← hs]
 have hsz : rest.length + 1 + s.W / 4 ≤ size := by rw [hs]; split <;> omega
 show tailN size (L * 8) (padB size rest) 8 = _
 rw [tailN_be _ _ _ (padB_len _ _ (by omega)) 8 (by omega), padB_eq size rest (by omega), Nat.mul_comm L 8]
 obtain ⟨t, ht⟩ : ∃ t, s.W / 4 = t + 8 := ⟨s.W / 4 - 8, by omega⟩
 rw [ht] at hsz ⊢
 rw [be_more t 8 (8 * L) hL, List.take_append, List.take_of_length_le (by omega), show size - 8 - rest.length = (size - 9 - rest.length) + 1 by omega, List.take_succ_cons, List.take_replicate]
 rw [show min (size - 9 - rest.length) (size - rest.length - 1) = (size - rest.length - 1 - (t + 8)) + t by omega, ← List.replicate_append_replicate]
 simp only [List.append_assoc, List.cons_append]
theorem blks_append (s : Sh) (ks st x y : List Nat) (kx : Nat) (hx : x.length = 2 * s.W * kx) : ∀ ky, blks s ks st (x ++ y) (kx + ky) = blks s ks (blks s ks st x kx) y ky
 | 0 => by
  have : ∀ k, k ≤ kx → blks s ks st (x ++ y) k = blks s ks st x k := by
   intro k
   induction k with
   | zero => intro _; rfl
   | succ k ih =>
    intro hk
    rw [blks, blks, ih (by omega)]
    congr 1
    have h1 : 2 * s.W * k + 2 * s.W ≤ x.length := by
     rw [hx]; have := Nat.mul_le_mul_left (2 * s.W) hk; rw [Nat.mul_succ] at this; exact this
    rw [List.drop_append_of_le_length (by omega), List.take_append_of_le_length (by rw [List.length_drop]; omega)]
  exact this kx (Nat.le_refl _)
 | ky + 1 => by
  rw [show kx + (ky + 1) = (kx + ky) + 1 from rfl, blks, blks, blks_append s ks st x y kx hx ky]
  congr 1
  rw [Nat.mul_add, ← hx, List.drop_append, List.drop_of_length_le (by omega)]
  simp
theorem padd_split (s : Sh) (bs : List Nat) (hW : 32 ≤ s.W) (hL : 8 * bs.length < 256 ^ 8) :
  padd s bs = bs.take (bs.length - bs.length % (2 * s.W)) ++ lastB s (bs.drop (bs.length - bs.length % (2 * s.W))) bs.length := by
 obtain ⟨W2, hW2⟩ : ∃ x, x = 2 * s.W := ⟨_, rfl⟩
 have hm : bs.length % (2 * s.W) < 2 * s.W := Nat.mod_lt _ (by omega)
 have hle := Nat.mod_le bs.length (2 * s.W)
 have hrl : (bs.drop (bs.length - bs.length % (2 * s.W))).length = bs.length % (2 * s.W) := by rw [List.length_drop]; omega
 rw [lastB_eq s _ _ (by omega) (by rw [hrl]; exact hm) hL, hrl]
 unfold padd
 have hz : zeros s bs.length = (if 2 * s.W < bs.length % (2 * s.W) + 1 + s.W / 4 then 4 * s.W else 2 * s.W) - bs.length % (2 * s.W) - 1 - s.W / 4 := by
  unfold zeros
  have hq := Nat.div_add_mod bs.length (2 * s.W)
  obtain ⟨r, hr⟩ : ∃ r, r = bs.length % (2 * s.W) := ⟨_, rfl⟩
  have e : (bs.length + 1 + s.W / 4) % (2 * s.W) = (r + 1 + s.W / 4) % (2 * s.W) := by
   rw [hr, Nat.add_assoc, Nat.add_assoc, Nat.mod_add_mod]
  rw [e, ← hr]
  rw [← hr] at hm
  split
  ·rename_i h
   rw [Nat.mod_eq_sub_mod (a := r + 1 + s.W / 4) (by omega), Nat.mod_eq_of_lt (a := r + 1 + s.W / 4 - 2 * s.W) (by omega), Nat.mod_eq_of_lt (by omega)]
   omega
  ·rename_i h
   by_cases he : r + 1 + s.W / 4 = 2 * s.W
   ·rw [he, Nat.mod_self, Nat.sub_zero, Nat.mod_self]; omega
   ·rw [Nat.mod_eq_of_lt (a := r + 1 + s.W / 4) (by omega), Nat.mod_eq_of_lt (by omega)]; omega
 rw [hz, ← List.append_assoc, ← List.append_assoc, List.take_append_drop]
def digR (s : Sh) (kk hf bs : List Nat) : List Nat := stB s.W (blks s kk hf (padd s bs) ((padd s bs).length / (2 * s.W))) 8
theorem padd_len (s : Sh) (bs : List Nat) (hW : 32 ≤ s.W) (hL : 8 * bs.length < 256 ^ 8) :
  (padd s bs).length = 2 * s.W * ((bs.length - bs.length % (2 * s.W)) / (2 * s.W)) + (lastB s (bs.drop (bs.length - bs.length % (2 * s.W))) bs.length).length := by
 have hle := Nat.mod_le bs.length (2 * s.W)
 have hq := Nat.div_add_mod bs.length (2 * s.W)
 rw [padd_split s bs hW hL, List.length_append, List.length_take, Nat.min_eq_left (by omega)]
 congr 1
 rw [show bs.length - bs.length % (2 * s.W) = 2 * s.W * (bs.length / (2 * s.W)) by omega, Nat.mul_div_cancel_left _ (by omega)]
theorem digR_dig (s : Sh) (hs ks bs : List Nat) (hW : 32 ≤ s.W) (hL : 8 * bs.length < 256 ^ 8) : digR s ks (initN s.W hs 8) bs = dig s hs ks bs := by
 unfold digR dig
 have hle := Nat.mod_le bs.length (2 * s.W)
 have hm : bs.length % (2 * s.W) < 2 * s.W := Nat.mod_lt _ (by omega)
 have hq := Nat.div_add_mod bs.length (2 * s.W)
 have hwh : bs.length - bs.length % (2 * s.W) = 2 * s.W * ((bs.length - bs.length % (2 * s.W)) / (2 * s.W)) := by
  rw [show bs.length - bs.length % (2 * s.W) = 2 * s.W * (bs.length / (2 * s.W)) by omega, Nat.mul_div_cancel_left _ (by omega)]
 rw [padd_len s bs hW hL, Nat.mul_add_div (by omega), padd_split s bs hW hL]
 show stB s.W (blks s ks _ _ _) 8 = stB s.W (blks s ks (blks s ks _ _ _) _ _) 8
 rw [blks_append]
 rw [List.length_take, Nat.min_eq_left (by omega)]
 exact hwh
end SR
end Go.Proofs.YtabgihjffjlfiaaGreatDoor
