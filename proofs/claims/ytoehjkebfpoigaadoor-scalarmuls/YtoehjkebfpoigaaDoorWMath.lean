/-
  Plain mathematics of signed digits of 28 bits, and of numbers modulo L: nothing of the program stands here.
-/
import Derived.Test.YtoehjkebfpoigaaDoorMath
set_option linter.unusedVariables false
namespace Go.Proofs.YtoehjkebfpoigaaDoor
/-- 2^252 + 27742317777372353535851937790883648493. -/
def LL : Nat := 7237005577332262213973186563042994240857116359379907606001950938285454250989
def exc : Int := 27742317777372353535851937790883648493
def b28 : Int := 268435456
theorem edd (a b c : Int) (h : 0 ≤ b) : a / b / c = a / (b * c) := by first | exact Int.ediv_ediv_of_nonneg h | exact Int.ediv_ediv h | rw [Int.ediv_ediv_eq_ediv_mul _ h]
def valW : List Int → Int
  | [] => 0
  | d :: l => d + 268435456 * valW l
/-- n digits, and what is left as the last one. -/
def norm : Nat → Int → List Int
  | 0, v => [v]
  | n + 1, v => v % 268435456 :: norm n (v / 268435456)
theorem norm_len : ∀ n v, (norm n v).length = n + 1
  | 0, _ => rfl
  | n + 1, v => by simp [norm, norm_len n]
theorem valW_norm : ∀ n v, valW (norm n v) = v
  | 0, v => by simp [norm, valW]
  | n + 1, v => by rw [norm, valW, valW_norm n]; omega
theorem valW_append : ∀ (a b : List Int), valW (a ++ b) = valW a + 268435456 ^ a.length * valW b
  | [], b => by simp [valW]
  | d :: a, b => by
    simp only [List.cons_append, valW, List.length_cons, Int.pow_succ, valW_append a b]
    rw [Int.mul_comm (268435456 ^ a.length) 268435456, Int.mul_assoc, Int.mul_add]
    omega
theorem valW_set : ∀ (l : List Int) (k : Nat) (x : Int), k < l.length → valW (l.set k x) = valW l + 268435456 ^ k * (x - l.getD k 0)
  | [], _, _, h => by simp at h
  | d :: l, 0, x, _ => by simp [valW]; omega
  | d :: l, k + 1, x, h => by
    have := valW_set l k x (by simpa using h)
    simp only [List.set_cons_succ, valW, List.getD_cons_succ, Int.pow_succ, this]
    rw [Int.mul_comm (268435456 ^ k) 268435456, Int.mul_assoc, Int.mul_add]
    omega
theorem valW_rep : ∀ n, valW (List.replicate n 0) = 0
  | 0 => rfl
  | n + 1 => by simp [List.replicate_succ, valW, valW_rep n]
theorem takeW_succ (l : List Int) (k : Nat) (h : k < l.length) : l.take (k + 1) = l.take k ++ [l.getD k 0] := by
  rw [List.take_succ_eq_append_getElem h]; simp [h]
theorem valW_take_succ (l : List Int) (k : Nat) : valW (l.take (k + 1)) = valW (l.take k) + 268435456 ^ k * l.getD k 0 := by
  by_cases h : k < l.length
  · rw [takeW_succ l k h, valW_append, List.length_take, show min k l.length = k by omega]; simp [valW]
  · rw [List.take_of_length_le (by omega), List.take_of_length_le (by omega), List.getD_eq_getElem?_getD, List.getElem?_eq_none (by omega)]; simp
theorem pos28 (k : Nat) : (0 : Int) < 268435456 ^ k := Int.pow_pos (by decide)
theorem norm_get_lt : ∀ n v j, j < n → (norm n v).getD j 0 = v / 268435456 ^ j % 268435456
  | 0, _, _, h => by omega
  | n + 1, v, 0, _ => by simp [norm]
  | n + 1, v, j + 1, h => by
    have := norm_get_lt n (v / 268435456) j (by omega)
    simp only [norm, List.getD_cons_succ, this]
    rw [edd _ _ _ (by decide), Int.pow_succ, Int.mul_comm]
theorem norm_get_top : ∀ n v, (norm n v).getD n 0 = v / 268435456 ^ n
  | 0, v => by simp [norm]
  | n + 1, v => by
    simp only [norm, List.getD_cons_succ, norm_get_top n]
    rw [edd _ _ _ (by decide), Int.pow_succ, Int.mul_comm]
theorem norm_split : ∀ n v, norm (n + 1) v = (norm n v).set n (v / 268435456 ^ n % 268435456) ++ [v / 268435456 ^ n / 268435456]
  | 0, v => by simp [norm]
  | n + 1, v => by
    rw [norm, norm_split n, norm]
    simp only [List.set_cons_succ, List.cons_append]
    rw [edd _ _ _ (by decide : (0:Int) ≤ 268435456), Int.pow_succ, Int.mul_comm]
/-- the value above a sum of low digits and one more -/
theorem norm_add (n : Nat) (v d : Int) : (norm n v).set n ((norm n v).getD n 0 + d) = norm n (v + 268435456 ^ n * d) := by
  induction n generalizing v with
  | zero => simp [norm]
  | succ n ih =>
    simp only [norm, List.set_cons_succ, List.getD_cons_succ, ih]
    have e : v + 268435456 ^ (n + 1) * d = v + 268435456 * (268435456 ^ n * d) := by rw [Int.pow_succ, Int.mul_comm (268435456 ^ n), Int.mul_assoc]
    rw [e]
    congr 1
    · omega
    · congr 1; omega
/-- What a row is behind k rounds of settling. -/
def stl (l : List Int) (k : Nat) : List Int := norm k (valW (l.take (k + 1))) ++ l.drop (k + 1)
theorem stl_len (l : List Int) (k : Nat) (h : k < l.length) : (stl l k).length = l.length := by simp [stl, norm_len]; omega
theorem stl_zero (l : List Int) (h : 0 < l.length) : stl l 0 = l := by
  cases l with
  | nil => simp at h
  | cons d l => simp [stl, norm, valW]
def topW (l : List Int) (k : Nat) : Int := valW (l.take (k + 1)) / 268435456 ^ k
theorem topW_zero (l : List Int) : topW l 0 = l.getD 0 0 := by
  have := valW_take_succ l 0
  simp [valW] at this
  simp [topW, this]
theorem topW_succ (l : List Int) (k : Nat) : topW l (k + 1) = l.getD (k + 1) 0 + topW l k / 268435456 := by
  unfold topW
  rw [valW_take_succ l (k + 1), Int.add_mul_ediv_left _ _ (by have := pos28 (k + 1); omega), edd _ _ _ (Int.le_of_lt (pos28 k)), Int.pow_succ]
  omega
theorem topW_bound {l : List Int} {B : Int} (hB : 268435456 ≤ B) (h : ∀ j, -B ≤ l.getD j 0 ∧ l.getD j 0 ≤ B) : ∀ k, -(2 * B) ≤ topW l k ∧ topW l k ≤ 2 * B ∧ -(B + B / 134217728 + 1) ≤ topW l k ∧ topW l k ≤ B + B / 134217728 + 1
  | 0 => by rw [topW_zero]; have := h 0; omega
  | k + 1 => by
    have h1 := topW_bound hB h k
    have h2 := h (k + 1)
    rw [topW_succ]
    omega
theorem stl_getk (l : List Int) (k : Nat) (h : k < l.length) : (stl l k).getD k 0 = topW l k := by
  have hl : k < (norm k (valW (l.take (k + 1)))).length := by rw [norm_len]; omega
  unfold stl topW
  rw [List.getD_eq_getElem?_getD, List.getElem?_append_left hl, ← List.getD_eq_getElem?_getD, norm_get_top]
theorem stl_getk1 (l : List Int) (k : Nat) : (stl l k).getD (k + 1) 0 = l.getD (k + 1) 0 := by
  unfold stl
  rw [List.getD_eq_getElem?_getD, List.getElem?_append_right (by rw [norm_len]; omega), norm_len]
  simp
theorem stl_step (l : List Int) (k : Nat) (h : k + 1 < l.length) : ((stl l k).set (k + 1) (l.getD (k + 1) 0 + topW l k / 268435456)).set k (topW l k % 268435456) = stl l (k + 1) := by
  have hd : l.drop (k + 1) = l.getD (k + 1) 0 :: l.drop (k + 2) := by
    rw [List.drop_eq_getElem_cons h]; simp [h]
  have hn : (norm k (valW (l.take (k + 1)))).length = k + 1 := norm_len _ _
  have e1 : (stl l k).set (k + 1) (l.getD (k + 1) 0 + topW l k / 268435456) = norm k (valW (l.take (k + 1))) ++ (l.getD (k + 1) 0 + topW l k / 268435456) :: l.drop (k + 2) := by
    unfold stl
    rw [List.set_append_right _ _ (by omega), hn, hd]; simp
  rw [e1, List.set_append_left _ _ (by omega)]
  have e2 := norm_split k (valW (l.take (k + 1)))
  have e3 := norm_add (k + 1) (valW (l.take (k + 1))) (l.getD (k + 1) 0)
  unfold stl
  rw [valW_take_succ l (k + 1), ← e3, norm_get_top, e2, List.set_append_right _ _ (by simp [norm_len]), List.length_set, norm_len]
  simp only [Nat.sub_self, List.set_cons_zero, List.append_assoc, List.cons_append, List.nil_append]
  unfold topW
  rw [edd _ _ _ (Int.le_of_lt (pos28 k)), ← Int.pow_succ, Int.add_comm]
/-- A row of 19 digits of a number. -/
def row (top : Nat) (N : Int) : List Int := norm top N ++ List.replicate (18 - top) 0
theorem row_len {top : Nat} (h : top ≤ 18) (N : Int) : (row top N).length = 19 := by simp [row, norm_len]; omega
theorem valW_row (top : Nat) (N : Int) : valW (row top N) = N := by simp [row, valW_append, valW_norm, valW_rep]
theorem row18 (N : Int) : row 18 N = norm 18 N := by simp [row]
theorem row_get_lt {top j : Nat} (N : Int) (h : j < top) : (row top N).getD j 0 = N / 268435456 ^ j % 268435456 := by
  unfold row
  rw [List.getD_eq_getElem?_getD, List.getElem?_append_left (by rw [norm_len]; omega), ← List.getD_eq_getElem?_getD, norm_get_lt _ _ _ h]
theorem row_get_top (top : Nat) (N : Int) : (row top N).getD top 0 = N / 268435456 ^ top := by
  unfold row
  rw [List.getD_eq_getElem?_getD, List.getElem?_append_left (by rw [norm_len]; omega), ← List.getD_eq_getElem?_getD, norm_get_top]
theorem row_get_gt {top j : Nat} (N : Int) (h : top < j) : (row top N).getD j 0 = 0 := by
  unfold row
  rw [List.getD_eq_getElem?_getD, List.getElem?_append_right (by rw [norm_len]; omega), norm_len, List.getElem?_replicate]
  split <;> rfl
theorem stl18 {l : List Int} (h : l.length = 19) : stl l 18 = row 18 (valW l) := by
  unfold stl
  rw [row18, List.take_of_length_le (by omega), List.drop_of_length_le (by omega)]; simp
/-- A row whose digits behind top are 0, settled. -/
theorem stl_row {l : List Int} {top : Nat} (h : l.length = 19) (ht : top ≤ 18) (hz : ∀ j, top < j → l.getD j 0 = 0) : stl l top = row top (valW l) := by
  have hd : l.drop (top + 1) = List.replicate (18 - top) 0 := by
    apply List.ext_getElem
    · simp; omega
    · intro i h1 h2
      have h3 : top + 1 + i < l.length := by simp at h1; omega
      have := hz (top + 1 + i) (by omega)
      simp [h3] at this
      simp [this]
  have hv : valW l = valW (l.take (top + 1)) := by
    have := valW_append (l.take (top + 1)) (l.drop (top + 1))
    rw [List.take_append_drop, hd, valW_rep] at this
    omega
  unfold stl row
  rw [hd, ← hv]
end Go.Proofs.YtoehjkebfpoigaaDoor
