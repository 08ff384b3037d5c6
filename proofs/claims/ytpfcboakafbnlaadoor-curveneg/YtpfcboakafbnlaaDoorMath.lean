/-
  Plain mathematics of digits of 256 and of limbs of 51 bits: nothing of the program stands here.
-/
import Derived.WalkKit
set_option linter.unusedVariables false
namespace Go.Proofs.YtpfcboakafbnlaaDoor

/-- 2^255 - 19. -/
abbrev pp : Nat := 57896044618658097711785492504343953926634992332820282019728792003956564819949

/- Digits of 256. -/
def valD : List Nat → Nat
  | [] => 0
  | d :: l => d + 256 * valD l
def digs : Nat → Nat → List Nat
  | 0, _ => []
  | n + 1, v => v % 256 :: digs n (v / 256)
def Dig (l : List Nat) : Prop := ∀ j, l.getD j 0 < 256
theorem digs_len : ∀ n v, (digs n v).length = n
  | 0, _ => rfl
  | n + 1, v => by simp [digs, digs_len n]
theorem digs_get : ∀ n v j, j < n → (digs n v).getD j 0 = v / 256 ^ j % 256
  | 0, _, _, h => by omega
  | n + 1, v, 0, _ => by simp [digs]
  | n + 1, v, j + 1, h => by
    have := digs_get n (v / 256) j (by omega)
    simp only [digs, List.getD_cons_succ, this]
    rw [Nat.div_div_eq_div_mul, Nat.pow_succ, Nat.mul_comm]
theorem digs_dig (n v : Nat) : Dig (digs n v) := fun j => by
  by_cases h : j < n
  · rw [digs_get n v j h]; omega
  · rw [List.getD_eq_getElem?_getD, List.getElem?_eq_none (by rw [digs_len]; omega)]; decide
theorem Dig.tail {d : Nat} {l : List Nat} (h : Dig (d :: l)) : Dig l := fun j => by have := h (j + 1); simpa using this
theorem Dig.head {d : Nat} {l : List Nat} (h : Dig (d :: l)) : d < 256 := by have := h 0; simpa using this
theorem Dig.take {l : List Nat} (h : Dig l) (n : Nat) : Dig (l.take n) := fun j => by
  by_cases hj : j < n
  · rw [show (l.take n).getD j 0 = l.getD j 0 by simp [hj]]; exact h j
  · rw [List.getD_eq_getElem?_getD, List.getElem?_eq_none (by simp; omega)]; decide
theorem Dig.drop {l : List Nat} (h : Dig l) (n : Nat) : Dig (l.drop n) := fun j => by
  have := h (n + j)
  simpa using this
theorem Dig.set {l : List Nat} (h : Dig l) {k v : Nat} (hv : v < 256) : Dig (l.set k v) := fun j => by
  have hj := h j
  simp only [List.getD_eq_getElem?_getD, List.getElem?_set] at *
  split
  · split <;> simp
    · exact hv
  · exact hj
theorem Dig.app {a b : List Nat} (ha : Dig a) (hb : Dig b) : Dig (a ++ b) := fun j => by
  by_cases h : j < a.length
  · have := ha j
    rw [List.getD_eq_getElem?_getD, List.getElem?_append_left h, ← List.getD_eq_getElem?_getD]; exact this
  · have := hb (j - a.length)
    rw [List.getD_eq_getElem?_getD, List.getElem?_append_right (by omega), ← List.getD_eq_getElem?_getD]; exact this
theorem valD_lt : ∀ {l : List Nat}, Dig l → valD l < 256 ^ l.length
  | [], _ => by decide
  | d :: l, h => by
    have h1 := h.head
    have h2 := valD_lt h.tail
    simp only [valD, List.length_cons, Nat.pow_succ]
    omega
theorem valD_digs : ∀ n v, valD (digs n v) = v % 256 ^ n
  | 0, v => by simp [digs, valD, Nat.mod_one]
  | n + 1, v => by
    rw [digs, valD, valD_digs n, Nat.pow_succ, Nat.mul_comm (256 ^ n), Nat.mod_mul]
theorem valD_digs_lt {n v : Nat} (h : v < 256 ^ n) : valD (digs n v) = v := by rw [valD_digs, Nat.mod_eq_of_lt h]
theorem digs_valD : ∀ {l : List Nat}, Dig l → digs l.length (valD l) = l
  | [], _ => rfl
  | d :: l, h => by
    have h1 := h.head
    rw [List.length_cons, digs, valD, show (d + 256 * valD l) % 256 = d by omega, show (d + 256 * valD l) / 256 = valD l by omega, digs_valD h.tail]
theorem valD_append : ∀ (a b : List Nat), valD (a ++ b) = valD a + 256 ^ a.length * valD b
  | [], b => by simp [valD]
  | d :: a, b => by
    simp only [List.cons_append, valD, List.length_cons, Nat.pow_succ, valD_append a b]
    rw [Nat.mul_comm (256 ^ a.length) 256, Nat.mul_assoc]
    omega
theorem digs_app (n m v : Nat) : digs n v ++ digs m (v / 256 ^ n) = digs (n + m) v := by
  induction n generalizing v with
  | zero => simp [digs]
  | succ n ih =>
    rw [digs, List.cons_append, show n + 1 + m = (n + m) + 1 by omega, digs, ← ih (v / 256), Nat.div_div_eq_div_mul, Nat.pow_succ, Nat.mul_comm 256]
theorem valD_set : ∀ (l : List Nat) (k x : Nat), k < l.length → valD (l.set k x) + 256 ^ k * l.getD k 0 = valD l + 256 ^ k * x
  | [], _, _, h => by simp at h
  | d :: l, 0, x, _ => by simp [valD]; omega
  | d :: l, k + 1, x, h => by
    have := valD_set l k x (by simpa using h)
    simp only [List.set_cons_succ, valD, List.getD_cons_succ, Nat.pow_succ]
    rw [Nat.mul_comm (256 ^ k) 256, Nat.mul_assoc, Nat.mul_assoc]
    omega
theorem take_succ' (bs : List Nat) (k : Nat) (h : k < bs.length) : bs.take (k + 1) = bs.take k ++ [bs.getD k 0] := by
  rw [List.take_succ_eq_append_getElem h]; simp [h]
theorem valD_take_succ (l : List Nat) (k : Nat) : valD (l.take (k + 1)) = valD (l.take k) + 256 ^ k * l.getD k 0 := by
  by_cases h : k < l.length
  · rw [take_succ' l k h, valD_append, List.length_take, show min k l.length = k by omega]; simp [valD]
  · rw [List.take_of_length_le (by omega), List.take_of_length_le (by omega), List.getD_eq_getElem?_getD, List.getElem?_eq_none (by omega)]; simp
theorem valD_take_lt {l : List Nat} (h : Dig l) (k : Nat) : valD (l.take k) < 256 ^ k := by
  have h1 := valD_lt (h.take k)
  refine Nat.lt_of_lt_of_le h1 (Nat.pow_le_pow_right (by decide) ?_)
  rw [List.length_take]; omega
theorem valD_take_le (l : List Nat) : ∀ k, valD (l.take k) ≤ valD l := fun k => by
  have := valD_append (l.take k) (l.drop k)
  rw [List.take_append_drop] at this
  omega
theorem valD_rep : ∀ n, valD (List.replicate n 0) = 0
  | 0 => rfl
  | n + 1 => by simp [List.replicate_succ, valD, valD_rep n]
theorem digs_zero (n : Nat) : digs n 0 = List.replicate n 0 := by
  induction n with
  | zero => rfl
  | succ n ih => simp [digs, ih, List.replicate_succ]
theorem pos256 (k : Nat) : 0 < 256 ^ k := Nat.pow_pos (by decide)
/-- A digit is set above all that there is. -/
theorem digs_set {N Y k d : Nat} (hY : Y < 256 ^ k) (hd : d < 256) (hk : k < N) : (digs N Y).set k d = digs N (Y + 256 ^ k * d) := by
  have hq := pos256 k
  have hlt : Y + 256 ^ k * d < 256 ^ N := by
    have h1 : 256 ^ (k + 1) ≤ 256 ^ N := Nat.pow_le_pow_right (by decide) hk
    rw [Nat.pow_succ] at h1
    have h2 : 256 ^ k * d ≤ 256 ^ k * 255 := Nat.mul_le_mul_left _ (by omega)
    omega
  have hYN : Y < 256 ^ N := Nat.lt_of_lt_of_le hY (Nat.pow_le_pow_right (by decide) (by omega))
  have h0 : (digs N Y).getD k 0 = 0 := by rw [digs_get N Y k hk, Nat.div_eq_of_lt hY]
  have hs := valD_set (digs N Y) k d (by rw [digs_len]; exact hk)
  rw [h0, valD_digs_lt hYN] at hs
  have := digs_valD ((digs_dig N Y).set (k := k) hd)
  rw [List.length_set, digs_len] at this
  rw [← this, show valD ((digs N Y).set k d) = Y + 256 ^ k * d by omega]
/-- One digit more of a sum. -/
theorem mod_step (X q d : Nat) : (X + q * d) % (q * 256) = X % q + q * ((X / q + d) % 256) := by
  by_cases hq : 0 < q
  · have h1 : X + q * d = X % q + q * (X / q + d) := by
      have := Nat.mod_add_div X q
      rw [Nat.mul_add]; omega
    rw [h1, Nat.mod_mul, Nat.add_mul_mod_self_left, Nat.mod_mod, Nat.add_mul_div_left _ _ hq, Nat.div_eq_of_lt (Nat.mod_lt _ hq), Nat.zero_add]
  · have : q = 0 := by omega
    subst this; simp
theorem div_step (X q d : Nat) (hq : 0 < q) : (X + q * d) / (q * 256) = (X / q + d) / 256 := by
  rw [← Nat.div_div_eq_div_mul, Nat.add_mul_div_left _ _ hq]
theorem digs_step {N X k d : Nat} (hk : k < N) : (digs N (X % 256 ^ k)).set k ((X / 256 ^ k + d) % 256) = digs N ((X + 256 ^ k * d) % 256 ^ (k + 1)) := by
  rw [Nat.pow_succ, mod_step, digs_set (Nat.mod_lt _ (pos256 k)) (Nat.mod_lt _ (by decide)) hk]
theorem digs_mod (n v : Nat) : digs n (v % 256 ^ n) = digs n v := by
  rw [← valD_digs]
  have := digs_valD (digs_dig n v)
  rwa [digs_len] at this
theorem eq_of_val {a b : List Nat} (ha : Dig a) (hb : Dig b) (hl : a.length = b.length) (h : valD a = valD b) : a = b := by
  rw [← digs_valD ha, ← digs_valD hb, hl, h]
theorem digs_of {l : List Nat} (h : Dig l) {n v : Nat} (hl : l.length = n) (hv : valD l = v) : l = digs n v := by
  subst hl; subst hv; exact (digs_valD h).symm

/- Limbs of 51 bits. -/
structure E5 where
  a0 : Nat
  a1 : Nat
  a2 : Nat
  a3 : Nat
  a4 : Nat
def E5.val (e : E5) : Nat := e.a0 + 2251799813685248 * e.a1 + 5070602400912917605986812821504 * e.a2 + 11417981541647679048466287755595961091061972992 * e.a3 + 25711008708143844408671393477458601640355247900524685364822016 * e.a4
def E5.wf (e : E5) : Prop := e.a0 < 4503599627370496 ∧ e.a1 < 4503599627370496 ∧ e.a2 < 4503599627370496 ∧ e.a3 < 4503599627370496 ∧ e.a4 < 4503599627370496
def E5.list (e : E5) : List Nat := [e.a0, e.a1, e.a2, e.a3, e.a4]
def zeroE : E5 := ⟨0, 0, 0, 0, 0⟩
def carE (l0 l1 l2 l3 l4 : Nat) : E5 :=
  ⟨l0 % 2251799813685248 + 19 * (l4 / 2251799813685248), l1 % 2251799813685248 + l0 / 2251799813685248, l2 % 2251799813685248 + l1 / 2251799813685248, l3 % 2251799813685248 + l2 / 2251799813685248, l4 % 2251799813685248 + l3 / 2251799813685248⟩
theorem carE_val (l0 l1 l2 l3 l4 : Nat) : (carE l0 l1 l2 l3 l4).val + pp * (l4 / 2251799813685248) = (E5.mk l0 l1 l2 l3 l4).val := by
  unfold carE E5.val pp
  simp only
  omega
theorem carE_mod (l0 l1 l2 l3 l4 : Nat) : (carE l0 l1 l2 l3 l4).val % pp = (E5.mk l0 l1 l2 l3 l4).val % pp := by
  rw [← carE_val l0 l1 l2 l3 l4, Nat.add_mul_mod_self_left]
theorem carE_wf {l0 l1 l2 l3 l4 : Nat} (h0 : l0 < 18446744073709551616) (h1 : l1 < 18446744073709551616) (h2 : l2 < 18446744073709551616) (h3 : l3 < 18446744073709551616) (h4 : l4 < 18446744073709551616) : (carE l0 l1 l2 l3 l4).wf := by
  unfold carE E5.wf
  simp only
  omega
def splitE (V : Nat) : E5 := ⟨V % 2251799813685248, V / 2251799813685248 % 2251799813685248, V / 5070602400912917605986812821504 % 2251799813685248, V / 11417981541647679048466287755595961091061972992 % 2251799813685248, V / 25711008708143844408671393477458601640355247900524685364822016 % 2251799813685248⟩
theorem splitE_val (V : Nat) : (splitE V).val = V % 57896044618658097711785492504343953926634992332820282019728792003956564819968 := by
  unfold splitE E5.val
  simp only
  omega
theorem splitE_wf (V : Nat) : (splitE V).wf := by unfold splitE E5.wf; simp only; omega
/- the least form, as the program's two loops find it -/
def ovf (l : List Nat) : Nat → Nat
  | 0 => 19
  | k + 1 => (l.getD k 0 + ovf l k) / 2251799813685248
def cyf (l : List Nat) (c : Nat) : Nat → Nat
  | 0 => 19 * c
  | k + 1 => (l.getD k 0 + cyf l c k) / 2251799813685248
def lsf (l : List Nat) (c : Nat) : Nat → List Nat
  | 0 => l
  | k + 1 => (lsf l c k).set k ((l.getD k 0 + cyf l c k) % 2251799813685248)
theorem lsf_len (l : List Nat) (c : Nat) : ∀ k, (lsf l c k).length = l.length
  | 0 => rfl
  | k + 1 => by simp [lsf, lsf_len l c k]
def smallE (e : E5) : E5 := carE e.a0 e.a1 e.a2 e.a3 e.a4
theorem ovf5 (s0 s1 s2 s3 s4 : Nat) (h0 : s0 ≤ 2251799813685266) (h1 : s1 ≤ 2251799813685248) (h2 : s2 ≤ 2251799813685248) (h3 : s3 ≤ 2251799813685248) (h4 : s4 ≤ 2251799813685248) :
    (ovf [s0, s1, s2, s3, s4] 5 = 0 ∧ (E5.mk s0 s1 s2 s3 s4).val < pp) ∨ (ovf [s0, s1, s2, s3, s4] 5 = 1 ∧ pp ≤ (E5.mk s0 s1 s2 s3 s4).val) := by
  simp only [ovf, List.getD_cons_succ, List.getD_cons_zero, E5.val, pp]
  omega
theorem lsf5 (s0 s1 s2 s3 s4 : Nat) (h0 : s0 ≤ 2251799813685266) (h1 : s1 ≤ 2251799813685248) (h2 : s2 ≤ 2251799813685248) (h3 : s3 ≤ 2251799813685248) (h4 : s4 ≤ 2251799813685248) :
    lsf [s0, s1, s2, s3, s4] (ovf [s0, s1, s2, s3, s4] 5) 5 = (splitE ((E5.mk s0 s1 s2 s3 s4).val % pp)).list := by
  rcases ovf5 s0 s1 s2 s3 s4 h0 h1 h2 h3 h4 with ⟨h, hl⟩ | ⟨h, hl⟩
  · rw [h, Nat.mod_eq_of_lt hl]
    simp only [lsf, cyf, List.getD_cons_succ, List.getD_cons_zero, List.set_cons_succ, List.set_cons_zero, splitE, E5.list, E5.val, pp, List.cons.injEq, and_true] at *
    omega
  · have hm : (E5.mk s0 s1 s2 s3 s4).val % pp = (E5.mk s0 s1 s2 s3 s4).val - pp := by
      rw [Nat.mod_eq_sub_mod hl, Nat.mod_eq_of_lt]
      simp only [E5.val, pp] at *
      omega
    rw [h, hm]
    simp only [lsf, cyf, List.getD_cons_succ, List.getD_cons_zero, List.set_cons_succ, List.set_cons_zero, splitE, E5.list, E5.val, pp, List.cons.injEq, and_true] at *
    omega
def leastE (e : E5) : E5 := splitE (e.val % pp)
theorem least_eq {e : E5} (h : e.wf) : lsf (smallE e).list (ovf (smallE e).list 5) 5 = (leastE e).list := by
  obtain ⟨a0, a1, a2, a3, a4⟩ := e
  unfold E5.wf at h
  simp only at h
  have := lsf5 (a0 % 2251799813685248 + 19 * (a4 / 2251799813685248)) (a1 % 2251799813685248 + a0 / 2251799813685248) (a2 % 2251799813685248 + a1 / 2251799813685248) (a3 % 2251799813685248 + a2 / 2251799813685248) (a4 % 2251799813685248 + a3 / 2251799813685248) (by omega) (by omega) (by omega) (by omega) (by omega)
  show lsf (carE a0 a1 a2 a3 a4).list (ovf (carE a0 a1 a2 a3 a4).list 5) 5 = _
  unfold leastE
  rw [← carE_mod a0 a1 a2 a3 a4]
  exact this
theorem pp_lt : pp < 57896044618658097711785492504343953926634992332820282019728792003956564819968 := by decide
theorem pp_pos : 0 < pp := by decide
theorem leastE_val (e : E5) : (leastE e).val = e.val % pp := by
  unfold leastE
  rw [splitE_val]
  have := Nat.mod_lt e.val pp_pos
  have := pp_lt
  exact Nat.mod_eq_of_lt (by omega)
end Go.Proofs.YtpfcboakafbnlaaDoor
