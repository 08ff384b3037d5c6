/-
  The plain mathematics of check sums (numbers and lists): nothing of the program stands here.
-/
import Derived.WalkKit
set_option linter.unusedVariables false
namespace Go.Proofs.Ytjnoohhjnnafcaa

def bit1 (s : Nat) : Nat := s / 2 ^^^ 3988292384 * (s % 2)
def bitN (s : Nat) : Nat → Nat
  | 0 => s
  | k + 1 => bit1 (bitN s k)
def stepB (s b : Nat) : Nat := bitN (s ^^^ b) 8
def upd (s : Nat) (bs : List Nat) : Nat := bs.foldl stepB s
/-- The check sum. -/
def crcOf (bs : List Nat) : Nat := 4294967295 - upd 4294967295 bs
def tailN (c : Nat) : Nat → List Nat
  | 0 => []
  | k + 1 => tailN c k ++ [c >>> (8 * k) % 256]
def tail4 (c : Nat) : List Nat := tailN c 4
def sealed (bs : List Nat) : List Nat := bs ++ tail4 (crcOf bs)

theorem bit1_lt {s : Nat} (h : s < 4294967296) : bit1 s < 4294967296 := by
  refine Nat.xor_lt_two_pow (n := 32) (by omega) ?_
  have : s % 2 = 0 ∨ s % 2 = 1 := by omega
  rcases this with h | h <;> rw [h] <;> decide
theorem bitN_lt {s : Nat} (h : s < 4294967296) : ∀ k, bitN s k < 4294967296
  | 0 => h
  | k + 1 => bit1_lt (bitN_lt h k)
theorem xor_lt32 {s b : Nat} (h : s < 4294967296) (hb : b < 256) : s ^^^ b < 4294967296 :=
  Nat.xor_lt_two_pow (n := 32) h (Nat.lt_of_lt_of_le hb (by decide))
theorem stepB_lt {s b : Nat} (h : s < 4294967296) (hb : b < 256) : stepB s b < 4294967296 := bitN_lt (xor_lt32 h hb) 8
theorem upd_lt {bs : List Nat} : ∀ {s : Nat}, s < 4294967296 → (∀ j, bs.getD j 0 < 256) → upd s bs < 4294967296 := by
  induction bs with
  | nil => intro s h _; exact h
  | cons b r ih => intro s h hb; exact ih (stepB_lt h (hb 0)) (fun j => hb (j + 1))
theorem take_lt {bs : List Nat} (n : Nat) (hb : ∀ j, bs.getD j 0 < 256) (j : Nat) : (bs.take n).getD j 0 < 256 := by
  by_cases h : j < n
  · rw [show (bs.take n).getD j 0 = bs.getD j 0 by simp [h]]; exact hb j
  · rw [List.getD_eq_getElem?_getD, List.getElem?_eq_none (by simp; omega)]; decide
theorem take_succ' (bs : List Nat) (k : Nat) (h : k < bs.length) : bs.take (k + 1) = bs.take k ++ [bs.getD k 0] := by
  rw [List.take_succ_eq_append_getElem h]; simp [h]
theorem upd_snoc (s : Nat) (bs : List Nat) (b : Nat) : upd s (bs ++ [b]) = stepB (upd s bs) b := by simp [upd]
theorem crc_lt (bs : List Nat) : crcOf bs < 4294967296 := by unfold crcOf; omega

/- Single bits. -/
theorem bit1_top {s : Nat} (h : s < 4294967296) : (bit1 s).testBit 31 = decide (s % 2 = 1) := by
  have h1 : (s / 2).testBit 31 = false := Nat.testBit_lt_two_pow (by omega)
  unfold bit1
  rw [Nat.testBit_xor, h1]
  have h2 : s % 2 = 0 ∨ s % 2 = 1 := by omega
  rcases h2 with h | h <;> rw [h] <;> decide
theorem xor_left {a b c : Nat} (h : a ^^^ c = b ^^^ c) : a = b := by
  have := congrArg (· ^^^ c) h
  simpa [Nat.xor_assoc] using this
theorem xor_right {a b c : Nat} (h : c ^^^ a = c ^^^ b) : a = b := by
  rw [Nat.xor_comm c a, Nat.xor_comm c b] at h; exact xor_left h
theorem bit1_inj {s t : Nat} (hs : s < 4294967296) (ht : t < 4294967296) (h : bit1 s = bit1 t) : s = t := by
  have h2 : s % 2 = t % 2 := by
    have := congrArg (·.testBit 31) h
    simp only [bit1_top hs, bit1_top ht, decide_eq_decide] at this
    omega
  unfold bit1 at h
  rw [h2] at h
  have := xor_left h
  omega
theorem bitN_inj {s t : Nat} (hs : s < 4294967296) (ht : t < 4294967296) : ∀ k, bitN s k = bitN t k → s = t
  | 0, h => h
  | k + 1, h => bitN_inj hs ht k (bit1_inj (bitN_lt hs k) (bitN_lt ht k) h)
theorem stepB_inj {s t b : Nat} (hs : s < 4294967296) (ht : t < 4294967296) (hb : b < 256) (h : stepB s b = stepB t b) : s = t :=
  xor_left (bitN_inj (xor_lt32 hs hb) (xor_lt32 ht hb) 8 h)
theorem stepB_inj2 {s b c : Nat} (hs : s < 4294967296) (hb : b < 256) (hc : c < 256) (h : stepB s b = stepB s c) : b = c :=
  xor_right (bitN_inj (xor_lt32 hs hb) (xor_lt32 hs hc) 8 h)
theorem upd_inj {bs : List Nat} : ∀ {s t : Nat}, s < 4294967296 → t < 4294967296 → (∀ j, bs.getD j 0 < 256) → upd s bs = upd t bs → s = t := by
  induction bs with
  | nil => intro s t _ _ _ h; exact h
  | cons b r ih => intro s t hs ht hb h; exact stepB_inj hs ht (hb 0) (ih (stepB_lt hs (hb 0)) (stepB_lt ht (hb 0)) (fun j => hb (j + 1)) h)
/-- One byte that is another one turns the sum. -/
theorem upd_set {bs : List Nat} : ∀ {s : Nat} (k v : Nat), s < 4294967296 → (∀ j, bs.getD j 0 < 256) → v < 256 → k < bs.length → v ≠ bs.getD k 0 → upd s (bs.set k v) ≠ upd s bs := by
  induction bs with
  | nil => intro s k v _ _ _ hk; simp at hk
  | cons b r ih =>
    intro s k v hs hb hv hk hne h
    match k with
    | 0 => exact hne (stepB_inj2 hs hv (hb 0) (upd_inj (stepB_lt hs hv) (stepB_lt hs (hb 0)) (fun j => hb (j + 1)) h))
    | k + 1 => exact ih k v (stepB_lt hs (hb 0)) (fun j => hb (j + 1)) hv (by simpa using hk) (by simpa using hne) h
theorem set_lt {bs : List Nat} (hb : ∀ j, bs.getD j 0 < 256) {k v : Nat} (hv : v < 256) (j : Nat) : (bs.set k v).getD j 0 < 256 := by
  have hj := hb j
  simp only [List.getD_eq_getElem?_getD, List.getElem?_set] at *
  split
  · split <;> simp
    · exact hv
  · exact hj
theorem crc_set {bs : List Nat} {k v : Nat} (hb : ∀ j, bs.getD j 0 < 256) (hv : v < 256) (hk : k < bs.length) (hne : v ≠ bs.getD k 0) : crcOf (bs.set k v) ≠ crcOf bs := by
  have h1 := upd_set (s := 4294967295) k v (by decide) hb hv hk hne
  have h2 := upd_lt (s := 4294967295) (by decide) (set_lt hb hv (k := k))
  have h3 := upd_lt (s := 4294967295) (by decide) hb
  unfold crcOf
  omega
theorem tail4_eq (c : Nat) : tail4 c = [c % 256, c / 256 % 256, c / 65536 % 256, c / 16777216 % 256] := by
  simp [tail4, tailN, Nat.shiftRight_eq_div_pow]
theorem tail4_len (c : Nat) : (tail4 c).length = 4 := rfl
theorem tailN_len (c : Nat) : ∀ k, (tailN c k).length = k
  | 0 => rfl
  | k + 1 => by simp [tailN, tailN_len c k]
theorem tail4_inj {c d : Nat} (hc : c < 4294967296) (hd : d < 4294967296) (h : tail4 c = tail4 d) : c = d := by
  rw [tail4_eq, tail4_eq] at h
  simp only [List.cons.injEq, and_true] at h
  omega
theorem tail4_lt (c j : Nat) : (tail4 c).getD j 0 < 256 := by
  rw [tail4_eq]
  match j with
  | 0 => simp; omega
  | 1 => simp; omega
  | 2 => simp; omega
  | 3 => simp; omega
  | j + 4 => simp
theorem app_lt {a b : List Nat} (ha : ∀ j, a.getD j 0 < 256) (hb : ∀ j, b.getD j 0 < 256) (j : Nat) : (a ++ b).getD j 0 < 256 := by
  by_cases h : j < a.length
  · have := ha j
    rw [List.getD_eq_getElem?_getD, List.getElem?_append_left h, ← List.getD_eq_getElem?_getD]; exact this
  · have := hb (j - a.length)
    rw [List.getD_eq_getElem?_getD, List.getElem?_append_right (by omega), ← List.getD_eq_getElem?_getD]; exact this
theorem sealed_lt {bs : List Nat} (h : ∀ j, bs.getD j 0 < 256) (j : Nat) : (sealed bs).getD j 0 < 256 := app_lt h (tail4_lt _) j
theorem sealed_len (bs : List Nat) : (sealed bs).length = bs.length + 4 := by simp [sealed, tail4_len]
/-- Whether the last four bytes are the check sum of those ahead. -/
def goodB (bs : List Nat) : Bool := decide (bs.drop (bs.length - 4) = tail4 (crcOf (bs.take (bs.length - 4))))
theorem good_sealed (bs : List Nat) : goodB (sealed bs) = true := by
  have h : (sealed bs).length - 4 = bs.length := by rw [sealed_len]; omega
  simp [goodB, h]
  simp [sealed]
theorem take_sealed (bs : List Nat) : (sealed bs).take ((sealed bs).length - 4) = bs := by
  have h : (sealed bs).length - 4 = bs.length := by rw [sealed_len]; omega
  rw [h]; simp [sealed]
theorem xor_ne {a b : Nat} (h : b ≠ 0) : a ^^^ b ≠ a := fun e => by
  apply h
  have : a ^^^ b = a ^^^ 0 := by rw [e]; simp
  exact xor_right this
/-- A sealed row with one byte that is another one is not good. -/
theorem bad_sealed {bs : List Nat} (hb : ∀ j, bs.getD j 0 < 256) {k v : Nat} (hv : v < 256) (hk : k < bs.length + 4) (hne : v ≠ (sealed bs).getD k 0) : goodB ((sealed bs).set k v) = false := by
  have h : ((sealed bs).set k v).length - 4 = bs.length := by rw [List.length_set, sealed_len]; omega
  unfold goodB
  rw [h, decide_eq_false_iff_not]
  by_cases hlt : k < bs.length
  · have e1 : ((sealed bs).set k v).drop bs.length = tail4 (crcOf bs) := by
      rw [sealed, List.set_append_left _ _ hlt, List.drop_append_of_le_length (by simp), List.drop_of_length_le (by simp), List.nil_append]
    have e2 : ((sealed bs).set k v).take bs.length = bs.set k v := by
      rw [sealed, List.set_append_left _ _ hlt, List.take_append_of_le_length (by simp), List.take_of_length_le (by simp)]
    rw [e1, e2]
    intro e
    refine crc_set hb hv hlt ?_ (tail4_inj (crc_lt _) (crc_lt _) e.symm)
    intro h'
    apply hne
    rw [h', sealed, List.getD_eq_getElem?_getD, List.getD_eq_getElem?_getD, List.getElem?_append_left hlt]
  · have e1 : ((sealed bs).set k v).drop bs.length = (tail4 (crcOf bs)).set (k - bs.length) v := by
      rw [sealed, List.set_append_right _ _ (by omega), List.drop_append_of_le_length (by simp), List.drop_of_length_le (by simp), List.nil_append]
    have e2 : ((sealed bs).set k v).take bs.length = bs := by
      rw [sealed, List.set_append_right _ _ (by omega), List.take_append_of_le_length (by simp), List.take_of_length_le (by simp)]
    rw [e1, e2]
    intro e
    apply hne
    have h4 : k - bs.length < (tail4 (crcOf bs)).length := by rw [tail4_len]; omega
    have this : ((tail4 (crcOf bs)).set (k - bs.length) v).getD (k - bs.length) 0 = (tail4 (crcOf bs)).getD (k - bs.length) 0 := by rw [e]
    rw [List.getD_eq_getElem?_getD, List.getElem?_set_self h4] at this
    rw [sealed, List.getD_eq_getElem?_getD, List.getElem?_append_right (by omega), ← List.getD_eq_getElem?_getD, ← this]; rfl
end Go.Proofs.Ytjnoohhjnnafcaa
