/-
  The plain mathematics of the reference's block: its words are the program's.
-/
import Derived.Test.YtomfnkbghlpkeaaDoorRMath
set_option linter.unusedVariables false
namespace Go.Proofs.YtomfnkbghlpkeaaDoor
/-- The word t of a block, its first j bytes. -/
def wv (m : Nat) (bs : List Nat) (t : Nat) : Nat → Nat
  | 0 => 0
  | j + 1 => wv m bs t j * 256 + bs.getD (t * m + j) 0
theorem wv_lt (m : Nat) (bs : List Nat) (hb : ∀ j, bs.getD j 0 < 256) (t : Nat) : ∀ j, wv m bs t j < 256 ^ j
  | 0 => by simp [wv]
  | j + 1 => by
    have h1 := wv_lt m bs hb t j
    have h2 := hb (t * m + j)
    rw [wv, Nat.pow_succ]
    have : (wv m bs t j + 1) * 256 ≤ 256 ^ j * 256 := Nat.mul_le_mul_right _ h1
    omega
theorem P1_wv (s : Sh) (m : Nat) (hm : 0 < m) (hW : s.W = 8 * m) (bs : List Nat) (hb : ∀ j, bs.getD j 0 < 256) : ∀ k, k ≤ 80 * m → ∀ t, t < 80 → (P1 s bs k).getD t 0 = wv m bs t (min (k - t * m) m)
  | 0, _, t, ht => by
    have e : (List.replicate 80 0 : List Nat).getD t 0 = 0 := by rw [List.getD_eq_getElem?_getD, List.getElem?_replicate, if_pos ht]; rfl
    rw [P1, e]; simp [wv]
  | k + 1, hk, t, ht => by
    have ih := P1_wv s m hm hW bs hb k (by omega)
    have h8 : s.W / 8 = m := by rw [hW]; omega
    rw [P1, put1, h8]
    have hkm : k / m < 80 := by rw [Nat.div_lt_iff_lt_mul hm]; omega
    have hdm := Nat.div_add_mod k m
    have hml := Nat.mod_lt k hm
    by_cases e : t = k / m
    · subst e
      rw [List.getD_eq_getElem?_getD, List.getElem?_set_self (by rw [P1_len]; exact hkm), Option.getD_some, ih _ hkm]
      have e1 : k - k / m * m = k % m := by rw [Nat.mul_comm]; omega
      have e2 : k + 1 - k / m * m = k % m + 1 := by rw [Nat.mul_comm]; omega
      rw [e1, e2, Nat.min_eq_left (by omega), Nat.min_eq_left (by omega), wv]
      have e3 : k / m * m + k % m = k := by rw [Nat.mul_comm]; omega
      rw [e3]
      have h1 := wv_lt m bs hb (k / m) (k % m)
      have h2 : wv m bs (k / m) (k % m) * 256 < 2 ^ s.W := by
        have : 256 ^ (k % m) * 256 ≤ 2 ^ s.W := by
          rw [← Nat.pow_succ, hW, show (256 : Nat) = 2 ^ 8 from rfl, ← Nat.pow_mul]
          exact Nat.pow_le_pow_right (by decide) (by omega)
        omega
      have e4 : wv m bs (k / m) (k % m) <<< 8 = wv m bs (k / m) (k % m) * 256 := by rw [Nat.shiftLeft_eq]
      rw [Nat.mod_eq_of_lt (by rw [e4]; exact h2), ← Nat.shiftLeft_add_eq_or_of_lt (show bs.getD k 0 < 2 ^ 8 from hb k), e4]
    · rw [List.getD_eq_getElem?_getD, List.getElem?_set_ne (by omega), ← List.getD_eq_getElem?_getD, ih t ht]
      congr 1
      rcases Nat.lt_or_gt_of_ne e with h | h
      · have : (t + 1) * m ≤ k / m * m := Nat.mul_le_mul_right _ h
        have h3 : k / m * m ≤ k := Nat.div_mul_le_self k m
        rw [Nat.add_mul] at this
        omega
      · have : (k / m + 1) * m ≤ t * m := Nat.mul_le_mul_right _ h
        rw [Nat.add_mul, Nat.mul_comm (k / m) m] at this
        omega
theorem take_set {l : List Nat} {t v : Nat} (h : t < l.length) : (l.set t v).take (t + 1) = l.take t ++ [v] := by
  rw [List.take_succ_eq_append_getElem (by simpa using h)]
  simp [List.take_set_of_le (Nat.le_refl t)]
theorem take_snoc' {l : List Nat} {t : Nat} (h : t < l.length) : l.take (t + 1) = l.take t ++ [l.getD t 0] := by
  rw [List.take_succ_eq_append_getElem h]; simp [h]
def Rr (s : Sh) (kk ws : List Nat) (q : S8) : Nat → S8
  | 0 => q
  | t + 1 => rnd s (kk.getD t 0) (ws.getD t 0) (Rr s kk ws q t)
theorem Rr_R (s : Sh) (kk ks ws : List Nat) (q : S8) (n : Nat) (h : ∀ t, t < n → kk.getD t 0 = ks.getD t 0 >>> (64 - s.W)) : ∀ t, t ≤ n → Rr s kk ws q t = R s ks ws q t
  | 0, _ => rfl
  | t + 1, ht => by rw [Rr, R, Rr_R s kk ks ws q n h t (by omega), h t (by omega)]
theorem Rr_lt (s : Sh) (ks ws : List Nat) (q : S8) (h : q.lt (2 ^ s.W)) : ∀ t, (Rr s ks ws q t).lt (2 ^ s.W)
  | 0 => h
  | t + 1 => by
    obtain ⟨h1, h2, h3, h4, h5, h6, h7, h8⟩ := Rr_lt s ks ws q h t
    exact ⟨Nat.mod_lt _ (Nat.two_pow_pos _), h1, h2, h3, Nat.mod_lt _ (Nat.two_pow_pos _), h5, h6, h7⟩
end Go.Proofs.YtomfnkbghlpkeaaDoor
