/-
  What the reference hashes is the message filled up, block after block.
-/
import Derived.Test.YtomfnkbghlpkeaaDoorRM2
import Derived.Test.YtomfnkbghlpkeaaDoorG64
set_option linter.unusedVariables false
namespace Go.Proofs.YtomfnkbghlpkeaaDoor
/-- The last n bytes of a number, the highest first. -/
def be (x : Nat) : Nat → List Nat
  | 0 => []
  | n + 1 => be (x / 256) n ++ [x % 256]
theorem be_len (n : Nat) : ∀ x, (be x n).length = n := by
  induction n with
  | zero => intro x; rfl
  | succ n ih => intro x; simp [be, ih]
/-- The same, from the front. -/
theorem be_front (n : Nat) : ∀ x, be x (n + 1) = (x >>> (8 * n)) % 256 :: be x n := by
  induction n with
  | zero => intro x; simp [be]
  | succ n ih =>
    intro x
    show be (x / 256) (n + 1) ++ [x % 256] = _
    rw [ih (x / 256), show be x (n + 1) = be (x / 256) n ++ [x % 256] from rfl, List.cons_append]
    congr 2
    rw [Nat.shiftRight_eq_div_pow, Nat.shiftRight_eq_div_pow, Nat.div_div_eq_div_mul, show 2 ^ (8 * (n + 1)) = 256 * 2 ^ (8 * n) by rw [Nat.mul_add, Nat.pow_add]; omega]
theorem be_zero (n : Nat) : be 0 n = List.replicate n 0 := by
  induction n with
  | zero => rfl
  | succ n ih => show be (0 / 256) n ++ [0 % 256] = _; rw [show 0 / 256 = 0 from rfl, ih, List.replicate_succ']
theorem be_more (m n : Nat) : ∀ x, x < 256 ^ n → be x (m + n) = List.replicate m 0 ++ be x n := by
  induction n with
  | zero => intro x hx; obtain rfl : x = 0 := by simpa using hx
            rw [Nat.add_zero, be_zero]; simp [be]
  | succ n ih =>
    intro x hx
    show be (x / 256) (m + n) ++ [x % 256] = _
    rw [ih (x / 256) (by rw [Nat.pow_succ] at hx; omega), List.append_assoc]; rfl
theorem take_set' (l : List Nat) (t v : Nat) (h : t < l.length) : (l.take (t + 1)).set t v = l.take t ++ [v] := by
  rw [← List.take_set, take_set h]
theorem tailN_be (size bits : Nat) (base : List Nat) (hb : base.length = size) : ∀ i, i ≤ size → tailN size bits base i = base.take (size - i) ++ be bits i
  | 0, _ => by simp [tailN, be, ← hb]
  | i + 1, hi => by
    rw [tailN, tailN_be size bits base hb i (by omega), be_front]
    rw [List.set_append_left _ _ (by simp; omega)]
    rw [show size - i = (size - 1 - i) + 1 by omega, take_set' _ _ _ (by omega), show size - (i + 1) = size - 1 - i by omega, List.append_assoc]
    rfl
theorem padB_eq (size : Nat) (rest : List Nat) (h : rest.length < size) : padB size rest = rest ++ 128 :: List.replicate (size - rest.length - 1) 0 := by
  unfold padB
  rw [List.set_append_right _ _ (Nat.le_refl _), Nat.sub_self, show size - rest.length = (size - rest.length - 1) + 1 by omega, List.replicate_succ, List.set_cons_zero]
  simp
/-- How many noughts stand behind the 128. -/
def zeros (s : Sh) (L : Nat) : Nat := (2 * s.W - (L + 1 + s.W / 4) % (2 * s.W)) % (2 * s.W)
/-- The message, filled up. -/
def padd (s : Sh) (bs : List Nat) : List Nat := bs ++ 128 :: List.replicate (zeros s bs.length) 0 ++ be (8 * bs.length) (s.W / 4)
theorem lastB_eq (s : Sh) (rest : List Nat) (L : Nat) (h8 : 8 ≤ s.W / 4) (hr : rest.length < 2 * s.W) (hL : 8 * L < 256 ^ 8) :
    lastB s rest L = rest ++ 128 :: List.replicate ((if 2 * s.W < rest.length + 1 + s.W / 4 then 4 * s.W else 2 * s.W) - rest.length - 1 - s.W / 4) 0 ++ be (8 * L) (s.W / 4) := by
  unfold lastB
  obtain ⟨size, hs⟩ : ∃ x, x = if 2 * s.W < rest.length + 1 + s.W / 4 then 4 * s.W else 2 * s.W := ⟨_, rfl⟩
  rw [← hs]
  have hsz : rest.length + 1 + s.W / 4 ≤ size := by rw [hs]; split <;> omega
  show tailN size (L * 8) (padB size rest) 8 = _
  rw [tailN_be _ _ _ (padB_len _ _ (by omega)) 8 (by omega), padB_eq size rest (by omega), Nat.mul_comm L 8]
  obtain ⟨t, ht⟩ : ∃ t, s.W / 4 = t + 8 := ⟨s.W / 4 - 8, by omega⟩
  rw [ht] at hsz ⊢
  rw [be_more t 8 (8 * L) hL, List.take_append, List.take_of_length_le (by omega), show size - 8 - rest.length = (size - 9 - rest.length) + 1 by omega, List.take_succ_cons, List.take_replicate]
  rw [show min (size - 9 - rest.length) (size - rest.length - 1) = (size - rest.length - 1 - (t + 8)) + t by omega, ← List.replicate_append_replicate]
  simp only [List.append_assoc, List.cons_append]
theorem blks_append (s : Sh) (ks st x y : List Nat) (kx : Nat) (hx : x.length = 2 * s.W * kx) : ∀ ky, blks s ks st (x ++ y) (kx + ky) = blks s ks (blks s ks st x kx) y ky
  | 0 => by
    have : ∀ k, k ≤ kx → blks s ks st (x ++ y) k = blks s ks st x k := by
      intro k
      induction k with
      | zero => intro _; rfl
      | succ k ih =>
        intro hk
        rw [blks, blks, ih (by omega)]
        congr 1
        have h1 : 2 * s.W * k + 2 * s.W ≤ x.length := by
          rw [hx]; have := Nat.mul_le_mul_left (2 * s.W) hk; rw [Nat.mul_succ] at this; exact this
        rw [List.drop_append_of_le_length (by omega), List.take_append_of_le_length (by rw [List.length_drop]; omega)]
    exact this kx (Nat.le_refl _)
  | ky + 1 => by
    rw [show kx + (ky + 1) = (kx + ky) + 1 from rfl, blks, blks, blks_append s ks st x y kx hx ky]
    congr 1
    rw [Nat.mul_add, ← hx, List.drop_append, List.drop_of_length_le (by omega)]
    simp
theorem padd_split (s : Sh) (bs : List Nat) (hW : 32 ≤ s.W) (hL : 8 * bs.length < 256 ^ 8) :
    padd s bs = bs.take (bs.length - bs.length % (2 * s.W)) ++ lastB s (bs.drop (bs.length - bs.length % (2 * s.W))) bs.length := by
  obtain ⟨W2, hW2⟩ : ∃ x, x = 2 * s.W := ⟨_, rfl⟩
  have hm : bs.length % (2 * s.W) < 2 * s.W := Nat.mod_lt _ (by omega)
  have hle := Nat.mod_le bs.length (2 * s.W)
  have hrl : (bs.drop (bs.length - bs.length % (2 * s.W))).length = bs.length % (2 * s.W) := by rw [List.length_drop]; omega
  rw [lastB_eq s _ _ (by omega) (by rw [hrl]; exact hm) hL, hrl]
  unfold padd
  have hz : zeros s bs.length = (if 2 * s.W < bs.length % (2 * s.W) + 1 + s.W / 4 then 4 * s.W else 2 * s.W) - bs.length % (2 * s.W) - 1 - s.W / 4 := by
    unfold zeros
    have hq := Nat.div_add_mod bs.length (2 * s.W)
    obtain ⟨r, hr⟩ : ∃ r, r = bs.length % (2 * s.W) := ⟨_, rfl⟩
    have e : (bs.length + 1 + s.W / 4) % (2 * s.W) = (r + 1 + s.W / 4) % (2 * s.W) := by
      rw [hr, Nat.add_assoc, Nat.add_assoc, Nat.mod_add_mod]
    rw [e, ← hr]
    rw [← hr] at hm
    split
    · rename_i h
      rw [Nat.mod_eq_sub_mod (a := r + 1 + s.W / 4) (by omega), Nat.mod_eq_of_lt (a := r + 1 + s.W / 4 - 2 * s.W) (by omega), Nat.mod_eq_of_lt (by omega)]
      omega
    · rename_i h
      by_cases he : r + 1 + s.W / 4 = 2 * s.W
      · rw [he, Nat.mod_self, Nat.sub_zero, Nat.mod_self]; omega
      · rw [Nat.mod_eq_of_lt (a := r + 1 + s.W / 4) (by omega), Nat.mod_eq_of_lt (by omega)]; omega
  rw [hz, ← List.append_assoc, ← List.append_assoc, List.take_append_drop]
/-- The reference's digest. -/
def digR (s : Sh) (kk hf bs : List Nat) : List Nat := stB s.W (blks s kk hf (padd s bs) ((padd s bs).length / (2 * s.W))) 8
theorem padd_len (s : Sh) (bs : List Nat) (hW : 32 ≤ s.W) (hL : 8 * bs.length < 256 ^ 8) :
    (padd s bs).length = 2 * s.W * ((bs.length - bs.length % (2 * s.W)) / (2 * s.W)) + (lastB s (bs.drop (bs.length - bs.length % (2 * s.W))) bs.length).length := by
  have hle := Nat.mod_le bs.length (2 * s.W)
  have hq := Nat.div_add_mod bs.length (2 * s.W)
  rw [padd_split s bs hW hL, List.length_append, List.length_take, Nat.min_eq_left (by omega)]
  congr 1
  rw [show bs.length - bs.length % (2 * s.W) = 2 * s.W * (bs.length / (2 * s.W)) by omega, Nat.mul_div_cancel_left _ (by omega)]
theorem digR_dig (s : Sh) (hs ks bs : List Nat) (hW : 32 ≤ s.W) (hL : 8 * bs.length < 256 ^ 8) : digR s ks (initN s.W hs 8) bs = dig s hs ks bs := by
  unfold digR dig
  have hle := Nat.mod_le bs.length (2 * s.W)
  have hm : bs.length % (2 * s.W) < 2 * s.W := Nat.mod_lt _ (by omega)
  have hq := Nat.div_add_mod bs.length (2 * s.W)
  have hwh : bs.length - bs.length % (2 * s.W) = 2 * s.W * ((bs.length - bs.length % (2 * s.W)) / (2 * s.W)) := by
    rw [show bs.length - bs.length % (2 * s.W) = 2 * s.W * (bs.length / (2 * s.W)) by omega, Nat.mul_div_cancel_left _ (by omega)]
  rw [padd_len s bs hW hL, Nat.mul_add_div (by omega), padd_split s bs hW hL]
  show stB s.W (blks s ks _ _ _) 8 = stB s.W (blks s ks (blks s ks _ _ _) _ _) 8
  rw [blks_append]
  rw [List.length_take, Nat.min_eq_left (by omega)]
  exact hwh
end Go.Proofs.YtomfnkbghlpkeaaDoor
