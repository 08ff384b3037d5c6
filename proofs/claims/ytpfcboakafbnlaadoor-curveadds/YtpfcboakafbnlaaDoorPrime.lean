/-
  2^255 - 19 is a prime, and what follows: an element but 0 to the power of p - 1 is 1. Plain mathematics: nothing of the program stands here.
-/
import Derived.Test.YtpfcboakafbnlaaDoorMath
set_option linter.unusedVariables false
namespace Go.Proofs.YtpfcboakafbnlaaDoor
/-- A prime. -/
def Pr (n : Nat) : Prop := 2 ≤ n ∧ ∀ d, d ∣ n → d = 1 ∨ d = n
theorem Pr.cop {p a : Nat} (h : Pr p) (ha : ¬ p ∣ a) : Nat.Coprime p a := by
  rcases h.2 _ (Nat.gcd_dvd_left p a) with h1 | h1
  · exact h1
  · exact absurd (by rw [← h1]; exact Nat.gcd_dvd_right p a) ha
theorem Pr.dvd {p a b : Nat} (h : Pr p) (hd : p ∣ a * b) : p ∣ a ∨ p ∣ b := by
  by_cases ha : p ∣ a
  · exact .inl ha
  · exact .inr ((h.cop ha).dvd_of_dvd_mul_left hd)
theorem ex_prime : ∀ n, 2 ≤ n → ∃ r, Pr r ∧ r ∣ n := by
  intro n
  induction n using Nat.strongRecOn with
  | _ n ih =>
    intro hn
    by_cases hp : Pr n
    · exact ⟨n, hp, Nat.dvd_refl n⟩
    · have : ∃ d, d ∣ n ∧ d ≠ 1 ∧ d ≠ n := by
        apply Classical.byContradiction
        intro hno
        apply hp
        refine ⟨hn, fun d hd => ?_⟩
        by_cases h1 : d = 1
        · exact .inl h1
        · by_cases h2 : d = n
          · exact .inr h2
          · exact absurd ⟨d, hd, h1, h2⟩ hno
      obtain ⟨d, hd, h1, h2⟩ := this
      have hdn : d ≤ n := Nat.le_of_dvd (by omega) hd
      have hd0 : d ≠ 0 := fun h => by subst h; have := Nat.eq_zero_of_zero_dvd hd; omega
      obtain ⟨r, hr, hrd⟩ := ih d (by omega) (by omega)
      exact ⟨r, hr, Nat.dvd_trans hrd hd⟩
/- binomials -/
def ch : Nat → Nat → Nat
  | _, 0 => 1
  | 0, _ + 1 => 0
  | n + 1, k + 1 => ch n k + ch n (k + 1)
theorem ch_big : ∀ n k, n < k → ch n k = 0
  | 0, k + 1, _ => rfl
  | n + 1, k + 1, h => by rw [ch, ch_big n k (by omega), ch_big n (k + 1) (by omega)]
theorem ch_self : ∀ n, ch n n = 1
  | 0 => rfl
  | n + 1 => by rw [ch, ch_self n, ch_big n (n + 1) (by omega)]
theorem ch_zero (n : Nat) : ch n 0 = 1 := by cases n <;> rfl
theorem ch_absorb : ∀ n k, (k + 1) * ch (n + 1) (k + 1) = (n + 1) * ch n k
  | 0, 0 => rfl
  | 0, k + 1 => by simp [ch]
  | n + 1, 0 => by
    have h := ch_absorb n 0
    rw [ch_zero] at h ⊢
    rw [ch, ch_zero]
    omega
  | n + 1, k + 1 => by
    have h1 := ch_absorb n k
    have h2 := ch_absorb n (k + 1)
    rw [ch]
    have e : ch (n + 1) (k + 1) = ch n k + ch n (k + 1) := rfl
    have e1 : (k + 1 + 1) * (ch (n + 1) (k + 1) + ch (n + 1) (k + 1 + 1)) = (k + 1) * ch (n + 1) (k + 1) + ch (n + 1) (k + 1) + (k + 1 + 1) * ch (n + 1) (k + 1 + 1) := by grind
    rw [e1, h1, h2, e]
    grind
def T (n x : Nat) : Nat → Nat
  | 0 => 0
  | k + 1 => T n x k + ch n k * x ^ k
theorem T_succ (n x : Nat) : ∀ k, T (n + 1) x (k + 1) = x * T n x k + T n x (k + 1)
  | 0 => by simp [T, ch_zero]
  | k + 1 => by
    have ih := T_succ n x k
    rw [T, ih]
    have e : ch (n + 1) (k + 1) = ch n k + ch n (k + 1) := rfl
    have e2 : T n x (k + 1 + 1) = T n x (k + 1) + ch n (k + 1) * x ^ (k + 1) := rfl
    have e3 : T n x (k + 1) = T n x k + ch n k * x ^ k := rfl
    rw [e, e2, e3, Nat.pow_succ]
    grind
theorem binom (x : Nat) : ∀ n, (x + 1) ^ n = T n x (n + 1)
  | 0 => by simp [T, ch]
  | n + 1 => by
    have e : T n x (n + 1 + 1) = T n x (n + 1) := by rw [T, ch_big n (n + 1) (by omega)]; simp
    rw [T_succ, e, ← binom x n, Nat.pow_succ]
    grind
theorem T_mod {p : Nat} (hp : Pr p) (x : Nat) : ∀ k, k < p → T p x (k + 1) % p = 1 % p
  | 0, _ => by simp [T, ch_zero]
  | k + 1, h => by
    have ih := T_mod hp x k (by omega)
    have h1 : p ∣ ch p (k + 1) := by
      obtain ⟨q, rfl⟩ : ∃ q, p = q + 1 := ⟨p - 1, by omega⟩
      have := ch_absorb q k
      rcases hp.dvd (⟨ch q k, this⟩ : (q + 1) ∣ (k + 1) * ch (q + 1) (k + 1)) with h2 | h2
      · exact absurd (Nat.le_of_dvd (by omega) h2) (by omega)
      · exact h2
    obtain ⟨c, hc⟩ := h1
    rw [T, hc, Nat.mul_assoc, Nat.add_mul_mod_self_left, ih]
theorem frob {p : Nat} (hp : Pr p) (x : Nat) : (x + 1) ^ p % p = (x ^ p + 1) % p := by
  obtain ⟨q, rfl⟩ : ∃ q, p = q + 1 := ⟨p - 1, by have := hp.1; omega⟩
  have h1 := T_mod hp x q (by omega)
  rw [binom, T, ch_self, Nat.one_mul, Nat.add_mod, h1, ← Nat.add_mod, Nat.add_comm]
theorem fermat {p : Nat} (hp : Pr p) : ∀ a, a ^ p % p = a % p
  | 0 => by rw [Nat.zero_pow (by have := hp.1; omega)]
  | a + 1 => by rw [frob hp, Nat.add_mod, fermat hp a, ← Nat.add_mod]
theorem fermat1 {p a : Nat} (hp : Pr p) (ha : ¬ p ∣ a) : a ^ (p - 1) % p = 1 := by
  have h2 := hp.1
  have h := fermat hp a
  have e : a ^ p = a * a ^ (p - 1) := by rw [← Nat.pow_succ', show (p - 1).succ = p by omega]
  have hpos : 0 < a := by
    rcases Nat.eq_zero_or_pos a with h0 | h0
    · exact absurd (by rw [h0]; exact Nat.dvd_zero p) ha
    · exact h0
  have hge : 1 ≤ a ^ (p - 1) := Nat.pow_pos hpos
  have hd : p ∣ a * (a ^ (p - 1) - 1) := by
    rw [Nat.mul_sub, Nat.mul_one, ← e]
    exact Nat.dvd_of_mod_eq_zero (Nat.sub_mod_eq_zero_of_mod_eq h)
  rcases hp.dvd hd with h3 | h3
  · exact absurd h3 ha
  · obtain ⟨c, hc⟩ := h3
    have : a ^ (p - 1) = 1 + p * c := by omega
    rw [this, Nat.add_mul_mod_self_left, Nat.mod_eq_of_lt (by omega)]
/- powers modulo m -/
def pmod (m : Nat) : Nat → Nat → Nat → Nat → Nat
  | 0, _, _, acc => acc % m
  | f + 1, b, e, acc => pmod m f (b * b % m) (e / 2) (bif Nat.beq (e % 2) 1 then acc * b % m else acc)
theorem pmod_eq (m : Nat) : ∀ f b e acc, e < 2 ^ f → pmod m f b e acc = acc * b ^ e % m
  | 0, b, e, acc, h => by
    obtain rfl : e = 0 := by simpa using h
    simp [pmod]
  | f + 1, b, e, acc, h => by
    rw [pmod, pmod_eq m f _ _ _ (by rw [Nat.pow_succ] at h; omega)]
    have hb : (b * b % m) ^ (e / 2) % m = (b ^ (2 * (e / 2))) % m := by rw [← Nat.pow_mod, Nat.pow_mul, Nat.pow_two]
    have h2 : e % 2 = 0 ∨ e % 2 = 1 := by omega
    rcases h2 with h2 | h2
    · rw [h2]
      show acc * (b * b % m) ^ (e / 2) % m = _
      rw [Nat.mul_mod, hb, ← Nat.mul_mod, show 2 * (e / 2) = e by omega]
    · rw [h2]
      show (acc * b % m) * (b * b % m) ^ (e / 2) % m = _
      rw [Nat.mod_mul_mod, Nat.mul_mod, hb, ← Nat.mul_mod, Nat.mul_assoc, ← Nat.pow_succ', show (2 * (e / 2)).succ = e by omega]
theorem pmod_one {m b e : Nat} (f v : Nat) (he : e < 2 ^ f) (h : pmod m f b e 1 = v) : b ^ e % m = v := by
  rw [pmod_eq m f b e 1 he, Nat.one_mul] at h; exact h
/- exponents that give 1 -/
theorem one_mul_pow {r a m : Nat} (h : a ^ m % r = 1 % r) (k : Nat) : a ^ (m * k) % r = 1 % r := by
  rw [Nat.pow_mul, Nat.pow_mod, h, ← Nat.pow_mod, Nat.one_pow]
theorem one_gcd {r a : Nat} : ∀ m n, a ^ m % r = 1 % r → a ^ n % r = 1 % r → a ^ Nat.gcd m n % r = 1 % r := by
  intro m n
  induction m, n using Nat.gcd.induction with
  | H0 n => intro _ h; simpa using h
  | H1 m n hm ih =>
    intro h1 h2
    rw [Nat.gcd_rec]
    refine ih ?_ h1
    have e : a ^ n = a ^ (n % m) * a ^ (m * (n / m)) := by rw [← Nat.pow_add, Nat.mod_add_div]
    rw [e, Nat.mul_mod, one_mul_pow h1, ← Nat.mul_mod, Nat.mul_one] at h2
    exact h2
/-- One prime q of N - 1: every prime of N is 1 more than a multiple of q. -/
theorem pock {N q M a r : Nat} (hq : Pr q) (hN : N = q * M + 1) (h1 : a ^ (q * M) % N = 1 % N) (h2 : Nat.gcd (a ^ M - 1) N = 1) (ha : 0 < a) (hr : Pr r) (hrN : r ∣ N) : q ∣ r - 1 := by
  apply Classical.byContradiction
  intro hno
  have hr1 : a ^ (q * M) % r = 1 % r := by
    rw [← Nat.mod_mod_of_dvd _ hrN, h1, Nat.mod_mod_of_dvd _ hrN]
  have hra : ¬ r ∣ a := fun h => by
    have h3 : r ∣ a ^ (q * M) ∨ q * M = 0 := by
      rcases Nat.eq_zero_or_pos (q * M) with h0 | h0
      · exact .inr h0
      · obtain ⟨k, hk⟩ : ∃ k, q * M = k + 1 := ⟨q * M - 1, by omega⟩
        exact .inl (by rw [hk, Nat.pow_succ]; exact Nat.dvd_trans h (Nat.dvd_mul_left _ _))
    have h4 := hr.1
    rcases h3 with h3 | h3
    · have := Nat.mod_eq_zero_of_dvd h3
      rw [this, Nat.mod_eq_of_lt (by omega)] at hr1
      omega
    · rw [h3] at hN
      have := Nat.le_of_dvd (by omega) hrN
      omega
  have hf : a ^ (r - 1) % r = 1 % r := by rw [fermat1 hr hra, Nat.mod_eq_of_lt (by have := hr.1; omega)]
  have hg := one_gcd _ _ hf hr1
  have hgd : Nat.gcd (r - 1) (q * M) ∣ M := by
    have hcop : Nat.Coprime (Nat.gcd (r - 1) (q * M)) q := by
      have := hq.cop (a := Nat.gcd (r - 1) (q * M)) (fun h => hno (Nat.dvd_trans h (Nat.gcd_dvd_left _ _)))
      exact this.symm
    exact hcop.dvd_of_dvd_mul_left (Nat.gcd_dvd_right _ _)
  obtain ⟨k, hk⟩ := hgd
  have hM : a ^ M % r = 1 % r := by rw [hk]; exact one_mul_pow hg k
  have hge : 1 ≤ a ^ M := Nat.pow_pos ha
  have hd : r ∣ a ^ M - 1 := Nat.dvd_of_mod_eq_zero (Nat.sub_mod_eq_zero_of_mod_eq hM)
  have : r ∣ 1 := by rw [← h2]; exact Nat.dvd_gcd hd hrN
  have := Nat.le_of_dvd (by decide) this
  have := hr.1
  omega
theorem gcd_mod {a M N v : Nat} (ha : 0 < a) (h : a ^ M % N = v) (hv : 1 ≤ v) (hg : Nat.gcd (v - 1) N = 1) : Nat.gcd (a ^ M - 1) N = 1 := by
  have hge : 1 ≤ a ^ M := Nat.pow_pos ha
  have e : a ^ M - 1 = (v - 1) + N * (a ^ M / N) := by
    have := Nat.mod_add_div (a ^ M) N
    omega
  rw [e, Nat.mul_comm N, Nat.gcd_add_mul_right_left]
  exact hg
/-- A number all of whose primes are beyond its root is a prime. -/
theorem pr_of_big {N F : Nat} (hN : 2 ≤ N) (hF : N < (F + 1) * (F + 1)) (h : ∀ r, Pr r → r ∣ N → F ∣ r - 1) : Pr N := by
  have hbig : ∀ d, d ∣ N → d ≠ 1 → F + 1 ≤ d := fun d hd h1 => by
    have hd0 : 0 < d := Nat.pos_of_ne_zero fun h0 => by subst h0; have := Nat.eq_zero_of_zero_dvd hd; omega
    obtain ⟨r, hr, hrd⟩ := ex_prime d (by omega)
    have h2 := h r hr (Nat.dvd_trans hrd hd)
    have h3 := Nat.le_of_dvd (by have := hr.1; omega) h2
    have h4 := Nat.le_of_dvd hd0 hrd
    have := hr.1
    omega
  refine ⟨hN, fun d hd => ?_⟩
  obtain ⟨e, he⟩ := hd
  by_cases h1 : d = 1
  · exact .inl h1
  · by_cases h2 : e = 1
    · right; rw [he, h2, Nat.mul_one]
    · have b1 := hbig d ⟨e, he⟩ h1
      have b2 := hbig e ⟨d, by rw [he, Nat.mul_comm]⟩ h2
      have := Nat.mul_le_mul b1 b2
      rw [← he] at this
      omega
/- small primes, by trial -/
def noDiv (n : Nat) : Nat → Bool
  | 0 => true
  | k + 1 => (Nat.ble (k + 1) 1 || !(Nat.beq (n % (k + 1)) 0)) && noDiv n k
theorem noDiv_spec (n : Nat) : ∀ K, noDiv n K = true → ∀ d, 2 ≤ d → d ≤ K → ¬ d ∣ n
  | 0, _, d, h1, h2 => by omega
  | K + 1, h, d, h1, h2 => by
    rw [noDiv, Bool.and_eq_true] at h
    by_cases he : d = K + 1
    · subst he
      intro hd
      have h3 := h.1
      rw [Nat.mod_eq_zero_of_dvd hd] at h3
      simp at h3
      omega
    · exact noDiv_spec n K h.2 d h1 (by omega)
theorem pr_small {n : Nat} (K : Nat) (hn : 2 ≤ n) (hK : n < (K + 1) * (K + 1)) (h : noDiv n K = true) : Pr n := by
  have hs := noDiv_spec n K h
  refine ⟨hn, fun d hd => ?_⟩
  obtain ⟨e, he⟩ := hd
  by_cases h1 : d = 1
  · exact .inl h1
  · by_cases h2 : e = 1
    · right; rw [he, h2, Nat.mul_one]
    · exfalso
      have hd0 : d ≠ 0 := fun h0 => by subst h0; omega
      have he0 : e ≠ 0 := fun h0 => by subst h0; omega
      have b1 : K < d := Nat.lt_of_not_le fun hle => hs d (by omega) hle ⟨e, he⟩
      have b2 : K < e := Nat.lt_of_not_le fun hle => hs e (by omega) hle ⟨d, by rw [he, Nat.mul_comm]⟩
      have : (K + 1) * (K + 1) ≤ d * e := Nat.mul_le_mul b1 b2
      rw [← he] at this
      omega
theorem two_dvd {q q' n : Nat} (hc : Nat.gcd q q' = 1) (h1 : q ∣ n) (h2 : q' ∣ n) : q * q' ∣ n := Nat.Coprime.mul_dvd_of_dvd_of_dvd hc h1 h2
/-- The certificate's step, with two primes. -/
theorem pock2 {N q q' a : Nat} (M M' f v v' : Nat) (hq : Pr q) (hq' : Pr q') (hN : N = q * M + 1) (hN' : N = q' * M' + 1) (ha : 0 < a) (h1 : N - 1 < 2 ^ f) (e0 : pmod N f a (N - 1) 1 = 1) (e1 : pmod N f a M 1 = v) (e2 : pmod N f a M' 1 = v')
    (g1 : Nat.gcd (v - 1) N = 1) (g2 : Nat.gcd (v' - 1) N = 1) (hv : 1 ≤ v) (hv' : 1 ≤ v') (hc : Nat.gcd q q' = 1) (hF : N < (q * q' + 1) * (q * q' + 1)) (h2 : 2 ≤ N) (hM : M < 2 ^ f) (hM' : M' < 2 ^ f) : Pr N := by
  have hp := pmod_one f 1 h1 e0
  have hone : 1 % N = 1 := Nat.mod_eq_of_lt (by omega)
  refine pr_of_big (F := q * q') h2 hF fun r hr hrN => two_dvd hc ?_ ?_
  · exact pock hq hN (by rw [hone, ← hp]; congr 2; omega) (gcd_mod ha (pmod_one f v hM e1) hv g1) ha hr hrN
  · exact pock hq' hN' (by rw [hone, ← hp]; congr 2; omega) (gcd_mod ha (pmod_one f v' hM' e2) hv' g2) ha hr hrN
theorem pr127 : Pr 127 := pr_small 11 (by decide) (by decide) (by kernel_rfl)
theorem pr8574133 : Pr 8574133 := pr_small 2928 (by decide) (by decide) (by kernel_rfl)
theorem pr75707 : Pr 75707 := pr_small 275 (by decide) (by decide) (by kernel_rfl)
theorem pr1923133 : Pr 1923133 := pr_small 1386 (by decide) (by decide) (by kernel_rfl)
theorem pr65147 : Pr 65147 := pr_small 255 (by decide) (by decide) (by kernel_rfl)
theorem prq3 : Pr 1919519569386763 :=
  pock2 (N := 1919519569386763) (q := 8574133) (q' := 127) (a := 2) 223873314 15114327318006 51 1059928654987441 576774792492622 pr8574133 pr127 (by decide) (by decide) (by decide) (by decide) (by kernel_rfl) (by kernel_rfl) (by kernel_rfl) (by kernel_rfl) (by kernel_rfl) (by decide) (by decide) (by kernel_rfl) (by decide) (by decide) (by decide) (by decide)
theorem prq2 : Pr 75445702479781427272750846543864801 :=
  pock2 (N := 75445702479781427272750846543864801) (q := 1919519569386763) (q' := 75707) (a := 2) 39304471641247389600 996548568557483816196003626400 116 56747016255153332959347766392083459 58781699294900834553279248901967638 prq3 pr75707 (by decide) (by decide) (by decide) (by decide) (by kernel_rfl) (by kernel_rfl) (by kernel_rfl) (by kernel_rfl) (by kernel_rfl) (by decide) (by decide) (by kernel_rfl) (by decide) (by decide) (by decide) (by decide)
theorem prq1 : Pr 74058212732561358302231226437062788676166966415465897661863160754340907 :=
  pock2 (N := 74058212732561358302231226437062788676166966415465897661863160754340907) (q := 75445702479781427272750846543864801) (q' := 1923133) (a := 2) 981609426360740691344999861639072106 38509147694185143878364744631319200843710219946028640589009268082 236 69490809710348678725736597923071784769591275419387514694139338586948360 52266576830164329332527201090776533817489900267135412990654516667243924 prq2 pr1923133 (by decide) (by decide) (by decide) (by decide) (by kernel_rfl) (by kernel_rfl) (by kernel_rfl) (by kernel_rfl) (by kernel_rfl) (by decide) (by decide) (by kernel_rfl) (by decide) (by decide) (by decide) (by decide)
theorem pr_pp0 : Pr 57896044618658097711785492504343953926634992332820282019728792003956564819949 :=
  pock2 (N := 57896044618658097711785492504343953926634992332820282019728792003956564819949) (q := 74058212732561358302231226437062788676166966415465897661863160754340907) (q' := 65147) (a := 2) 781764 888698552790736299626774717244753464114003596985590771942357929052090884 255 427094198651976259540344842774561673889945192655078505504941250475370961481 22602559476203468486837656474023958799180643873278202064348025470901666305470 prq1 pr65147 (by decide) (by decide) (by decide) (by decide) (by kernel_rfl) (by kernel_rfl) (by kernel_rfl) (by kernel_rfl) (by kernel_rfl) (by decide) (by decide) (by kernel_rfl) (by decide) (by decide) (by decide) (by decide)
theorem pr_pp : Pr pp := pr_pp0
theorem pp_fermat {a : Nat} (ha : a % pp ≠ 0) : a ^ (pp - 1) % pp = 1 := fermat1 pr_pp fun h => ha (Nat.mod_eq_zero_of_dvd h)
theorem pp_inv {a X : Nat} (hX : X + 1 = pp - 1) (ha : a % pp ≠ 0) : a * a ^ X % pp = 1 := by
  have h := pp_fermat ha
  rw [← Nat.pow_succ', Nat.succ_eq_add_one, hX]
  exact h
end Go.Proofs.YtpfcboakafbnlaaDoor
