/-
  The reference: Add, Sub, Mul, Int.
-/
import Derived.Test.YtpfcboakafbnlaaDoorR5
set_option linter.unusedVariables false
namespace Go.Proofs.YtpfcboakafbnlaaDoor
open Go.RowKit Go.Sort Go.BigFrame
set_option maxRecDepth 100000
set_option maxHeartbeats 2000000
theorem add23 (a : Option Addr) (la ca : Nat) (x : List Nat) (b : Option Addr) (lb cb : Nat) (y : List Nat) (w : World) (hx : x.length = la) (hy : y.length = lb) (hla : la ≤ 5000) (hlb : lb ≤ 5000)
    (ha : IView w a x) (hb : IView w b y) (dx : Dig x) (dy : Dig y) :
    Calls Tryd.prog 43 #[.slice a la ca, .slice b lb cb] w fun e w' => ∃ g, e = .returned (.slice (some ⟨g, 0, none⟩) 32 32) ∧ RelR w w' g (digs 32 ((valD x + valD y) % pp)) := by
  have cP := plus32 a la ca x b lb cb y w hx hy (by omega) (by omega) ha hb dx dy
  have hlt : valD x + valD y < 256 ^ (max la lb + 1) := by
    have h1 := valD_lt dx
    have h2 := valD_lt dy
    rw [hx] at h1
    rw [hy] at h2
    have h3 : 256 ^ la ≤ 256 ^ max la lb := Nat.pow_le_pow_right (by decide) (by omega)
    have h4 : 256 ^ lb ≤ 256 ^ max la lb := Nat.pow_le_pow_right (by decide) (by omega)
    rw [Nat.pow_succ]
    omega
  have hv := valD_digs_lt hlt
  obtain ⟨n, hn⟩ : ∃ n, n = max la lb + 1 := ⟨_, rfl⟩
  have hn2 : n ≤ 10000 := by omega
  rw [← hn] at cP hv
  obtain ⟨S, hS⟩ : ∃ S, S = valD x + valD y := ⟨_, rfl⟩
  rw [← hS] at cP hv ⊢
  clear hn hS hlt hx hy
  have cF := fun w1 g (h : w1.heap[g]? = some (.cells (ints .i64 (digs n S)) 3 (0, 0))) => fold38 (some ⟨g, 0, none⟩) n n (digs n S) w1 (digs_len _ _) (Nat.le_refl _) (by omega) (by omega) (digs_dig _ _) (fun _ => ⟨g, 0, rfl, ints_row h⟩)
  rw [hv] at cF
  clear hv ha hb
  go_enter Tryd.func43, Tryd.ntmps43
  go_wp2_with fail
  refine cP.mono ?_
  rintro e w1 ⟨g1, rfl, hR1⟩
  go_wp2_with fail
  refine (cF w1 g1 hR1.2.2).mono ?_
  rintro e w2 ⟨g2, rfl, hR2⟩
  go_wp2
  go_ret
  exact ⟨g2, rfl, hR1.1.trans (hR2.1.mono hR1.1.size), Nat.le_trans hR1.1.size hR2.2.1, hR2.2.2⟩
theorem mul25 (a : Option Addr) (la ca : Nat) (x : List Nat) (b : Option Addr) (lb cb : Nat) (y : List Nat) (w : World) (hx : x.length = la) (hy : y.length = lb) (hla : la ≤ 4000) (hlb : lb ≤ 4000)
    (ha : IView w a x) (hb : IView w b y) (dx : Dig x) (dy : Dig y) :
    Calls Tryd.prog 41 #[.slice a la ca, .slice b lb cb] w fun e w' => ∃ g, e = .returned (.slice (some ⟨g, 0, none⟩) 32 32) ∧ RelR w w' g (digs 32 (valD x * valD y % pp)) := by
  have cP := times44 a la ca x b lb cb y w hx hy (by omega) (by omega) ha hb dx dy
  have hlt : valD x * valD y < 256 ^ (la + lb + 1) := by
    have h1 := valD_lt dx
    have h2 := valD_lt dy
    rw [hx] at h1
    rw [hy] at h2
    have h3 : valD x * valD y ≤ 256 ^ la * 256 ^ lb := Nat.mul_le_mul (Nat.le_of_lt h1) (Nat.le_of_lt h2)
    rw [Nat.pow_succ, Nat.pow_add]
    have := Nat.mul_pos (pos256 la) (pos256 lb)
    omega
  have hv := valD_digs_lt hlt
  obtain ⟨n, hn⟩ : ∃ n, n = la + lb + 1 := ⟨_, rfl⟩
  have hn2 : n ≤ 10000 := by omega
  rw [← hn] at cP hv
  obtain ⟨S, hS⟩ : ∃ S, S = valD x * valD y := ⟨_, rfl⟩
  rw [← hS] at cP hv ⊢
  clear hn hS hlt hx hy
  have cF := fun w1 g (h : w1.heap[g]? = some (.cells (ints .i64 (digs n S)) 3 (0, 0))) => fold38 (some ⟨g, 0, none⟩) n n (digs n S) w1 (digs_len _ _) (Nat.le_refl _) (by omega) (by omega) (digs_dig _ _) (fun _ => ⟨g, 0, rfl, ints_row h⟩)
  rw [hv] at cF
  clear hv ha hb
  go_enter Tryd.func41, Tryd.ntmps41
  go_wp2_with fail
  refine cP.mono ?_
  rintro e w1 ⟨g1, rfl, hR1⟩
  go_wp2_with fail
  refine (cF w1 g1 hR1.2.2).mono ?_
  rintro e w2 ⟨g2, rfl, hR2⟩
  go_wp2
  go_ret
  exact ⟨g2, rfl, hR1.1.trans (hR2.1.mono hR1.1.size), Nat.le_trans hR1.1.size hR2.2.1, hR2.2.2⟩
theorem sub21 (a : Option Addr) (ca : Nat) (x : List Nat) (b : Option Addr) (cb : Nat) (y : List Nat) (w : World) (hx : x.length = 32) (hy : y.length = 32)
    (ha : IView w a x) (hb : IView w b y) (dx : Dig x) (dy : Dig y) (hle : valD y ≤ pp) :
    Calls Tryd.prog 42 #[.slice a 32 ca, .slice b 32 cb] w fun e w' => ∃ g, e = .returned (.slice (some ⟨g, 0, none⟩) 32 32) ∧ RelR w w' g (digs 32 ((valD x + pp - valD y) % pp)) := by
  have hvp : valD (digs 32 pp) = pp := by decide
  have cP := fun w1 g (hB : Below w.heap.size w w1) (h : w1.heap[g]? = some (.cells (ints .i64 (digs 32 pp)) 3 (0, 0))) => plus32 a 32 ca x (some ⟨g, 0, none⟩) 32 32 (digs 32 pp) w1 hx (digs_len _ _) (by omega) (by omega) (ha.below hB) (fun _ => ⟨g, 0, rfl, ints_row h⟩) dx (digs_dig _ _)
  rw [hvp] at cP
  have hx32 : valD x < 256 ^ 32 := by have := valD_lt dx; rwa [hx] at this
  have hlt : valD x + pp < 256 ^ 33 := by
    have : pp < 256 ^ 32 := by decide
    rw [Nat.pow_succ]; omega
  have hv := valD_digs_lt hlt
  have cM := fun w1 g (hB : Below w.heap.size w w1) (h : w1.heap[g]? = some (.cells (ints .i64 (digs 33 (valD x + pp))) 3 (0, 0))) => minus40 (some ⟨g, 0, none⟩) 33 33 (digs 33 (valD x + pp)) b 32 cb y w1 (digs_len _ _) hy (by omega) (by omega) (fun _ => ⟨g, 0, rfl, ints_row h⟩) (hb.below hB) (digs_dig _ _) dy (by omega) (by show _ ≤ _; rw [hv]; omega)
  rw [hv] at cM
  have hv2 : valD (digs 33 (valD x + pp - valD y)) = valD x + pp - valD y := valD_digs_lt (by omega)
  obtain ⟨S, hS⟩ : ∃ S, S = valD x + pp - valD y := ⟨_, rfl⟩
  rw [← hS] at cM hv2 ⊢
  have cF := fun w1 g (h : w1.heap[g]? = some (.cells (ints .i64 (digs 33 S)) 3 (0, 0))) => fold38 (some ⟨g, 0, none⟩) 33 33 (digs 33 S) w1 (digs_len _ _) (Nat.le_refl _) (by omega) (by omega) (digs_dig _ _) (fun _ => ⟨g, 0, rfl, ints_row h⟩)
  rw [hv2] at cF
  obtain ⟨D, hD⟩ : ∃ D, D = digs 33 (valD x + pp) := ⟨_, rfl⟩
  change ∀ w1 g, _ → _ → Calls _ _ _ _ (fun e w' => ∃ g, e = .returned (.slice (some ⟨g, 0, none⟩) 33 33) ∧ RelR w1 w' g (digs 33 (valD x + pp))) at cP
  rw [← hD] at cP cM
  clear hv hv2 hD hS hlt hx32 hx hy hle ha hb hvp
  go_enter Tryd.func42, Tryd.ntmps42
  go_wp2_with fail
  refine (p12 _).mono ?_
  rintro e w0 ⟨g0, rfl, hR0⟩
  go_wp2_with fail
  refine (cP w0 g0 hR0.1 hR0.2.2).mono ?_
  rintro e w1 ⟨g1, rfl, hR1⟩
  have hB1 := hR0.1.trans (hR1.1.mono hR0.1.size)
  go_wp2_with fail
  refine (cM w1 g1 hB1 hR1.2.2).mono ?_
  rintro e w2 ⟨g2, rfl, hR2⟩
  have hB2 := hB1.trans (hR2.1.mono hB1.size)
  go_wp2_with fail
  refine (cF w2 g2 hR2.2.2).mono ?_
  rintro e w3 ⟨g3, rfl, hR3⟩
  go_wp2
  go_ret
  exact ⟨g3, rfl, hB2.trans (hR3.1.mono hB2.size), Nat.le_trans hB2.size hR3.2.1, hR3.2.2⟩
end Go.Proofs.YtpfcboakafbnlaaDoor
