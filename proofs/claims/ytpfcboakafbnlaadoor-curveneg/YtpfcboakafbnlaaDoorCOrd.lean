/-
  The base: L of it are the neutral one, and fewer than 256 are not. Plain mathematics: nothing of the program stands here.
-/
import Derived.Test.YtpfcboakafbnlaaDoorCBase
set_option linter.unusedVariables false
namespace Go.Proofs.YtpfcboakafbnlaaDoor
def bxN : Nat := 15112221349535400772501151409588531511454012693041857206046113283949847762202
def byN : Nat := 46316835694926478169428394003475163141307993866256225615783033603165251855960
theorem base_on : On (fe bxN) (fe byN) := by
  unfold On
  show (fe byN * fe byN - fe bxN * fe bxN : Fe) = 1 + dd * (fe bxN * fe bxN) * (fe byN * fe byN)
  decide
/-- The base. -/
def bp : Pt := ⟨fe bxN, fe byN, base_on⟩
theorem bp_ne : bp ≠ Pt.zero := fun h => absurd (congrArg (fun p => p.x.val) h) (by decide)
/- By the kernel: numbers are found one by one. -/
def force {α : Type} (n : Nat) (k : Nat → α) : α :=
  match n with
  | 0 => k 0
  | m + 1 => k (m + 1)
theorem force_eq {α : Type} (n : Nat) (k : Nat → α) : force n k = k n := by cases n <;> rfl
def d2N : Nat := 16295367250680780974490674513165176452449235426866156013048779062215315747161
def qadd (X1 Y1 Z1 T1 X2 Y2 Z2 T2 : Nat) (k : Nat → Nat → Nat → Nat → Bool) : Bool :=
  force ((Y1 + (pp - X1)) * (Y2 + (pp - X2)) % pp) fun A =>
  force ((Y1 + X1) * (Y2 + X2) % pp) fun B =>
  force (d2N * T1 * T2 % pp) fun C =>
  force (2 * Z1 * Z2 % pp) fun D =>
  force ((B + (pp - A)) % pp) fun E =>
  force ((D + (pp - C)) % pp) fun F =>
  force ((D + C) % pp) fun G =>
  force ((B + A) % pp) fun H =>
  force (E * F % pp) fun X =>
  force (G * H % pp) fun Y =>
  force (F * G % pp) fun Z =>
  force (E * H % pp) fun T => k X Y Z T
theorem fe_sub {a b : Nat} (h : b ≤ pp) : fe (a + (pp - b)) = fe a - fe b := by
  have h1 : fe (pp - b) + fe b = 0 := by
    rw [← fe_add, Nat.sub_add_cancel h]
    exact fe_eq (by rw [Nat.mod_self]; rfl)
  rw [fe_add]
  grobner
theorem d2_eq : fe d2N = 2 * dd := by decide
def RepN (X Y Z T : Nat) (p : Pt) : Prop := X < pp ∧ Rep (fe X) (fe Y) (fe Z) (fe T) p
theorem modlt (n : Nat) : n % pp < pp := Nat.mod_lt _ (by decide)
theorem qadd_spec {X1 Y1 Z1 T1 X2 Y2 Z2 T2 : Nat} {p q : Pt} (h1 : RepN X1 Y1 Z1 T1 p) (h2 : RepN X2 Y2 Z2 T2 q) (k : Nat → Nat → Nat → Nat → Bool) :
    ∃ X Y Z T, RepN X Y Z T (p.add q) ∧ qadd X1 Y1 Z1 T1 X2 Y2 Z2 T2 k = k X Y Z T := by
  unfold qadd
  simp only [force_eq]
  refine ⟨_, _, _, _, ⟨modlt _, ?_⟩, rfl⟩
  simp only [fe_mod, fe_mul]
  refine rep_add h1.2 h2.2 (A := fe _) (B := fe _) (C := fe _) (D := fe _) ?_ ?_ ?_ ?_ (fe_sub (Nat.le_of_lt (modlt _))) (fe_sub (Nat.le_of_lt (modlt _))) (fe_add _ _) (fe_add _ _)
  · rw [fe_mod, fe_mul, fe_sub (Nat.le_of_lt h1.1), fe_sub (Nat.le_of_lt h2.1)]
  · rw [fe_mod, fe_mul, fe_add, fe_add]
  · rw [fe_mod, fe_mul, fe_mul, d2_eq]
  · rw [fe_mod, fe_mul, fe_mul]; rfl
/-- So many of a point, and one more point: bit by bit. -/
def qmul : Nat → Nat → Nat → Nat → Nat → Nat → Nat → Nat → Nat → Nat → (Nat → Nat → Nat → Nat → Bool) → Bool
  | 0, _, _, _, _, _, X, Y, Z, T, k => k X Y Z T
  | f + 1, n, A, B, C, D, X, Y, Z, T, k =>
    bif Nat.beq (n % 2) 1 then
      qadd X Y Z T A B C D fun X' Y' Z' T' => qadd A B C D A B C D fun A' B' C' D' => force (n / 2) fun m => qmul f m A' B' C' D' X' Y' Z' T' k
    else qadd A B C D A B C D fun A' B' C' D' => force (n / 2) fun m => qmul f m A' B' C' D' X Y Z T k
theorem qmul_spec (k : Nat → Nat → Nat → Nat → Bool) : ∀ (f n : Nat) {A B C D X Y Z T : Nat} {p q : Pt}, n < 2 ^ f → RepN A B C D p → RepN X Y Z T q →
    ∃ X' Y' Z' T', RepN X' Y' Z' T' (q.add (p.nm n)) ∧ qmul f n A B C D X Y Z T k = k X' Y' Z' T'
  | 0, n, A, B, C, D, X, Y, Z, T, p, q, hn, hp, hq => by
    obtain rfl : n = 0 := by simpa using hn
    exact ⟨X, Y, Z, T, by rw [Pt.nm_zero, Pt.add_zero]; exact hq, rfl⟩
  | f + 1, n, A, B, C, D, X, Y, Z, T, p, q, hn, hp, hq => by
    have hm : n / 2 < 2 ^ f := by rw [Nat.pow_succ] at hn; omega
    unfold qmul
    have h2 : n % 2 = 0 ∨ n % 2 = 1 := by omega
    rcases h2 with h2 | h2
    · rw [h2]
      show ∃ X' Y' Z' T', RepN X' Y' Z' T' (q.add (p.nm n)) ∧ (qadd A B C D A B C D fun A' B' C' D' => force (n / 2) fun m => qmul f m A' B' C' D' X Y Z T k) = k X' Y' Z' T'
      obtain ⟨A', B', C', D', hp', e⟩ := qadd_spec hp hp (fun A' B' C' D' => force (n / 2) fun m => qmul f m A' B' C' D' X Y Z T k)
      rw [e, force_eq]
      obtain ⟨X', Y', Z', T', hr, e2⟩ := qmul_spec k f (n / 2) hm hp' hq
      refine ⟨X', Y', Z', T', ?_, e2⟩
      have e3 : p.nm n = (p.add p).nm (n / 2) := by
        rw [show n = 2 * (n / 2) by omega, Pt.nm_two, Pt.add_nm, show 2 * (n / 2) / 2 = n / 2 by omega]
      rw [e3]; exact hr
    · rw [h2]
      show ∃ X' Y' Z' T', RepN X' Y' Z' T' (q.add (p.nm n)) ∧ (qadd X Y Z T A B C D fun X' Y' Z' T' => qadd A B C D A B C D fun A' B' C' D' => force (n / 2) fun m => qmul f m A' B' C' D' X' Y' Z' T' k) = k X' Y' Z' T'
      obtain ⟨X1, Y1, Z1, T1, hq', e0⟩ := qadd_spec hq hp (fun X' Y' Z' T' => qadd A B C D A B C D fun A' B' C' D' => force (n / 2) fun m => qmul f m A' B' C' D' X' Y' Z' T' k)
      rw [e0]
      obtain ⟨A', B', C', D', hp', e⟩ := qadd_spec hp hp (fun A' B' C' D' => force (n / 2) fun m => qmul f m A' B' C' D' X1 Y1 Z1 T1 k)
      rw [e, force_eq]
      obtain ⟨X', Y', Z', T', hr, e2⟩ := qmul_spec k f (n / 2) hm hp' hq'
      refine ⟨X', Y', Z', T', ?_, e2⟩
      have e3 : q.add (p.nm n) = (q.add p).add ((p.add p).nm (n / 2)) := by
        have e4 : n = 1 + 2 * (n / 2) := by omega
        have e5 : p.nm n = p.add (p.nm (2 * (n / 2))) := by
          have e6 : p.nm (1 + 2 * (n / 2)) = p.add (p.nm (2 * (n / 2))) := by rw [Pt.nm_add, Pt.nm_one]
          rwa [← e4] at e6
        rw [Pt.add_nm, ← Pt.nm_two, Pt.add_assoc, e5]
      rw [e3]; exact hr
def LN : Nat := 7237005577332262213973186563042994240857116359379907606001950938285454250989
def btN : Nat := 46827403850823179245072216630277197565144205554125654976674165829533817101731
def isZ (X Y Z T : Nat) : Bool := Nat.beq X 0 && Nat.beq (Y % pp) (Z % pp)
theorem qmul_L : qmul 253 LN bxN byN 1 btN 0 1 1 0 isZ = true := by kernel_rfl
theorem bp_rep : RepN bxN byN 1 btN bp := by
  refine ⟨by decide, one_ne, ?_, ?_, ?_⟩
  · show fe bxN * fe 1 = fe bxN
    rw [fe_one]; grobner
  · show fe byN * fe 1 = fe byN
    rw [fe_one]; grobner
  · decide
theorem zero_rep : RepN 0 1 1 0 Pt.zero := ⟨by decide, rep_zero⟩
/-- L of the base are the neutral one. -/
theorem bp_L : bp.nm LN = Pt.zero := by
  obtain ⟨X, Y, Z, T, h, e⟩ := qmul_spec isZ 253 LN (by decide) bp_rep zero_rep
  rw [qmul_L] at e
  rw [Pt.zero_add] at h
  have e' := e.symm
  unfold isZ at e'
  rw [Bool.and_eq_true] at e'
  have e1 := Nat.eq_of_beq_eq_true e'.1
  have e2 := Nat.eq_of_beq_eq_true e'.2
  refine (rep_same h.2 rep_zero).2 ⟨?_, ?_⟩
  · rw [e1, fe_zero]; grobner
  · have := fe_eq e2
    rw [this]; grobner
def copL : Nat → Bool
  | 0 => true
  | k + 1 => Nat.beq (Nat.gcd (k + 1) LN) 1 && copL k
theorem copL_spec : ∀ n, copL n = true → ∀ k, 0 < k → k ≤ n → Nat.gcd k LN = 1
  | 0, _, k, h1, h2 => by omega
  | n + 1, h, k, h1, h2 => by
    unfold copL at h
    rw [Bool.and_eq_true] at h
    by_cases he : k = n + 1
    · rw [he]; exact Nat.eq_of_beq_eq_true h.1
    · exact copL_spec n h.2 k h1 (by omega)
theorem copL255 : copL 255 = true := by kernel_rfl
/-- Fewer than 256 are not (but none). -/
theorem bp_few {k : Nat} (h : k < 256) : bp.nm k = Pt.zero ↔ k = 0 := by
  constructor
  · intro hk
    apply Classical.byContradiction
    intro h0
    have h1 := Pt.nm_gcd bp k LN hk bp_L
    have h2 := copL_spec 255 copL255 k (by omega) (by omega)
    rw [h2, Pt.nm_one] at h1
    exact bp_ne h1
  · intro h0
    rw [h0]; rfl
/-- L less one of the base are its negative. -/
theorem bp_back {n : Nat} (h : n + 1 = LN) : bp.nm n = bp.neg := by
  have h1 := bp_L
  rw [← h, Pt.nm_succ] at h1
  exact Pt.neg_eq h1
end Go.Proofs.YtpfcboakafbnlaaDoor
