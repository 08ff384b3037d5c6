/-
  The reference's contracts, in elements.
-/
import Derived.Test.YtpfcboakafbnlaaDoorLA
set_option linter.unusedVariables false
namespace Go.Proofs.YtpfcboakafbnlaaDoor
open Go.RowKit Go.Sort Go.BigFrame
set_option maxRecDepth 100000
set_option maxHeartbeats 2000000
/-- A row of digits, wherever it lies. -/
def DRow (l : List Nat) (v : Value) (w : World) : Prop := ∃ a cap, v = .slice a l.length cap ∧ l.length ≤ cap ∧ cap ≤ 9223372036854775807 ∧ IView w a l
theorem DRow.stb (l : List Nat) : Stb (DRow l) := fun _ _ _ hb ⟨a, c, h1, h2, h3, h4⟩ => ⟨a, c, h1, h2, h3, h4.below hb⟩
/-- The digits of an element. -/
def Rw (x : Fe) (v : Value) (w : World) : Prop := ∃ a cap, v = .slice a 32 cap ∧ 32 ≤ cap ∧ cap ≤ 9223372036854775807 ∧ IView w a (digs 32 x.val)
theorem Rw.stb (x : Fe) : Stb (Rw x) := fun _ _ _ hb ⟨a, c, h1, h2, h3, h4⟩ => ⟨a, c, h1, h2, h3, h4.below hb⟩
theorem fe_lt (x : Fe) : x.val < 256 ^ 32 := Nat.lt_trans x.isLt (by decide)
theorem vd (x : Fe) : valD (digs 32 x.val) = x.val := valD_digs_lt (fe_lt x)
theorem Rw.drow {x : Fe} {v : Value} {w : World} (h : Rw x v w) : DRow (digs 32 x.val) v w := by
  obtain ⟨a, c, h1, h2, h3, h4⟩ := h
  exact ⟨a, c, by rw [digs_len]; exact h1, by rw [digs_len]; exact h2, h3, h4⟩
theorem rw_of {w w' : World} {g : Nat} {x : Fe} (h : RelR w w' g (digs 32 x.val)) : Rw x (.slice (some ⟨g, 0, none⟩) 32 32) w' := ⟨_, _, rfl, by omega, by omega, fun _ => ⟨g, 0, rfl, ints_row h.2.2⟩⟩
theorem ret_row {f : FuncId} {args : Array Value} {w : World} {n : Nat} {x : Fe} (hx : n = x.val) (h : Calls Tryd.prog f args w fun e w' => ∃ g, e = .returned (.slice (some ⟨g, 0, none⟩) 32 32) ∧ RelR w w' g (digs 32 n)) : Ret f args w (Rw x) := by
  subst hx
  exact h.mono fun e w' ⟨g, he, hR⟩ => ⟨_, he, hR.1, rw_of hR⟩
theorem rMul {x y : Fe} {v1 v2 : Value} (w : World) (h1 : Rw x v1 w) (h2 : Rw y v2 w) : Ret 41 #[v1, v2] w (Rw (x * y)) := by
  obtain ⟨a, ca, rfl, _, _, ha⟩ := h1
  obtain ⟨b, cb, rfl, _, _, hb⟩ := h2
  have := mul25 a 32 ca _ b 32 cb _ w (digs_len _ _) (digs_len _ _) (by omega) (by omega) ha hb (digs_dig _ _) (digs_dig _ _)
  rw [vd, vd] at this
  exact ret_row (Fin.val_mul x y).symm this
theorem rAdd {x y : Fe} {v1 v2 : Value} (w : World) (h1 : Rw x v1 w) (h2 : Rw y v2 w) : Ret 43 #[v1, v2] w (Rw (x + y)) := by
  obtain ⟨a, ca, rfl, _, _, ha⟩ := h1
  obtain ⟨b, cb, rfl, _, _, hb⟩ := h2
  have := add23 a 32 ca _ b 32 cb _ w (digs_len _ _) (digs_len _ _) (by omega) (by omega) ha hb (digs_dig _ _) (digs_dig _ _)
  rw [vd, vd] at this
  exact ret_row (Fin.val_add x y).symm this
theorem sub_val (x y : Fe) : (x.val + pp - y.val) % pp = (x - y).val := by
  have h := fe_sub (a := x.val) (b := y.val) (Nat.le_of_lt y.isLt)
  rw [fe_of, fe_of] at h
  rw [← h, fe_val]
  congr 1
  have := y.isLt
  omega
theorem rSub {x y : Fe} {v1 v2 : Value} (w : World) (h1 : Rw x v1 w) (h2 : Rw y v2 w) : Ret 42 #[v1, v2] w (Rw (x - y)) := by
  obtain ⟨a, ca, rfl, _, _, ha⟩ := h1
  obtain ⟨b, cb, rfl, _, _, hb⟩ := h2
  have := sub21 a ca _ b cb _ w (digs_len _ _) (digs_len _ _) ha hb (digs_dig _ _) (digs_dig _ _) (by rw [vd]; exact Nat.le_of_lt y.isLt)
  rw [vd, vd] at this
  exact ret_row (sub_val x y) this
theorem rInt (w : World) (n : Nat) (h : n ≤ 9223372036854775807) : Ret 44 #[.int .i64 (n : Int)] w (Rw (fe n)) := ret_row rfl (int18p n w h)
theorem rIntN (w : World) (n : Nat) (h0 : 0 < n) (h : n ≤ 9223372036854775808) : Ret 44 #[.int .i64 (-(n : Int))] w (Rw (0 - fe n)) := by
  refine ret_row ?_ (int18n n w h0 h)
  rw [← sub_val, fe_val]
  show (pp - n % pp) % pp = (0 + pp - n % pp) % pp
  rw [Nat.zero_add]
theorem rPow {x : Fe} {v1 v2 : Value} {l : List Nat} {e : Nat} (he : valD l = e) (w : World) (h1 : Rw x v1 w) (h2 : DRow l v2 w) (hl : l.length ≤ 1000) (hd : Dig l) : Ret 70 #[v1, v2] w (Rw (pw x e)) := by
  obtain ⟨a, ca, rfl, _, _, ha⟩ := h1
  obtain ⟨b, cb, rfl, _, _, hb⟩ := h2
  have := pow33 a ca _ b l.length cb l w (digs_len _ _) rfl hl ha hb (digs_dig _ _) hd
  rw [vd, he] at this
  exact ret_row rfl this
theorem rInv {x : Fe} {v1 : Value} (w : World) (h1 : Rw x v1 w) : Ret 50 #[v1] w (Rw (fin x)) := by
  obtain ⟨a, ca, rfl, _, _, ha⟩ := h1
  have := inv29 a ca _ w (digs_len _ _) ha (digs_dig _ _)
  obtain ⟨X, hX⟩ : ∃ X, X = 57896044618658097711785492504343953926634992332820282019728792003956564819947 := ⟨_, rfl⟩
  rw [vd, ← hX] at this
  rw [fin_pw x (n := X) (by rw [hX]; decide)]
  exact ret_row rfl this
theorem rSame {x y : Fe} {v1 v2 : Value} (w : World) (h1 : Rw x v1 w) (h2 : Rw y v2 w) : Ret 46 #[v1, v2] w (Is (.bool (decide (x = y)))) := by
  obtain ⟨a, ca, rfl, _, _, ha⟩ := h1
  obtain ⟨b, cb, rfl, _, _, hb⟩ := h2
  have := same26 a 32 ca _ b 32 cb _ w (digs_len _ _) (digs_len _ _) (by omega) (by omega) ha hb (digs_dig _ _) (digs_dig _ _)
  refine this.mono fun e w' ⟨h, hB⟩ => ⟨_, h, hB, ?_⟩
  refine congrArg Value.bool (decide_eq_decide.2 ?_)
  rw [vd, vd]
  exact ⟨fun h => Fin.ext ((vd x).symm.trans ((congrArg valD h).trans (vd y))), fun h => by rw [h]⟩
theorem rSameT {x y : Fe} (h : x = y) {v1 v2 : Value} (w : World) (h1 : Rw x v1 w) (h2 : Rw y v2 w) : Ret 46 #[v1, v2] w (Is (.bool true)) := by
  have := rSame w h1 h2
  rwa [decide_eq_true h] at this
theorem rSameF {x y : Fe} (h : ¬ x = y) {v1 v2 : Value} (w : World) (h1 : Rw x v1 w) (h2 : Rw y v2 w) : Ret 46 #[v1, v2] w (Is (.bool false)) := by
  have := rSame w h1 h2
  rwa [decide_eq_false h] at this
theorem rDigits {v : Value} {l : List Nat} (w : World) (h : Bts l v w) (hd : Dig l) (hl : l.length ≤ 10000) : Ret 28 #[v] w (DRow l) := by
  obtain ⟨a, cap, rfl, h1, h2, hv⟩ := h
  refine (digits11 a l.length cap l w rfl h1 hl hd hv).mono fun e w' ⟨v, he, hB, hown⟩ => ⟨v, he, hB, ?_⟩
  obtain ⟨a2, c2, rfl, h3, h4⟩ := own_slice hown
  exact ⟨a2, c2, rfl, h3, h4, (own_iview hown).1⟩
theorem rPlus {x y : List Nat} {v1 v2 : Value} (w : World) (h1 : DRow x v1 w) (h2 : DRow y v2 w) (hx : x.length ≤ 1000) (hy : y.length ≤ 1000) (dx : Dig x) (dy : Dig y) : Ret 27 #[v1, v2] w (DRow (digs (max x.length y.length + 1) (valD x + valD y))) := by
  obtain ⟨a, ca, rfl, _, _, ha⟩ := h1
  obtain ⟨b, cb, rfl, _, _, hb⟩ := h2
  refine (plus32 a x.length ca x b y.length cb y w rfl rfl (by omega) (by omega) ha hb dx dy).mono fun e w' ⟨g, he, hR⟩ => ⟨_, he, hR.1, ?_⟩
  exact ⟨_, _, by rw [digs_len], by rw [digs_len]; exact Nat.le_refl _, by omega, fun _ => ⟨g, 0, rfl, ints_row hR.2.2⟩⟩
theorem rBytes {l : List Nat} {v : Value} {n : Nat} (hn : valD l = n) (w : World) (h : DRow l v w) (hl : l.length ≤ 10000) (hd : Dig l) : Ret 21 #[v] w (OwnC w.heap.size (digs 32 n)) := by
  obtain ⟨a, cap, rfl, h1, h2, hv⟩ := h
  subst hn
  exact (bytes31 a l.length cap l w rfl hl hd hv).mono fun e w' ⟨v, he, hB, hown⟩ => ⟨v, he, hB, own_C (digs_len _ _) (by omega) hown⟩
theorem dd_eq : (0 - fe 121665) * fin (fe 121666) = dd := by
  have h0 : (fe 121666 : Fe) ≠ 0 := fun h => absurd (congrArg Fin.val h) (by decide)
  have h1 := mul_fin h0
  have h2 : dd * fe 121666 = -fe 121665 := dd_def
  obtain ⟨i, hi⟩ : ∃ i, i = fin (fe 121666) := ⟨_, rfl⟩
  rw [← hi] at h1 ⊢
  obtain ⟨m, hm⟩ : ∃ m, m = fe 121666 := ⟨_, rfl⟩
  obtain ⟨n, hn⟩ : ∃ n, n = fe 121665 := ⟨_, rfl⟩
  rw [← hm] at h1 h2
  rw [← hn] at h2 ⊢
  clear hm hn hi h0
  grobner
end Go.Proofs.YtpfcboakafbnlaaDoor
