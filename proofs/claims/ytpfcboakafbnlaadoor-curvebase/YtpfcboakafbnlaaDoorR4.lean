/-
  The reference: Times.
-/
import Derived.Test.YtpfcboakafbnlaaDoorR3
set_option linter.unusedVariables false
namespace Go.Proofs.YtpfcboakafbnlaaDoor
open Go.RowKit Go.Sort Go.BigFrame
set_option maxRecDepth 100000
set_option maxHeartbeats 2000000
/-- A row with a carry that is not laid yet. -/
def Car (w wr : World) (g N c e T : Nat) : Prop := ∃ O : List Nat, O.length = N ∧ Dig O ∧ c < 256 ∧ valD O + 256 ^ e * c = T ∧ RelR w wr g O
theorem RelR.drewN {w wr : World} {g : Nat} {l : List Nat} (h : RelR w wr g l) (n : Nat) : RelR w (wr.drewN n) g l := ⟨below_drewN h.1 n, h.2.1, h.2.2⟩
theorem car_step {O : List Nat} {e c T z v : Nat} (he : e < O.length) (hT : valD O + 256 ^ e * c = T) (hv : v = O.getD e 0 + z + c) : valD (O.set e (v % 256)) + 256 ^ (e + 1) * (v / 256) = T + 256 ^ e * z := by
  have h1 := valD_set O e (v % 256) he
  have h2 : 256 ^ e * v = 256 ^ e * O.getD e 0 + 256 ^ e * z + 256 ^ e * c := by rw [hv, Nat.mul_add, Nat.mul_add]
  have h3 : 256 ^ e * v = 256 ^ e * (v % 256) + 256 ^ e * (256 * (v / 256)) := by rw [← Nat.mul_add, Nat.mod_add_div]
  rw [Nat.pow_succ, Nat.mul_assoc]
  omega
theorem times44 (a : Option Addr) (la ca : Nat) (x : List Nat) (b : Option Addr) (lb cb : Nat) (y : List Nat) (w : World) (hx : Hid (x.length = la)) (hy : Hid (y.length = lb)) (hla : la ≤ 10000) (hlb : lb ≤ 10000)
    (ha : IView w a x) (hb : IView w b y) (dx : Dig x) (dy : Dig y) :
    Calls Tryd.prog 67 #[.slice a la ca, .slice b lb cb] w fun e w' => ∃ g, e = .returned (.slice (some ⟨g, 0, none⟩) (la + lb + 1) (la + lb + 1)) ∧ RelR w w' g (digs (la + lb + 1) (valD x * valD y)) := by
  obtain ⟨N, hN⟩ : ∃ N, N = la + lb + 1 := ⟨_, rfl⟩
  have hmk := make31 N (by omega)
  have HNN : Hid (N = la + lb + 1) := hN
  rw [← hN]
  have hNi : (la : Int) + (lb : Int) + 1 = (N : Int) := by omega
  have hNl : la + lb < N := by omega
  clear hN
  go_enter Tryd.func67, Tryd.ntmps67
  go_wp2_with fail
  have hR0 : Car w (w.alloc (.cells (ints .i64 (digs N 0)) 3)) w.heap.size N 0 0 (valD (x.take 0) * valD y) :=
    ⟨digs N 0, digs_len _ _, digs_dig _ _, by omega, by rw [valD_digs]; simp [valD], below1 _ _, Nat.le_refl _, alloc_row _ _ _⟩
  go_loopw [6] (fun i wr => ∃ k : Nat, k ≤ la ∧ i = .int .i64 k ∧ Car w wr w.heap.size N 0 0 (valD (x.take k) * valD y)) (fun i _ => la - (intOf i).toNat)
  case atStart => exact ⟨0, by omega, rfl, hR0⟩
  case round =>
    obtain ⟨i, hi, rfl, hR⟩ := hrel
    clear hR0 hmk
    by_cases hlt : i < la
    · obtain ⟨g1, o1, rfl, hc1⟩ := ha (by rw [hx.out]; omega)
      have k10 := hc1 i (by rw [hx.out]; omega)
      have hg1 := block_lt_of_cell k10
      obtain ⟨u, hu⟩ : ∃ u, u = x.getD i 0 := ⟨_, rfl⟩
      have hul : u < 256 := by rw [hu]; exact dx i
      rw [← hu] at k10
      have HX : Hid (valD (x.take (i + 1)) * valD y = valD (x.take i) * valD y + 256 ^ i * (u * valD y)) := by
        show _ = _
        rw [valD_take_succ, ← hu, Nat.add_mul, Nat.mul_assoc]
      have HLT : Hid (valD (x.take (i + 1)) * valD y < 256 ^ (la + lb)) := by
        have h1 := valD_take_lt dx (i + 1)
        have h2 := valD_lt dy
        rw [hy.out] at h2
        show _ < _
        have h3 : 256 ^ (i + 1) ≤ 256 ^ la := Nat.pow_le_pow_right (by decide) hlt
        rw [Nat.pow_add]
        exact Nat.lt_of_le_of_lt (Nat.mul_le_mul_left _ (Nat.le_of_lt h2)) (Nat.mul_lt_mul_of_pos_right (Nat.lt_of_lt_of_le h1 h3) (pos256 lb))
      obtain ⟨T, hT⟩ : ∃ T, T = valD (x.take i) * valD y := ⟨_, rfl⟩
      rw [← hT] at HX hR
      clear hu hc1 hT
      have hR1 : Car w wr w.heap.size N 0 (i + 0) (T + 256 ^ i * (u * valD (y.take 0))) := by
        obtain ⟨O, h1, h2, h3, h4, h5⟩ := hR
        exact ⟨O, h1, h2, h3, by simp [valD] at h4 ⊢; exact h4, h5⟩
      clear hR
      go_wp2_with fail
      go_loopw [7, 8] (fun c jj wr => ∃ j cc : Nat, j ≤ lb ∧ jj = .int .i64 j ∧ c = .int .i64 cc ∧ Car w wr w.heap.size N cc (i + j) (T + 256 ^ i * (u * valD (y.take j)))) (fun _ jj _ => lb - (intOf jj).toNat)
      case atStart => exact ⟨0, 0, by omega, rfl, rfl, hR1⟩
      case round =>
        obtain ⟨j, c, hj, rfl, rfl, hR⟩ := hrel
        clear hR1
        by_cases hlt2 : j < lb
        · obtain ⟨O, hOl, hOd, hcl, hOT, hRR⟩ := hR
          obtain ⟨g2, o2, rfl, hc2⟩ := hb (by rw [hy.out]; omega)
          have k20 := hc2 j (by rw [hy.out]; omega)
          have hg2 := block_lt_of_cell k20
          have k1 := (hRR.1.cell (p := ⟨g1, o1 + i, none⟩) hg1).trans k10
          have k2 := (hRR.1.cell (p := ⟨g2, o2 + j, none⟩) hg2).trans k20
          have k3 := hRR.at (i + j) (by omega)
          have f3 := hRR.free (i + j)
          obtain ⟨v, hv⟩ : ∃ v, v = y.getD j 0 := ⟨_, rfl⟩
          obtain ⟨o, ho⟩ : ∃ o, o = O.getD (i + j) 0 := ⟨_, rfl⟩
          have hvl : v < 256 := by rw [hv]; exact dy j
          have hol : o < 256 := by rw [ho]; exact hOd _
          rw [← hv] at k2
          rw [← ho] at k3
          obtain ⟨p, hp⟩ : ∃ p, p = u * v := ⟨_, rfl⟩
          have hpl : p ≤ 65025 := by rw [hp]; exact Nat.mul_le_mul (by omega : u ≤ 255) (by omega : v ≤ 255)
          have ip : (u : Int) * (v : Int) = (p : Int) := by rw [hp]; simp
          have hstep := car_step (O := O) (e := i + j) (c := c) (z := p) (v := o + p + c) (by omega) hOT (by rw [ho])
          have HN : Hid (∀ nq, Car w ((wr.drewN nq).setCell ⟨w.heap.size, i + j, none⟩ (.int .i64 (((o + p + c) % 256 : Nat) : Int))) w.heap.size N ((o + p + c) / 256) (i + (j + 1)) (T + 256 ^ i * (u * valD (y.take (j + 1))))) := by
            intro nq
            refine ⟨O.set (i + j) ((o + p + c) % 256), by rw [List.length_set]; exact hOl, hOd.set (Nat.mod_lt _ (by decide)), by omega, ?_, (hRR.drewN nq).set _ _⟩
            rw [show i + (j + 1) = i + j + 1 by omega, hstep, valD_take_succ, ← hv, Nat.mul_add, Nat.mul_add, hp, ← Nat.add_assoc]
            congr 1
            rw [Nat.pow_add]
            grind
          clear hstep hOT hRR hOd hv ho hp hc2 k20
          go_wp2_with fail
          go_quiet (fail)
          go_wp2
          go_roundw
          case rel => exact ⟨j + 1, (o + p + c) / 256, by omega, by go_num, by go_num, by simpa using HN.out _⟩
          case measure => simp [intOf]; omega
        · obtain rfl : j = lb := by omega
          rw [List.take_of_length_le (by rw [hy.out]; exact Nat.le_refl _)] at hR
          rw [← HX.out] at hR
          obtain ⟨S, hS⟩ : ∃ S, S = valD (x.take (i + 1)) * valD y := ⟨_, rfl⟩
          have HS : Hid (S = valD (x.take (i + 1)) * valD y) := hS
          rw [← hS] at hR HLT
          clear hS HX
          go_wp2_with fail
          go_loopw [7, 10] (fun c kk wr => ∃ k cc : Nat, k ≤ N ∧ kk = .int .i64 k ∧ c = .int .i64 cc ∧ Car w wr w.heap.size N cc k S) (fun _ kk _ => N + 1 - (intOf kk).toNat)
          case atStart => exact ⟨i + j, c, by omega, by go_num, rfl, hR⟩
          case round =>
            obtain ⟨k, c2, hk, rfl, rfl, hR⟩ := hrel
            obtain ⟨O, hOl, hOd, hcl, hOT, hRR⟩ := hR
            by_cases hc0 : c2 = 0
            · subst hc0
              have HN : Hid (Car w wr w.heap.size N 0 0 (valD (x.take (i + 1)) * valD y)) := ⟨O, hOl, hOd, by omega, by rw [← HS.out, ← hOT]; simp, hRR⟩
              clear hOT hRR hOd
              go_wp2
              go_roundw
              case rel => exact ⟨i + 1, by omega, by go_num, HN.out⟩
              case measure => simp [intOf]; omega
            · have hkN : k < N := by
                have h1 := HLT.out
                have h2 : 256 ^ k * 1 ≤ 256 ^ k * c2 := Nat.mul_le_mul_left _ (by omega)
                have h3 : 256 ^ k < 256 ^ (la + j) := by omega
                have := (Nat.pow_lt_pow_iff_right (by decide : 1 < 256)).1 h3
                omega
              have k3 := hRR.at k (by omega)
              have f3 := hRR.free k
              obtain ⟨o, ho⟩ : ∃ o, o = O.getD k 0 := ⟨_, rfl⟩
              have hol : o < 256 := by rw [ho]; exact hOd _
              rw [← ho] at k3
              have hstep := car_step (O := O) (e := k) (c := c2) (z := 0) (v := o + c2) (by omega) hOT (by rw [ho]; omega)
              have HN : Hid (Car w (wr.setCell ⟨w.heap.size, k, none⟩ (.int .i64 (((o + c2) % 256 : Nat) : Int))) w.heap.size N ((o + c2) / 256) (k + 1) S) := by
                refine ⟨O.set k ((o + c2) % 256), by rw [List.length_set]; exact hOl, hOd.set (Nat.mod_lt _ (by decide)), by omega, ?_, hRR.set _ _⟩
                rw [hstep, Nat.mul_zero, Nat.add_zero]
              have hcp : (0 : Int) < (c2 : Int) := by omega
              clear hstep hOT hRR hOd ho
              go_wp2
              go_roundw
              case rel => exact ⟨k + 1, (o + c2) / 256, by omega, by go_num, by go_num, by simpa using HN.out⟩
              case measure => simp [intOf]; omega
    · obtain rfl : i = la := by omega
      rw [List.take_of_length_le (by rw [hx.out]; exact Nat.le_refl _)] at hR
      obtain ⟨O, hOl, hOd, hcl, hOT, hRR⟩ := hR
      have HD : Hid (O = digs N (valD x * valD y)) := digs_of hOd hOl (by rw [← hOT]; simp)
      rw [HD.out] at hRR
      clear hOT hOd hOl
      go_wp2
      go_ret
      exact ⟨w.heap.size, rfl, hRR⟩
end Go.Proofs.YtpfcboakafbnlaaDoor
