/-
  The reference: Minus, Plus.
-/
import Derived.Test.YtpfcboakafbnlaaDoorR2
set_option linter.unusedVariables false
namespace Go.Proofs.YtpfcboakafbnlaaDoor
open Go.RowKit Go.Sort Go.BigFrame
set_option maxRecDepth 100000
set_option maxHeartbeats 2000000
/- Minus -/
def ym (x y : List Nat) (k : Nat) : Nat := valD (x.take k) + 256 ^ k - valD (y.take k)
theorem ym_succ {x y : List Nat} (dx : Dig x) (dy : Dig y) (k : Nat) : ym x y (k + 1) = ym x y k + 256 ^ k * (255 + x.getD k 0 - y.getD k 0) := by
  unfold ym
  rw [valD_take_succ, valD_take_succ, Nat.pow_succ]
  have h1 := valD_take_lt dy k
  have h2 := dx k
  have h3 := dy k
  obtain ⟨q, hq⟩ : ∃ q, q = 256 ^ k := ⟨_, rfl⟩
  rw [← hq] at h1 ⊢
  have e : 255 + x.getD k 0 - y.getD k 0 = 255 - y.getD k 0 + x.getD k 0 := by omega
  have e2 : q * (255 - y.getD k 0) + q * y.getD k 0 = q * 255 := by rw [← Nat.mul_add]; congr 1; omega
  rw [e, Nat.mul_add]
  omega
theorem ym_top {x y : List Nat} (dx : Dig x) (dy : Dig y) (k : Nat) : ym x y k / 256 ^ k ≤ 1 := by
  have h1 := valD_take_lt dx k
  have h2 : ym x y k < 2 * 256 ^ k := by unfold ym; omega
  have := (Nat.div_lt_iff_lt_mul (pos256 k)).2 h2
  omega
theorem minus40 (a : Option Addr) (la ca : Nat) (x : List Nat) (b : Option Addr) (lb cb : Nat) (y : List Nat) (w : World) (hx : Hid (x.length = la)) (hy : Hid (y.length = lb)) (hla : la ≤ 10000) (hlb : lb ≤ 10000)
    (ha : IView w a x) (hb : IView w b y) (dx : Dig x) (dy : Dig y) (hle : lb ≤ la) (hv : Hid (valD y ≤ valD x)) :
    Calls Tryd.prog 68 #[.slice a la ca, .slice b lb cb] w fun e w' => ∃ g, e = .returned (.slice (some ⟨g, 0, none⟩) la la) ∧ RelR w w' g (digs la (valD x - valD y)) := by
  have hmk := make31 la (by omega)
  go_enter Tryd.func68, Tryd.ntmps68
  go_wp2_with fail
  have hR0 : RelR w (w.alloc (.cells (ints .i64 (digs la 0)) 3)) w.heap.size (digs la (ym x y 0 % 256 ^ 0)) := ⟨below1 _ _, Nat.le_refl _, by rw [Nat.pow_zero, Nat.mod_one]; exact alloc_row _ _ _⟩
  go_loopw [6, 7] (fun bo i wr => ∃ k : Nat, k ≤ la ∧ i = .int .i64 k ∧ bo = .int .i64 ((1 - ym x y k / 256 ^ k : Nat) : Int) ∧ RelR w wr w.heap.size (digs la (ym x y k % 256 ^ k))) (fun _ i _ => la - (intOf i).toNat)
  case atStart => exact ⟨0, by omega, rfl, by simp [ym, valD], hR0⟩
  case round =>
    obtain ⟨k, hk, rfl, rfl, hR⟩ := hrel
    clear hR0 hmk
    by_cases hlt : k < la
    · obtain ⟨g1, o1, rfl, hc1⟩ := ha (by rw [hx.out]; omega)
      have k10 := hc1 k (by rw [hx.out]; omega)
      have k1 := (hR.1.cell (p := ⟨g1, o1 + k, none⟩) (block_lt_of_cell k10)).trans k10
      have hs := ym_succ dx dy k
      have htop := ym_top dx dy k
      have hux := dx k
      have huy := dy k
      have c3 := hR.at k (by rw [digs_len]; omega)
      have f3 := hR.free k
      have hst := fun d => digs_step (N := la) (X := ym x y k) (k := k) (d := d) (by omega)
      have hdv := fun d => div_step (ym x y k) (256 ^ k) d (pos256 k)
      obtain ⟨u, hu⟩ : ∃ u, u = x.getD k 0 := ⟨_, rfl⟩
      obtain ⟨v, hvv⟩ : ∃ v, v = y.getD k 0 := ⟨_, rfl⟩
      obtain ⟨t, ht⟩ : ∃ t, t = ym x y k / 256 ^ k := ⟨_, rfl⟩
      rw [← hu] at k1 hs hux
      rw [← hvv] at hs huy
      rw [← ht] at htop ⊢
      have HV : Hid (v = y.getD k 0) := hvv
      -- the two ways
      have HN : Hid (RelR w (wr.setCell ⟨w.heap.size, k, none⟩ (.int .i64 (((t + (255 + u - v)) % 256 : Nat) : Int))) w.heap.size (digs la (ym x y (k + 1) % 256 ^ (k + 1)))) := by
        show RelR _ _ _ _
        have := hst (255 + u - v)
        rw [← hs, ← ht] at this
        rw [← this]
        exact hR.set k _
      have HT : Hid (ym x y (k + 1) / 256 ^ (k + 1) = (t + (255 + u - v)) / 256) := by
        show _ = _
        rw [hs, Nat.pow_succ, hdv, ← ht]
      have hBw := hR.1
      clear hs hst hdv hR hc1 k10 hu hvv ht
      have ecast : ((1 - t : Nat) : Int) = 1 - (t : Int) := by omega
      rw [ecast]
      clear ecast
      by_cases h2 : k < lb
      · obtain ⟨g2, o2, rfl, hc2⟩ := hb (by rw [hy.out]; omega)
        have k20 := hc2 k (by rw [hy.out]; omega)
        have k2 := (hBw.cell (p := ⟨g2, o2 + k, none⟩) (block_lt_of_cell k20)).trans k20
        rw [← HV.out] at k2
        clear k20 hc2
        by_cases hneg : u + t < v + 1
        · have HD : Hid ((((t + (255 + u - v)) % 256 : Nat) : Int) = (u : Int) - (1 - (t : Int)) - (v : Int) + 256) := by show _ = _; omega
          have HT2 : Hid (((1 - (t + (255 + u - v)) / 256 : Nat) : Int) = 1) := by show _ = _; omega
          go_wp2
          go_roundw
          case rel => exact ⟨k + 1, by omega, by go_num, by rw [HT.out, HT2.out], by rw [← HD.out]; exact HN.out⟩
          case measure => simp [intOf]; omega
        · have HD : Hid ((((t + (255 + u - v)) % 256 : Nat) : Int) = (u : Int) - (1 - (t : Int)) - (v : Int)) := by show _ = _; omega
          have HT2 : Hid (((1 - (t + (255 + u - v)) / 256 : Nat) : Int) = 0) := by show _ = _; omega
          go_wp2
          go_roundw
          case rel => exact ⟨k + 1, by omega, by go_num, by rw [HT.out, HT2.out], by rw [← HD.out]; exact HN.out⟩
          case measure => simp [intOf]; omega
      · obtain rfl : v = 0 := by rw [HV.out]; exact getD_out (by rw [hy.out]; omega)
        by_cases hneg : u + t < 0 + 1
        · have HD : Hid ((((t + (255 + u - 0)) % 256 : Nat) : Int) = (u : Int) - (1 - (t : Int)) + 256) := by show _ = _; omega
          have HT2 : Hid (((1 - (t + (255 + u - 0)) / 256 : Nat) : Int) = 1) := by show _ = _; omega
          go_wp2
          go_roundw
          case rel => exact ⟨k + 1, by omega, by go_num, by rw [HT.out, HT2.out], by rw [← HD.out]; exact HN.out⟩
          case measure => simp [intOf]; omega
        · have HD : Hid ((((t + (255 + u - 0)) % 256 : Nat) : Int) = (u : Int) - (1 - (t : Int))) := by show _ = _; omega
          have HT2 : Hid (((1 - (t + (255 + u - 0)) / 256 : Nat) : Int) = 0) := by show _ = _; omega
          go_wp2
          go_roundw
          case rel => exact ⟨k + 1, by omega, by go_num, by rw [HT.out, HT2.out], by rw [← HD.out]; exact HN.out⟩
          case measure => simp [intOf]; omega
    · obtain rfl : k = la := by omega
      have HF : Hid (digs k (ym x y k % 256 ^ k) = digs k (valD x - valD y)) := by
        show _ = _
        rw [digs_mod]
        unfold ym
        rw [List.take_of_length_le (by rw [hx.out]; exact Nat.le_refl _), List.take_of_length_le (by rw [hy.out]; omega)]
        have := hv.out
        rw [show valD x + 256 ^ k - valD y = valD x - valD y + 256 ^ k * 1 by omega, ← digs_mod, Nat.add_mul_mod_self_left, digs_mod]
      rw [HF.out] at hR
      go_wp2
      go_ret
      exact ⟨w.heap.size, rfl, hR⟩
/- Plus -/
def xp (x y : List Nat) (k : Nat) : Nat := valD (x.take k) + valD (y.take k)
theorem xp_succ (x y : List Nat) (k : Nat) : xp x y (k + 1) = xp x y k + 256 ^ k * (x.getD k 0 + y.getD k 0) := by
  unfold xp
  rw [valD_take_succ, valD_take_succ, Nat.mul_add]
  omega
theorem xp_top {x y : List Nat} (dx : Dig x) (dy : Dig y) (k : Nat) : xp x y k / 256 ^ k ≤ 1 := by
  have h1 := valD_take_lt dx k
  have h3 := valD_take_lt dy k
  have h2 : xp x y k < 2 * 256 ^ k := by unfold xp; omega
  have := (Nat.div_lt_iff_lt_mul (pos256 k)).2 h2
  omega
theorem plus32m (a : Option Addr) (la ca : Nat) (x : List Nat) (b : Option Addr) (lb cb : Nat) (y : List Nat) (w : World) (n : Nat) (hn : (la < lb ∧ n = lb) ∨ (lb ≤ la ∧ n = la)) (hx : Hid (x.length = la)) (hy : Hid (y.length = lb)) (hla : la ≤ 10000) (hlb : lb ≤ 10000)
    (ha : IView w a x) (hb : IView w b y) (dx : Dig x) (dy : Dig y) :
    Calls Tryd.prog 27 #[.slice a la ca, .slice b lb cb] w fun e w' => ∃ g, e = .returned (.slice (some ⟨g, 0, none⟩) (n + 1) (n + 1)) ∧ RelR w w' g (digs (n + 1) (valD x + valD y)) := by
  have hmk := make31 (n + 1) (by omega)
  simp only [Int.natCast_add, Int.cast_ofNat_Int] at hmk
  have hnl : la ≤ n ∧ lb ≤ n := by omega
  rcases hn with ⟨hn, rfl⟩ | ⟨hn, rfl⟩
  all_goals
    go_enter Tryd.func27, Tryd.ntmps27
    go_wp2_with fail
    have hR0 : RelR w (w.alloc (.cells (ints .i64 (digs (n + 1) 0)) 3)) w.heap.size (digs (n + 1) (xp x y 0 % 256 ^ 0)) := ⟨below1 _ _, Nat.le_refl _, by rw [Nat.pow_zero, Nat.mod_one]; exact alloc_row _ _ _⟩
    go_loopw [7, 8] (fun ca i wr => ∃ k : Nat, k ≤ n + 1 ∧ i = .int .i64 k ∧ ca = .int .i64 ((xp x y k / 256 ^ k : Nat) : Int) ∧ RelR w wr w.heap.size (digs (n + 1) (xp x y k % 256 ^ k))) (fun _ i _ => n + 1 - (intOf i).toNat)
    case atStart => exact ⟨0, by omega, rfl, by simp [xp, valD], hR0⟩
    case round =>
      obtain ⟨k, hk, rfl, rfl, hR⟩ := hrel
      clear hR0 hmk
      by_cases hlt : k < n + 1
      · have hs := xp_succ x y k
        have htop := xp_top dx dy k
        have hux := dx k
        have huy := dy k
        have c3 := hR.at k (by rw [digs_len]; omega)
        have f3 := hR.free k
        have hst := fun d => digs_step (N := n + 1) (X := xp x y k) (k := k) (d := d) (by omega)
        have hdv := fun d => div_step (xp x y k) (256 ^ k) d (pos256 k)
        obtain ⟨u, hu⟩ : ∃ u, u = x.getD k 0 := ⟨_, rfl⟩
        obtain ⟨v, hvv⟩ : ∃ v, v = y.getD k 0 := ⟨_, rfl⟩
        obtain ⟨t, ht⟩ : ∃ t, t = xp x y k / 256 ^ k := ⟨_, rfl⟩
        rw [← hu] at hs hux
        rw [← hvv] at hs huy
        rw [← ht] at htop ⊢
        have Hu : Hid (u = x.getD k 0) := hu
        have Hv : Hid (v = y.getD k 0) := hvv
        have HN : Hid (RelR w (wr.setCell ⟨w.heap.size, k, none⟩ (.int .i64 (((t + (u + v)) % 256 : Nat) : Int))) w.heap.size (digs (n + 1) (xp x y (k + 1) % 256 ^ (k + 1)))) := by
          show RelR _ _ _ _
          have := hst (u + v)
          rw [← hs, ← ht] at this
          rw [← this]
          exact hR.set k _
        have HT : Hid (xp x y (k + 1) / 256 ^ (k + 1) = (t + (u + v)) / 256) := by
          show _ = _
          rw [hs, Nat.pow_succ, hdv, ← ht]
        have hBw := hR.1
        rw [← Nat.add_assoc] at HN HT
        clear hs hst hdv hR hu hvv ht
        by_cases h1 : k < x.length
        · by_cases h2 : k < y.length
          · obtain ⟨g1, o1, rfl, hc1⟩ := ha (by omega)
            have k10 := hc1 k (by omega)
            have k1 := (hBw.cell (p := ⟨g1, o1 + k, none⟩) (block_lt_of_cell k10)).trans k10
            rw [← Hu.out] at k1
            clear k10 hc1
            obtain ⟨g2, o2, rfl, hc2⟩ := hb (by omega)
            have k20 := hc2 k (by omega)
            have k2 := (hBw.cell (p := ⟨g2, o2 + k, none⟩) (block_lt_of_cell k20)).trans k20
            rw [← Hv.out] at k2
            clear k20 hc2
            rw [hx.out] at h1
            rw [hy.out] at h2
            clear ha hb hx hy
            go_wp2
            all_goals
              go_roundw
              case rel => exact ⟨k + 1, by omega, by go_num, by rw [HT.out]; simp, by simpa using HN.out⟩
              case measure => simp [intOf]; omega
          · obtain ⟨g1, o1, rfl, hc1⟩ := ha (by omega)
            have k10 := hc1 k (by omega)
            have k1 := (hBw.cell (p := ⟨g1, o1 + k, none⟩) (block_lt_of_cell k10)).trans k10
            rw [← Hu.out] at k1
            clear k10 hc1
            obtain rfl : v = 0 := by rw [Hv.out]; exact getD_out (by omega)
            rw [hx.out] at h1
            rw [hy.out] at h2
            clear ha hb hx hy
            go_wp2
            all_goals
              go_roundw
              case rel => exact ⟨k + 1, by omega, by go_num, by rw [HT.out]; simp, by simpa using HN.out⟩
              case measure => simp [intOf]; omega
        · by_cases h2 : k < y.length
          · obtain rfl : u = 0 := by rw [Hu.out]; exact getD_out (by omega)
            obtain ⟨g2, o2, rfl, hc2⟩ := hb (by omega)
            have k20 := hc2 k (by omega)
            have k2 := (hBw.cell (p := ⟨g2, o2 + k, none⟩) (block_lt_of_cell k20)).trans k20
            rw [← Hv.out] at k2
            clear k20 hc2
            rw [hx.out] at h1
            rw [hy.out] at h2
            clear ha hb hx hy
            go_wp2
            all_goals
              go_roundw
              case rel => exact ⟨k + 1, by omega, by go_num, by rw [HT.out]; simp, by simpa using HN.out⟩
              case measure => simp [intOf]; omega
          · obtain rfl : u = 0 := by rw [Hu.out]; exact getD_out (by omega)
            obtain rfl : v = 0 := by rw [Hv.out]; exact getD_out (by omega)
            rw [hx.out] at h1
            rw [hy.out] at h2
            clear ha hb hx hy
            go_wp2
            all_goals
              go_roundw
              case rel => exact ⟨k + 1, by omega, by go_num, by rw [HT.out]; simp, by simpa using HN.out⟩
              case measure => simp [intOf]; omega
      · obtain rfl : k = n + 1 := by omega
        have HF : Hid (digs (n + 1) (xp x y (n + 1) % 256 ^ (n + 1)) = digs (n + 1) (valD x + valD y)) := by
          show _ = _
          rw [digs_mod]
          unfold xp
          rw [List.take_of_length_le (by rw [hx.out]; omega), List.take_of_length_le (by rw [hy.out]; omega)]
        rw [HF.out] at hR
        clear ha hb hx hy
        go_wp2
        go_ret
        exact ⟨w.heap.size, rfl, hR⟩
theorem plus32 (a : Option Addr) (la ca : Nat) (x : List Nat) (b : Option Addr) (lb cb : Nat) (y : List Nat) (w : World) (hx : x.length = la) (hy : y.length = lb) (hla : la ≤ 10000) (hlb : lb ≤ 10000)
    (ha : IView w a x) (hb : IView w b y) (dx : Dig x) (dy : Dig y) :
    Calls Tryd.prog 27 #[.slice a la ca, .slice b lb cb] w fun e w' => ∃ g, e = .returned (.slice (some ⟨g, 0, none⟩) (max la lb + 1) (max la lb + 1)) ∧ RelR w w' g (digs (max la lb + 1) (valD x + valD y)) :=
  plus32m a la ca x b lb cb y w (max la lb) (by omega) hx hy hla hlb ha hb dx dy
end Go.Proofs.YtpfcboakafbnlaaDoor
