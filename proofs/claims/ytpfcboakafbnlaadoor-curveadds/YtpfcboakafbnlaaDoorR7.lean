/-
  The reference: Int.
-/
import Derived.Test.YtpfcboakafbnlaaDoorR6
set_option linter.unusedVariables false
namespace Go.Proofs.YtpfcboakafbnlaaDoor
open Go.RowKit Go.Sort Go.BigFrame
set_option maxRecDepth 100000
set_option maxHeartbeats 2000000
theorem k_lt8 {N k : Nat} (hN : N ≤ 9223372036854775808) (h : N / 256 ^ k ≠ 0) : k < 8 := by
  by_cases hk : k < 8
  · exact hk
  · exfalso
    apply h
    apply Nat.div_eq_of_lt
    have : 256 ^ 8 ≤ 256 ^ k := Nat.pow_le_pow_right (by decide) (by omega)
    omega
theorem int18p (N : Nat) (w : World) (hN : N ≤ 9223372036854775807) :
    Calls Tryd.prog 44 #[.int .i64 (N : Int)] w fun e w' => ∃ g, e = .returned (.slice (some ⟨g, 0, none⟩) 32 32) ∧ RelR w w' g (digs 32 (N % pp)) := by
  obtain ⟨i0, hi, hz0, hz1, hz2⟩ := info3
  have hneg : decide ((N : Int) < 0) = false := by simp
  go_enter Tryd.func44, Tryd.ntmps44
  go_wp2_with fail
  go_loopw [0, 3] (fun nv v wr => ∃ k : Nat, k ≤ 8 ∧ nv = .int .i64 ((N / 256 ^ k : Nat) : Int) ∧ Below w.heap.size w wr ∧ wr.ownsRow w.heap.size 3 1 v k (iv (digs k N))) (fun nv _ _ => (intOf nv).toNat)
  case atStart => exact ⟨0, by omega, by simp, Below.refl _ _, World.ownsRow_nil _ _ _ _⟩
  case round =>
    obtain ⟨k, hk, rfl, hB, hown⟩ := hrel
    obtain ⟨m, hm⟩ : ∃ m, m = N / 256 ^ k := ⟨_, rfl⟩
    have hml : m ≤ 9223372036854775807 := by rw [hm]; exact Nat.le_trans (Nat.div_le_self _ _) hN
    have HT : Hid (digs (k + 1) N = digs k N ++ [m % 256]) := by show _ = _; rw [← digs_snoc, hm]
    have HQ : Hid (N / 256 ^ (k + 1) = m / 256) := by show _ = _; rw [hm, Nat.pow_succ, Nat.div_div_eq_div_mul]
    have HM : Hid (m = N / 256 ^ k) := hm
    rw [← hm]
    clear hm
    by_cases h0 : m = 0
    · subst h0
      have hlt : N < 256 ^ k := by
        have h1 := HM.out
        have h2 := Nat.div_add_mod N (256 ^ k)
        have h3 := Nat.mod_lt N (pos256 k)
        rw [← h1, Nat.mul_zero, Nat.zero_add] at h2
        omega
      obtain ⟨a3, c3, rfl, hc3, hc4⟩ := own_slice hown
      obtain ⟨hiv, _⟩ := own_iview hown
      have cF := fold38 a3 k c3 (digs k N) wr (digs_len _ _) hc3 hc4 (by omega) (digs_dig _ _) hiv
      rw [valD_digs_lt hlt] at cF
      clear hlt hiv hown
      go_wp2_with fail
      refine cF.mono ?_
      rintro e w2 ⟨g2, rfl, hR2⟩
      go_wp2
      go_ret
      exact ⟨g2, rfl, hB.trans (hR2.1.mono hB.size), Nat.le_trans hB.size hR2.2.1, hR2.2.2⟩
    · have hk8 : k < 8 := k_lt8 (N := N) (by omega) (by rw [← HM.out]; exact h0)
      have hne : ((m : Int) != 0) = true := by simp; omega
      have hown' := hown.alloc (.cells #[.int .i64 ((m : Int) % 256)] 3)
      have hm1 : k + 1 ≤ maxLen := by unfold maxLen; omega
      have hm2 : (k + 1) * 8 ≤ 140737488355328 := by omega
      have hm3 : w.heap.size ≤ (wr.alloc (.cells #[.int .i64 ((m : Int) % 256)] 3)).heap.size := by have := hB.size; simp; omega
      go_wp2_with (at_builtin; refine wpList_append_own _ rfl (.tmp 17) (.tmp 19) 33 rfl w.heap.size 3 i0 (.int .i64 0) 1 8 Tryd.underlying33 hi hz0 hz1 hz2 rfl (by decide) u3 k _ rfl hown' ⟨wr.heap.size, 0, none⟩ 1 1 [.int .i64 ((m : Int) % 256)] rfl rfl (news_one _ _ _) one_int hm1 hm2 hm3 ?_; intro v2 w2 hown2 hgrow2 _)
      have hB2 : Below w.heap.size w w2 := (hB.alloc hB.size _).grown hgrow2 hm3 (fun j hj => (hown.lt j hj).1)
      have e0 := iv_snoc (digs k N) (m % 256)
      rw [← HT.out] at e0
      have hown3 : w2.ownsRow w.heap.size 3 1 v2 (k + 1) (iv (digs (k + 1) N)) := by rw [← e0]; simpa using hown2
      go_roundw
      case rel => first | exact ⟨k + 1, by omega, by rw [HQ.out]; go_num, hB2, hown3⟩ | ((repeat apply Exists.intro); exact ⟨⟨k + 1, by omega, by rw [HQ.out]; go_num, hB2, hown3⟩, rfl⟩)
      case measure => simp [intOf]; omega
theorem int18n (N : Nat) (w : World) (h0 : 0 < N) (hN : N ≤ 9223372036854775808) :
    Calls Tryd.prog 44 #[.int .i64 (-(N : Int))] w fun e w' => ∃ g, e = .returned (.slice (some ⟨g, 0, none⟩) 32 32) ∧ RelR w w' g (digs 32 ((pp - N % pp) % pp)) := by
  obtain ⟨i0, hi, hz0, hz1, hz2⟩ := info3
  have hneg : -(N : Int) < 0 := by omega
  have hmk := make31 32 (by omega)
  simp only [Int.cast_ofNat_Int] at hmk
  go_enter Tryd.func44, Tryd.ntmps44
  go_wp2_with fail
  go_loopw [0, 3] (fun nv v wr => ∃ k : Nat, k ≤ 8 ∧ nv = .int .i64 (-((N / 256 ^ k : Nat) : Int)) ∧ Below w.heap.size w wr ∧ wr.ownsRow w.heap.size 3 1 v k (iv (digs k N))) (fun nv _ _ => (-(intOf nv)).toNat)
  case atStart => exact ⟨0, by omega, by simp, Below.refl _ _, World.ownsRow_nil _ _ _ _⟩
  case round =>
    obtain ⟨k, hk, rfl, hB, hown⟩ := hrel
    obtain ⟨m, hm⟩ : ∃ m, m = N / 256 ^ k := ⟨_, rfl⟩
    have hml : m ≤ 9223372036854775808 := by rw [hm]; exact Nat.le_trans (Nat.div_le_self _ _) hN
    have HT : Hid (digs (k + 1) N = digs k N ++ [m % 256]) := by show _ = _; rw [← digs_snoc, hm]
    have HQ : Hid (N / 256 ^ (k + 1) = m / 256) := by show _ = _; rw [hm, Nat.pow_succ, Nat.div_div_eq_div_mul]
    have HM : Hid (m = N / 256 ^ k) := hm
    rw [← hm]
    clear hm
    by_cases h0' : m = 0
    · subst h0'
      have hlt : N < 256 ^ k := by
        have h1 := HM.out
        have h2 := Nat.div_add_mod N (256 ^ k)
        have h3 := Nat.mod_lt N (pos256 k)
        rw [← h1, Nat.mul_zero, Nat.zero_add] at h2
        omega
      obtain ⟨a3, c3, rfl, hc3, hc4⟩ := own_slice hown
      obtain ⟨hiv, _⟩ := own_iview hown
      have cF := fold38 a3 k c3 (digs k N) wr (digs_len _ _) hc3 hc4 (by omega) (digs_dig _ _) hiv
      rw [valD_digs_lt hlt] at cF
      have hNp : N % pp < pp := Nat.mod_lt _ pp_pos
      obtain ⟨V, hV⟩ : ∃ V, V = N % pp := ⟨_, rfl⟩
      rw [← hV] at cF hNp
      have hvV : valD (digs 32 V) = V := valD_digs_lt (Nat.lt_trans hNp (by decide))
      have HV : Hid (V = N % pp) := hV
      have hz : valD (digs 32 0) = 0 := by decide
      have cS := fun w1 ga gb (ha : w1.heap[ga]? = some (.cells (ints .i64 (digs 32 0)) 3 (0, 0))) (hb : w1.heap[gb]? = some (.cells (ints .i64 (digs 32 V)) 3 (0, 0))) => sub21 (some ⟨ga, 0, none⟩) 32 (digs 32 0) (some ⟨gb, 0, none⟩) 32 (digs 32 V) w1 (digs_len _ _) (digs_len _ _) (fun _ => ⟨ga, 0, rfl, ints_row ha⟩) (fun _ => ⟨gb, 0, rfl, ints_row hb⟩) (digs_dig _ _) (digs_dig _ _) (by rw [hvV]; omega)
      rw [hvV, hz, Nat.zero_add] at cS
      clear hlt hiv hown hvV hV hz
      go_wp2_with fail
      refine cF.mono ?_
      rintro e w2 ⟨g2, rfl, hR2⟩
      have hB2 := hB.trans (hR2.1.mono hB.size)
      have hb2 : (w2.alloc (.cells (ints .i64 (digs 32 0)) 3)).heap[g2]? = some (.cells (ints .i64 (digs 32 V)) 3 (0, 0)) := (heap_alloc_old _ _ (lt_of_heap hR2.2.2)).trans hR2.2.2
      go_wp2_with fail
      refine (cS _ _ _ (alloc_row _ _ _) hb2).mono ?_
      rintro e w3 ⟨g3, rfl, hR3⟩
      have hB3 : Below w.heap.size w (w2.alloc (.cells (ints .i64 (digs 32 0)) 3)) := hB2.alloc hB2.size _
      rw [HV.out] at hR3
      go_wp2
      go_ret
      exact ⟨g3, rfl, hB3.trans (hR3.1.mono hB3.size), Nat.le_trans hB3.size hR3.2.1, hR3.2.2⟩
    · have hk8 : k < 8 := k_lt8 (N := N) (by omega) (by rw [← HM.out]; exact h0')
      have hne : ((-(m : Int)) != 0) = true := by simp; omega
      have htm : (-(m : Int)).tmod 256 = -((m % 256 : Nat) : Int) := by rw [Int.neg_tmod, Int.tmod_eq_emod_of_nonneg (by omega)]; simp
      have htd : (-(m : Int)).tdiv 256 = -((m / 256 : Nat) : Int) := by rw [Int.neg_tdiv, Int.tdiv_eq_ediv_of_nonneg (by omega)]; simp
      obtain ⟨r, hr⟩ : ∃ r, r = m % 256 := ⟨_, rfl⟩
      have hrl : r < 256 := by omega
      obtain ⟨q, hq⟩ : ∃ q, q = m / 256 := ⟨_, rfl⟩
      have hql : q < m := by omega
      rw [← hr] at htm HT
      rw [← hq] at htd HQ
      clear hr hq
      have hown' := hown.alloc (.cells #[.int .i64 (r : Int)] 3)
      have hm1 : k + 1 ≤ maxLen := by unfold maxLen; omega
      have hm2 : (k + 1) * 8 ≤ 140737488355328 := by omega
      have hm3 : w.heap.size ≤ (wr.alloc (.cells #[.int .i64 (r : Int)] 3)).heap.size := by have := hB.size; simp; omega
      by_cases hr0 : r = 0
      · subst hr0
        simp only [Int.natCast_zero, Int.neg_zero] at htm hown' hm3
        go_wp2_with (at_builtin; refine wpList_append_own _ rfl (.tmp 17) (.tmp 19) 33 rfl w.heap.size 3 i0 (.int .i64 0) 1 8 Tryd.underlying33 hi hz0 hz1 hz2 rfl (by decide) u3 k _ rfl hown' ⟨wr.heap.size, 0, none⟩ 1 1 [.int .i64 0] rfl rfl (news_one _ _ _) one_int hm1 hm2 hm3 ?_; intro v2 w2 hown2 hgrow2 _)
        have hB2 : Below w.heap.size w w2 := (hB.alloc hB.size _).grown hgrow2 hm3 (fun j hj => (hown.lt j hj).1)
        have e0 := iv_snoc (digs k N) 0
        rw [← HT.out] at e0
        have hown3 : w2.ownsRow w.heap.size 3 1 v2 (k + 1) (iv (digs (k + 1) N)) := by rw [← e0]; exact hown2
        go_roundw
        case rel => first | exact ⟨k + 1, by omega, by rw [HQ.out], hB2, hown3⟩ | ((repeat apply Exists.intro); exact ⟨⟨k + 1, by omega, by rw [HQ.out], hB2, hown3⟩, rfl⟩)
        case measure => simp [intOf]; omega
      · go_wp2_with (at_builtin; refine wpList_append_own _ rfl (.tmp 17) (.tmp 19) 33 rfl w.heap.size 3 i0 (.int .i64 0) 1 8 Tryd.underlying33 hi hz0 hz1 hz2 rfl (by decide) u3 k _ rfl hown' ⟨wr.heap.size, 0, none⟩ 1 1 [.int .i64 (r : Int)] rfl rfl (news_one _ _ _) one_int hm1 hm2 hm3 ?_; intro v2 w2 hown2 hgrow2 _)
        have hB2 : Below w.heap.size w w2 := (hB.alloc hB.size _).grown hgrow2 hm3 (fun j hj => (hown.lt j hj).1)
        have e0 := iv_snoc (digs k N) r
        rw [← HT.out] at e0
        have hown3 : w2.ownsRow w.heap.size 3 1 v2 (k + 1) (iv (digs (k + 1) N)) := by rw [← e0]; exact hown2
        go_roundw
        case rel => first | exact ⟨k + 1, by omega, by rw [HQ.out], hB2, hown3⟩ | ((repeat apply Exists.intro); exact ⟨⟨k + 1, by omega, by rw [HQ.out], hB2, hown3⟩, rfl⟩)
        case measure => simp [intOf]; omega
end Go.Proofs.YtpfcboakafbnlaaDoor
