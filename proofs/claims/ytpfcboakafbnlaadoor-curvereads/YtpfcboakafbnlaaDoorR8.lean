/-
  The reference: Pow, Inv.
-/
import Derived.Test.YtpfcboakafbnlaaDoorR7
set_option linter.unusedVariables false
namespace Go.Proofs.YtpfcboakafbnlaaDoor
open Go.RowKit Go.Sort Go.BigFrame
set_option maxRecDepth 100000
set_option maxHeartbeats 2000000
theorem pow33 (a : Option Addr) (ca : Nat) (x : List Nat) (b : Option Addr) (lb cb : Nat) (y : List Nat) (w : World) (hx : x.length = 32) (hy : Hid (y.length = lb)) (hlb : lb ≤ 1000)
    (ha : IView w a x) (hb : IView w b y) (dx : Dig x) (dy : Dig y) :
    Calls Tryd.prog 70 #[.slice a 32 ca, .slice b lb cb] w fun e w' => ∃ g, e = .returned (.slice (some ⟨g, 0, none⟩) 32 32) ∧ RelR w w' g (digs 32 (valD x ^ valD y % pp)) := by
  have hone := fun w1 => int18p 1 w1 (by omega)
  simp only [Int.cast_ofNat_Int] at hone
  obtain ⟨X, hX⟩ : ∃ X, X = valD x := ⟨_, rfl⟩
  have HX : Hid (X = valD x) := hX
  rw [← hX]
  clear hX
  have hpl : ∀ v, v % pp < 256 ^ 32 := fun v => Nat.lt_trans (Nat.mod_lt _ pp_pos) (by decide)
  have cSq := fun w1 g (N : Nat) (h : w1.heap[g]? = some (.cells (ints .i64 (digs 32 (X ^ N % pp))) 3 (0, 0))) => mul25 (some ⟨g, 0, none⟩) 32 32 (digs 32 (X ^ N % pp)) (some ⟨g, 0, none⟩) 32 32 (digs 32 (X ^ N % pp)) w1 (digs_len _ _) (digs_len _ _) (by omega) (by omega) (fun _ => ⟨g, 0, rfl, ints_row h⟩) (fun _ => ⟨g, 0, rfl, ints_row h⟩) (digs_dig _ _) (digs_dig _ _)
  have cSq2 : ∀ w1 g (N : Nat), w1.heap[g]? = some (.cells (ints .i64 (digs 32 (X ^ N % pp))) 3 (0, 0)) → Calls Tryd.prog 41 #[.slice (some ⟨g, 0, none⟩) 32 32, .slice (some ⟨g, 0, none⟩) 32 32] w1 fun e w' => ∃ g', e = .returned (.slice (some ⟨g', 0, none⟩) 32 32) ∧ RelR w1 w' g' (digs 32 (X ^ (2 * N) % pp)) := fun w1 g N h => by
    have := cSq w1 g N h
    rw [valD_digs_lt (hpl _), ← Nat.mul_mod, ← Nat.pow_add, ← Nat.two_mul] at this
    exact this
  have cA2 : ∀ w1 g (N : Nat), Below w.heap.size w w1 → w1.heap[g]? = some (.cells (ints .i64 (digs 32 (X ^ N % pp))) 3 (0, 0)) → Calls Tryd.prog 41 #[.slice (some ⟨g, 0, none⟩) 32 32, .slice a 32 ca] w1 fun e w' => ∃ g', e = .returned (.slice (some ⟨g', 0, none⟩) 32 32) ∧ RelR w1 w' g' (digs 32 (X ^ (N + 1) % pp)) := fun w1 g N hB h => by
    have := mul25 (some ⟨g, 0, none⟩) 32 32 (digs 32 (X ^ N % pp)) a 32 ca x w1 (digs_len _ _) hx (by omega) (by omega) (fun _ => ⟨g, 0, rfl, ints_row h⟩) (ha.below hB) (digs_dig _ _) dx
    rw [valD_digs_lt (hpl _), ← HX.out, Nat.mod_mul_mod, ← Nat.pow_succ] at this
    exact this
  clear cSq ha hpl
  go_enter Tryd.func70, Tryd.ntmps70
  go_wp2_with fail
  refine (hone _).mono ?_
  rintro e w1 ⟨g1, rfl, hR1⟩
  have hR0 : RelR w w1 g1 (digs 32 (X ^ valD (y.drop lb) % pp)) := by
    rw [List.drop_of_length_le (by rw [hy.out]; exact Nat.le_refl _)]
    exact hR1
  clear hone hR1
  go_wp2_with fail
  go_loopw [5, 6] (fun v i wr => ∃ j g : Nat, j ≤ lb ∧ i = .int .i64 ((j : Int) - 1) ∧ v = .slice (some ⟨g, 0, none⟩) 32 32 ∧ RelR w wr g (digs 32 (X ^ valD (y.drop j) % pp))) (fun _ i _ => (intOf i + 1).toNat)
  case atStart => exact ⟨lb, g1, Nat.le_refl _, rfl, rfl, hR0⟩
  case round =>
    obtain ⟨j, g, hj, rfl, rfl, hR⟩ := hrel
    clear hR0
    by_cases hj0 : j = 0
    · subst hj0
      go_wp2
      go_ret
      exact ⟨g, rfl, hR⟩
    · obtain ⟨i, rfl⟩ : ∃ i, j = i + 1 := ⟨j - 1, by omega⟩
      have eI : (((i + 1 : Nat) : Int) - 1) = (i : Int) := by omega
      rw [eI]
      obtain ⟨gx, off, rfl, hc⟩ := hb (by rw [hy.out]; omega)
      have hci := hc i (by rw [hy.out]; omega)
      have hgx := block_lt_of_cell hci
      obtain ⟨c, hcc⟩ : ∃ c, c = y.getD i 0 := ⟨_, rfl⟩
      have hcl : c < 256 := by rw [hcc]; exact dy i
      rw [← hcc] at hci
      have HDR : Hid (valD (y.drop i) = c + 256 * valD (y.drop (i + 1))) := by show _ = _; rw [hcc]; exact drop_val y i
      obtain ⟨E, hE⟩ : ∃ E, E = valD (y.drop (i + 1)) := ⟨_, rfl⟩
      rw [← hE] at HDR hR
      clear hcc hE hc eI hj0
      have hR0 : RelR w wr g (digs 32 (X ^ (E * 2 ^ 0 + c / 2 ^ (8 - 0)) % pp)) := by
        rw [Nat.sub_zero, Nat.div_eq_of_lt hcl, Nat.pow_zero, Nat.mul_one, Nat.add_zero]; exact hR
      clear hR
      go_wp2_with fail
      go_loopw [5, 7, 8] (fun v d k wr => ∃ t g : Nat, t ≤ 8 ∧ k = .int .i64 t ∧ d = .int .i64 ((2 ^ (7 - t) : Nat) : Int) ∧ v = .slice (some ⟨g, 0, none⟩) 32 32 ∧ RelR w wr g (digs 32 (X ^ (E * 2 ^ t + c / 2 ^ (8 - t)) % pp))) (fun _ _ k _ => 8 - (intOf k).toNat)
      case atStart => exact ⟨0, g, by omega, rfl, rfl, rfl, hR0⟩
      case round =>
        obtain ⟨t, g, ht, rfl, rfl, rfl, hR⟩ := hrel
        clear hR0
        by_cases ht8 : t < 8
        · obtain ⟨N, hN⟩ : ∃ N, N = E * 2 ^ t + c / 2 ^ (8 - t) := ⟨_, rfl⟩
          have HN : Hid (E * 2 ^ (t + 1) + c / 2 ^ (8 - (t + 1)) = 2 * N + c / 2 ^ (7 - t) % 2) := by
            show _ = _
            have h1 := bit_step c (7 - t)
            rw [show 7 - t + 1 = 8 - t by omega] at h1
            have h3 : E * (2 ^ t * 2) = 2 * (E * 2 ^ t) := by rw [← Nat.mul_assoc, Nat.mul_comm]
            rw [hN, show 8 - (t + 1) = 7 - t by omega, Nat.pow_succ]
            omega
          rw [← hN] at hR
          have cS := cSq2 wr g N hR.2.2
          have cA := fun w1 g => cA2 w1 g (2 * N)
          have hci2 := fun w2 (hB2 : Below w.heap.size w w2) => (hB2.cell (p := ⟨gx, off + i, none⟩) hgx).trans hci
          obtain ⟨dd, hdd⟩ : ∃ d, d = 2 ^ (7 - t) := ⟨_, rfl⟩
          have hd0 : 0 < dd := by rw [hdd]; exact Nat.pow_pos (by decide)
          have hd1 : dd ≤ 128 := by rw [hdd]; exact Nat.pow_le_pow_right (by decide) (by omega : 7 - t ≤ 7)
          have hDD : Hid (2 ^ (7 - (t + 1)) = if 1 < dd then dd / 2 else 1) := by
            show _ = _
            by_cases h7 : t < 7
            · have e7 : 2 ^ (7 - t) = 2 ^ (7 - (t + 1)) * 2 := by rw [← Nat.pow_succ]; congr 1; omega
              have := Nat.pow_pos (n := 7 - (t + 1)) (by decide : 0 < 2)
              rw [hdd, if_pos (by omega)]
              omega
            · obtain rfl : t = 7 := by omega
              subst hdd
              rfl
          rw [← hdd] at HN ⊢
          have HBS : Hid (w.heap.size ≤ wr.heap.size) := hR.1.size
          have hB := hR.1
          clear hN hdd hR
          go_wp2_with fail
          refine cS.mono ?_
          rintro e w2 ⟨g2, rfl, hR2⟩
          have hB2 : Below w.heap.size w w2 := hB.trans (hR2.1.mono hB.size)
          have hcell := hci2 w2 hB2
          clear cS hci2 hB
          obtain ⟨q, hq⟩ : ∃ q, q = c / dd := ⟨_, rfl⟩
          have iq : (c : Int) / (dd : Int) = (q : Int) := by rw [hq]; simp
          have hql : q < 256 := by rw [hq]; exact Nat.lt_of_le_of_lt (Nat.div_le_self _ _) hcl
          rw [← hq] at HN
          clear hq
          by_cases hodd : q % 2 = 1
          · have ho2 : ((q : Int) % 2 == 1) = true := by simp; omega
            have HO : Hid (q % 2 = 1) := hodd
            clear hodd
            by_cases hbig : 1 < dd
            · have HD : Hid (2 ^ (7 - (t + 1)) = dd / 2) := by show _ = _; rw [hDD.out, if_pos hbig]
              go_wp2_with fail
              refine (cA w2 g2 hB2 hR2.2.2).mono ?_
              rintro e w3 ⟨g3, rfl, hR3⟩
              have HRR : Hid (RelR w w3 g3 (digs 32 (X ^ (2 * N + 1) % pp))) := ⟨hB2.trans (hR3.1.mono hB2.size), Nat.le_trans hB2.size hR3.2.1, hR3.2.2⟩
              clear hR3 hR2 hB2 cA
              go_wp2
              go_roundw
              case rel => exact ⟨t + 1, g3, by omega, by go_num, by rw [HD.out]; go_num, rfl, by rw [HN.out, HO.out]; exact HRR.out⟩
              case measure => simp [intOf]; omega
            · have HD : Hid (2 ^ (7 - (t + 1)) = 1) := by show _ = _; rw [hDD.out, if_neg hbig]
              obtain rfl : dd = 1 := by omega
              go_wp2_with fail
              refine (cA w2 g2 hB2 hR2.2.2).mono ?_
              rintro e w3 ⟨g3, rfl, hR3⟩
              have HRR : Hid (RelR w w3 g3 (digs 32 (X ^ (2 * N + 1) % pp))) := ⟨hB2.trans (hR3.1.mono hB2.size), Nat.le_trans hB2.size hR3.2.1, hR3.2.2⟩
              clear hR3 hR2 hB2 cA
              go_wp2
              go_roundw
              case rel => exact ⟨t + 1, g3, by omega, by go_num, by rw [HD.out]; rfl, rfl, by rw [HN.out, HO.out]; exact HRR.out⟩
              case measure => simp [intOf]; omega
          · have ho2 : ((q : Int) % 2 == 1) = false := by simp; omega
            have HO : Hid (q % 2 = 0) := by show _ = _; omega
            clear hodd
            by_cases hbig : 1 < dd
            · have HD : Hid (2 ^ (7 - (t + 1)) = dd / 2) := by show _ = _; rw [hDD.out, if_pos hbig]
              go_wp2_with fail
              go_roundw
              case rel => exact ⟨t + 1, g2, by omega, by go_num, by rw [HD.out]; go_num, rfl, by rw [HN.out, HO.out, Nat.add_zero]; exact ⟨hB2, Nat.le_trans HBS.out hR2.2.1, hR2.2.2⟩⟩
              case measure => simp [intOf]; omega
            · have HD : Hid (2 ^ (7 - (t + 1)) = 1) := by show _ = _; rw [hDD.out, if_neg hbig]
              obtain rfl : dd = 1 := by omega
              go_wp2_with fail
              go_roundw
              case rel => exact ⟨t + 1, g2, by omega, by go_num, by rw [HD.out]; rfl, rfl, by rw [HN.out, HO.out, Nat.add_zero]; exact ⟨hB2, Nat.le_trans HBS.out hR2.2.1, hR2.2.2⟩⟩
              case measure => simp [intOf]; omega
        · obtain rfl : t = 8 := by omega
          have HR : Hid (RelR w wr g (digs 32 (X ^ valD (y.drop i) % pp))) := by
            show RelR _ _ _ _
            rw [HDR.out]
            have e : E * 2 ^ 8 + c / 2 ^ (8 - 8) = c + 256 * E := by simp; omega
            rw [← e]; exact hR
          clear hR
          go_wp2
          go_roundw
          case rel => exact ⟨i, g, by omega, rfl, rfl, HR.out⟩
          case measure => simp [intOf]
end Go.Proofs.YtpfcboakafbnlaaDoor
