/-
  The reference: Mod.
-/
import Derived.Test.YtoehjkebfpoigaaDoorR4
set_option linter.unusedVariables false
namespace Go.Proofs.YtoehjkebfpoigaaDoor
open Go.RowKit Go.Sort Go.BigFrame
set_option maxRecDepth 100000
set_option maxHeartbeats 2000000
/-- A row half doubled. -/
def dblV (V b j : Nat) : Nat := (2 * (V % 256 ^ j) + b) % 256 ^ j + 256 ^ j * (V / 256 ^ j)
def dblC (V b j : Nat) : Nat := (2 * (V % 256 ^ j) + b) / 256 ^ j
theorem dbl_lo (V b j : Nat) : 2 * (V % 256 ^ (j + 1)) + b = 2 * (V % 256 ^ j) + b + 256 ^ j * (2 * (V / 256 ^ j % 256)) := by
  rw [Nat.pow_succ, Nat.mod_mul, Nat.mul_add, ← Nat.mul_assoc 2, Nat.mul_comm 2 (256 ^ j), Nat.mul_assoc]
  omega
theorem dblC_step (V b j : Nat) : dblC V b (j + 1) = (dblC V b j + 2 * (V / 256 ^ j % 256)) / 256 := by
  unfold dblC
  rw [dbl_lo, Nat.pow_succ, div_step _ _ _ (pos256 j)]
theorem dblV_get {V b j : Nat} (hj : j < 33) : (digs 33 (dblV V b j)).getD j 0 = V / 256 ^ j % 256 := by
  rw [digs_get 33 _ j hj, dblV, Nat.add_mul_div_left _ _ (pos256 j), Nat.div_eq_of_lt (Nat.mod_lt _ (pos256 j)), Nat.zero_add]
theorem dblV_step {V b j : Nat} (hj : j < 33) (hV : V < 256 ^ 32) : (digs 33 (dblV V b j)).set j ((dblC V b j + 2 * (V / 256 ^ j % 256)) % 256) = digs 33 (dblV V b (j + 1)) := by
  have hq := pos256 j
  have hle : 256 ^ j ≤ 256 ^ 32 := Nat.pow_le_pow_right (by decide) (by omega)
  have hlo : (2 * (V % 256 ^ j) + b) % 256 ^ j < 256 ^ j := Nat.mod_lt _ hq
  have hdm := Nat.div_add_mod V (256 ^ j)
  have h1 : dblV V b j < 256 ^ 33 := by
    unfold dblV
    have : (256 : Nat) ^ 33 = 256 * 256 ^ 32 := by decide
    omega
  have hst := mod_step (2 * (V % 256 ^ j) + b) (256 ^ j) (2 * (V / 256 ^ j % 256))
  have hv2 : dblV V b (j + 1) = (2 * (V % 256 ^ j) + b) % 256 ^ j + 256 ^ j * ((dblC V b j + 2 * (V / 256 ^ j % 256)) % 256) + 256 ^ j * (256 * (V / 256 ^ j / 256)) := by
    unfold dblV
    rw [dbl_lo, Nat.pow_succ, hst, Nat.mul_assoc, Nat.div_div_eq_div_mul]
    rfl
  have hs := valD_set (digs 33 (dblV V b j)) j ((dblC V b j + 2 * (V / 256 ^ j % 256)) % 256) (by rw [digs_len]; omega)
  rw [dblV_get hj, valD_digs_lt h1] at hs
  have hmm : 256 ^ j * (V / 256 ^ j) = 256 ^ j * (V / 256 ^ j % 256) + 256 ^ j * (256 * (V / 256 ^ j / 256)) := by
    rw [← Nat.mul_add, Nat.mod_add_div]
  refine digs_of ((digs_dig _ _).set (Nat.mod_lt _ (by decide))) (by rw [List.length_set, digs_len]) ?_
  unfold dblV at hs h1
  rw [hv2]
  unfold dblV
  omega
theorem dblV_zero (V b : Nat) : dblV V b 0 = V := by simp [dblV, Nat.mod_one]
theorem dblC_zero (V b : Nat) : dblC V b 0 = b := by simp [dblC, Nat.mod_one]
theorem dblV_end {V b : Nat} (hV : V < 256 ^ 32) (hb : b < 2) : dblV V b 33 = 2 * V + b := by
  have h3 : (256 : Nat) ^ 33 = 256 * 256 ^ 32 := by decide
  have h1 : V < 256 ^ 33 := by omega
  unfold dblV
  rw [Nat.mod_eq_of_lt h1, Nat.div_eq_of_lt h1, Nat.mul_zero, Nat.add_zero, Nat.mod_eq_of_lt (by omega)]
theorem dblC_le {V b : Nat} (j : Nat) (hb : b < 2) : dblC V b j ≤ 1 := by
  have hq := pos256 j
  have := Nat.mod_lt V hq
  have h2 : 2 * (V % 256 ^ j) + b < 2 * 256 ^ j := by omega
  have := (Nat.div_lt_iff_lt_mul hq).2 h2
  unfold dblC
  omega
/-- The number of the bits that have been taken. -/
def modA (D u k : Nat) : Nat := D * 2 ^ k + u / 2 ^ (8 - k)
theorem modA_step {D u k : Nat} (hk : k < 8) : modA D u (k + 1) = 2 * modA D u k + u / 2 ^ (7 - k) % 2 := by
  unfold modA
  have e1 : 2 ^ (8 - k) = 2 ^ (7 - k) * 2 := by rw [← Nat.pow_succ]; congr 1; omega
  have e2 : 8 - (k + 1) = 7 - k := by omega
  have h := Nat.div_add_mod (u / 2 ^ (7 - k)) 2
  rw [e1, e2, ← Nat.div_div_eq_div_mul, Nat.pow_succ, ← Nat.mul_assoc, Nat.mul_add]
  omega
theorem modA_mod {D u k M : Nat} (hk : k < 8) : (2 * (modA D u k % M) + u / 2 ^ (7 - k) % 2) % M = modA D u (k + 1) % M := by
  rw [modA_step hk, Nat.add_mod, Nat.mul_mod, Nat.mod_mod, ← Nat.mul_mod, ← Nat.add_mod]
def bitOf (k : Nat) : Nat := if k = 8 then 1 else 2 ^ (7 - k)
theorem bit_next {k : Nat} (h : k < 8) : (k = 7 ∧ bitOf k / 2 = 0 ∧ bitOf (k + 1) = 1) ∨ (k ≠ 7 ∧ bitOf k / 2 = bitOf (k + 1) ∧ 0 < bitOf (k + 1)) := by
  by_cases h7 : k = 7
  · subst h7; exact .inl ⟨rfl, by decide, by decide⟩
  · refine .inr ⟨h7, ?_, ?_⟩
    · unfold bitOf
      rw [if_neg (by omega), if_neg (by omega), show 7 - k = (7 - (k + 1)) + 1 by omega, Nat.pow_succ, Nat.mul_div_cancel _ (by decide)]
    · unfold bitOf
      rw [if_neg (by omega)]
      exact Nat.pow_pos (by decide)
theorem mod23 (a : Option Addr) (la ca : Nat) (x : List Nat) (b : Option Addr) (lb cb : Nat) (y : List Nat) (M : Nat) (w : World) (hx : Hid (x.length = la)) (hy : Hid (y.length = lb)) (hla : la ≤ 10000) (hlb : lb ≤ 33)
    (ha : IView w a x) (hb : IView w b y) (dx : Dig x) (dy : Dig y) (hM : Hid (valD y = M)) (hM0 : 0 < M) (hM1 : Hid (M < 256 ^ 32)) :
    Calls Tryd.prog 23 #[.slice a la ca, .slice b lb cb] w fun e w' => ∃ g, e = .returned (.slice (some ⟨g, 0, none⟩) 32 33) ∧ RelR w w' g (digs 33 (valD x % M)) := by
  have hmk := make30 33 (by omega)
  simp only [Int.cast_ofNat_Int] at hmk
  have hR0 : RelR w (w.alloc (.cells (ints .i64 (digs 33 0)) 3)) w.heap.size (digs 33 (valD (x.drop la) % M)) := by
    rw [List.drop_of_length_le (by rw [hx.out]; exact Nat.le_refl _)]
    exact ⟨below1 _ _, Nat.le_refl _, by rw [show valD [] % M = 0 from Nat.zero_mod _]; exact alloc_row _ _ _⟩
  go_enter Tryd.func23, Tryd.ntmps23
  go_wp2_with fail
  go_loopw [5, 6] (fun v i wr => ∃ j g : Nat, j ≤ la ∧ i = .int .i64 ((j : Int) - 1) ∧ v = .slice (some ⟨g, 0, none⟩) 33 33 ∧ RelR w wr g (digs 33 (valD (x.drop j) % M))) (fun _ i _ => (intOf i + 1).toNat)
  case atStart => exact ⟨la, _, Nat.le_refl _, by go_num, rfl, hR0⟩
  case round =>
    obtain ⟨j, g, hj, rfl, rfl, hR⟩ := hrel
    clear hR0 hmk
    by_cases hj0 : j = 0
    · subst hj0
      rw [List.drop_zero] at hR
      go_wp2
      go_ret
      exact ⟨g, rfl, hR⟩
    · obtain ⟨i, rfl⟩ : ∃ i, j = i + 1 := ⟨j - 1, by omega⟩
      have eI : (((i + 1 : Nat) : Int) - 1) = (i : Int) := by omega
      rw [eI]
      clear eI hj0
      obtain ⟨D, hD⟩ : ∃ D, D = valD (x.drop (i + 1)) := ⟨_, rfl⟩
      obtain ⟨u, hu⟩ : ∃ u, u = x.getD i 0 := ⟨_, rfl⟩
      have hul : u < 256 := by rw [hu]; exact dx i
      have HE : Hid (modA D u 8 % M = valD (x.drop i) % M) := by
        show _ = _
        rw [drop_val x i, ← hD, ← hu]
        simp [modA]
        congr 1; omega
      have hA0 : modA D u 0 % M = D % M := by simp [modA]; rw [Nat.div_eq_of_lt hul]; simp
      rw [← hD, ← hA0] at hR
      clear hA0
      obtain ⟨g1, o1, rfl, hc1⟩ := ha (by rw [hx.out]; omega)
      have k1 := hc1 i (by rw [hx.out]; omega)
      rw [← hu] at k1
      have hg1 := block_lt_of_cell k1
      clear hu hD hc1
      go_wp2_with fail
      go_loopw [5, 7, 8] (fun v d kk wr => ∃ k g : Nat, k ≤ 8 ∧ kk = .int .i64 (k : Int) ∧ d = .int .i64 ((bitOf k : Nat) : Int) ∧ v = .slice (some ⟨g, 0, none⟩) 33 33 ∧ RelR w wr g (digs 33 (modA D u k % M))) (fun _ _ kk _ => 8 - (intOf kk).toNat)
      case atStart => exact ⟨0, g, by omega, rfl, rfl, rfl, hR⟩
      case round =>
        obtain ⟨k, g, hk, rfl, rfl, rfl, hR⟩ := hrel
        by_cases hk8 : k < 8
        · have k2 := (hR.1.cell (p := ⟨g1, o1 + i, none⟩) hg1).trans k1
          obtain ⟨bt, hbt⟩ : ∃ t, t = u / 2 ^ (7 - k) % 2 := ⟨_, rfl⟩
          have hbo : bitOf k = 2 ^ (7 - k) := by unfold bitOf; rw [if_neg (by omega)]
          have hbp : 0 < bitOf k := by rw [hbo]; exact Nat.pow_pos (by decide)
          have hb2 : bt < 2 := by rw [hbt]; omega
          obtain ⟨q, hqe⟩ : ∃ q, q = u / bitOf k := ⟨_, rfl⟩
          have hqi : (u : Int) / ((bitOf k : Nat) : Int) = (q : Int) := by rw [hqe]; simp
          have hql : q ≤ 255 := by rw [hqe]; exact Nat.le_trans (Nat.div_le_self _ _) (by omega)
          have hbi : (q : Int) % 2 = (bt : Int) := by rw [hbt, hqe, ← hbo]; simp
          clear hqe
          have hbk : bitOf k ≤ 128 := by rw [hbo]; exact Nat.le_trans (Nat.pow_le_pow_right (by decide) (by omega : 7 - k ≤ 7)) (by decide)
          have hV : modA D u k % M < 256 ^ 32 := Nat.lt_trans (Nat.mod_lt _ hM0) hM1.out
          have hVM : modA D u k % M < M := Nat.mod_lt _ hM0
          have HS : Hid ((2 * (modA D u k % M) + bt) % M = modA D u (k + 1) % M) := by show _ = _; rw [hbt]; exact modA_mod hk8
          have hbn := bit_next hk8
          obtain ⟨V, hVe⟩ : ∃ V, V = modA D u k % M := ⟨_, rfl⟩
          rw [← hVe] at hR hV hVM HS
          obtain ⟨B, hBe⟩ : ∃ B, B = bitOf k := ⟨_, rfl⟩
          obtain ⟨B2, hB2e⟩ : ∃ B, B = bitOf (k + 1) := ⟨_, rfl⟩
          have HB2 : Hid (B2 = bitOf (k + 1)) := hB2e
          rw [← hBe] at hbn hqi hbp hbk ⊢
          rw [← hB2e] at hbn
          have hR0 : Hid (RelR w wr g (digs 33 (dblV V bt 0))) := by show RelR _ _ _ _; rw [dblV_zero]; exact hR
          have HV : Hid (V < 256 ^ 32) := hV
          have HVM : Hid (V < M) := hVM
          clear hVe hBe hB2e hbt hbo hV hVM hR
          rcases hbn with ⟨h7, hz, rfl⟩ | ⟨h7, hz, hbp2⟩
          all_goals
            have hdv : (B : Int) / 2 = ((B / 2 : Nat) : Int) := by omega
            rw [hz] at hdv
            clear hz h7
            go_wp2_with fail
            go_loopw [10, 11] (fun c i wr => ∃ j : Nat, j ≤ 33 ∧ i = .int .i64 j ∧ c = .int .i64 ((dblC V bt j : Nat) : Int) ∧ RelR w wr g (digs 33 (dblV V bt j))) (fun _ i _ => 33 - (intOf i).toNat)
            case atStart => exact ⟨0, by omega, rfl, by rw [dblC_zero, ← hbi], hR0.out⟩
            case round =>
              obtain ⟨j, hj33, rfl, rfl, hRj⟩ := hrel
              clear hR0 k2 hqi hbi hdv
              by_cases hlt : j < 33
              · have c1 := hRj.at j (by rw [digs_len]; omega)
                have f1 := hRj.free j
                rw [dblV_get hlt] at c1
                have hcl := dblC_le (V := V) j hb2
                have HC : Hid (dblC V bt (j + 1) = (dblC V bt j + 2 * (V / 256 ^ j % 256)) / 256) := dblC_step V bt j
                have hstp := dblV_step (b := bt) hlt HV.out
                have hdl : V / 256 ^ j % 256 < 256 := Nat.mod_lt _ (by decide)
                obtain ⟨d, hde⟩ : ∃ d, d = V / 256 ^ j % 256 := ⟨_, rfl⟩
                obtain ⟨c, hce⟩ : ∃ c, c = dblC V bt j := ⟨_, rfl⟩
                rw [← hde] at c1 hdl HC hstp
                rw [← hce] at hcl HC hstp ⊢
                have HN : Hid (RelR w (wr.setCell ⟨g, j, none⟩ (.int .i64 (((c + 2 * d) % 256 : Nat) : Int))) g (digs 33 (dblV V bt (j + 1)))) := by
                  show RelR _ _ _ _
                  rw [← hstp]; exact hRj.set j _
                have ev : (2 * (d : Int) + (c : Int)) = ((c + 2 * d : Nat) : Int) := by omega
                have HEV : Hid (((c + 2 * d) % 256 : Nat) = (2 * d + c) % 256) := by show _ = _; rw [Nat.add_comm]
                have HEC : Hid (((c + 2 * d) / 256 : Nat) = (2 * d + c) / 256) := by show _ = _; rw [Nat.add_comm]
                rw [HEV.out] at HN
                rw [HEC.out] at HC
                clear hstp hde hce hRj ev
                go_wp2
                go_roundw
                case rel => exact ⟨j + 1, by omega, by go_num, by rw [HC.out]; simp, by simpa using HN.out⟩
                case measure => simp [intOf]; omega
              · obtain rfl : j = 33 := by omega
                rw [dblV_end HV.out hb2] at hRj
                obtain ⟨V2, hV2⟩ : ∃ V2, V2 = 2 * V + bt := ⟨_, rfl⟩
                rw [← hV2] at hRj HS
                have hM32 : (256 : Nat) ^ 33 = 256 * 256 ^ 32 := by decide
                have hV2l : V2 < 256 ^ 33 := by have := HV.out; omega
                have hV2M : V2 < 2 * M := by have := HVM.out; omega
                have hiv : IView wr (some ⟨g, 0, none⟩) (digs 33 V2) := fun _ => ⟨g, 0, rfl, ints_row hRj.2.2⟩
                have hby : IView wr b y := hb.below hRj.1
                have hval : valD (digs 33 V2) = V2 := valD_digs_lt hV2l
                have cL := less18 (some ⟨g, 0, none⟩) 33 33 (digs 33 V2) b lb cb y wr (digs_len _ _) hy (by omega) (by omega) hiv hby (digs_dig _ _) dy
                rw [hval, hM.out] at cL
                have cM := fun (h : M ≤ V2) => minus32 (some ⟨g, 0, none⟩) 33 33 (digs 33 V2) b lb cb y wr (digs_len _ _) hy (by omega) (by omega) hiv hby (digs_dig _ _) dy (by omega) (by show _ ≤ _; rw [hval, hM.out]; exact h)
                rw [hval, hM.out] at cM
                clear hV2 hM32 hiv hby hval
                have HBN : Hid (∀ B', B' = bitOf (k + 1) → Value.int .i64 (B' : Int) = .int .i64 ((bitOf (k + 1) : Nat) : Int)) := fun B' h => by rw [h]
                by_cases hlt2 : V2 < M
                · have HRR : Hid (RelR w wr g (digs 33 (modA D u (k + 1) % M))) := by
                    show RelR _ _ _ _
                    rw [← HS.out, Nat.mod_eq_of_lt hlt2]; exact hRj
                  rw [decide_eq_true hlt2] at cL
                  clear hlt2 hV2l hV2M cM hRj
                  go_wp2_with fail
                  refine cL.mono ?_
                  rintro e w5 ⟨rfl, rfl⟩
                  go_wp2
                  go_roundw
                  case rel => exact ⟨k + 1, g, by omega, by go_num, by rw [← HB2.out]; try rfl, rfl, HRR.out⟩
                  case measure => simp [intOf]; omega
                · have cM := cM (by omega)
                  rw [decide_eq_false hlt2] at cL
                  have HV2 : Hid (V2 - M = modA D u (k + 1) % M) := by
                    show _ = _
                    rw [← HS.out, Nat.mod_eq_sub_mod (by omega), Nat.mod_eq_of_lt (by omega)]
                  rw [HV2.out] at cM
                  clear hlt2 hV2l hV2M
                  go_wp2_with fail
                  refine cL.mono ?_
                  rintro e w5 ⟨rfl, rfl⟩
                  go_wp2_with fail
                  refine cM.mono ?_
                  rintro e w6 ⟨g6, rfl, hR6⟩
                  have HRR : Hid (RelR w w6 g6 (digs 33 (modA D u (k + 1) % M))) := ⟨hRj.1.trans (hR6.1.mono hRj.1.size), Nat.le_trans hRj.1.size hR6.2.1, hR6.2.2⟩
                  clear hR6 hRj cL cM
                  go_wp2
                  go_roundw
                  case rel => exact ⟨k + 1, g6, by omega, by go_num, by rw [← HB2.out]; try rfl, rfl, HRR.out⟩
                  case measure => simp [intOf]; omega
        · obtain rfl : k = 8 := by omega
          rw [HE.out] at hR
          go_wp2
          go_roundw
          case rel => exact ⟨i, g, by omega, by go_num, rfl, hR⟩
          case measure => simp [intOf]
end Go.Proofs.YtoehjkebfpoigaaDoor
