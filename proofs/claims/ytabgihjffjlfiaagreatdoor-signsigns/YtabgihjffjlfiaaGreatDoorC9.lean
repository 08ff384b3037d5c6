/-
  The walks of the reference's Secret, Public. The reference: Mod. The reference: Small. The reference: L, cut, Reduce, MulAdd, Is. The walks of the reference's hash, Sign. Single operations and calls for Verify and the laws. The walk of Verify. The walk of seed. The document's example, by the kernel. The walk of lives. The walk of SignSigns.
-/
import Derived.Test.YtabgihjffjlfiaaGreatDoorC5
import Derived.Test.YtabgihjffjlfiaaGreatDoorC6
import Derived.Test.YtabgihjffjlfiaaGreatDoorC8
import Derived.Test.YtabgihjffjlfiaaGreatDoorC1
import Derived.Test.YtabgihjffjlfiaaGreatDoorC4
import Derived.Deep.CutRange
import Derived.Deep.RegionHeld
set_option linter.unusedVariables false
namespace Go.Proofs.YtabgihjffjlfiaaGreatDoor
open Go.RowKit Go.Sort Go.BigFrame EN
set_option maxRecDepth 100000
set_option maxHeartbeats 4000000
theorem rSum512 {v : Value} {l : List Nat} (w : World) (h : Bts l v w) (hd : Dig l) (hl : l.length ≤ 100000) : Ret 46 #[v] w (OwnC w.heap.size (SH l)) := by
  obtain ⟨a, cap, rfl, h1, h2, hv⟩ := h
  refine (SR.rsum512 a l.length cap l w rfl hd (by omega) hv).mono ?_
  rintro e w' ⟨v, rfl, base, hb, hB, ho⟩
  exact ⟨_, rfl, hB, OwnC.lo (own_C (SH_len l) (by omega) ho) hb⟩
theorem cut0 (g cap h : Nat) (w : World) (hh : h ≤ cap) : (Instr.sliceAt 22 (.slice (some ⟨g, 0, none⟩) 64 cap) none (some (.int .i64 (h : Int))) none).run Tryz.prog w = .ok (.slice (some ⟨g, 0, none⟩) h cap) w := by
  rw [run_cut_h _ _ _ _ _ hh]
  unfold cutA
  split <;> rfl
theorem cutL (g cap : Nat) (w : World) (hh : 64 ≤ cap) : (Instr.sliceAt 22 (.slice (some ⟨g, 0, none⟩) 64 cap) (some (.int .i64 32)) none none).run Tryz.prog w = .ok (.slice (some ⟨g, 32, none⟩) 32 (cap - 32)) w := by
  have h := run_cut_l (some ⟨g, 0, none⟩) 64 cap 32 w (by omega)
  unfold cutA at h
  rw [if_neg (by omega)] at h
  exact h
theorem rSecret {v : Value} {l : List Nat} (w : World) (h : Bts l v w) (hd : Dig l) (hl : l.length ≤ 100000) : Ret 17 #[v] w (Tup2 (Bts (SEC l)) (Bts (PRE l))) := by
  have hS := rSum512 w h hd hl
  obtain ⟨D, hD⟩ : ∃ D, D = SH l := ⟨_, rfl⟩
  have hDl : D.length = 64 := by rw [hD]; exact SH_len l
  have hDd : Dig D := by rw [hD]; exact SH_dig l
  have HD : Hid (D = SH l) := hD
  rw [← hD] at hS
  clear hD
  unfold Ret
  go_enter Tryz.func17, Tryz.ntmps17
  go_wp2_with fail
  refine hS.mono ?_
  rintro e w3 ⟨v2, rfl, hB13, g, cap, cur, rfl, hg, hrow3, hc, hc2, hcur⟩
  rw [hDl] at hc hcur ⊢
  clear hS
  obtain ⟨d0, hd0⟩ : ∃ d0, d0 = D.getD 0 0 := ⟨_, rfl⟩
  obtain ⟨d31, hd31⟩ : ∃ d31, d31 = D.getD 31 0 := ⟨_, rfl⟩
  have h0 : d0 < 256 := by rw [hd0]; exact hDd 0
  have h31 : d31 < 256 := by rw [hd31]; exact hDd 31
  have c0 := cell_of_row _ g 0 _ _ _ hrow3
  rw [hcur 0 (by omega), ← hd0] at c0
  have f0 := frozen_of_row _ g 0 _ _ hrow3
  obtain ⟨e0, he0⟩ : ∃ e0, e0 = d0 - d0 % 8 := ⟨_, rfl⟩
  obtain ⟨e31, he31⟩ : ∃ e31, e31 = d31 % 64 + 64 := ⟨_, rfl⟩
  have hlg := lt_of_heap hrow3
  have x0 : (d0 : Int) - (d0 : Int) % 8 = (e0 : Int) := by omega
  have x31 : (d31 : Int) % 64 + 64 = (e31 : Int) := by omega
  have y0 : e0 < 256 := by omega
  have y31 : e31 < 256 := by omega
  have HE : Hid (e0 = d0 - d0 % 8 ∧ d0 = D.getD 0 0 ∧ e31 = d31 % 64 + 64 ∧ d31 = D.getD 31 0) := ⟨he0, hd0, he31, hd31⟩
  have HD31 : Hid (d31 = D.getD 31 0) := hd31
  clear he0 hd0 he31 hd31
  obtain ⟨s1, s2⟩ := cur_set (l := D) hrow3 (by rw [hDl]; exact hcur) 0 e0 (by omega)
  obtain ⟨w4, hw4⟩ : ∃ w4, w4 = (w3.setCell ⟨g, 0, none⟩ (.int .u8 (e0 : Int))).drew := ⟨_, rfl⟩
  have s1' : w4.heap[g]? = some (.cells (cur.setIfInBounds 0 (.int .u8 (e0 : Int))) 5 (0, 0)) := by rw [hw4]; exact s1
  have c31 := cell_of_row _ g 31 _ _ _ s1'
  rw [s2 31 (by rw [List.length_set]; omega), getD_set2 _ _ _ _ (by omega), if_neg (by decide), ← HD31.out] at c31
  have f31 := frozen_of_row _ g 31 _ _ s1'
  obtain ⟨t1, t2⟩ := cur_set (l := D.set 0 e0) s1' s2 31 e31 (by rw [List.length_set]; omega)
  have hB4 : Below w.heap.size w w4 := by rw [hw4]; exact (hB13.setCell (p := ⟨g, 0, none⟩) (by show _ ≤ g; omega) (.int .u8 (e0 : Int))).drew
  have hB5 := hB4.setCell (p := ⟨g, 31, none⟩) (by show _ ≤ g; omega) (.int .u8 (e31 : Int))
  have HT1 : Hid _ := t1
  have HT2 : Hid _ := t2
  have HB5 : Hid _ := hB5
  have HW4 : Hid _ := hw4
  clear s1 s2 t1 t2 hB5 hw4 hB4
  go_wp2_with fail
  go_region
  rw [← HW4.out]
  clear HW4 c0 f0 hrow3
  go_wp2_with fail
  refine wp_region_inv 6 (specs [Is (.slice (some ⟨g, 0, none⟩) 64 cap), Is (.slice (some ⟨g, 0, none⟩) 32 cap), Is (.slice (some ⟨g, 0, none⟩) 64 cap), Is (.slice (some ⟨g, 32, none⟩) 32 (cap - 32)), Is (.slice (some ⟨g, 0, none⟩) 32 cap), Is (.slice (some ⟨g, 32, none⟩) 32 (cap - 32))])
    (by kernel_rfl) (specs_stb ⟨Is.stb _, Is.stb _, Is.stb _, Is.stb _, Is.stb _, Is.stb _, trivial⟩) (by kernel_rfl) ?_ ?_
  · refine ⟨fun a w hB hfr hdep => Step.plain rfl (dMove (R := Is _) rfl (hfr 4 (by kernel_rfl))),
      fun a w hB hfr hdep => Step.plain rfl (Does.run _ (Hrun_sliceO (by rw [show a.eval (.tmp 24) = _ from hdep 0 24 (by kernel_rfl)]; exact cut0 g cap 32 w (by omega)) rfl) rfl),
      fun a w hB hfr hdep => Step.plain rfl (dMove (R := Is _) rfl (hfr 4 (by kernel_rfl))),
      fun a w hB hfr hdep => Step.plain rfl (Does.run _ (Hrun_sliceO (by rw [show a.eval (.tmp 26) = _ from hdep 2 26 (by kernel_rfl)]; exact cutL g cap w (by omega)) rfl) rfl),
      fun a w hB hfr hdep => Step.plain rfl (dAssign (R := Is _) rfl (hdep 1 25 (by kernel_rfl))),
      fun a w hB hfr hdep => Step.plain rfl (dAssign (R := Is _) rfl (hdep 3 27 (by kernel_rfl))), trivial⟩
  intro u hu
  simp only [List.take, List.drop, FinAll, Act.put, List.setIfInBounds_toArray, List.set_cons_succ, List.set_cons_zero]
  rintro _ rfl _ rfl _ rfl _ rfl _ rfl _ rfl
  have hB6 := HB5.out.trans (hu.mono HB5.out.size)
  have q6 := HT2.out
  have hl2 : ((D.set 0 e0).set 31 e31).length = 64 := by rw [List.length_set, List.length_set]; exact hDl
  have hv : BytesAt u g 0 ((D.set 0 e0).set 31 e31) := bytesAt_cur (block_below hu (lt_of_heap HT1.out) HT1.out) q6
  obtain ⟨x1, x2, x3, x4⟩ := HE.out
  have hS1 : SEC l = ((D.set 0 e0).set 31 e31).take 32 := by
    unfold SEC secr
    rw [← HD.out, ← x2, ← x4, ← x1, ← x3, List.take_set, List.take_set]
  have hP1 : PRE l = ((D.set 0 e0).set 31 e31).drop 32 := by
    unfold PRE
    rw [← HD.out, List.drop_set_of_lt (by decide), List.drop_set_of_lt (by decide)]
  have k1 : Bts (SEC l) (.slice (some ⟨g, 0, none⟩) 32 cap) u := ⟨some ⟨g, 0, none⟩, cap, by rw [SEC_len], by rw [SEC_len]; omega, hc2, fun _ => ⟨g, 0, rfl, by rw [hS1]; exact take_view hv 32 (by omega)⟩⟩
  have k2 : Bts (PRE l) (.slice (some ⟨g, 32, none⟩) 32 (cap - 32)) u := ⟨some ⟨g, 32, none⟩, cap - 32, by rw [PRE_len], by rw [PRE_len]; omega, by omega, fun _ => ⟨g, 32, rfl, by rw [hP1]; exact drop_view hv 32⟩⟩
  clear hS1 hP1 hv q6 x1 x2 x3 x4 HE
  go_wp2
  go_ret2
  exact ⟨_, rfl, hB6, _, _, rfl, k1, k2⟩
theorem rPBytesP {p : Pt} {v1 : Value} (w : World) (h1 : RPt p.x p.y v1 w) : Ret 20 #[v1] w (OwnC w.heap.size (digs 32 p.enc)) := rPBytes w h1
theorem PUB_def (l : List Nat) : PUB l = digs 32 (bp.nm (valD (SEC l))).enc := by unfold PUB PT; rfl
theorem rPublic {v : Value} {l : List Nat} (w : World) (h : Bts l v w) (hd : Dig l) (hl : l.length ≤ 100000) : Ret 18 #[v] w (OwnC w.heap.size (PUB l)) := by
  have hS := rSecret w h hd hl
  rw [PUB_def]
  have hPT : ∀ w v2, RPt bp.x bp.y v2 w → ∀ v, Bts (SEC l) v w → Ret 21 #[v2, v] w (RPt (bp.nm (valD (SEC l))).x (bp.nm (valD (SEC l))).y) := fun w v2 h v hk => rMulPt (P := bp) w h hk (SEC_dig l) (by rw [SEC_len]; omega)
  have hBS := rBase
  generalize bp.nm (valD (SEC l)) = Q at *
  generalize bp = B0 at *
  obtain ⟨a, cap, rfl⟩ := h.form
  unfold Ret
  go_enter Tryz.func18, Tryz.ntmps18
  go_wp2_with fail
  refine hS.mono ?_
  rintro e w1 ⟨v1, rfl, hB1, k, p, rfl, hk, hp⟩
  go_wp2_with fail
  refine (hBS w1).mono ?_
  rintro e w2 ⟨v2, rfl, hB2, hP2⟩
  have hB12 := hB1.trans (hB2.mono hB1.size)
  have hC := hPT w2 v2 hP2 _ (Bts.stb _ _ _ _ hB2 hk)
  go_wp2_with fail
  refine hC.mono ?_
  rintro e w3 ⟨v3, rfl, hB3, hP3⟩
  have hB13 := hB12.trans (hB3.mono hB12.size)
  go_wp2_with fail
  refine (rPBytesP w3 hP3).mono ?_
  rintro e w4 ⟨v4, rfl, hB4, hO4⟩
  have hB14 := hB13.trans (hB4.mono hB13.size)
  have hO := hO4.lo hB13.size
  clear hO4
  go_wp2
  go_ret
  exact ⟨_, rfl, hB14, hO⟩
end Go.Proofs.YtabgihjffjlfiaaGreatDoor
set_option linter.unusedVariables false
namespace Go.Proofs.YtabgihjffjlfiaaGreatDoor
namespace EN
open Go.RowKit Go.Sort Go.BigFrame
set_option maxRecDepth 100000
set_option maxHeartbeats 2000000
/-- A row half doubled. -/
def dblV (V b j : Nat) : Nat := (2 * (V % 256 ^ j) + b) % 256 ^ j + 256 ^ j * (V / 256 ^ j)
def dblC (V b j : Nat) : Nat := (2 * (V % 256 ^ j) + b) / 256 ^ j
theorem dbl_lo (V b j : Nat) : 2 * (V % 256 ^ (j + 1)) + b = 2 * (V % 256 ^ j) + b + 256 ^ j * (2 * (V / 256 ^ j % 256)) := by
  rw [Nat.pow_succ, Nat.mod_mul, Nat.mul_add, ← Nat.mul_assoc 2, Nat.mul_comm 2 (256 ^ j), Nat.mul_assoc]
  omega
theorem dblC_step (V b j : Nat) : dblC V b (j + 1) = (dblC V b j + 2 * (V / 256 ^ j % 256)) / 256 := by
  unfold dblC
  rw [dbl_lo, Nat.pow_succ, div_step _ _ _ (pos256 j)]
theorem dblV_get {V b j : Nat} (hj : j < 33) : (digs 33 (dblV V b j)).getD j 0 = V / 256 ^ j % 256 := by
  rw [digs_get 33 _ j hj, dblV, Nat.add_mul_div_left _ _ (pos256 j), Nat.div_eq_of_lt (Nat.mod_lt _ (pos256 j)), Nat.zero_add]
theorem dblV_step {V b j : Nat} (hj : j < 33) (hV : V < 256 ^ 32) : (digs 33 (dblV V b j)).set j ((dblC V b j + 2 * (V / 256 ^ j % 256)) % 256) = digs 33 (dblV V b (j + 1)) := by
  have hq := pos256 j
  have hle : 256 ^ j ≤ 256 ^ 32 := Nat.pow_le_pow_right (by decide) (by omega)
  have hlo : (2 * (V % 256 ^ j) + b) % 256 ^ j < 256 ^ j := Nat.mod_lt _ hq
  have hdm := Nat.div_add_mod V (256 ^ j)
  have h1 : dblV V b j < 256 ^ 33 := by
    unfold dblV
    have : (256 : Nat) ^ 33 = 256 * 256 ^ 32 := by decide
    omega
  have hst := mod_step (2 * (V % 256 ^ j) + b) (256 ^ j) (2 * (V / 256 ^ j % 256))
  have hv2 : dblV V b (j + 1) = (2 * (V % 256 ^ j) + b) % 256 ^ j + 256 ^ j * ((dblC V b j + 2 * (V / 256 ^ j % 256)) % 256) + 256 ^ j * (256 * (V / 256 ^ j / 256)) := by
    unfold dblV
    rw [dbl_lo, Nat.pow_succ, hst, Nat.mul_assoc, Nat.div_div_eq_div_mul]
    rfl
  have hs := valD_set (digs 33 (dblV V b j)) j ((dblC V b j + 2 * (V / 256 ^ j % 256)) % 256) (by rw [digs_len]; omega)
  rw [dblV_get hj, valD_digs_lt h1] at hs
  have hmm : 256 ^ j * (V / 256 ^ j) = 256 ^ j * (V / 256 ^ j % 256) + 256 ^ j * (256 * (V / 256 ^ j / 256)) := by
    rw [← Nat.mul_add, Nat.mod_add_div]
  refine digs_of ((digs_dig _ _).set (Nat.mod_lt _ (by decide))) (by rw [List.length_set, digs_len]) ?_
  unfold dblV at hs h1
  rw [hv2]
  unfold dblV
  omega
theorem dblV_zero (V b : Nat) : dblV V b 0 = V := by simp [dblV, Nat.mod_one]
theorem dblC_zero (V b : Nat) : dblC V b 0 = b := by simp [dblC, Nat.mod_one]
theorem dblV_end {V b : Nat} (hV : V < 256 ^ 32) (hb : b < 2) : dblV V b 33 = 2 * V + b := by
  have h3 : (256 : Nat) ^ 33 = 256 * 256 ^ 32 := by decide
  have h1 : V < 256 ^ 33 := by omega
  unfold dblV
  rw [Nat.mod_eq_of_lt h1, Nat.div_eq_of_lt h1, Nat.mul_zero, Nat.add_zero, Nat.mod_eq_of_lt (by omega)]
theorem dblC_le {V b : Nat} (j : Nat) (hb : b < 2) : dblC V b j ≤ 1 := by
  have hq := pos256 j
  have := Nat.mod_lt V hq
  have h2 : 2 * (V % 256 ^ j) + b < 2 * 256 ^ j := by omega
  have := (Nat.div_lt_iff_lt_mul hq).2 h2
  unfold dblC
  omega
/-- The number of the bits that have been taken. -/
def modA (D u k : Nat) : Nat := D * 2 ^ k + u / 2 ^ (8 - k)
theorem modA_step {D u k : Nat} (hk : k < 8) : modA D u (k + 1) = 2 * modA D u k + u / 2 ^ (7 - k) % 2 := by
  unfold modA
  have e1 : 2 ^ (8 - k) = 2 ^ (7 - k) * 2 := by rw [← Nat.pow_succ]; congr 1; omega
  have e2 : 8 - (k + 1) = 7 - k := by omega
  have h := Nat.div_add_mod (u / 2 ^ (7 - k)) 2
  rw [e1, e2, ← Nat.div_div_eq_div_mul, Nat.pow_succ, ← Nat.mul_assoc, Nat.mul_add]
  omega
theorem modA_mod {D u k M : Nat} (hk : k < 8) : (2 * (modA D u k % M) + u / 2 ^ (7 - k) % 2) % M = modA D u (k + 1) % M := by
  rw [modA_step hk, Nat.add_mod, Nat.mul_mod, Nat.mod_mod, ← Nat.mul_mod, ← Nat.add_mod]
def bitOf (k : Nat) : Nat := if k = 8 then 1 else 2 ^ (7 - k)
theorem bit_next {k : Nat} (h : k < 8) : (k = 7 ∧ bitOf k / 2 = 0 ∧ bitOf (k + 1) = 1) ∨ (k ≠ 7 ∧ bitOf k / 2 = bitOf (k + 1) ∧ 0 < bitOf (k + 1)) := by
  by_cases h7 : k = 7
  · subst h7; exact .inl ⟨rfl, by decide, by decide⟩
  · refine .inr ⟨h7, ?_, ?_⟩
    · unfold bitOf
      rw [if_neg (by omega), if_neg (by omega), show 7 - k = (7 - (k + 1)) + 1 by omega, Nat.pow_succ, Nat.mul_div_cancel _ (by decide)]
    · unfold bitOf
      rw [if_neg (by omega)]
      exact Nat.pow_pos (by decide)
theorem mod23 (a : Option Addr) (la ca : Nat) (x : List Nat) (b : Option Addr) (lb cb : Nat) (y : List Nat) (M : Nat) (w : World) (hx : Hid (x.length = la)) (hy : Hid (y.length = lb)) (hla : la ≤ 10000) (hlb : lb ≤ 33)
    (ha : IView w a x) (hb : IView w b y) (dx : Dig x) (dy : Dig y) (hM : Hid (valD y = M)) (hM0 : 0 < M) (hM1 : Hid (M < 256 ^ 32)) :
    Calls Tryz.prog 57 #[.slice a la ca, .slice b lb cb] w fun e w' => ∃ g, e = .returned (.slice (some ⟨g, 0, none⟩) 32 33) ∧ RelR w w' g (digs 33 (valD x % M)) := by
  have hmk := make31 33 (by omega)
  simp only [Int.cast_ofNat_Int] at hmk
  have hR0 : RelR w (w.alloc (.cells (ints .i64 (digs 33 0)) 3)) w.heap.size (digs 33 (valD (x.drop la) % M)) := by
    rw [List.drop_of_length_le (by rw [hx.out]; exact Nat.le_refl _)]
    exact ⟨below1 _ _, Nat.le_refl _, by rw [show valD [] % M = 0 from Nat.zero_mod _]; exact alloc_row _ _ _⟩
  go_enter Tryz.func57, Tryz.ntmps57
  go_wp2_with fail
  go_loopw [5, 6] (fun v i wr => ∃ j g : Nat, j ≤ la ∧ i = .int .i64 ((j : Int) - 1) ∧ v = .slice (some ⟨g, 0, none⟩) 33 33 ∧ RelR w wr g (digs 33 (valD (x.drop j) % M))) (fun _ i _ => (intOf i + 1).toNat)
  case atStart => exact ⟨la, _, Nat.le_refl _, by go_num, rfl, hR0⟩
  case round =>
    obtain ⟨j, g, hj, rfl, rfl, hR⟩ := hrel
    clear hR0 hmk
    by_cases hj0 : j = 0
    · subst hj0
      rw [List.drop_zero] at hR
      go_wp2
      go_ret
      exact ⟨g, rfl, hR⟩
    · obtain ⟨i, rfl⟩ : ∃ i, j = i + 1 := ⟨j - 1, by omega⟩
      have eI : (((i + 1 : Nat) : Int) - 1) = (i : Int) := by omega
      rw [eI]
      clear eI hj0
      obtain ⟨D, hD⟩ : ∃ D, D = valD (x.drop (i + 1)) := ⟨_, rfl⟩
      obtain ⟨u, hu⟩ : ∃ u, u = x.getD i 0 := ⟨_, rfl⟩
      have hul : u < 256 := by rw [hu]; exact dx i
      have HE : Hid (modA D u 8 % M = valD (x.drop i) % M) := by
        show _ = _
        rw [drop_val x i, ← hD, ← hu]
        simp [modA]
        congr 1; omega
      have hA0 : modA D u 0 % M = D % M := by simp [modA]; rw [Nat.div_eq_of_lt hul]; simp
      rw [← hD, ← hA0] at hR
      clear hA0
      obtain ⟨g1, o1, rfl, hc1⟩ := ha (by rw [hx.out]; omega)
      have k1 := hc1 i (by rw [hx.out]; omega)
      rw [← hu] at k1
      have hg1 := block_lt_of_cell k1
      clear hu hD hc1
      go_wp2_with fail
      go_loopw [5, 7, 8] (fun v d kk wr => ∃ k g : Nat, k ≤ 8 ∧ kk = .int .i64 (k : Int) ∧ d = .int .i64 ((bitOf k : Nat) : Int) ∧ v = .slice (some ⟨g, 0, none⟩) 33 33 ∧ RelR w wr g (digs 33 (modA D u k % M))) (fun _ _ kk _ => 8 - (intOf kk).toNat)
      case atStart => exact ⟨0, g, by omega, rfl, rfl, rfl, hR⟩
      case round =>
        obtain ⟨k, g, hk, rfl, rfl, rfl, hR⟩ := hrel
        by_cases hk8 : k < 8
        · have k2 := (hR.1.cell (p := ⟨g1, o1 + i, none⟩) hg1).trans k1
          obtain ⟨bt, hbt⟩ : ∃ t, t = u / 2 ^ (7 - k) % 2 := ⟨_, rfl⟩
          have hbo : bitOf k = 2 ^ (7 - k) := by unfold bitOf; rw [if_neg (by omega)]
          have hbp : 0 < bitOf k := by rw [hbo]; exact Nat.pow_pos (by decide)
          have hb2 : bt < 2 := by rw [hbt]; omega
          obtain ⟨q, hqe⟩ : ∃ q, q = u / bitOf k := ⟨_, rfl⟩
          have hqi : (u : Int) / ((bitOf k : Nat) : Int) = (q : Int) := by rw [hqe]; simp
          have hql : q ≤ 255 := by rw [hqe]; exact Nat.le_trans (Nat.div_le_self _ _) (by omega)
          have hbi : (q : Int) % 2 = (bt : Int) := by rw [hbt, hqe, ← hbo]; simp
          clear hqe
          have hbk : bitOf k ≤ 128 := by rw [hbo]; exact Nat.le_trans (Nat.pow_le_pow_right (by decide) (by omega : 7 - k ≤ 7)) (by decide)
          have hV : modA D u k % M < 256 ^ 32 := Nat.lt_trans (Nat.mod_lt _ hM0) hM1.out
          have hVM : modA D u k % M < M := Nat.mod_lt _ hM0
          have HS : Hid ((2 * (modA D u k % M) + bt) % M = modA D u (k + 1) % M) := by show _ = _; rw [hbt]; exact modA_mod hk8
          have hbn := bit_next hk8
          obtain ⟨V, hVe⟩ : ∃ V, V = modA D u k % M := ⟨_, rfl⟩
          rw [← hVe] at hR hV hVM HS
          obtain ⟨B, hBe⟩ : ∃ B, B = bitOf k := ⟨_, rfl⟩
          obtain ⟨B2, hB2e⟩ : ∃ B, B = bitOf (k + 1) := ⟨_, rfl⟩
          have HB2 : Hid (B2 = bitOf (k + 1)) := hB2e
          rw [← hBe] at hbn hqi hbp hbk ⊢
          rw [← hB2e] at hbn
          have hR0 : Hid (RelR w wr g (digs 33 (dblV V bt 0))) := by show RelR _ _ _ _; rw [dblV_zero]; exact hR
          have HV : Hid (V < 256 ^ 32) := hV
          have HVM : Hid (V < M) := hVM
          clear hVe hBe hB2e hbt hbo hV hVM hR
          rcases hbn with ⟨h7, hz, rfl⟩ | ⟨h7, hz, hbp2⟩
          all_goals
            have hdv : (B : Int) / 2 = ((B / 2 : Nat) : Int) := by omega
            rw [hz] at hdv
            clear hz h7
            go_wp2_with fail
            go_loopw [10, 11] (fun c i wr => ∃ j : Nat, j ≤ 33 ∧ i = .int .i64 j ∧ c = .int .i64 ((dblC V bt j : Nat) : Int) ∧ RelR w wr g (digs 33 (dblV V bt j))) (fun _ i _ => 33 - (intOf i).toNat)
            case atStart => exact ⟨0, by omega, rfl, by rw [dblC_zero, ← hbi], hR0.out⟩
            case round =>
              obtain ⟨j, hj33, rfl, rfl, hRj⟩ := hrel
              clear hR0 k2 hqi hbi hdv
              by_cases hlt : j < 33
              · have c1 := hRj.at j (by rw [digs_len]; omega)
                have f1 := hRj.free j
                rw [dblV_get hlt] at c1
                have hcl := dblC_le (V := V) j hb2
                have HC : Hid (dblC V bt (j + 1) = (dblC V bt j + 2 * (V / 256 ^ j % 256)) / 256) := dblC_step V bt j
                have hstp := dblV_step (b := bt) hlt HV.out
                have hdl : V / 256 ^ j % 256 < 256 := Nat.mod_lt _ (by decide)
                obtain ⟨d, hde⟩ : ∃ d, d = V / 256 ^ j % 256 := ⟨_, rfl⟩
                obtain ⟨c, hce⟩ : ∃ c, c = dblC V bt j := ⟨_, rfl⟩
                rw [← hde] at c1 hdl HC hstp
                rw [← hce] at hcl HC hstp ⊢
                have HN : Hid (RelR w (wr.setCell ⟨g, j, none⟩ (.int .i64 (((c + 2 * d) % 256 : Nat) : Int))) g (digs 33 (dblV V bt (j + 1)))) := by
                  show RelR _ _ _ _
                  rw [← hstp]; exact hRj.set j _
                have ev : (2 * (d : Int) + (c : Int)) = ((c + 2 * d : Nat) : Int) := by omega
                have HEV : Hid (((c + 2 * d) % 256 : Nat) = (2 * d + c) % 256) := by show _ = _; rw [Nat.add_comm]
                have HEC : Hid (((c + 2 * d) / 256 : Nat) = (2 * d + c) / 256) := by show _ = _; rw [Nat.add_comm]
                rw [HEV.out] at HN
                rw [HEC.out] at HC
                clear hstp hde hce hRj ev
                go_wp2
                go_roundw
                case rel => exact ⟨j + 1, by omega, by go_num, by rw [HC.out]; simp, by simpa using HN.out⟩
                case measure => simp [intOf]; omega
              · obtain rfl : j = 33 := by omega
                rw [dblV_end HV.out hb2] at hRj
                obtain ⟨V2, hV2⟩ : ∃ V2, V2 = 2 * V + bt := ⟨_, rfl⟩
                rw [← hV2] at hRj HS
                have hM32 : (256 : Nat) ^ 33 = 256 * 256 ^ 32 := by decide
                have hV2l : V2 < 256 ^ 33 := by have := HV.out; omega
                have hV2M : V2 < 2 * M := by have := HVM.out; omega
                have hiv : IView wr (some ⟨g, 0, none⟩) (digs 33 V2) := fun _ => ⟨g, 0, rfl, ints_row hRj.2.2⟩
                have hby : IView wr b y := hb.below hRj.1
                have hval : valD (digs 33 V2) = V2 := valD_digs_lt hV2l
                have cL := less10 (some ⟨g, 0, none⟩) 33 33 (digs 33 V2) b lb cb y wr (digs_len _ _) hy (by omega) (by omega) hiv hby (digs_dig _ _) dy
                rw [hval, hM.out] at cL
                have cM := fun (h : M ≤ V2) => minus40 (some ⟨g, 0, none⟩) 33 33 (digs 33 V2) b lb cb y wr (digs_len _ _) hy (by omega) (by omega) hiv hby (digs_dig _ _) dy (by omega) (by show _ ≤ _; rw [hval, hM.out]; exact h)
                rw [hval, hM.out] at cM
                clear hV2 hM32 hiv hby hval
                have HBN : Hid (∀ B', B' = bitOf (k + 1) → Value.int .i64 (B' : Int) = .int .i64 ((bitOf (k + 1) : Nat) : Int)) := fun B' h => by rw [h]
                by_cases hlt2 : V2 < M
                · have HRR : Hid (RelR w wr g (digs 33 (modA D u (k + 1) % M))) := by
                    show RelR _ _ _ _
                    rw [← HS.out, Nat.mod_eq_of_lt hlt2]; exact hRj
                  rw [decide_eq_true hlt2] at cL
                  clear hlt2 hV2l hV2M cM hRj
                  go_wp2_with fail
                  refine cL.mono ?_
                  rintro e w5 ⟨rfl, rfl⟩
                  go_wp2
                  go_roundw
                  case rel => exact ⟨k + 1, g, by omega, by go_num, by rw [← HB2.out]; try rfl, rfl, HRR.out⟩
                  case measure => simp [intOf]; omega
                · have cM := cM (by omega)
                  rw [decide_eq_false hlt2] at cL
                  have HV2 : Hid (V2 - M = modA D u (k + 1) % M) := by
                    show _ = _
                    rw [← HS.out, Nat.mod_eq_sub_mod (by omega), Nat.mod_eq_of_lt (by omega)]
                  rw [HV2.out] at cM
                  clear hlt2 hV2l hV2M
                  go_wp2_with fail
                  refine cL.mono ?_
                  rintro e w5 ⟨rfl, rfl⟩
                  go_wp2_with fail
                  refine cM.mono ?_
                  rintro e w6 ⟨g6, rfl, hR6⟩
                  have HRR : Hid (RelR w w6 g6 (digs 33 (modA D u (k + 1) % M))) := ⟨hRj.1.trans (hR6.1.mono hRj.1.size), Nat.le_trans hRj.1.size hR6.2.1, hR6.2.2⟩
                  clear hR6 hRj cL cM
                  go_wp2
                  go_roundw
                  case rel => exact ⟨k + 1, g6, by omega, by go_num, by rw [← HB2.out]; try rfl, rfl, HRR.out⟩
                  case measure => simp [intOf]; omega
        · obtain rfl : k = 8 := by omega
          rw [HE.out] at hR
          go_wp2
          go_roundw
          case rel => exact ⟨i, g, by omega, by go_num, rfl, hR⟩
          case measure => simp [intOf]
end EN
end Go.Proofs.YtabgihjffjlfiaaGreatDoor
set_option linter.unusedVariables false
namespace Go.Proofs.YtabgihjffjlfiaaGreatDoor
namespace EN
open Go.RowKit Go.Sort Go.BigFrame
set_option maxRecDepth 100000
set_option maxHeartbeats 2000000
def sb : List Nat := [50, 55, 55, 52, 50, 51, 49, 55, 55, 55, 55, 51, 55, 50, 51, 53, 51, 53, 51, 53, 56, 53, 49, 57, 51, 55, 55, 57, 48, 56, 56, 51, 54, 52, 56, 52, 57, 51]
def sv : Nat → Nat
  | 0 => 0
  | k + 1 => sv k * 10 + (sb.getD k 0 - 48)
theorem sv_lt : ∀ k, k ≤ 38 → sv k < 256 ^ 16 := by decide
theorem sb_digit : ∀ k, k < 38 → 48 ≤ sb.getD k 0 ∧ sb.getD k 0 ≤ 57 := by decide
def RelS (w wr : World) (v : Value) (k : Nat) : Prop :=
  ∃ g n cap, v = .slice (some ⟨g, 0, none⟩) n cap ∧ n ≤ cap ∧ cap ≤ 100 ∧ 1 ≤ n ∧ (n = 1 ∨ 256 ^ (n - 1) ≤ sv k) ∧ sv k < 256 ^ n ∧ Below w.heap.size w wr ∧ w.heap.size ≤ g ∧ IntsAt wr g 0 (digs n (sv k))
theorem relS_len {n k : Nat} (hk : k ≤ 38) (h : n = 1 ∨ 256 ^ (n - 1) ≤ sv k) : n ≤ 16 := by
  rcases h with h | h
  · omega
  · have h1 := sv_lt k hk
    have h2 : (256 : Nat) ^ (n - 1) < 256 ^ 16 := Nat.lt_of_le_of_lt h h1
    have := (Nat.pow_lt_pow_iff_right (by decide : 1 < 256)).1 h2
    omega
def decS : ByteArray := ⟨#[50, 55, 55, 52, 50, 51, 49, 55, 55, 55, 55, 51, 55, 50, 51, 53, 51, 53, 51, 53, 56, 53, 49, 57, 51, 55, 55, 57, 48, 56, 56, 51, 54, 52, 56, 52, 57, 51]⟩
def lenOf : Value → Nat
  | .slice _ n _ => n
  | _ => 0
theorem run_indexO {P : Program} {ρ : Operand → Value} {t : TypeId} {x y : Operand} {w : World} {v : Value} {o : Oper} (hr : (Instr.index t (ρ x) (ρ y)).run P w = .ok v w) (ho : o.op = .index t x y) : (execOp ρ o).run P w = .ok (.value v) w := by
  unfold execOp
  rw [ho]
  simp only [Sem.run_bind, hr, Result.andThen_ok, Sem.run_pure]
theorem dec_get : ∀ k, k < 38 → (decS[k]!).toNat = sb.getD k 0 := by decide
theorem dec_index (k : Nat) (hk : k < 38) (w : World) : (Instr.index 9 (.string decS) (.int .i64 (k : Int))).run Tryz.prog w = .ok (.int .u8 ((sb.getD k 0 : Nat) : Int)) w := by
  rw [run_index_string w 9 decS .i64 (k : Int) Tryz.underlying9]
  have h := dec_get k hk
  have hs : decS.size = 38 := rfl
  have hk2 : k < decS.size := by rw [hs]; exact hk
  rw [getElem!_pos decS k hk2] at h
  rw [dif_pos ⟨by omega, by rw [hs]; omega⟩]
  have e : ((k : Int).toNat) = k := by omega
  simp only [e, h]
theorem dig10 : Dig [10] := by
  intro j
  match j with
  | 0 => decide
  | j + 1 => simp
theorem dig1 {d : Nat} (h : d ≤ 9) : Dig [d] := by
  intro j
  match j with
  | 0 => simp; omega
  | j + 1 => simp
theorem val10 : valD [10] = 10 := rfl
theorem val1 {d : Nat} : valD [d] = d := by simp [valD]
theorem run_bin_sub (d : Nat) (hd : d ≤ 9) {ρ : Operand → Value} {x y : Operand} {w : World} {o : Oper} (ho : o.op = .binOp .sub 5 x y 5) (hx : ρ x = .int .u8 ((d + 48 : Nat) : Int)) (hy : ρ y = .int .u8 48) : (execOp ρ o).run Tryz.prog w = .ok (.value (.int .u8 (d : Int))) w := by
  simp only [execOp, ho, hx, hy]
  simp [go_sem, IntKind.wrap, IntKind.bits, IntKind.signed]
  omega
theorem run_conv_int (d : Nat) (hd : d ≤ 9) {ρ : Operand → Value} {x : Operand} {w : World} {o : Oper} (ho : o.op = .convert 5 3 x) (hx : ρ x = .int .u8 (d : Int)) : (execOp ρ o).run Tryz.prog w = .ok (.value (.int .i64 (d : Int))) w := by
  simp only [execOp, ho, hx]
  simp [go_sem, Tryz.underlying5, Tryz.underlying3, IntKind.wrap, IntKind.bits, IntKind.signed]
  omega
theorem top_nonzero {V m : Nat} (hm : 1 ≤ m) (h : (digs m V).getD (m - 1) 0 ≠ 0) : 256 ^ (m - 1) ≤ V := by
  rw [digs_get _ _ _ (by omega)] at h
  by_cases hlt : V < 256 ^ (m - 1)
  · rw [Nat.div_eq_of_lt hlt] at h; simp at h
  · omega
theorem top_zero {V m : Nat} (hm : 1 ≤ m) (hV : V < 256 ^ m) (h : (digs m V).getD (m - 1) 0 = 0) : V < 256 ^ (m - 1) := by
  rw [digs_get _ _ _ (by omega)] at h
  have h1 : V / 256 ^ (m - 1) < 256 := by
    rw [Nat.div_lt_iff_lt_mul (pos256 _)]
    have e : 256 * 256 ^ (m - 1) = 256 ^ m := by rw [Nat.mul_comm, ← Nat.pow_succ]; congr 1; omega
    omega
  rw [Nat.mod_eq_of_lt h1] at h
  rcases (Nat.div_eq_zero_iff).1 h with h | h
  · have := pos256 (m - 1); omega
  · exact h
theorem small29 (w : World) :
    Calls Tryz.prog 87 #[] w fun e w' => ∃ v, e = .returned v ∧ RelS w w' v 38 := by
  go_enter Tryz.func87, Tryz.ntmps87
  go_wp2_with fail
  have h0 : RelS w (w.alloc (.cells #[.int .i64 0] 3)) (.slice (some ⟨w.heap.size, 0, none⟩) 1 1) 0 := by
    refine ⟨w.heap.size, 1, 1, rfl, by omega, by omega, by omega, .inl rfl, by decide, below1 _ _, Nat.le_refl _, ?_⟩
    exact ints_row (alloc_row w [0] 3)
  go_loopw [2, 3] (fun v i wr => ∃ k : Nat, k ≤ 38 ∧ i = .int .i64 k ∧ RelS w wr v k) (fun _ i _ => 38 - (intOf i).toNat)
  case atStart => exact ⟨0, by omega, rfl, h0⟩
  case round =>
    obtain ⟨k, hk, rfl, hS⟩ := hrel
    clear h0
    by_cases hlt : k < 38
    · obtain ⟨g, n, cap, rfl, hnc, hcap, hn1, hmin, hvl, hB, hgw, hrow⟩ := hS
      have hn16 := relS_len hk hmin
      obtain ⟨d, hde⟩ : ∃ d, sb.getD k 0 = d + 48 := ⟨sb.getD k 0 - 48, by have := sb_digit k hlt; omega⟩
      have hd9 : d ≤ 9 := by have := sb_digit k hlt; omega
      have hidx := dec_index k hlt
      rw [hde] at hidx
      have HSV : Hid (sv (k + 1) = sv k * 10 + d) := by show _ = _; rw [sv, hde]; congr 1
      obtain ⟨V, hV⟩ : ∃ V, V = sv k := ⟨_, rfl⟩
      rw [← hV] at hvl hrow HSV
      have HVL : Hid (V < 256 ^ n) := hvl
      have HVT : Hid (V * 10 < 256 ^ (n + 1 + 1)) := by show _ < _; rw [Nat.pow_succ, Nat.pow_succ]; omega
      have HV3 : Hid (sv (k + 1) < 256 ^ (n + 3)) := by
        show _ < _
        rw [HSV.out, show n + 3 = n + 1 + 1 + 1 from rfl, Nat.pow_succ, Nat.pow_succ, Nat.pow_succ]
        have := pos256 n
        omega
      clear hmin hvl hV hde hnc
      go_wp2_with fail
      go_cut [2] from 5 to 37 (fun v wx => ∃ g', v = .slice (some ⟨g', 0, none⟩) (n + 3) (n + 3) ∧ Below wr.heap.size wr wx ∧ wr.heap.size ≤ g' ∧ IntsAt wx g' 0 (digs (n + 3) (sv (k + 1))))
      case first =>
        have hS0 : Below wr.heap.size wr wr.drew := (Below.refl _ _).drew
        refine wp_region_held (S := fun w' => Below wr.heap.size wr w') (by kernel_rfl) ?_
        show wpAnyH _ _ _ _ _ 11 (Array.replicate 11 false) _ wr.drew
        refine take_at (i := 0) (some 11) _ rfl rfl (by kernel_rfl) (by kernel_rfl) (by kernel_rfl) (fun _ _ _ h => h) (yields_run (v := .slice (some ⟨g, 0, none⟩) n cap) rfl fun w' hw' => BigFrame.run_move (.tmp 2) rfl w') hS0 ?_
        simp only [Act.put, List.setIfInBounds_toArray, List.set_cons_succ, List.set_cons_zero]
        refine take_at (i := 3) (some 14) _ rfl rfl (by kernel_rfl) (by kernel_rfl) (by kernel_rfl) (fun _ _ _ h => h) (yields_run (v := .string decS) rfl fun w' hw' => BigFrame.run_move (.tmp 1) rfl w') hS0 ?_
        simp only [Act.put, List.setIfInBounds_toArray, List.set_cons_succ, List.set_cons_zero]
        refine take_at (i := 4) (some 15) _ rfl rfl (by kernel_rfl) (by kernel_rfl) (by kernel_rfl) (fun _ _ _ h => h) (yields_run (v := .int .i64 (k : Int)) rfl fun w' hw' => BigFrame.run_move (.tmp 3) rfl w') hS0 ?_
        simp only [Act.put, List.setIfInBounds_toArray, List.set_cons_succ, List.set_cons_zero]
        refine take_at (i := 5) (some 16) _ rfl rfl (by kernel_rfl) (by kernel_rfl) (by kernel_rfl) (fun _ _ _ h => h) (yields_run (v := .int .u8 ((d + 48 : Nat) : Int)) rfl fun w' hw' => run_indexO (hidx w') rfl) hS0 ?_
        simp only [Act.put, List.setIfInBounds_toArray, List.set_cons_succ, List.set_cons_zero]
        refine take_at (i := 6) (some 17) _ rfl rfl (by kernel_rfl) (by kernel_rfl) (by kernel_rfl) (fun _ _ _ h => h) (yields_run (v := .int .u8 (d : Int)) rfl fun w' hw' => run_bin_sub d hd9 rfl rfl rfl) hS0 ?_
        simp only [Act.put, List.setIfInBounds_toArray, List.set_cons_succ, List.set_cons_zero]
        refine take_at (i := 7) (some 18) _ rfl rfl (by kernel_rfl) (by kernel_rfl) (by kernel_rfl) (fun _ _ _ h => h) (yields_run (v := .int .i64 (d : Int)) rfl fun w' hw' => run_conv_int d hd9 rfl rfl) hS0 ?_
        simp only [Act.put, List.setIfInBounds_toArray, List.set_cons_succ, List.set_cons_zero]
        refine two_at (i := 1) (j := 8) (by kernel_rfl) ?_ ?_
        · refine new_at (some 12) (.slice (some ⟨wr.drew.heap.size, 0, none⟩) 1 1) (.cells (ints .i64 [10]) 3) rfl rfl rfl (by first | kernel_rfl | rfl) ?_
          have hS1 : Below wr.heap.size wr (wr.drew.alloc (.cells (ints .i64 [10]) 3)) := hS0.alloc hS0.size _
          refine ⟨hS1, ?_⟩
          simp only [Act.put, List.setIfInBounds_toArray, List.set_cons_succ, List.set_cons_zero]
          have h10 : (wr.drew.alloc (.cells (ints .i64 [10]) 3)).heap[wr.drew.heap.size]? = some (.cells (ints .i64 [10]) 3 (0, 0)) := alloc_row _ _ _
          generalize hw1 : (wr.drew.alloc (.cells (ints .i64 [10]) 3)) = w1 at hS1 h10 ⊢
          obtain ⟨g10, hgg10⟩ : ∃ z, z = wr.drew.heap.size := ⟨_, rfl⟩
          rw [← hgg10] at h10 ⊢
          clear hgg10 hw1 hS0
          refine two_at (i := 2) (j := 8) (by kernel_rfl) ?_ ?_
          · have cT := times44 (some ⟨g, 0, none⟩) n cap (digs n V) (some ⟨g10, 0, none⟩) 1 1 [10] w1 (digs_len _ _) rfl (by omega) (by omega) (IView.below (fun _ => ⟨g, 0, rfl, hrow⟩) hS1) (fun _ => ⟨g10, 0, rfl, ints_row h10⟩) (digs_dig _ _) dig10
            rw [valD_digs_lt HVL.out, val10] at cT
            refine call_at (some 13) rfl rfl rfl 55 #[.slice (some ⟨g, 0, none⟩) n cap, .slice (some ⟨g10, 0, none⟩) 1 1] (R := fun v w' => ∃ g, v = .slice (some ⟨g, 0, none⟩) (n + 1 + 1) (n + 1 + 1) ∧ RelR w1 w' g (digs (n + 1 + 1) (V * 10))) (by kernel_rfl) (cT.mono fun e w' ⟨g, h1, h2⟩ => ⟨_, h1, g, rfl, h2⟩) ?_
            rintro v2 w2 ⟨gT, rfl, hRT⟩
            have hS2 : Below wr.heap.size wr w2 := hS1.trans (hRT.1.mono hS1.size)
            have hT := hRT.2.2
            refine ⟨hS2, ?_⟩
            simp only [Act.put, List.setIfInBounds_toArray, List.set_cons_succ, List.set_cons_zero]
            have h10' := block_below hRT.1 (lt_of_heap h10) h10
            clear h10
            have h10 := h10'
            clear h10'
            clear cT hRT hS1
            refine one_at (i := 8) (by kernel_rfl) ?_
            refine new_at (some 19) (.slice (some ⟨w2.heap.size, 0, none⟩) 1 1) (.cells (ints .i64 [d]) 3) rfl rfl rfl (by first | kernel_rfl | rfl) ?_
            have hS3 : Below wr.heap.size wr (w2.alloc (.cells (ints .i64 [d]) 3)) := hS2.alloc hS2.size _
            refine ⟨hS3, ?_⟩
            simp only [Act.put, List.setIfInBounds_toArray, List.set_cons_succ, List.set_cons_zero]
            have hd1 : (w2.alloc (.cells (ints .i64 [d]) 3)).heap[w2.heap.size]? = some (.cells (ints .i64 [d]) 3 (0, 0)) := alloc_row _ _ _
            have h10' := block_below (below1 w2 (.cells (ints .i64 [d]) 3)) (lt_of_heap h10) h10
            clear h10
            have h10 := h10'
            clear h10'
            have hT' := block_below (below1 w2 (.cells (ints .i64 [d]) 3)) (lt_of_heap hT) hT
            clear hT
            have hT := hT'
            clear hT'
            generalize hw3 : (w2.alloc (.cells (ints .i64 [d]) 3)) = w3 at hS3 hd1 h10 hT ⊢
            obtain ⟨gd, hggd⟩ : ∃ z, z = w2.heap.size := ⟨_, rfl⟩
            rw [← hggd] at hd1 ⊢
            clear hggd hw3 hS2
            refine one_at (i := 9) (by kernel_rfl) ?_
            have cP := plus32 (some ⟨gT, 0, none⟩) (n + 1 + 1) (n + 1 + 1) (digs (n + 1 + 1) (V * 10)) (some ⟨gd, 0, none⟩) 1 1 [d] w3 (digs_len _ _) rfl (by omega) (by omega) (fun _ => ⟨gT, 0, rfl, ints_row hT⟩) (fun _ => ⟨gd, 0, rfl, ints_row hd1⟩) (digs_dig _ _) (dig1 hd9)
            rw [valD_digs_lt HVT.out, val1, show max (n + 1 + 1) 1 + 1 = n + 3 by omega, ← HSV.out] at cP
            refine call_at (some 20) rfl rfl rfl 54 #[.slice (some ⟨gT, 0, none⟩) (n + 1 + 1) (n + 1 + 1), .slice (some ⟨gd, 0, none⟩) 1 1] (R := fun v w' => ∃ g, v = .slice (some ⟨g, 0, none⟩) (n + 3) (n + 3) ∧ RelR w3 w' g (digs (n + 3) (sv (k + 1)))) (by kernel_rfl) (cP.mono fun e w' ⟨g, h1, h2⟩ => ⟨_, h1, g, rfl, h2⟩) ?_
            rintro v8 w8 ⟨g8, rfl, hR8⟩
            have hS8 : Below wr.heap.size wr w8 := hS3.trans (hR8.1.mono hS3.size)
            refine ⟨hS8, ?_⟩
            simp only [Act.put, List.setIfInBounds_toArray, List.set_cons_succ, List.set_cons_zero]
            refine one_at (i := 10) (by kernel_rfl) ?_
            refine run_at (some 2) (.slice (some ⟨g8, 0, none⟩) (n + 3) (n + 3)) rfl rfl rfl (run_assignO (.tmp 20) rfl _) ?_
            simp only [Act.put, List.setIfInBounds_toArray, List.set_cons_succ, List.set_cons_zero]
            refine ⟨hS8, wpAnyH_done (by kernel_rfl) ?_ _⟩
            go_wp2_with fail
            go_meet
            case rel => exact ⟨g8, rfl, hS8, Nat.le_trans hS3.size hR8.2.1, ints_row hR8.2.2⟩
          · refine new_at (some 19) (.slice (some ⟨w1.heap.size, 0, none⟩) 1 1) (.cells (ints .i64 [d]) 3) rfl rfl rfl (by first | kernel_rfl | rfl) ?_
            have hS2 : Below wr.heap.size wr (w1.alloc (.cells (ints .i64 [d]) 3)) := hS1.alloc hS1.size _
            refine ⟨hS2, ?_⟩
            simp only [Act.put, List.setIfInBounds_toArray, List.set_cons_succ, List.set_cons_zero]
            have hd1 : (w1.alloc (.cells (ints .i64 [d]) 3)).heap[w1.heap.size]? = some (.cells (ints .i64 [d]) 3 (0, 0)) := alloc_row _ _ _
            have h10' := block_below (below1 w1 (.cells (ints .i64 [d]) 3)) (lt_of_heap h10) h10
            clear h10
            have h10 := h10'
            clear h10'
            generalize hw2 : (w1.alloc (.cells (ints .i64 [d]) 3)) = w2 at hS2 hd1 h10 ⊢
            obtain ⟨gd, hggd⟩ : ∃ z, z = w1.heap.size := ⟨_, rfl⟩
            rw [← hggd] at hd1 ⊢
            clear hggd hw2 hS1
            refine one_at (i := 2) (by kernel_rfl) ?_
            have cT := times44 (some ⟨g, 0, none⟩) n cap (digs n V) (some ⟨g10, 0, none⟩) 1 1 [10] w2 (digs_len _ _) rfl (by omega) (by omega) (IView.below (fun _ => ⟨g, 0, rfl, hrow⟩) hS2) (fun _ => ⟨g10, 0, rfl, ints_row h10⟩) (digs_dig _ _) dig10
            rw [valD_digs_lt HVL.out, val10] at cT
            refine call_at (some 13) rfl rfl rfl 55 #[.slice (some ⟨g, 0, none⟩) n cap, .slice (some ⟨g10, 0, none⟩) 1 1] (R := fun v w' => ∃ g, v = .slice (some ⟨g, 0, none⟩) (n + 1 + 1) (n + 1 + 1) ∧ RelR w2 w' g (digs (n + 1 + 1) (V * 10))) (by kernel_rfl) (cT.mono fun e w' ⟨g, h1, h2⟩ => ⟨_, h1, g, rfl, h2⟩) ?_
            rintro v3 w3 ⟨gT, rfl, hRT⟩
            have hS3 : Below wr.heap.size wr w3 := hS2.trans (hRT.1.mono hS2.size)
            have hT := hRT.2.2
            refine ⟨hS3, ?_⟩
            simp only [Act.put, List.setIfInBounds_toArray, List.set_cons_succ, List.set_cons_zero]
            have h10' := block_below hRT.1 (lt_of_heap h10) h10
            clear h10
            have h10 := h10'
            clear h10'
            have hd1' := block_below hRT.1 (lt_of_heap hd1) hd1
            clear hd1
            have hd1 := hd1'
            clear hd1'
            clear cT hRT hS2
            refine one_at (i := 9) (by kernel_rfl) ?_
            have cP := plus32 (some ⟨gT, 0, none⟩) (n + 1 + 1) (n + 1 + 1) (digs (n + 1 + 1) (V * 10)) (some ⟨gd, 0, none⟩) 1 1 [d] w3 (digs_len _ _) rfl (by omega) (by omega) (fun _ => ⟨gT, 0, rfl, ints_row hT⟩) (fun _ => ⟨gd, 0, rfl, ints_row hd1⟩) (digs_dig _ _) (dig1 hd9)
            rw [valD_digs_lt HVT.out, val1, show max (n + 1 + 1) 1 + 1 = n + 3 by omega, ← HSV.out] at cP
            refine call_at (some 20) rfl rfl rfl 54 #[.slice (some ⟨gT, 0, none⟩) (n + 1 + 1) (n + 1 + 1), .slice (some ⟨gd, 0, none⟩) 1 1] (R := fun v w' => ∃ g, v = .slice (some ⟨g, 0, none⟩) (n + 3) (n + 3) ∧ RelR w3 w' g (digs (n + 3) (sv (k + 1)))) (by kernel_rfl) (cP.mono fun e w' ⟨g, h1, h2⟩ => ⟨_, h1, g, rfl, h2⟩) ?_
            rintro v8 w8 ⟨g8, rfl, hR8⟩
            have hS8 : Below wr.heap.size wr w8 := hS3.trans (hR8.1.mono hS3.size)
            refine ⟨hS8, ?_⟩
            simp only [Act.put, List.setIfInBounds_toArray, List.set_cons_succ, List.set_cons_zero]
            refine one_at (i := 10) (by kernel_rfl) ?_
            refine run_at (some 2) (.slice (some ⟨g8, 0, none⟩) (n + 3) (n + 3)) rfl rfl rfl (run_assignO (.tmp 20) rfl _) ?_
            simp only [Act.put, List.setIfInBounds_toArray, List.set_cons_succ, List.set_cons_zero]
            refine ⟨hS8, wpAnyH_done (by kernel_rfl) ?_ _⟩
            go_wp2_with fail
            go_meet
            case rel => exact ⟨g8, rfl, hS8, Nat.le_trans hS3.size hR8.2.1, ints_row hR8.2.2⟩
        · refine new_at (some 19) (.slice (some ⟨wr.drew.heap.size, 0, none⟩) 1 1) (.cells (ints .i64 [d]) 3) rfl rfl rfl (by first | kernel_rfl | rfl) ?_
          have hS1 : Below wr.heap.size wr (wr.drew.alloc (.cells (ints .i64 [d]) 3)) := hS0.alloc hS0.size _
          refine ⟨hS1, ?_⟩
          simp only [Act.put, List.setIfInBounds_toArray, List.set_cons_succ, List.set_cons_zero]
          have hd1 : (wr.drew.alloc (.cells (ints .i64 [d]) 3)).heap[wr.drew.heap.size]? = some (.cells (ints .i64 [d]) 3 (0, 0)) := alloc_row _ _ _
          generalize hw1 : (wr.drew.alloc (.cells (ints .i64 [d]) 3)) = w1 at hS1 hd1 ⊢
          obtain ⟨gd, hggd⟩ : ∃ z, z = wr.drew.heap.size := ⟨_, rfl⟩
          rw [← hggd] at hd1 ⊢
          clear hggd hw1 hS0
          refine one_at (i := 1) (by kernel_rfl) ?_
          refine new_at (some 12) (.slice (some ⟨w1.heap.size, 0, none⟩) 1 1) (.cells (ints .i64 [10]) 3) rfl rfl rfl (by first | kernel_rfl | rfl) ?_
          have hS2 : Below wr.heap.size wr (w1.alloc (.cells (ints .i64 [10]) 3)) := hS1.alloc hS1.size _
          refine ⟨hS2, ?_⟩
          simp only [Act.put, List.setIfInBounds_toArray, List.set_cons_succ, List.set_cons_zero]
          have h10 : (w1.alloc (.cells (ints .i64 [10]) 3)).heap[w1.heap.size]? = some (.cells (ints .i64 [10]) 3 (0, 0)) := alloc_row _ _ _
          have hd1' := block_below (below1 w1 (.cells (ints .i64 [10]) 3)) (lt_of_heap hd1) hd1
          clear hd1
          have hd1 := hd1'
          clear hd1'
          generalize hw2 : (w1.alloc (.cells (ints .i64 [10]) 3)) = w2 at hS2 h10 hd1 ⊢
          obtain ⟨g10, hgg10⟩ : ∃ z, z = w1.heap.size := ⟨_, rfl⟩
          rw [← hgg10] at h10 ⊢
          clear hgg10 hw2 hS1
          refine one_at (i := 2) (by kernel_rfl) ?_
          have cT := times44 (some ⟨g, 0, none⟩) n cap (digs n V) (some ⟨g10, 0, none⟩) 1 1 [10] w2 (digs_len _ _) rfl (by omega) (by omega) (IView.below (fun _ => ⟨g, 0, rfl, hrow⟩) hS2) (fun _ => ⟨g10, 0, rfl, ints_row h10⟩) (digs_dig _ _) dig10
          rw [valD_digs_lt HVL.out, val10] at cT
          refine call_at (some 13) rfl rfl rfl 55 #[.slice (some ⟨g, 0, none⟩) n cap, .slice (some ⟨g10, 0, none⟩) 1 1] (R := fun v w' => ∃ g, v = .slice (some ⟨g, 0, none⟩) (n + 1 + 1) (n + 1 + 1) ∧ RelR w2 w' g (digs (n + 1 + 1) (V * 10))) (by kernel_rfl) (cT.mono fun e w' ⟨g, h1, h2⟩ => ⟨_, h1, g, rfl, h2⟩) ?_
          rintro v3 w3 ⟨gT, rfl, hRT⟩
          have hS3 : Below wr.heap.size wr w3 := hS2.trans (hRT.1.mono hS2.size)
          have hT := hRT.2.2
          refine ⟨hS3, ?_⟩
          simp only [Act.put, List.setIfInBounds_toArray, List.set_cons_succ, List.set_cons_zero]
          have hd1' := block_below hRT.1 (lt_of_heap hd1) hd1
          clear hd1
          have hd1 := hd1'
          clear hd1'
          have h10' := block_below hRT.1 (lt_of_heap h10) h10
          clear h10
          have h10 := h10'
          clear h10'
          clear cT hRT hS2
          refine one_at (i := 9) (by kernel_rfl) ?_
          have cP := plus32 (some ⟨gT, 0, none⟩) (n + 1 + 1) (n + 1 + 1) (digs (n + 1 + 1) (V * 10)) (some ⟨gd, 0, none⟩) 1 1 [d] w3 (digs_len _ _) rfl (by omega) (by omega) (fun _ => ⟨gT, 0, rfl, ints_row hT⟩) (fun _ => ⟨gd, 0, rfl, ints_row hd1⟩) (digs_dig _ _) (dig1 hd9)
          rw [valD_digs_lt HVT.out, val1, show max (n + 1 + 1) 1 + 1 = n + 3 by omega, ← HSV.out] at cP
          refine call_at (some 20) rfl rfl rfl 54 #[.slice (some ⟨gT, 0, none⟩) (n + 1 + 1) (n + 1 + 1), .slice (some ⟨gd, 0, none⟩) 1 1] (R := fun v w' => ∃ g, v = .slice (some ⟨g, 0, none⟩) (n + 3) (n + 3) ∧ RelR w3 w' g (digs (n + 3) (sv (k + 1)))) (by kernel_rfl) (cP.mono fun e w' ⟨g, h1, h2⟩ => ⟨_, h1, g, rfl, h2⟩) ?_
          rintro v8 w8 ⟨g8, rfl, hR8⟩
          have hS8 : Below wr.heap.size wr w8 := hS3.trans (hR8.1.mono hS3.size)
          refine ⟨hS8, ?_⟩
          simp only [Act.put, List.setIfInBounds_toArray, List.set_cons_succ, List.set_cons_zero]
          refine one_at (i := 10) (by kernel_rfl) ?_
          refine run_at (some 2) (.slice (some ⟨g8, 0, none⟩) (n + 3) (n + 3)) rfl rfl rfl (run_assignO (.tmp 20) rfl _) ?_
          simp only [Act.put, List.setIfInBounds_toArray, List.set_cons_succ, List.set_cons_zero]
          refine ⟨hS8, wpAnyH_done (by kernel_rfl) ?_ _⟩
          go_wp2_with fail
          go_meet
          case rel => exact ⟨g8, rfl, hS8, Nat.le_trans hS3.size hR8.2.1, ints_row hR8.2.2⟩
      case rest =>
        obtain ⟨g', rfl, hB', hgr, hrow'⟩ := hcut
        have hgw' : w.heap.size ≤ g' := Nat.le_trans hB.size hgr
        clear hgr
        have hBw : Below w.heap.size w wc := hB.trans (hB'.mono hB.size)
        have hk1 : k + 1 ≤ 38 := hlt
        obtain ⟨V2, hV2⟩ : ∃ V, V = sv (k + 1) := ⟨_, rfl⟩
        have HV2 : Hid (V2 = sv (k + 1)) := hV2
        rw [← hV2] at hrow' HV3
        clear hV2 hrow hB' hB HSV HVL HVT hidx
        go_wp2_with fail
        go_loopw [2] (fun v wr => wr = wc ∧ ∃ m : Nat, 1 ≤ m ∧ m ≤ n + 3 ∧ v = .slice (some ⟨g', 0, none⟩) m (n + 3) ∧ V2 < 256 ^ m) (fun v _ => lenOf v)
        case atStart => exact ⟨rfl, n + 3, by omega, by omega, rfl, HV3.out⟩
        case round =>
          obtain ⟨rfl, m, hm1, hm3, rfl, hVm⟩ := hrel
          have hd : ∀ m', m' ≤ n + 3 → IntsAt wr g' 0 (digs m' V2) := fun m' hm' i hi => by
            rw [digs_len] at hi
            rw [hrow' i (by rw [digs_len]; omega), digs_get _ _ _ (by omega), digs_get _ _ _ hi]
          have HD : Hid (∀ m', m' ≤ n + 3 → IntsAt wr g' 0 (digs m' V2)) := hd
          have HVm : Hid (V2 < 256 ^ m) := hVm
          have HB : Hid (Below w.heap.size w wr) := hBw
          clear hd HV3 hVm hBw
          by_cases hm : m = 1
          · subst hm
            clear hrow'
            go_wp2
            go_roundw
            case rel => exact ⟨k + 1, hk1, by go_num, g', 1, n + 3, rfl, by omega, by omega, by omega, .inl rfl, by rw [← HV2.out]; exact HVm.out, HB.out, hgw', by rw [← HV2.out]; exact HD.out 1 (by omega)⟩
            case measure => simp [intOf]; omega
          · have c1 := hrow' (m - 1) (by rw [digs_len]; omega)
            rw [Nat.zero_add] at c1
            have hz : (digs (n + 3) V2).getD (m - 1) 0 = (digs m V2).getD (m - 1) 0 := by rw [digs_get _ _ _ (by omega), digs_get _ _ _ (by omega)]
            rw [hz] at c1
            have hgt : (1 : Int) < (m : Int) := by omega
            have hi1 : ((m : Int) - 1) = ((m - 1 : Nat) : Int) := by omega
            have HTN : Hid ((digs m V2).getD (m - 1) 0 ≠ 0 → 256 ^ (m - 1) ≤ V2) := fun h => top_nonzero hm1 h
            have HTZ : Hid ((digs m V2).getD (m - 1) 0 = 0 → V2 < 256 ^ (m - 1)) := fun h => top_zero hm1 HVm.out h
            obtain ⟨x, hx⟩ : ∃ x, x = (digs m V2).getD (m - 1) 0 := ⟨_, rfl⟩
            rw [← hx] at c1 HTN HTZ
            clear hx hz hrow' hm
            by_cases hx0 : x = 0
            · subst hx0
              have HZ : Hid (V2 < 256 ^ (m - 1)) := HTZ.out rfl
              go_wp2
              go_roundw
              case rel => first | exact ⟨trivial, m - 1, by omega, by omega, rfl, HZ.out⟩ | exact ⟨rfl, m - 1, by omega, by omega, rfl, HZ.out⟩
              case measure => simp [lenOf]; omega
            · have hxb : ((x : Int) == 0) = false := by simp; omega
              have HZ : Hid (256 ^ (m - 1) ≤ V2) := HTN.out hx0
              go_wp2
              go_roundw
              case rel => exact ⟨k + 1, hk1, by go_num, g', m, n + 3, rfl, by omega, by omega, by omega, .inr (by rw [← HV2.out]; exact HZ.out), by rw [← HV2.out]; exact HVm.out, HB.out, hgw', by rw [← HV2.out]; exact HD.out m (by omega)⟩
              case measure => simp [intOf]; omega
    · obtain rfl : k = 38 := by omega
      obtain ⟨g, n, cap, rfl, hrest⟩ := hS
      go_wp2
      go_ret
      exact ⟨_, rfl, g, n, cap, rfl, hrest⟩
end EN
end Go.Proofs.YtabgihjffjlfiaaGreatDoor
set_option linter.unusedVariables false
namespace Go.Proofs.YtabgihjffjlfiaaGreatDoor
namespace EN
open Go.RowKit Go.Sort Go.BigFrame
set_option maxRecDepth 100000
set_option maxHeartbeats 2000000
def T252 : Nat := 7237005577332262213973186563042994240829374041602535252466099000494570602496
theorem T252_eq : T252 = 256 ^ 31 * 16 := by decide
theorem T252_start : (digs 32 0).set 31 16 = digs 32 (T252 + sv 38 % 256 ^ 0) := by decide
theorem T252_end {n : Nat} (h : sv 38 < 256 ^ n) : T252 + sv 38 % 256 ^ n = LL := by
  rw [Nat.mod_eq_of_lt h]; decide
theorem T252_lt (k : Nat) (S : Nat) (hk : k ≤ 31) : T252 + S % 256 ^ k < 256 ^ 32 := by
  have h1 := Nat.mod_lt S (pos256 k)
  have h2 : 256 ^ k ≤ 256 ^ 31 := Nat.pow_le_pow_right (by decide) hk
  have : T252 + 256 ^ 31 < 256 ^ 32 := by decide
  omega
theorem T252_get (k S : Nat) (hk : k < 31) : (digs 32 (T252 + S % 256 ^ k)).getD k 0 = 0 := by
  have e : T252 = 256 ^ k * (256 ^ (30 - k) * 256 * 16) := by
    rw [T252_eq, ← Nat.mul_assoc, ← Nat.mul_assoc, ← Nat.pow_add, ← Nat.pow_succ]
    congr 2
    omega
  rw [digs_get _ _ _ (by omega), e, Nat.mul_add_div (pos256 k), Nat.div_eq_of_lt (Nat.mod_lt _ (pos256 k))]
  omega
theorem T252_step (k S : Nat) (hk : k < 31) : (digs 32 (T252 + S % 256 ^ k)).set k (S / 256 ^ k % 256) = digs 32 (T252 + S % 256 ^ (k + 1)) := by
  have hs := valD_set (digs 32 (T252 + S % 256 ^ k)) k (S / 256 ^ k % 256) (by rw [digs_len]; omega)
  rw [T252_get k S hk, valD_digs_lt (T252_lt k S (by omega))] at hs
  refine digs_of ((digs_dig _ _).set (Nat.mod_lt _ (by decide))) (by rw [List.length_set, digs_len]) ?_
  rw [Nat.pow_succ, Nat.mod_mul]
  omega
theorem ref_L17 (w : World) : Calls Tryz.prog 58 #[] w fun e w' => ∃ g, e = .returned (.slice (some ⟨g, 0, none⟩) 32 32) ∧ RelR w w' g (digs 32 LL) := by
  have hmk := make31 32 (by omega)
  simp only [Int.cast_ofNat_Int] at hmk
  have hR0 : RelR w (w.alloc (.cells (ints .i64 (digs 32 0)) 3)) w.heap.size (digs 32 0) := ⟨below1 _ _, Nat.le_refl _, alloc_row _ _ _⟩
  have c0 := hR0.at 31 (by rw [digs_len]; omega)
  have f0 := hR0.free 31
  have hR1 : RelR w (w.alloc (.cells ((ints .i64 (digs 32 0)).setIfInBounds 31 (.int .i64 16)) 3)) w.heap.size (digs 32 (T252 + sv 38 % 256 ^ 0)) := by
    have e := ints_set .i64 (digs 32 0) 31 16
    rw [T252_start] at e
    exact ⟨below1 _ _, Nat.le_refl _, by rw [← e]; exact heap_alloc_new _ _⟩
  clear hR0
  go_enter Tryz.func58, Tryz.ntmps58
  go_wp2_with fail
  generalize (w.alloc (.cells ((ints .i64 (digs 32 0)).setIfInBounds 31 (.int .i64 16)) 3)) = w1 at hR1 ⊢
  generalize hgo : w.heap.size = go at *
  clear c0 f0 hmk
  refine (small29 w1).mono ?_
  rintro e w2 ⟨v, rfl, g2, n, cap, rfl, hnc, hcap, hn1, hmin, hvl, hB2, hg2, hrow⟩
  have hn16 := relS_len (Nat.le_refl _) hmin
  have hgl := lt_of_heap hR1.2.2
  have hR2 : RelR w w2 go (digs 32 (T252 + sv 38 % 256 ^ 0)) := by
    have hs1 : w.heap.size ≤ w1.heap.size := hR1.1.size
    exact ⟨hR1.1.trans (hB2.mono hs1), hR1.2.1, block_below hB2 hgl hR1.2.2⟩
  have hne : g2 ≠ go := by omega
  have HVL : Hid (sv 38 < 256 ^ n) := hvl
  have HG : Hid (w.heap.size = go) := hgo
  clear hmin hvl hB2 hR1 hgl hg2 hgo
  go_wp2_with fail
  go_loopw [3] (fun i wr => ∃ k : Nat, k ≤ n ∧ i = .int .i64 k ∧ RelR w wr go (digs 32 (T252 + sv 38 % 256 ^ k)) ∧ IntsAt wr g2 0 (digs n (sv 38))) (fun i _ => n - (intOf i).toNat)
  case atStart => exact ⟨0, by omega, rfl, hR2, hrow⟩
  case round =>
    obtain ⟨k, hk, rfl, hR, hI⟩ := hrel
    clear hR2 hrow
    by_cases hlt : k < n
    · have c1 := hR.at k (by rw [digs_len]; omega)
      rw [T252_get k _ (by omega)] at c1
      have f1 := hR.free k
      have c2 := hI k (by rw [digs_len]; omega)
      rw [Nat.zero_add, digs_get _ _ _ hlt] at c2
      have hst := T252_step k (sv 38) (by omega)
      have hdl : sv 38 / 256 ^ k % 256 < 256 := Nat.mod_lt _ (by decide)
      obtain ⟨d, hd⟩ : ∃ d, d = sv 38 / 256 ^ k % 256 := ⟨_, rfl⟩
      rw [← hd] at c2 hst hdl
      have HN : Hid (RelR w (wr.setCell ⟨go, k, none⟩ (.int .i64 (d : Int))).drew go (digs 32 (T252 + sv 38 % 256 ^ (k + 1))) ∧ IntsAt (wr.setCell ⟨go, k, none⟩ (.int .i64 (d : Int))).drew g2 0 (digs n (sv 38))) := by
        refine ⟨?_, fun i hi => ?_⟩
        · rw [← hst]; exact (hR.set k d).drew
        · show (wr.setCell ⟨go, k, none⟩ (.int .i64 (d : Int))).cell? _ = _
          rw [World.cell?_setCell_far _ _ _ _ (by show go ≠ g2; omega)]
          exact hI i hi
      clear hd hst hR hI
      go_wp2_with fail
      go_big_region
      go_wp2
      go_roundw
      case rel => exact ⟨k + 1, by omega, by go_num, HN.out.1, HN.out.2⟩
      case measure => simp [intOf]; omega
    · obtain rfl : k = n := by omega
      rw [T252_end HVL.out] at hR
      go_wp2
      go_ret
      exact ⟨go, rfl, hR⟩
theorem own_irow {w w' : World} {v : Value} {n : Nat} {l : List Nat} (h : w'.ownsRow w.heap.size 3 1 v n (iv l)) : ∃ a cap, v = .slice a n cap ∧ n ≤ cap ∧ cap ≤ 9223372036854775807 ∧ IView w' a l ∧ l.length = n := by
  obtain ⟨a, cap, rfl, h1, h2⟩ := own_slice h
  obtain ⟨h3, h4⟩ := own_iview h
  exact ⟨a, cap, rfl, h1, h2, h3, h4⟩
/-- The digits of the first bytes. -/
theorem cut24 (a : Option Addr) (len cap : Nat) (bs : List Nat) (most : Nat) (w : World) (hlen : Hid (bs.length = len)) (hcap : len ≤ cap) (hcap2 : cap ≤ 9223372036854775807) (hl : most ≤ 64) (hd : Dig bs) (hv : View w a bs) :
    Calls Tryz.prog 56 #[.slice a len cap, .int .i64 most] w fun e w' => ∃ a' n c', e = .returned (.slice a' n c') ∧ Below w.heap.size w w' ∧ n ≤ c' ∧ c' ≤ 9223372036854775807 ∧ n ≤ 64 ∧ IView w' a' (bs.take most) ∧ (bs.take most).length = n := by
  by_cases h : most < len
  · have cD := digits11 a most cap (bs.take most) w (by show _ = _; rw [List.length_take, hlen.out]; omega) (by omega) (by omega) (hd.take most) (hv.take most)
    clear hlen hv hd
    go_enter Tryz.func56, Tryz.ntmps56
    go_wp2_with fail
    refine cD.mono ?_
    rintro e w1 ⟨v, rfl, hB, hown⟩
    obtain ⟨a', c', rfl, h1, h2, h3, h4⟩ := own_irow hown
    go_wp2
    go_ret
    exact ⟨a', most, c', rfl, hB, h1, h2, by omega, h3, h4⟩
  · have cD := digits11 a len cap bs w hlen hcap (by omega) hd hv
    have HT : Hid (bs.take most = bs) := List.take_of_length_le (by rw [hlen.out]; omega)
    rw [HT.out]
    clear hlen hv hd
    go_enter Tryz.func56, Tryz.ntmps56
    go_wp2_with fail
    refine cD.mono ?_
    rintro e w1 ⟨v, rfl, hB, hown⟩
    obtain ⟨a', c', rfl, h1, h2, h3, h4⟩ := own_irow hown
    go_wp2
    go_ret
    exact ⟨a', len, c', rfl, hB, h1, h2, by omega, h3, h4⟩
theorem valL : valD (digs 32 LL) = LL := valD_digs_lt (by decide)
theorem digs33_view {w w' : World} {g R : Nat} (h : RelR w w' g (digs 33 R)) : IView w' (some ⟨g, 0, none⟩) (digs 32 R) := fun _ => ⟨g, 0, rfl, fun i hi => by
  rw [digs_len] at hi
  rw [ints_row h.2.2 i (by rw [digs_len]; omega), digs_get _ _ _ (by omega), digs_get _ _ _ hi]⟩
/-- The reference's 32 bytes: a row that is read. -/
def Ref32 (w w' : World) (v : Value) (R : Nat) : Prop := ∃ a cap, v = .slice a 32 cap ∧ 32 ≤ cap ∧ cap ≤ 9223372036854775807 ∧ Below w.heap.size w w' ∧ View w' a (digs 32 R)
theorem modBytes (a' : Option Addr) (n c' : Nat) (x : List Nat) (w : World) (hx : x.length = n) (hn : n ≤ 10000) (dx : Dig x) (hv : IView w a' x) (g : Nat) (w1 : World) (hL : RelR w w1 g (digs 32 LL)) :
    Calls Tryz.prog 57 #[.slice a' n c', .slice (some ⟨g, 0, none⟩) 32 32] w1 fun e w' => ∃ g', e = .returned (.slice (some ⟨g', 0, none⟩) 32 33) ∧ RelR w1 w' g' (digs 33 (valD x % LL)) :=
  mod23 a' n c' x (some ⟨g, 0, none⟩) 32 32 (digs 32 LL) LL w1 hx (digs_len _ _) hn (by omega) (hv.below hL.1) (fun _ => ⟨g, 0, rfl, ints_row hL.2.2⟩) dx (digs_dig _ _) valL LL_pos (by show _ < _; decide)
theorem bytesOf (g R : Nat) (w w1 : World) (hR : R < LL) (h : RelR w w1 g (digs 33 R)) :
    Calls Tryz.prog 48 #[.slice (some ⟨g, 0, none⟩) 32 33] w1 fun e w' => ∃ v, e = .returned v ∧ Ref32 w1 w' v R := by
  have c := bytes31 (some ⟨g, 0, none⟩) 32 33 (digs 32 R) w1 (digs_len _ _) (by omega) (digs_dig _ _) (digs33_view h)
  rw [valD_digs_lt (Nat.lt_trans hR (by decide))] at c
  refine c.mono ?_
  rintro e w' ⟨v, rfl, hB, hown⟩
  obtain ⟨a, cap, rfl, h1, h2⟩ := own_slice hown
  exact ⟨_, rfl, a, cap, rfl, h1, h2, hB, (own_bview hown).1⟩
theorem refReduce10 (a : Option Addr) (len cap : Nat) (bs : List Nat) (w : World) (hlen : Hid (bs.length = len)) (hcap : len ≤ cap) (hcap2 : cap ≤ 9223372036854775807) (hd : Dig bs) (hv : View w a bs) :
    Calls Tryz.prog 47 #[.slice a len cap] w fun e w' => ∃ v, e = .returned v ∧ Ref32 w w' v (valD (bs.take 64) % LL) := by
  have cC := cut24 a len cap bs 64 w hlen hcap hcap2 (by omega) hd hv
  simp only [Int.cast_ofNat_Int] at cC
  have hd64 := hd.take 64
  clear hlen hv hd
  obtain ⟨x, hxe⟩ : ∃ x, x = bs.take 64 := ⟨_, rfl⟩
  rw [← hxe] at cC hd64 ⊢
  clear hxe
  go_enter Tryz.func47, Tryz.ntmps47
  go_wp2_with fail
  refine cC.mono ?_
  rintro e w1 ⟨a', n, c', rfl, hB1, hnc, hc2, hn64, hvw, hxl⟩
  go_wp2_with fail
  refine (ref_L17 w1).mono ?_
  rintro e w2 ⟨g, rfl, hL⟩
  go_wp2_with fail
  refine (modBytes a' n c' x w1 hxl (by omega) hd64 hvw g w2 hL).mono ?_
  rintro e w3 ⟨g3, rfl, hR3⟩
  go_wp2_with fail
  refine (bytesOf g3 (valD x % LL) w2 w3 (Nat.mod_lt _ LL_pos) hR3).mono ?_
  rintro e w4 ⟨v, rfl, a4, cap4, rfl, h1, h2, hB4, hv4⟩
  have hB2 : Below w.heap.size w w2 := hB1.trans (hL.1.mono hB1.size)
  have hB3 : Below w.heap.size w w3 := hB2.trans (hR3.1.mono hB2.size)
  go_wp2
  go_ret
  exact ⟨_, rfl, a4, cap4, rfl, h1, h2, hB3.trans (hB4.mono hB3.size), hv4⟩
theorem refMulAdd13 (a : Option Addr) (la ca : Nat) (x : List Nat) (b : Option Addr) (lb cb : Nat) (y : List Nat) (c : Option Addr) (lc cc : Nat) (z : List Nat) (w : World) (hla : Hid (x.length = la)) (hlb : Hid (y.length = lb)) (hlc : Hid (z.length = lc)) (hca : la ≤ ca) (hca2 : ca ≤ 9223372036854775807) (hcb : lb ≤ cb) (hcb2 : cb ≤ 9223372036854775807) (hcc : lc ≤ cc) (hcc2 : cc ≤ 9223372036854775807)
    (dx : Dig x) (dy : Dig y) (dz : Dig z) (hx : View w a x) (hy : View w b y) (hz : View w c z) :
    Calls Tryz.prog 23 #[.slice a la ca, .slice b lb cb, .slice c lc cc] w fun e w' => ∃ v, e = .returned v ∧ Ref32 w w' v ((valD (x.take 32) * valD (y.take 32) + valD (z.take 32)) % LL) := by
  have c1 := cut24 a la ca x 32 w hla hca hca2 (by omega) dx hx
  have c2 := fun w1 (h : Below w.heap.size w w1) => cut24 b lb cb y 32 w1 hlb hcb hcb2 (by omega) dy (hy.below h)
  have c3 := fun w1 (h : Below w.heap.size w w1) => cut24 c lc cc z 32 w1 hlc hcc hcc2 (by omega) dz (hz.below h)
  simp only [Int.cast_ofNat_Int] at c1 c2 c3
  have ex := dx.take 32
  have ey := dy.take 32
  have ez := dz.take 32
  clear hla hlb hlc dx dy dz hx hy hz
  obtain ⟨X, hX⟩ : ∃ l, l = x.take 32 := ⟨_, rfl⟩
  obtain ⟨Y, hY⟩ : ∃ l, l = y.take 32 := ⟨_, rfl⟩
  obtain ⟨Z, hZ⟩ : ∃ l, l = z.take 32 := ⟨_, rfl⟩
  rw [← hX] at c1 ex ⊢
  rw [← hY] at c2 ey ⊢
  rw [← hZ] at c3 ez ⊢
  clear hX hY hZ
  go_enter Tryz.func23, Tryz.ntmps23
  go_wp2_with fail
  refine c1.mono ?_
  rintro e w1 ⟨a1, n1, k1, rfl, hB1, i1, j1, l1, v1, m1⟩
  go_wp2_with fail
  refine (c2 w1 hB1).mono ?_
  rintro e w2 ⟨a2, n2, k2, rfl, hb2, i2, j2, l2, v2, m2⟩
  have hB2 : Below w.heap.size w w2 := hB1.trans (hb2.mono hB1.size)
  have cT := times44 a1 n1 k1 X a2 n2 k2 Y w2 m1 m2 (by omega) (by omega) (v1.below hb2) v2 ex ey
  clear c1 c2 hb2
  go_wp2_with fail
  refine cT.mono ?_
  rintro e w3 ⟨g3, rfl, hR3⟩
  have hB3 : Below w.heap.size w w3 := hB2.trans (hR3.1.mono hB2.size)
  have hvXY : valD (digs (n1 + n2 + 1) (valD X * valD Y)) = valD X * valD Y := by
    refine valD_digs_lt ?_
    have p1 := valD_lt ex
    have p2 := valD_lt ey
    rw [m1] at p1
    rw [m2] at p2
    have : valD X * valD Y < 256 ^ n1 * 256 ^ n2 := Nat.mul_lt_mul'' p1 p2
    rw [← Nat.pow_add] at this
    exact Nat.lt_trans this (Nat.pow_lt_pow_right (by decide) (by omega))
  go_wp2_with fail
  refine (c3 w3 hB3).mono ?_
  rintro e w4 ⟨a4, n4, k4, rfl, hb4, i4, j4, l4, v4, m4⟩
  have hB4 : Below w.heap.size w w4 := hB3.trans (hb4.mono hB3.size)
  have cP := plus32 (some ⟨g3, 0, none⟩) (n1 + n2 + 1) (n1 + n2 + 1) (digs (n1 + n2 + 1) (valD X * valD Y)) a4 n4 k4 Z w4 (digs_len _ _) m4 (by omega) (by omega) (fun _ => ⟨g3, 0, rfl, ints_row (block_below hb4 (lt_of_heap hR3.2.2) hR3.2.2)⟩) v4 (digs_dig _ _) ez
  rw [hvXY] at cP
  obtain ⟨K, hK⟩ : ∃ K, K = max (n1 + n2 + 1) n4 + 1 := ⟨_, rfl⟩
  have hKl : K ≤ 1000 := by omega
  have HV : Hid (valD (digs K (valD X * valD Y + valD Z)) = valD X * valD Y + valD Z) := by
    refine valD_digs_lt ?_
    have p1 := valD_lt (digs_dig (n1 + n2 + 1) (valD X * valD Y))
    have p2 := valD_lt ez
    rw [digs_len, hvXY] at p1
    rw [m4] at p2
    have q1 : 256 ^ (n1 + n2 + 1) ≤ 256 ^ (K - 1) := Nat.pow_le_pow_right (by decide) (by omega)
    have q2 : 256 ^ n4 ≤ 256 ^ (K - 1) := Nat.pow_le_pow_right (by decide) (by omega)
    have q3 : 256 ^ K = 256 ^ (K - 1) * 256 := by rw [← Nat.pow_succ]; congr 1; omega
    omega
  rw [← hK] at cP
  clear hK hvXY cT c3
  go_wp2_with fail
  refine cP.mono ?_
  rintro e w5 ⟨g5, rfl, hR5⟩
  have hB5 : Below w.heap.size w w5 := hB4.trans (hR5.1.mono hB4.size)
  go_wp2_with fail
  refine (ref_L17 w5).mono ?_
  rintro e w6 ⟨g6, rfl, hL⟩
  have cM := modBytes (some ⟨g5, 0, none⟩) K K (digs K (valD X * valD Y + valD Z)) w5 (digs_len _ _) (by omega) (digs_dig _ _) (fun _ => ⟨g5, 0, rfl, ints_row hR5.2.2⟩) g6 w6 hL
  rw [HV.out] at cM
  go_wp2_with fail
  refine cM.mono ?_
  rintro e w7 ⟨g7, rfl, hR7⟩
  go_wp2_with fail
  refine (bytesOf g7 ((valD X * valD Y + valD Z) % LL) w6 w7 (Nat.mod_lt _ LL_pos) hR7).mono ?_
  rintro e w8 ⟨v, rfl, a8, cap8, rfl, h1, h2, hB8, hv8⟩
  have hB6 : Below w.heap.size w w6 := hB5.trans (hL.1.mono hB5.size)
  have hB7 : Below w.heap.size w w7 := hB6.trans (hR7.1.mono hB6.size)
  go_wp2
  go_ret
  exact ⟨_, rfl, a8, cap8, rfl, h1, h2, hB7.trans (hB8.mono hB7.size), hv8⟩
end EN
end Go.Proofs.YtabgihjffjlfiaaGreatDoor
set_option linter.unusedVariables false
namespace Go.Proofs.YtabgihjffjlfiaaGreatDoor
open Go.RowKit Go.Sort Go.BigFrame EN
set_option maxRecDepth 100000
set_option maxHeartbeats 4000000
theorem refBts {w w' : World} {v : Value} {R : Nat} (h : Ref32 w w' v R) : Below w.heap.size w w' ∧ Bts (digs 32 R) v w' := by
  obtain ⟨a, cap, rfl, h1, h2, h3, h4⟩ := h
  exact ⟨h3, a, cap, by rw [digs_len], by rw [digs_len]; exact h1, h2, h4⟩
theorem rReduce {v : Value} {l : List Nat} (w : World) (h : Bts l v w) (hd : Dig l) (hl : l.length ≤ 64) : Ret 47 #[v] w (Bts (digs 32 (valD l % LL))) := by
  obtain ⟨a, cap, rfl, h1, h2, hv⟩ := h
  refine (refReduce10 a l.length cap l w rfl h1 h2 hd hv).mono ?_
  rintro e w' ⟨v, rfl, hR⟩
  rw [List.take_of_length_le hl] at hR
  exact ⟨_, rfl, (refBts hR).1, (refBts hR).2⟩
theorem rMulAdd {v1 v2 v3 : Value} {x y z : List Nat} (w : World) (hx : Bts x v1 w) (hy : Bts y v2 w) (hz : Bts z v3 w) (dx : Dig x) (dy : Dig y) (dz : Dig z) (lx : x.length = 32) (ly : y.length = 32) (lz : z.length = 32) :
    Ret 23 #[v1, v2, v3] w (Bts (digs 32 ((valD x * valD y + valD z) % LL))) := by
  obtain ⟨a, ca, rfl, a1, a2, av⟩ := hx
  obtain ⟨b, cb, rfl, b1, b2, bv⟩ := hy
  obtain ⟨c, cc, rfl, c1, c2, cv⟩ := hz
  refine (refMulAdd13 a x.length ca x b y.length cb y c z.length cc z w rfl rfl rfl a1 a2 b1 b2 c1 c2 dx dy dz av bv cv).mono ?_
  rintro e w' ⟨v, rfl, hR⟩
  rw [List.take_of_length_le (by omega), List.take_of_length_le (by omega), List.take_of_length_le (by omega)] at hR
  exact ⟨_, rfl, (refBts hR).1, (refBts hR).2⟩
theorem rHash {x y z : List Nat} {v1 v2 v3 : Value} (w : World) (hx : Bts x v1 w) (hy : Bts y v2 w) (hz : Bts z v3 w) (dx : Dig x) (dy : Dig y) (dz : Dig z) (h0 : 0 < x.length) (hl : x.length + y.length + z.length ≤ 100000) :
    Ret 19 #[v1, v2, v3] w (Bts (digs 32 (numL (x ++ y ++ z)))) := by
  obtain ⟨a, ca, rfl, a1, a2, av⟩ := hx
  obtain ⟨b, cb, rfl, b1, b2, bv⟩ := hy
  obtain ⟨c, cc, rfl, c1, c2, cv⟩ := hz
  obtain ⟨lx, hlx⟩ : ∃ n, n = x.length := ⟨_, rfl⟩
  obtain ⟨ly, hly⟩ : ∃ n, n = y.length := ⟨_, rfl⟩
  obtain ⟨lz, hlz⟩ : ∃ n, n = z.length := ⟨_, rfl⟩
  rw [← hlx] at a1 h0 hl ⊢
  rw [← hly] at b1 hl ⊢
  rw [← hlz] at c1 hl ⊢
  have HX : Hid (x.length = lx) := hlx.symm
  have HY : Hid (y.length = ly) := hly.symm
  have HZ : Hid (z.length = lz) := hlz.symm
  clear hlx hly hlz
  unfold Ret
  go_enter Tryz.func19, Tryz.ntmps19
  go_wp2_with (at_builtin; first
    | (refine wpList_append_any _ rfl (.tmp 8) (.tmp 9) rfl (.slice none 0 0) 0 [] rfl a lx ca x rfl w.heap.size (World.ownsRow_nil _ _ _ _) HX.out av (Nat.le_refl _) (by omega) ?_; intro v2 w2 hown2 hB2; rw [Nat.zero_add, List.nil_append] at hown2; have bv2 := bv.below hB2)
    | (refine wpList_append_any _ rfl (.tmp 11) (.tmp 12) rfl v2 lx x rfl b ly cb y rfl w.heap.size hown2 HY.out bv2 hB2.size (by omega) ?_; intro v3 w3 hown3 hB3; have hB03 := hB2.trans hB3; have cv3 := cv.below hB03)
    | (refine wpList_append_any _ rfl (.tmp 14) (.tmp 15) rfl v3 (lx + ly) (x ++ y) rfl c lz cc z rfl w.heap.size hown3 HZ.out cv3 hB03.size (by omega) ?_; intro v4 w4 hown4 hB4))
  have hB04 := hB03.trans hB4
  have hO4 := own_C (by rw [List.length_append, List.length_append, HX.out, HY.out, HZ.out]) (by omega) hown4
  have hd := (dx.app dy).app dz
  have hll : (x ++ y ++ z).length ≤ 100000 := by rw [List.length_append, List.length_append, HX.out, HY.out, HZ.out]; exact hl
  clear hown2 hown3 hown4
  refine (rSum512 w4 hO4.bts hd hll).mono ?_
  rintro e w5 ⟨v5, rfl, hB5, hO5⟩
  have hB05 := hB04.trans (hB5.mono hB04.size)
  go_wp2_with fail
  refine (rReduce w5 hO5.bts (SH_dig _) (by rw [SH_len]; omega)).mono ?_
  rintro e w6 ⟨v6, rfl, hB6, hO6⟩
  have hB06 := hB05.trans (hB6.mono hB05.size)
  go_wp2
  go_ret
  exact ⟨_, rfl, hB06, hO6⟩
theorem rBasesP {v2 v : Value} {l : List Nat} (w : World) (h : RPt bp.x bp.y v2 w) (hk : Bts l v w) (hd : Dig l) (hl : l.length ≤ 32) : Ret 21 #[v2, v] w (RPt (bp.nm (valD l)).x (bp.nm (valD l)).y) := rMulPt (P := bp) w h hk hd hl
theorem btsN {w : World} : Bts [] (.slice none 0 0) w := ⟨none, 0, rfl, Nat.le_refl _, by decide, fun h => absurd h (by simp)⟩
theorem rSign {v vm : Value} {s m : List Nat} (w : World) (h : Bts s v w) (hm : Bts m vm w) (hd : Dig s) (hl : s.length ≤ 1000) (dm : Dig m) (lm : m.length ≤ 50000) : Ret 8 #[v, vm] w (OwnC w.heap.size (SIG s m)) := by
  have hS := rSecret w h hd (by omega)
  obtain ⟨a, cap, rfl⟩ := h.form
  obtain ⟨am, cm, rfl⟩ := hm.form
  have hBS := rBase
  have hPT := fun w v2 v hk => fun h => rBasesP (v2 := v2) (v := v) (l := digs 32 (RN s m)) w h hk (digs_dig _ _) (by rw [digs_len]; omega)
  rw [valD_digs_lt (show RN s m < 256 ^ 32 from Nat.lt_trans (Nat.mod_lt _ LL_pos) (by decide))] at hPT
  have hRB : digs 32 (bp.nm (RN s m)).enc = RB s m := rfl
  unfold Ret
  generalize bp.nm (RN s m) = Q at *
  generalize bp = B0 at *
  go_enter Tryz.func8, Tryz.ntmps8
  go_wp2_with fail
  refine hS.mono ?_
  rintro e w1 ⟨v1, rfl, hB1, k, p, rfl, hk, hp⟩
  go_wp2_with fail
  refine (rPublic w1 (Bts.stb _ _ _ _ hB1 h) hd (by omega)).mono ?_
  rintro e w2 ⟨v2, rfl, hB2, hO2⟩
  have hP2 := hO2.bts
  clear hO2
  have hB02 := hB1.trans (hB2.mono hB1.size)
  go_wp2_with fail
  refine (rHash w2 (Bts.stb _ _ _ _ hB2 hp) (Bts.stb _ _ _ _ hB02 hm) btsN (PRE_dig s) dm (fun j => by simp) (by rw [PRE_len]; omega) (by rw [PRE_len, List.length_nil]; omega)).mono ?_
  rintro e w3 ⟨v3, rfl, hB3, hR3⟩
  rw [List.append_nil] at hR3
  have hB03 := hB02.trans (hB3.mono hB02.size)
  go_wp2_with fail
  refine (hBS w3).mono ?_
  rintro e w4 ⟨v4, rfl, hB4, hP4⟩
  have hB04 := hB03.trans (hB4.mono hB03.size)
  have hR4 : Bts (digs 32 (RN s m)) v3 w4 := Bts.stb _ _ _ _ hB4 hR3
  go_wp2_with fail
  refine (hPT w4 v4 v3 hR4 hP4).mono ?_
  rintro e w5 ⟨v5, rfl, hB5, hP5⟩
  go_wp2_with fail
  refine (rPBytesP w5 hP5).mono ?_
  rintro e w6 ⟨v6, rfl, hB6, hO6⟩
  rw [hRB] at hO6
  have hH6 := hO6.bts
  clear hO6
  have hB46 := hB5.trans (hB6.mono hB5.size)
  have hB06 := hB04.trans (hB46.mono hB04.size)
  have hB26 := (hB3.trans (hB4.mono hB3.size)).trans (hB46.mono (by have := hB3.size; have := hB4.size; omega))
  have lRB : (RB s m).length = 32 := by unfold RB; rw [digs_len]
  have lPUB : (PUB s).length = 32 := by unfold PUB; rw [digs_len]
  have dRB : Dig (RB s m) := digs_dig _ _
  have dPUB : Dig (PUB s) := digs_dig _ _
  go_wp2_with fail
  refine (rHash w6 hH6 (Bts.stb _ _ _ _ hB26 hP2) (Bts.stb _ _ _ _ hB06 hm) dRB dPUB dm (by omega) (by omega)).mono ?_
  rintro e w7 ⟨v7, rfl, hB7, hK7⟩
  have hB07 := hB06.trans (hB7.mono hB06.size)
  have hB47 := hB46.trans (hB7.mono hB46.size)
  have hB17 := (hB2.trans (hB26.mono hB2.size)).trans (hB7.mono (by have := hB2.size; have := hB26.size; omega))
  have hC8 := rMulAdd w7 (x := digs 32 (KN s m)) hK7 (Bts.stb _ _ _ _ hB17 hk) (Bts.stb _ _ _ _ hB47 hR4) (digs_dig _ _) (SEC_dig s) (digs_dig _ _) (digs_len _ _) (SEC_len s) (digs_len _ _)
  rw [valD_digs_lt (show RN s m < 256 ^ 32 from Nat.lt_trans (Nat.mod_lt _ LL_pos) (by decide)), valD_digs_lt (show KN s m < 256 ^ 32 from Nat.lt_trans (Nat.mod_lt _ LL_pos) (by decide))] at hC8
  go_wp2_with fail
  refine hC8.mono ?_
  rintro e w8 ⟨v8, rfl, hB8, hS8⟩
  have hB08 := hB07.trans (hB8.mono hB07.size)
  have hH8 := Bts.stb _ _ _ _ (hB7.trans (hB8.mono hB7.size)) hH6
  obtain ⟨ah, ch, rfl⟩ := hH8.form
  obtain ⟨_, _, _, vh⟩ := hH8.parts
  obtain ⟨as8, cs8, rfl⟩ := hS8.form
  obtain ⟨_, _, _, vs⟩ := hS8.parts
  rw [lRB, digs_len]
  have HLR : Hid ((RB s m).length = 32) := lRB
  have hSg : RB s m ++ digs 32 ((KN s m * valD (SEC s) + RN s m) % LL) = SIG s m := rfl
  have hlS : (digs 32 ((KN s m * valD (SEC s) + RN s m) % LL)).length = 32 := digs_len _ _
  generalize digs 32 ((KN s m * valD (SEC s) + RN s m) % LL) = SB at *
  clear lRB lPUB hC8
  go_wp2_with (at_builtin; first
    | (refine wpList_append_any _ rfl (.tmp 33) (.tmp 34) rfl (.slice none 0 0) 0 [] rfl ah 32 ch (RB s m) rfl w8.heap.size (World.ownsRow_nil _ _ _ _) HLR.out vh (Nat.le_refl _) (by omega) ?_; intro v9 w9 hown9 hB9; rw [Nat.zero_add, List.nil_append] at hown9; have vs9 := vs.below hB9)
    | (refine wpList_append_any _ rfl (.tmp 36) (.tmp 37) rfl v9 32 (RB s m) rfl as8 32 cs8 SB rfl w8.heap.size hown9 hlS vs9 hB9.size (by omega) ?_; intro v10 w10 hown10 hB10))
  rw [hSg] at hown10
  have hB0 := hB08.trans ((hB9.trans hB10).mono hB08.size)
  have hO := (own_C (by rw [← hSg, List.length_append, HLR.out, hlS]) (by omega) hown10).lo hB08.size
  clear hown9 hown10
  go_ret
  exact ⟨_, rfl, hB0, hO⟩
end Go.Proofs.YtabgihjffjlfiaaGreatDoor
set_option linter.unusedVariables false
namespace Go.Proofs.YtabgihjffjlfiaaGreatDoor
open Go.RowKit Go.Sort Go.BigFrame EN
set_option maxRecDepth 100000
set_option maxHeartbeats 2000000
section
variable {ρ : Operand → Value} {o : Oper} {x y z t : Operand} {w : World}
end
theorem ownLo' {f : FuncId} {args : Array Value} {w : World} {l : List Nat} {lo : Nat} (hlo : lo ≤ w.heap.size) (h : Ret f args w (Own w.heap.size l)) : Ret f args w (Own lo l) :=
  h.mono fun e w' ⟨v, h1, h2, g, h3, h4, h5⟩ => ⟨v, h1, h2, g, h3, by omega, h5⟩
theorem few06 (a : Option Addr) (len cap most : Nat) (w : World) (hcap : len ≤ cap) (hcap2 : cap ≤ 9223372036854775807) (hm : most ≤ 1000) :
    Calls Tryz.prog 7 #[.slice a len cap, .int .i64 (most : Int)] w fun e w' => e = .returned (.slice a (min len most) cap) ∧ w = w' := by
  by_cases h : most < len
  · rw [show min len most = most by omega]
    go_enter Tryz.func7, Tryz.ntmps7
    go_wp2
    go_ret
    exact ⟨rfl, rfl⟩
  · rw [show min len most = len by omega]
    go_enter Tryz.func7, Tryz.ntmps7
    go_wp2
    go_ret
    exact ⟨rfl, rfl⟩
/-- The first so many bytes. -/
theorem cFew {v : Value} {l : List Nat} (most : Nat) (w : World) (h : Bts l v w) (hm : most ≤ 1000) : Ret 7 #[v, .int .i64 (most : Int)] w (Bts (l.take most)) := by
  obtain ⟨a, cap, rfl, h1, h2, hv⟩ := h
  refine (few06 a l.length cap most w h1 h2 hm).mono fun e w' ⟨he, hw⟩ => ?_
  subst hw
  refine ⟨_, he, Below.refl _ _, a, cap, ?_, ?_, h2, hv.take most⟩
  · rw [List.length_take, Nat.min_comm]
  · rw [List.length_take]; omega
/-- 32 bytes of any. -/
def SEED (l : List Nat) : List Nat := l.take 32 ++ List.replicate (32 - l.length) 0
end Go.Proofs.YtabgihjffjlfiaaGreatDoor
set_option linter.unusedVariables false
namespace Go.Proofs.YtabgihjffjlfiaaGreatDoor
open Go.RowKit Go.Sort Go.BigFrame EN
set_option maxRecDepth 100000
set_option maxHeartbeats 2000000
theorem btsNil {v : Value} {w : World} (h : v = .slice none 0 0) : Bts [] v w := ⟨none, 0, h, Nat.le_refl _, by decide, fun h => absurd h (by simp)⟩
end Go.Proofs.YtabgihjffjlfiaaGreatDoor
set_option linter.unusedVariables false
namespace Go.Proofs.YtabgihjffjlfiaaGreatDoor
open Go.RowKit Go.Sort Go.BigFrame EN
set_option maxRecDepth 100000
set_option maxHeartbeats 2000000
def mids (l : List Nat) (k : Nat) : List Nat := l.take k ++ List.replicate (32 - k) 0
theorem mids_len {l : List Nat} {k : Nat} (h : k ≤ l.length) (h2 : k ≤ 32) : (mids l k).length = 32 := by
  unfold mids
  rw [List.length_append, List.length_take, List.length_replicate]; omega
theorem mids_step {l : List Nat} {k : Nat} (h : k < l.length) (h2 : k < 32) : (mids l k).set k (l.getD k 0) = mids l (k + 1) := by
  unfold mids
  rw [List.set_append_right _ _ (by rw [List.length_take]; omega), List.length_take, show k - min k l.length = 0 by omega, show 32 - k = (32 - (k + 1)) + 1 by omega, List.replicate_succ, List.set_cons_zero, List.take_add_one, List.append_assoc]
  rw [List.getD_eq_getElem?_getD, List.getElem?_eq_getElem h]; rfl
theorem mids_end {l : List Nat} {k : Nat} (h : k ≤ l.length) (h2 : k ≤ 32) (h3 : k = 32 ∨ k = l.length) : mids l k = SEED l := by
  unfold mids SEED
  rcases h3 with rfl | rfl
  · rw [show 32 - 32 = 32 - l.length by omega]
  · rw [List.take_of_length_le (Nat.le_refl _), List.take_of_length_le h2]
theorem SEED_len (l : List Nat) : (SEED l).length = 32 := by
  unfold SEED
  rw [List.length_append, List.length_take, List.length_replicate]; omega
theorem SEED_dig {l : List Nat} (h : Dig l) : Dig (SEED l) := by
  unfold SEED
  exact (h.take 32).app (dig_lt fun x hx => by rw [List.mem_replicate] at hx; omega)
theorem seed12 (a : Option Addr) (len cap : Nat) (l : List Nat) (w : World) (hlen : Hid (l.length = len)) (h1 : len ≤ cap) (h2 : cap ≤ 9223372036854775807) (hv : View w a l) :
    Calls Tryz.prog 6 #[.slice a len cap] w fun e w' => ∃ g, e = .returned (.slice (some ⟨g, 0, none⟩) 32 32) ∧ w.heap.size ≤ g ∧ Below w.heap.size w w' ∧ w'.heap[g]? = some (.cells (ints .u8 (SEED l)) 5 (0, 0)) := by
  have hmk := make32 w
  have h0 : (w.alloc (.cells (ints .u8 (digs 32 0)) 5)).heap[w.heap.size]? = some (.cells (ints .u8 (mids l 0)) 5 (0, 0)) := heap_alloc_new _ _
  have hB0 : Below w.heap.size w (w.alloc (.cells (ints .u8 (digs 32 0)) 5)) := below1 _ _
  go_enter Tryz.func6, Tryz.ntmps6
  go_wp2_with fail
  generalize w.alloc (.cells (ints .u8 (digs 32 0)) 5) = w0 at *
  go_loopw [4] (fun i wr => ∃ k : Nat, k ≤ 32 ∧ k ≤ len ∧ i = .int .i64 k ∧ Below w.heap.size w wr ∧ wr.heap[w.heap.size]? = some (.cells (ints .u8 (mids l k)) 5 (0, 0))) (fun i _ => 32 - (intOf i).toNat)
  case atStart => exact ⟨0, by omega, by omega, rfl, hB0, h0⟩
  case round =>
    obtain ⟨k, hk, hk2, rfl, hB, hrow⟩ := hrel
    clear hmk h0 hB0
    by_cases hlt : k < 32
    · by_cases hlt2 : k < len
      · obtain ⟨g, off, rfl, hb⟩ := hv (by rw [hlen.out]; omega)
        have hc := (hv.below hB)
        obtain ⟨g', off', e, hb'⟩ := hc (by rw [hlen.out]; omega)
        injection e with e; injection e with e1 e2; subst e1 e2
        have c0 := hb' k (by rw [hlen.out]; omega)
        have f0 := frozen_of_row _ w.heap.size k _ _ hrow
        have hset := set_ints hrow k (l.getD k 0)
        rw [mids_step (by rw [hlen.out]; omega) hlt] at hset
        have hB2 := hB.setCell (p := ⟨w.heap.size, k, none⟩) (Nat.le_refl _) (.int .u8 ((l.getD k 0 : Nat) : Int))
        have HS1 : Hid _ := hset
        have HB2 : Hid _ := hB2
        have hcc : wr.cell? ⟨w.heap.size, k, none⟩ = some (.int .u8 (((mids l k).getD k 0 : Nat) : Int)) := cell_ints hrow k (by rw [mids_len (by rw [hlen.out]; omega) hk]; omega)
        clear hset hB2 hb hb' hc
        generalize (l.getD k 0 : Nat) = x at *
        generalize ((mids l k).getD k 0 : Nat) = y at *
        go_wp2
        go_roundw
        case rel => exact ⟨k + 1, by omega, by omega, by go_num, HB2.out, HS1.out⟩
        case measure => simp [intOf]; omega
      · have hend := mids_end (l := l) (k := k) (by rw [hlen.out]; omega) hk (.inr (by rw [hlen.out]; omega))
        rw [hend] at hrow
        clear hend
        have hnl : ¬ ((k : Int) < (len : Int)) := by omega
        go_wp2_with fail
        go_ret
        exact ⟨_, rfl, Nat.le_refl _, hB, hrow⟩
    · obtain rfl : k = 32 := by omega
      have hend := mids_end (l := l) (k := 32) (by rw [hlen.out]; omega) hk (.inl rfl)
      rw [hend] at hrow
      clear hend
      go_wp2_with fail
      go_ret
      exact ⟨_, rfl, Nat.le_refl _, hB, hrow⟩
theorem cSeed {v : Value} {l : List Nat} (w : World) (h : Bts l v w) : Ret 6 #[v] w (Own w.heap.size (SEED l)) := by
  obtain ⟨a, cap, rfl, h1, h2, hv⟩ := h
  exact (seed12 a l.length cap l w rfl h1 h2 hv).mono fun e w' ⟨g, he, hg, hB, hr⟩ => ⟨_, he, hB, g, by rw [SEED_len], hg, hr⟩
end Go.Proofs.YtabgihjffjlfiaaGreatDoor
set_option linter.unusedVariables false
namespace Go.Proofs.YtabgihjffjlfiaaGreatDoor
open Go.RowKit Go.Sort Go.BigFrame EN
set_option maxRecDepth 100000
set_option maxHeartbeats 2000000
def LV : List Nat := [157, 97, 177, 157, 239, 253, 90, 96, 186, 132, 74, 244, 146, 236, 44, 196, 68, 73, 197, 105, 123, 50, 105, 25, 112, 59, 172, 3, 28, 174, 127, 96]
theorem SH_LV : SH LV = [53, 124, 131, 134, 79, 40, 51, 203, 66, 122, 46, 241, 192, 10, 1, 60, 253, 255, 39, 104, 217, 128, 192, 163, 165, 32, 240, 6, 144, 77, 233, 15, 155, 79, 10, 254, 40, 11, 116, 106, 119, 134, 132, 231, 84, 66, 80, 32, 87, 183, 71, 58, 3, 240, 143, 150, 245, 163, 142, 146, 135, 224, 31, 143] := by kernel_rfl
theorem PRE_LV : PRE LV = [155, 79, 10, 254, 40, 11, 116, 106, 119, 134, 132, 231, 84, 66, 80, 32, 87, 183, 71, 58, 3, 240, 143, 150, 245, 163, 142, 146, 135, 224, 31, 143] := by unfold PRE; rw [SH_LV]; rfl
theorem SH_PRE : SH (PRE LV ++ []) = [182, 177, 156, 216, 224, 66, 111, 89, 131, 250, 17, 45, 137, 161, 67, 170, 151, 218, 184, 188, 93, 235, 141, 91, 98, 83, 201, 40, 182, 82, 114, 244, 4, 64, 152, 194, 169, 144, 3, 156, 222, 91, 106, 72, 24, 223, 11, 251, 110, 64, 220, 93, 238, 84, 36, 128, 50, 150, 35, 35, 231, 1, 53, 45] := by rw [PRE_LV]; kernel_rfl
def aN : Nat := 36144925721603087658594284515452164870581325872720374094707712194495455132720
def rN : Nat := 2015312323900227545039973048451112962192803170366412514267238242679089760755
theorem SEC_LV : valD (SEC LV) = aN := by unfold SEC; rw [SH_LV]; kernel_rfl
theorem RN_LV : RN LV [] = rN := by unfold RN numL; rw [SH_PRE]; kernel_rfl
def chk (x y X Y Z T : Nat) : Bool := Nat.beq (x * Z % pp) (X % pp) && Nat.beq (y * Z % pp) (Y % pp)
theorem at_chk {n x y : Nat} (hn : n < 2 ^ 256) (h : qmul 256 n bxN byN 1 btN 0 1 1 0 (chk x y) = true) : (bp.nm n).x = fe x ∧ (bp.nm n).y = fe y := by
  obtain ⟨X, Y, Z, T, hr, e⟩ := qmul_spec (chk x y) 256 n hn bp_rep zero_rep
  rw [h] at e
  rw [Pt.zero_add] at hr
  have e' := e.symm
  unfold chk at e'
  rw [Bool.and_eq_true] at e'
  have e1 := fe_eq (Nat.eq_of_beq_eq_true e'.1)
  have e2 := fe_eq (Nat.eq_of_beq_eq_true e'.2)
  rw [fe_mul] at e1 e2
  obtain ⟨_, hZ, hx, hy, _⟩ := hr
  exact ⟨mul_cancel hZ (by rw [hx, e1]), mul_cancel hZ (by rw [hy, e2])⟩
def axN : Nat := 38815646466658113194383306759739515082307681141926459231621296960732224964046
def ayN : Nat := 11903303657706407974989296177215005343713679411332034699907763981919547054807
def sxN : Nat := 44370630452101398467924320556439323233869374150616132215183787387252341590058
def syN : Nat := 38448863731492799660668882834560725606410712239157980760146247592118262650597
theorem enc_of {p : Pt} {x y E : Nat} (h : p.x = fe x ∧ p.y = fe y) (h2 : y % pp + t255 * (x % pp % 2) = E) : p.enc = E := by
  unfold Pt.enc
  rw [h.1, h.2, fe_val, fe_val]; exact h2
theorem a_at : (bp.nm aN).x = fe axN ∧ (bp.nm aN).y = fe ayN := at_chk (by decide) (by kernel_rfl)
theorem r_at : (bp.nm rN).x = fe sxN ∧ (bp.nm rN).y = fe syN := at_chk (by decide) (by kernel_rfl)
theorem a_enc : (bp.nm aN).enc = 11903303657706407974989296177215005343713679411332034699907763981919547054807 := enc_of a_at (by decide)
theorem a_enc_d : digs 32 11903303657706407974989296177215005343713679411332034699907763981919547054807 = [215, 90, 152, 1, 130, 177, 10, 183, 213, 75, 254, 211, 201, 100, 7, 58, 14, 225, 114, 243, 218, 166, 35, 37, 175, 2, 26, 104, 247, 7, 81, 26] := by decide
theorem PUB_of {n E : Nat} {s : List Nat} (h : valD (SEC s) = n) (h2 : (bp.nm n).enc = E) : PUB s = digs 32 E := by unfold PUB PT; rw [h, h2]
theorem PUB_LV : PUB LV = [215, 90, 152, 1, 130, 177, 10, 183, 213, 75, 254, 211, 201, 100, 7, 58, 14, 225, 114, 243, 218, 166, 35, 37, 175, 2, 26, 104, 247, 7, 81, 26] := by
  rw [PUB_of SEC_LV a_enc, a_enc_d]
theorem r_enc : (bp.nm rN).enc = 38448863731492799660668882834560725606410712239157980760146247592118262650597 := enc_of r_at (by decide)
theorem r_enc_d : digs 32 38448863731492799660668882834560725606410712239157980760146247592118262650597 = [229, 86, 67, 0, 195, 96, 172, 114, 144, 134, 226, 204, 128, 110, 130, 138, 132, 135, 127, 30, 184, 229, 217, 116, 216, 115, 224, 101, 34, 73, 1, 85] := by decide
theorem RB_of {n E : Nat} {s m : List Nat} (h : RN s m = n) (h2 : (bp.nm n).enc = E) : RB s m = digs 32 E := by unfold RB; rw [h, h2]
theorem RB_LV : RB LV [] = [229, 86, 67, 0, 195, 96, 172, 114, 144, 134, 226, 204, 128, 110, 130, 138, 132, 135, 127, 30, 184, 229, 217, 116, 216, 115, 224, 101, 34, 73, 1, 85] := by
  rw [RB_of RN_LV r_enc, r_enc_d]
theorem SIG_LV (k : Nat) (hk : k < 32) : (SIG LV []).getD k 0 = (RB LV []).getD k 0 := by
  unfold SIG
  rw [List.getD_eq_getElem?_getD, List.getD_eq_getElem?_getD, List.getElem?_append_left (by unfold RB; rw [digs_len]; exact hk)]
theorem LV_dig : Dig LV := dig_lt (by decide)
end Go.Proofs.YtabgihjffjlfiaaGreatDoor
set_option linter.unusedVariables false
namespace Go.Proofs.YtabgihjffjlfiaaGreatDoor
open Go.RowKit Go.Sort Go.BigFrame EN
set_option maxRecDepth 100000
set_option maxHeartbeats 2000000
theorem cell_cur {w : World} {g v : Nat} {cur : Array Value} {l : List Nat} (h : w.heap[g]? = some (.cells cur 5 (0, 0))) (hc : ∀ i, i < l.length → cur[i]? = some (.int .u8 ((l.getD i 0 : Nat) : Int))) (i : Nat) (hi : i < l.length) (hv : l.getD i 0 = v) : w.cell? ⟨g, i, none⟩ = some (.int .u8 (v : Int)) := by
  rw [cell_of_row w g i _ 5 _ h, hc i hi, hv]
theorem SIG_len (s m : List Nat) : (SIG s m).length = 64 := by
  unfold SIG RB
  rw [List.length_append, digs_len, digs_len]
theorem PUB_len (s : List Nat) : (PUB s).length = 32 := by
  unfold PUB
  rw [digs_len]
theorem tupLo {f : FuncId} {args : Array Value} {w : World} {l : List Nat} {lo : Nat} {R : Value → World → Prop} (hlo : lo ≤ w.heap.size) (h : Ret f args w (Tup2 (Own w.heap.size l) R)) : Ret f args w (Tup2 (Own lo l) R) :=
  h.mono fun e w' ⟨v, h1, h2, a, b, h3, ⟨g, h4, h5, h6⟩, h7⟩ => ⟨v, h1, h2, a, b, h3, ⟨g, h4, by omega, h6⟩, h7⟩
theorem tupLoC {f : FuncId} {args : Array Value} {w : World} {l : List Nat} {lo : Nat} {R : Value → World → Prop} (hlo : lo ≤ w.heap.size) (h : Ret f args w (Tup2 (OwnC w.heap.size l) R)) : Ret f args w (Tup2 (OwnC lo l) R) :=
  h.mono fun e w' ⟨v, h1, h2, a, b, h3, h4, h7⟩ => ⟨v, h1, h2, a, b, h3, h4.lo hlo, h7⟩
theorem dLV {a : Act} {o : Oper} {w : World} {lo : Nat} (hlo : lo ≤ w.heap.size) (ho : o.op = .buildSlice 22 32 #[(0, .const (.int .u8 157)), (1, .const (.int .u8 97)), (2, .const (.int .u8 177)), (3, .const (.int .u8 157)), (4, .const (.int .u8 239)), (5, .const (.int .u8 253)), (6, .const (.int .u8 90)), (7, .const (.int .u8 96)), (8, .const (.int .u8 186)), (9, .const (.int .u8 132)), (10, .const (.int .u8 74)), (11, .const (.int .u8 244)), (12, .const (.int .u8 146)), (13, .const (.int .u8 236)), (14, .const (.int .u8 44)), (15, .const (.int .u8 196)), (16, .const (.int .u8 68)), (17, .const (.int .u8 73)), (18, .const (.int .u8 197)), (19, .const (.int .u8 105)), (20, .const (.int .u8 123)), (21, .const (.int .u8 50)), (22, .const (.int .u8 105)), (23, .const (.int .u8 25)), (24, .const (.int .u8 112)), (25, .const (.int .u8 59)), (26, .const (.int .u8 172)), (27, .const (.int .u8 3)), (28, .const (.int .u8 28)), (29, .const (.int .u8 174)), (30, .const (.int .u8 127)), (31, .const (.int .u8 96))]) : Does Tryz.prog o a.eval w (fun v w' => Below w.heap.size w w' ∧ Own lo LV v w') :=
  Does.new (.slice (some ⟨w.heap.size, 0, none⟩) 32 32) (.cells (ints .u8 LV) 5) (by simp only [execOp, ho, Act.eval, List.map_toArray, List.map]; kernel_rfl) ⟨_, rfl, hlo, heap_alloc_new _ _⟩
theorem cLives (w : World) (hT : TabA w) : Ret 9 #[] w (Is (.bool true)) := by
  unfold Ret
  have hO0 : Below w.heap.size w w := Below.refl _ _
  go_enter Tryz.func9, Tryz.ntmps9
  refine wp_seq_k fun K1 hK1 => ?_
  refine wp_plain_inv 1 (specs [Is (.bool false)]) (specs_stb ⟨Is.stb _, trivial⟩) (by kernel_rfl) ?_ ?_
  · refine ⟨fun a w hB hfr hdep => Step.plain rfl (dAssign (R := Is (.bool false)) rfl rfl), trivial⟩
  intro u1 hb1
  simp only [List.take, List.drop, FinAll, Act.put, List.setIfInBounds_toArray, List.set_cons_zero]
  rintro _ rfl
  have hO1 := (hO0).trans (hb1.mono (hO0).size)
  have hT1 := TabA.below hT hb1
  refine hK1 _ _ ?_
  clear hK1 K1
  refine wp_seq_k fun K2 hK2 => ?_
  refine wp_plain_inv 2 (specs [Own u1.heap.size (LV), Own u1.heap.size (LV)]) (specs_stb ⟨Own.stb _ _, Own.stb _ _, trivial⟩) (by kernel_rfl) ?_ ?_
  · refine ⟨fun a w hB hfr hdep => Step.plain rfl (dLV hB.size rfl),
      fun a w hB hfr hdep => Step.plain rfl (dAssign (R := Own u1.heap.size (LV)) rfl (hdep 0 6 (by kernel_rfl))), trivial⟩
  intro u2 hb2
  simp only [List.take, List.drop, FinAll, Act.put, List.setIfInBounds_toArray, List.set_cons_succ, List.set_cons_zero]
  rintro v6_2 h6_2 v1_2 h1_2
  have hO2 := (hO1).trans (hb2.mono (hO1).size)
  have hT2 := TabA.below hT1 hb2
  refine hK2 _ _ ?_
  clear hK2 K2
  refine wp_seq_k fun K3 hK3 => ?_
  refine wp_plain_inv 7 (specs [Own u1.heap.size (LV), Tup2 (Own u2.heap.size (PUB (LV))) (Is (.int .i64 0)), Tup2 (Own u2.heap.size (PUB (LV))) (Is (.int .i64 0)), Own u2.heap.size (PUB (LV)), Is (.int .i64 0), Own u2.heap.size (PUB (LV)), Is (.int .i64 0)]) (specs_stb ⟨Own.stb _ _, Tup2.stb (Own.stb _ _) (Is.stb _), Tup2.stb (Own.stb _ _) (Is.stb _), Own.stb _ _, Is.stb _, Own.stb _ _, Is.stb _, trivial⟩) (by kernel_rfl) ?_ ?_
  · refine ⟨fun a w hB hfr hdep => Step.plain rfl (dMove (R := Own u1.heap.size (LV)) rfl (use (hfr 1 (by kernel_rfl)) ((Own.stb _ _) _ _ _ hB h1_2))),
      fun a w hB hfr hdep => Step.plain rfl (Does.call 24 #[(a.eval (.tmp 8))] (by kernel_rfl) (tupLo hB.size (cPublic w (TabA.below hT2 hB) (Own.bts (hdep 0 8 (by kernel_rfl)) (by first | decide | (rw [digs_len]; omega) | (rw [SEED_len]; omega) | (unfold PUB; rw [digs_len]; omega) | simp)) LV_dig rfl))),
      fun a w hB hfr hdep => Step.plain rfl (dMove (R := Tup2 (Own u2.heap.size (PUB (LV))) (Is (.int .i64 0))) rfl (hdep 1 9 (by kernel_rfl))),
      fun a w hB hfr hdep => Step.plain rfl (dExt0 rfl (hdep 2 7 (by kernel_rfl))),
      fun a w hB hfr hdep => Step.plain rfl (dExt1 rfl (hdep 2 7 (by kernel_rfl))),
      fun a w hB hfr hdep => Step.plain rfl (dAssign (R := Own u2.heap.size (PUB (LV))) rfl (hdep 3 10 (by kernel_rfl))),
      fun a w hB hfr hdep => Step.plain rfl (dAssign (R := Is (.int .i64 0)) rfl (hdep 4 11 (by kernel_rfl))), trivial⟩
  intro u3 hb3
  simp only [List.take, List.drop, FinAll, Act.put, List.setIfInBounds_toArray, List.set_cons_succ, List.set_cons_zero]
  rintro v8_3 h8_3 v9_3 h9_3 v7_3 h7_3 v10_3 h10_3 _ rfl v2_3 h2_3 _ rfl
  have hO3 := (hO2).trans (hb3.mono (hO2).size)
  have hT3 := TabA.below hT2 hb3
  refine hK3 _ _ ?_
  clear hK3 K3
  refine wp_seq_k fun K4 hK4 => ?_
  refine wp_plain_inv 7 (specs [Own u1.heap.size (LV), Tup2 (OwnC u3.heap.size (SIG (LV) ([]))) (Is (.int .i64 0)), Tup2 (OwnC u3.heap.size (SIG (LV) ([]))) (Is (.int .i64 0)), OwnC u3.heap.size (SIG (LV) ([])), Is (.int .i64 0), OwnC u3.heap.size (SIG (LV) ([])), Is (.int .i64 0)]) (specs_stb ⟨Own.stb _ _, Tup2.stb (OwnC.stb _ _) (Is.stb _), Tup2.stb (OwnC.stb _ _) (Is.stb _), OwnC.stb _ _, Is.stb _, OwnC.stb _ _, Is.stb _, trivial⟩) (by kernel_rfl) ?_ ?_
  · refine ⟨fun a w hB hfr hdep => Step.plain rfl (dMove (R := Own u1.heap.size (LV)) rfl (use (hfr 1 (by kernel_rfl)) ((Own.stb _ _) _ _ _ hB ((Own.stb _ _) _ _ _ hb3 h1_2)))),
      fun a w hB hfr hdep => Step.plain rfl (Does.call 5 #[(a.eval (.tmp 13)), .slice none 0 0] (by kernel_rfl) (tupLoC hB.size (cSign w (TabA.below hT3 hB) (Own.bts (hdep 0 13 (by kernel_rfl)) (by first | decide | (rw [digs_len]; omega) | (rw [SEED_len]; omega) | (unfold PUB; rw [digs_len]; omega) | simp)) (btsNil rfl) LV_dig rfl (dig_lt (by simp; try omega)) (by decide)))),
      fun a w hB hfr hdep => Step.plain rfl (dMove (R := Tup2 (OwnC u3.heap.size (SIG (LV) ([]))) (Is (.int .i64 0))) rfl (hdep 1 14 (by kernel_rfl))),
      fun a w hB hfr hdep => Step.plain rfl (dExt0 rfl (hdep 2 12 (by kernel_rfl))),
      fun a w hB hfr hdep => Step.plain rfl (dExt1 rfl (hdep 2 12 (by kernel_rfl))),
      fun a w hB hfr hdep => Step.plain rfl (dAssign (R := OwnC u3.heap.size (SIG (LV) ([]))) rfl (hdep 3 15 (by kernel_rfl))),
      fun a w hB hfr hdep => Step.plain rfl (dAssign (R := Is (.int .i64 0)) rfl (hdep 4 16 (by kernel_rfl))), trivial⟩
  intro u4 hb4
  simp only [List.take, List.drop, FinAll, Act.put, List.setIfInBounds_toArray, List.set_cons_succ, List.set_cons_zero]
  rintro v13_4 h13_4 v14_4 h14_4 v12_4 h12_4 v15_4 h15_4 _ rfl v4_4 h4_4 _ rfl
  have hO4 := (hO3).trans (hb4.mono (hO3).size)
  have hT4 := TabA.below hT3 hb4
  refine hK4 _ _ ?_
  clear hK4 K4
  obtain ⟨gp, hvp, hlp, hrowp⟩ := ((Own.stb _ _) _ _ _ hb4 h2_3)
  rw [PUB_len] at hvp
  subst hvp
  obtain ⟨gs, caps, curs, hvs, hls, hrows, hcs, hds, hes⟩ := h4_4
  rw [SIG_len] at hvs
  subst hvs
  have kp0 : u4.cell? ⟨gp, 0, none⟩ = some (.int .u8 215) := cell_val hrowp 0 (by rw [PUB_len]; decide) (by rw [PUB_LV]; rfl)
  have kp1 : u4.cell? ⟨gp, 1, none⟩ = some (.int .u8 90) := cell_val hrowp 1 (by rw [PUB_len]; decide) (by rw [PUB_LV]; rfl)
  have kp2 : u4.cell? ⟨gp, 2, none⟩ = some (.int .u8 152) := cell_val hrowp 2 (by rw [PUB_len]; decide) (by rw [PUB_LV]; rfl)
  have kp3 : u4.cell? ⟨gp, 3, none⟩ = some (.int .u8 1) := cell_val hrowp 3 (by rw [PUB_len]; decide) (by rw [PUB_LV]; rfl)
  have ks0 : u4.cell? ⟨gs, 0, none⟩ = some (.int .u8 229) := cell_cur hrows hes 0 (by rw [SIG_len]; decide) (by rw [SIG_LV 0 (by decide), RB_LV]; rfl)
  have ks1 : u4.cell? ⟨gs, 1, none⟩ = some (.int .u8 86) := cell_cur hrows hes 1 (by rw [SIG_len]; decide) (by rw [SIG_LV 1 (by decide), RB_LV]; rfl)
  have ks2 : u4.cell? ⟨gs, 2, none⟩ = some (.int .u8 67) := cell_cur hrows hes 2 (by rw [SIG_len]; decide) (by rw [SIG_LV 2 (by decide), RB_LV]; rfl)
  have ks3 : u4.cell? ⟨gs, 3, none⟩ = some (.int .u8 0) := cell_cur hrows hes 3 (by rw [SIG_len]; decide) (by rw [SIG_LV 3 (by decide), RB_LV]; rfl)
  have HO : Hid _ := hO4
  clear hrows hes
  go_wp2
  go_ret
  exact ⟨_, rfl, HO.out, rfl⟩
end Go.Proofs.YtabgihjffjlfiaaGreatDoor
set_option linter.unusedVariables false
namespace Go.Proofs.YtabgihjffjlfiaaGreatDoor
open Go.RowKit Go.Sort Go.BigFrame EN
set_option maxRecDepth 100000
set_option maxHeartbeats 2000000
theorem signSigns {v1 v2 : Value} {l1 l2 : List Nat} (w : World) (hT : TabA w) (hv1 : Bts l1 v1 w) (hv2 : Bts l2 v2 w) (hd1 : Dig l1) (hd2 : Dig l2) : Ret 3 #[v1, v2] w (Is (.bool true)) := by
  unfold Ret
  have hO0 : Below w.heap.size w w := Below.refl _ _
  go_enter Tryz.func3, Tryz.ntmps3
  refine wp_seq_k fun K1 hK1 => ?_
  refine wp_plain_inv 1 (specs [Is (.bool false)]) (specs_stb ⟨Is.stb _, trivial⟩) (by kernel_rfl) ?_ ?_
  · refine ⟨fun a w hB hfr hdep => Step.plain rfl (dAssign (R := Is (.bool false)) rfl rfl), trivial⟩
  intro u1 hb1
  simp only [List.take, List.drop, FinAll, Act.put, List.setIfInBounds_toArray, List.set_cons_succ, List.set_cons_zero]
  rintro _ rfl
  have hO1 := (hO0).trans (hb1.mono (hO0).size)
  have hT1 := TabA.below hT hb1
  refine hK1 _ _ ?_
  clear hK1 K1
  refine wp_seq_k fun K2 hK2 => ?_
  refine wp_plain_inv 10 (specs [Bts (l1), Own u1.heap.size (SEED (l1)), Bts (l2), Bts ((l2).take 200), Tup2 (OwnC u1.heap.size (SIG (SEED (l1)) ((l2).take 200))) (Is (.int .i64 0)), Tup2 (OwnC u1.heap.size (SIG (SEED (l1)) ((l2).take 200))) (Is (.int .i64 0)), OwnC u1.heap.size (SIG (SEED (l1)) ((l2).take 200)), Is (.int .i64 0), OwnC u1.heap.size (SIG (SEED (l1)) ((l2).take 200)), Is (.int .i64 0)]) (specs_stb ⟨Bts.stb _, Own.stb _ _, Bts.stb _, Bts.stb _, Tup2.stb (OwnC.stb _ _) (Is.stb _), Tup2.stb (OwnC.stb _ _) (Is.stb _), OwnC.stb _ _, Is.stb _, OwnC.stb _ _, Is.stb _, trivial⟩) (by kernel_rfl) ?_ ?_
  · refine ⟨fun a w hB hfr hdep => Step.plain rfl (dMove (R := Bts (l1)) rfl (use (hfr 0 (by kernel_rfl)) ((Bts.stb _) _ _ _ hB ((Bts.stb _) _ _ _ hb1 hv1)))),
      fun a w hB hfr hdep => Step.plain rfl (Does.call 6 #[(a.eval (.tmp 8))] (by kernel_rfl) (ownLo' hB.size (cSeed w (hdep 0 8 (by kernel_rfl))))),
      fun a w hB hfr hdep => Step.plain rfl (dMove (R := Bts (l2)) rfl (use (hfr 1 (by kernel_rfl)) ((Bts.stb _) _ _ _ hB ((Bts.stb _) _ _ _ hb1 hv2)))),
      fun a w hB hfr hdep => Step.plain rfl (Does.call 7 #[(a.eval (.tmp 10)), .int .i64 200] (by kernel_rfl) (cFew 200 w (hdep 2 10 (by kernel_rfl)) (by decide))),
      fun a w hB hfr hdep => Step.plain rfl (Does.call 5 #[(a.eval (.tmp 9)), (a.eval (.tmp 11))] (by kernel_rfl) (tupLoC hB.size (cSign w (TabA.below hT1 hB) (Own.bts (hdep 1 9 (by kernel_rfl)) (by first | decide | (rw [digs_len]; omega) | (rw [SEED_len]; omega) | (unfold PUB; rw [digs_len]; omega) | simp)) (hdep 3 11 (by kernel_rfl)) (SEED_dig hd1) (SEED_len _) (Dig.take hd2 _) (by rw [List.length_take]; omega)))),
      fun a w hB hfr hdep => Step.plain rfl (dMove (R := Tup2 (OwnC u1.heap.size (SIG (SEED (l1)) ((l2).take 200))) (Is (.int .i64 0))) rfl (hdep 4 12 (by kernel_rfl))),
      fun a w hB hfr hdep => Step.plain rfl (dExt0 rfl (hdep 5 7 (by kernel_rfl))),
      fun a w hB hfr hdep => Step.plain rfl (dExt1 rfl (hdep 5 7 (by kernel_rfl))),
      fun a w hB hfr hdep => Step.plain rfl (dAssign (R := OwnC u1.heap.size (SIG (SEED (l1)) ((l2).take 200))) rfl (hdep 6 13 (by kernel_rfl))),
      fun a w hB hfr hdep => Step.plain rfl (dAssign (R := Is (.int .i64 0)) rfl (hdep 7 14 (by kernel_rfl))), trivial⟩
  intro u2 hb2
  simp only [List.take, List.drop, FinAll, Act.put, List.setIfInBounds_toArray, List.set_cons_succ, List.set_cons_zero]
  rintro v8_2 h8_2 v9_2 h9_2 v10_2 h10_2 v11_2 h11_2 v12_2 h12_2 v7_2 h7_2 v13_2 h13_2 _ rfl v5_2 h5_2 _ rfl
  have hO2 := (hO1).trans (hb2.mono (hO1).size)
  have hT2 := TabA.below hT1 hb2
  refine hK2 _ _ ?_
  clear hK2 K2
  refine wp_seq_k fun K3 hK3 => ?_
  refine wp_region_inv 17 (specs [OwnC u1.heap.size (SIG (SEED (l1)) ((l2).take 200)), Is (.string (strOf (SIG (SEED (l1)) ((l2).take 200)))), Bts (l1), Own u2.heap.size (SEED (l1)), Bts (l2), Bts ((l2).take 200), OwnC u2.heap.size (SIG (SEED (l1)) ((l2).take 200)), Is (.string (strOf (SIG (SEED (l1)) ((l2).take 200)))), Is (.bool true), Is (.bool true), Is (.int .i64 0), Is (.bool true), Is (.bool true), Is (.bool true), Is (.bool true), Is (.bool true), Is (.bool true)]) (by kernel_rfl) (specs_stb ⟨OwnC.stb _ _, Is.stb _, Bts.stb _, Own.stb _ _, Bts.stb _, Bts.stb _, OwnC.stb _ _, Is.stb _, Is.stb _, Is.stb _, Is.stb _, Is.stb _, Is.stb _, Is.stb _, Is.stb _, Is.stb _, Is.stb _, trivial⟩) (by kernel_rfl) ?_ ?_
  · refine ⟨fun a w hB hfr hdep => Step.plain rfl (dMove (R := OwnC u1.heap.size (SIG (SEED (l1)) ((l2).take 200))) rfl (use (hfr 5 (by kernel_rfl)) ((OwnC.stb _ _) _ _ _ hB h5_2))),
      fun a w hB hfr hdep => Step.plain rfl (dConvBts rfl (OwnC.bts (hdep 0 15 (by kernel_rfl)))),
      fun a w hB hfr hdep => Step.plain rfl (dMove (R := Bts (l1)) rfl (use (hfr 0 (by kernel_rfl)) ((Bts.stb _) _ _ _ hB ((Bts.stb _) _ _ _ hb2 ((Bts.stb _) _ _ _ hb1 hv1))))),
      fun a w hB hfr hdep => Step.plain rfl (Does.call 6 #[(a.eval (.tmp 17))] (by kernel_rfl) (ownLo' hB.size (cSeed w (hdep 2 17 (by kernel_rfl))))),
      fun a w hB hfr hdep => Step.plain rfl (dMove (R := Bts (l2)) rfl (use (hfr 1 (by kernel_rfl)) ((Bts.stb _) _ _ _ hB ((Bts.stb _) _ _ _ hb2 ((Bts.stb _) _ _ _ hb1 hv2))))),
      fun a w hB hfr hdep => Step.plain rfl (Does.call 7 #[(a.eval (.tmp 19)), .int .i64 200] (by kernel_rfl) (cFew 200 w (hdep 4 19 (by kernel_rfl)) (by decide))),
      fun a w hB hfr hdep => Step.plain rfl (Does.call 8 #[(a.eval (.tmp 18)), (a.eval (.tmp 20))] (by kernel_rfl) (ownCLo hB.size (rSign w (Own.bts (hdep 3 18 (by kernel_rfl)) (by first | decide | (rw [digs_len]; omega) | (rw [SEED_len]; omega) | (unfold PUB; rw [digs_len]; omega) | simp)) (hdep 5 20 (by kernel_rfl)) (SEED_dig hd1) (by rw [SEED_len]; omega) (Dig.take hd2 _) (by rw [List.length_take]; omega)))),
      fun a w hB hfr hdep => Step.plain rfl (dConvBts rfl (OwnC.bts (hdep 6 21 (by kernel_rfl)))),
      fun a w hB hfr hdep => Step.plain rfl (Does.run _ (run_eqStrB (str_refl _) rfl (hdep 1 16 (by kernel_rfl)) (hdep 7 22 (by kernel_rfl))) rfl),
      fun a w hB hfr hdep => Step.plain rfl (dMove (R := Is (.bool true)) rfl (hdep 8 23 (by kernel_rfl))),
      fun a w hB hfr hdep => Step.yes 9 24 true rfl rfl (hdep 9 24 (by kernel_rfl)) (dMove (R := Is (.int .i64 0)) rfl (hfr 6 (by kernel_rfl))),
      fun a w hB hfr hdep => Step.yes 9 24 true rfl rfl (hdep 9 24 (by kernel_rfl)) (Does.run _ (run_binO rfl (hdep 10 25 (by kernel_rfl)) rfl (by kernel_rfl)) rfl),
      fun a w hB hfr hdep => Step.plain rfl (dPickT rfl (hdep 9 24 (by kernel_rfl)) (hdep 11 26 (by kernel_rfl))),
      fun a w hB hfr hdep => Step.plain rfl (dMove (R := Is (.bool true)) rfl (hdep 12 27 (by kernel_rfl))),
      fun a w hB hfr hdep => Step.yes 13 28 true rfl rfl (hdep 13 28 (by kernel_rfl)) (Does.call 9 #[] (by kernel_rfl) (cLives w (TabA.below hT2 hB))),
      fun a w hB hfr hdep => Step.plain rfl (dPickT rfl (hdep 13 28 (by kernel_rfl)) (hdep 14 29 (by kernel_rfl))),
      fun a w hB hfr hdep => Step.plain rfl (dAssign (R := Is (.bool true)) rfl (hdep 15 30 (by kernel_rfl))), trivial⟩
  intro u3 hb3
  simp only [List.take, List.drop, FinAll, Act.put, List.setIfInBounds_toArray, List.set_cons_succ, List.set_cons_zero]
  rintro v15_3 h15_3 _ rfl v17_3 h17_3 v18_3 h18_3 v19_3 h19_3 v20_3 h20_3 v21_3 h21_3 _ rfl _ rfl _ rfl _ rfl _ rfl _ rfl _ rfl _ rfl _ rfl _ rfl
  have hO3 := (hO2).trans (hb3.mono (hO2).size)
  have hT3 := TabA.below hT2 hb3
  refine hK3 _ _ ?_
  clear hK3 K3
  refine wp_ret ?_
  refine bodyPost_ret (results_tmp rfl _ _ _) rfl ?_
  exact ⟨_, rfl, hO3, rfl⟩
end Go.Proofs.YtabgihjffjlfiaaGreatDoor
