/-
  The reference: Fold.
-/
import Derived.Test.YtpfcboakafbnlaaDoorR4
import Derived.Test.YtpfcboakafbnlaaDoorHeld
import Derived.Deep.RegionHeld
set_option linter.unusedVariables false
namespace Go.Proofs.YtpfcboakafbnlaaDoor
open Go.RowKit Go.Sort Go.BigFrame
set_option maxRecDepth 100000
set_option maxHeartbeats 2000000
/-- The number whose digits a slice of ints shows. -/
def valOf (w : World) : Value → Nat
  | .slice (some ⟨g, off, none⟩) n _ => valD ((List.range n).map fun i => match w.cell? ⟨g, off + i, none⟩ with | some (.int _ z) => z.toNat | _ => 0)
  | _ => 0
theorem valOf_eq {w : World} {a : Option Addr} {l : List Nat} {n cap : Nat} (h : IView w a l) (hl : l.length = n) : valOf w (.slice a n cap) = valD l := by
  by_cases hp : 0 < l.length
  · obtain ⟨b, off, rfl, hc⟩ := h hp
    show valD _ = _
    congr 1
    apply List.ext_getElem
    · simp [hl]
    · intro i h1 h2
      simp only [List.getElem_map, List.getElem_range]
      rw [hc i h2]
      simp [h2]
  · have h0 : l = [] := List.eq_nil_of_length_eq_zero (by omega)
    subst h0
    obtain rfl : n = 0 := by simpa using hl.symm
    unfold valOf
    split
    · rename_i he; cases he; rfl
    · rfl
theorem IView.take {w : World} {a : Option Addr} {l : List Nat} (h : IView w a l) (n : Nat) : IView w a (l.take n) := fun hp => by
  obtain ⟨b, off, rfl, hb⟩ := h (by simp at hp; omega)
  refine ⟨b, off, rfl, fun i hi => ?_⟩
  have hi' : i < n ∧ i < l.length := by simp at hi; omega
  rw [show (l.take n).getD i 0 = l.getD i 0 by simp [hi'.1]]
  exact hb i hi'.2
theorem IView.drop {w : World} {b off : Nat} {l : List Nat} (h : IntsAt w b off l) (n : Nat) : IntsAt w b (off + n) (l.drop n) := fun i hi => by
  have hi' : n + i < l.length := by simp at hi; omega
  have := h (n + i) hi'
  rw [← Nat.add_assoc] at this
  rw [this]
  simp
def RelF (w wr : World) (v : Value) (R : Nat) (l : List Nat) : Prop := ∃ a cap, v = .slice a l.length cap ∧ l.length ≤ cap ∧ cap ≤ 9223372036854775807 ∧ l.length ≤ 10000 ∧ Dig l ∧ IView wr a l ∧ valD l % pp = R ∧ Below w.heap.size w wr
theorem top_zero {l : List Nat} {n : Nat} (hl : l.length = n + 1) (h : l.getD n 0 = 0) : valD (l.take n) = valD l := by
  have := valD_take_succ l n
  rw [List.take_of_length_le (by omega), h] at this
  omega
theorem fold_le {l : List Nat} (h : 32 < l.length) (ht : l.getD (l.length - 1) 0 ≠ 0) : valD (l.take 32) + valD (l.drop 32) * 38 < valD l := by
  have h1 := valD_append (l.take 32) (l.drop 32)
  rw [List.take_append_drop, List.length_take, show min 32 l.length = 32 by omega] at h1
  have h2 : 0 < valD (l.drop 32) := by
    have h3 := valD_append ((l.drop 32).take (l.length - 33)) ((l.drop 32).drop (l.length - 33))
    rw [List.take_append_drop, List.drop_drop, show 32 + (l.length - 33) = l.length - 1 by omega, drop_val l (l.length - 1)] at h3
    have hp := pos256 (List.take (l.length - 33) (l.drop 32)).length
    have : 0 < 256 ^ (List.take (l.length - 33) (l.drop 32)).length * (l.getD (l.length - 1) 0 + 256 * valD (l.drop (l.length - 1 + 1))) := Nat.mul_pos hp (by omega)
    omega
  have e : (256 : Nat) ^ 32 = 115792089237316195423570985008687907853269984665640564039457584007913129639936 := by decide
  rw [e] at h1
  omega
theorem fold_mod {l : List Nat} (h : 32 < l.length) : (valD (l.take 32) + valD (l.drop 32) * 38) % pp = valD l % pp := by
  have h1 := valD_append (l.take 32) (l.drop 32)
  rw [List.take_append_drop, List.length_take, show min 32 l.length = 32 by omega] at h1
  have e : (256 : Nat) ^ 32 = 115792089237316195423570985008687907853269984665640564039457584007913129639936 := by decide
  have e2 : valD l = (valD (l.take 32) + valD (l.drop 32) * 38) + pp * (2 * valD (l.drop 32)) := by
    rw [e] at h1
    unfold pp
    omega
  rw [e2, Nat.add_mul_mod_self_left]
theorem elem31 : Tryd.prog.elem 33 = 3 := by kernel_rfl
theorem size3 : ∀ w, (sizeOf 3).run Tryd.prog w = .ok 1 w := fun _ => by kernel_rfl
theorem run_cut_h31 (g off len cap h : Nat) (w : World) (hh : h ≤ cap) : (Instr.sliceAt 33 (.slice (some ⟨g, off, none⟩) len cap) none (some (.int .i64 (h : Int))) none).run Tryd.prog w = .ok (.slice (some ⟨g, off, none⟩) h cap) w := by
  have hu : Tryd.prog.underlying 33 = some (.slice (Tryd.prog.elem 33)) := by rw [elem31]; exact Tryd.underlying33
  rw [run_sliceAt_slice w 33 _ _ _ _ hu, run_slice_h w 33 _ len cap hu .i64 _ (by omega) (by omega), elem31, size3]
  simp [Result.andThen, sliced, Addr.add_mid]
theorem run_cut_l31 (g off len cap l : Nat) (w : World) (hl : l ≤ len) (hc : len < cap ∨ l < len) (hlc : len ≤ cap) : (Instr.sliceAt 33 (.slice (some ⟨g, off, none⟩) len cap) (some (.int .i64 (l : Int))) none none).run Tryd.prog w = .ok (.slice (some ⟨g, off + l, none⟩) (len - l) (cap - l)) w := by
  have hu : Tryd.prog.underlying 33 = some (.slice (Tryd.prog.elem 33)) := by rw [elem31]; exact Tryd.underlying33
  rw [run_sliceAt_slice w 33 _ _ _ _ hu, run_slice_l w 33 _ len cap hu .i64 _ (by omega) (by omega), elem31, size3]
  simp [Result.andThen, sliced, Addr.add_mid]
  omega
theorem run_sliceO {ρ : Operand → Value} {t : TypeId} {x : Operand} {lo hi mx : Option Operand} {w : World} {v : Value} {o : Oper}
    (hr : (Instr.sliceAt t (ρ x) (lo.map ρ) (hi.map ρ) (mx.map ρ)).run Tryd.prog w = .ok v w) (ho : o.op = .slice t x lo hi mx) : (execOp ρ o).run Tryd.prog w = .ok (.value v) w := by
  unfold execOp
  rw [ho]
  simp only [Sem.run_bind, hr, Result.andThen_ok, Sem.run_pure]
theorem fold38 (a : Option Addr) (len cap : Nat) (l : List Nat) (w : World) (hlen : l.length = len) (hcap : len ≤ cap) (hcap2 : cap ≤ 9223372036854775807) (hl : len ≤ 10000) (hd : Dig l) (hv : IView w a l) :
    Calls Tryd.prog 66 #[.slice a len cap] w fun e w' => ∃ g, e = .returned (.slice (some ⟨g, 0, none⟩) 32 32) ∧ RelR w w' g (digs 32 (valD l % pp)) := by
  have hR0 : RelF w w (.slice a len cap) (valD l % pp) l := ⟨a, cap, by rw [hlen], by omega, hcap2, by omega, hd, hv, rfl, Below.refl _ _⟩
  obtain ⟨R, hR⟩ : ∃ R, R = valD l % pp := ⟨_, rfl⟩
  rw [← hR] at hR0 ⊢
  clear hR hv hd
  go_enter Tryd.func66, Tryd.ntmps66
  go_wp2_with fail
  go_loopw [0] (fun v wr => ∃ l, RelF w wr v R l) (fun v wr => valOf wr v)
  case atStart => exact ⟨l, hR0⟩
  case round =>
    obtain ⟨l1, hR1⟩ := hrel
    clear hR0 hlen hcap hcap2 hl
    have HV1 : Hid (∃ a n c, u0 = .slice a n c ∧ valOf wr (.slice a n c) = valD l1) := by
      obtain ⟨a1, c1, h1, _, _, _, _, h2, _⟩ := hR1
      exact ⟨a1, _, c1, h1, valOf_eq h2 rfl⟩
    go_wp2_with fail
    go_loop [0] (fun v => ∃ l, valD l = valD l1 ∧ RelF w wr v R l) (fun v => match v with | .slice _ n _ => n | _ => 0)
    case atStart => exact ⟨l1, rfl, hR1⟩
    case round =>
      obtain ⟨l2, hval, a2, c2, rfl, hc1, hc2, hl2, hd2, hv2, hm2, hB⟩ := hrel
      obtain ⟨n, hn⟩ : ∃ n, n = l2.length := ⟨_, rfl⟩
      rw [← hn] at hc1 hl2 ⊢
      have HN : Hid (l2.length = n) := hn.symm
      have HVAL : Hid (valD l2 = valD l1) := hval
      have HM : Hid (valD l2 % pp = R) := hm2
      clear hn hval hm2
      by_cases h32 : 32 < n
      · obtain ⟨m, rfl⟩ : ∃ m, n = m + 1 := ⟨n - 1, by omega⟩
        obtain ⟨g2, o2, rfl, hc⟩ := hv2 (by rw [HN.out]; omega)
        have k1 := hc m (by rw [HN.out]; omega)
        have hdm := hd2 m
        by_cases htop : l2.getD m 0 = 0
        · rw [htop] at k1
          have HR : Hid (RelF w wr (.slice (some ⟨g2, o2, none⟩) m c2) R (l2.take m)) := by
            have hlm : (l2.take m).length = m := by rw [List.length_take, HN.out]; omega
            exact ⟨_, c2, by rw [hlm], by omega, hc2, by omega, hd2.take m, hv2.take m, by rw [top_zero HN.out htop]; exact HM.out, hB⟩
          have HV2 : Hid (valD (l2.take m) = valD l1) := by show _ = _; rw [top_zero HN.out htop]; exact HVAL.out
          clear htop hv2 hd2 hB
          go_wp2
          exact ⟨⟨_, HV2.out, HR.out⟩, Nat.lt_succ_self _⟩
        · have k1n : ((l2.getD m 0 : Nat) : Int) ≠ 0 := by omega
          have k1b : (((l2.getD m 0 : Nat) : Int) == 0) = false := by simpa using k1n
          have hlt := fold_le (l := l2) (by rw [HN.out]; omega) (by rw [HN.out]; exact htop)
          have hmd := fold_mod (l := l2) (by rw [HN.out]; omega)
          rw [HM.out] at hmd
          rw [HVAL.out] at hlt
          have HLT : Hid (valD (l2.take 32) + valD (l2.drop 32) * 38 < valD l1) := hlt
          have HMD : Hid ((valD (l2.take 32) + valD (l2.drop 32) * 38) % pp = R) := hmd
          obtain ⟨x, hx⟩ : ∃ x, x = l2.getD m 0 := ⟨_, rfl⟩
          rw [← hx] at k1 k1n k1b hdm
          clear hlt hmd htop hx
          go_wp2_with fail
          have hS0 : Below wr.heap.size wr wr.drew := (Below.refl _ _).drew
          refine wp_region_held (S := fun w' => Below wr.heap.size wr w') (by kernel_rfl) ?_
          show wpAnyH _ _ _ _ _ 8 (Array.replicate 8 false) _ wr.drew
          refine take_at (i := 0) (some 26) _ rfl rfl (by kernel_rfl) (by kernel_rfl) (by kernel_rfl) (fun _ _ _ h => h) (yields_move rfl (.tmp 0) rfl) hS0 ?_
          simp only [Act.put, List.setIfInBounds_toArray, List.set_cons_succ, List.set_cons_zero]
          refine take_at (i := 1) (some 27) _ rfl rfl (by kernel_rfl) (by kernel_rfl) (by kernel_rfl) (fun _ _ _ h => h) (yields_run (v := .slice (some ⟨g2, o2, none⟩) 32 c2) rfl fun w' _ => run_sliceO (run_cut_h31 g2 o2 (m + 1) c2 32 w' (by omega)) rfl) hS0 ?_
          simp only [Act.put, List.setIfInBounds_toArray, List.set_cons_succ, List.set_cons_zero]
          refine take_at (i := 2) (some 28) _ rfl rfl (by kernel_rfl) (by kernel_rfl) (by kernel_rfl) (fun _ _ _ h => h) (yields_move rfl (.tmp 0) rfl) hS0 ?_
          simp only [Act.put, List.setIfInBounds_toArray, List.set_cons_succ, List.set_cons_zero]
          refine take_at (i := 3) (some 29) _ rfl rfl (by kernel_rfl) (by kernel_rfl) (by kernel_rfl) (fun _ _ _ h => h) (yields_run (v := .slice (some ⟨g2, o2 + 32, none⟩) (m + 1 - 32) (c2 - 32)) rfl fun w' _ => run_sliceO (run_cut_l31 g2 o2 (m + 1) c2 32 w' (by omega) (by omega) (by omega)) rfl) hS0 ?_
          simp only [Act.put, List.setIfInBounds_toArray, List.set_cons_succ, List.set_cons_zero]
          refine one_at (i := 4) (by kernel_rfl) ?_
          refine new_at (some 30) (.slice (some ⟨wr.drew.heap.size, 0, none⟩) 1 1) (.cells (ints .i64 [38]) 3) rfl rfl rfl (by kernel_rfl) ?_
          have hS1 : Below wr.heap.size wr (wr.drew.alloc (.cells (ints .i64 [38]) 3)) := hS0.alloc (Nat.le_refl _) _
          refine ⟨hS1, ?_⟩
          simp only [Act.put, List.setIfInBounds_toArray, List.set_cons_succ, List.set_cons_zero]
          have h38 : IntsAt (wr.drew.alloc (.cells (ints .i64 [38]) 3)) wr.drew.heap.size 0 [38] := ints_row (alloc_row _ _ _)
          have hhi : IView (wr.drew.alloc (.cells (ints .i64 [38]) 3)) (some ⟨g2, o2 + 32, none⟩) (l2.drop 32) := (IView.below (fun _ => ⟨g2, o2 + 32, rfl, IView.drop hc 32⟩) hS1)
          have hlo : IView wr (some ⟨g2, o2, none⟩) (l2.take 32) := hv2.take 32
          have hll : (l2.drop 32).length = m + 1 - 32 := by rw [List.length_drop, HN.out]
          have hl3 : (l2.take 32).length = 32 := by rw [List.length_take, HN.out]; omega
          have hd38 : Dig [38] := by
            intro j
            match j with
            | 0 => decide
            | j + 1 => simp
          have cT := times44 (some ⟨g2, o2 + 32, none⟩) (m + 1 - 32) (c2 - 32) (l2.drop 32) (some ⟨wr.drew.heap.size, 0, none⟩) 1 1 [38] _ hll rfl (by omega) (by omega) hhi (fun _ => ⟨_, 0, rfl, h38⟩) (hd2.drop 32) hd38
          generalize (wr.drew.alloc (.cells (ints .i64 [38]) 3)) = w3 at hS1 cT ⊢
          refine one_at (i := 5) (by kernel_rfl) ?_
          refine call_at (some 31) rfl rfl rfl 67 #[.slice (some ⟨g2, o2 + 32, none⟩) (m + 1 - 32) (c2 - 32), .slice (some ⟨wr.drew.heap.size, 0, none⟩) 1 1] (R := fun v w' => ∃ g, v = .slice (some ⟨g, 0, none⟩) (m + 1 - 32 + 1 + 1) (m + 1 - 32 + 1 + 1) ∧ RelR w3 w' g (digs (m + 1 - 32 + 1 + 1) (valD (l2.drop 32) * 38))) (by kernel_rfl) (cT.mono fun e w' ⟨g, h1, h2⟩ => ⟨_, h1, g, rfl, by simpa [valD] using h2⟩) ?_
          rintro v4 w4 ⟨g4, rfl, hR4⟩
          have hS4 : Below wr.heap.size wr w4 := hS1.trans (hR4.1.mono hS1.size)
          refine ⟨hS4, ?_⟩
          simp only [Act.put, List.setIfInBounds_toArray, List.set_cons_succ, List.set_cons_zero]
          have hvT : valD (digs (m + 1 - 32 + 1 + 1) (valD (l2.drop 32) * 38)) = valD (l2.drop 32) * 38 := by
            refine valD_digs_lt ?_
            have := valD_lt (hd2.drop 32)
            rw [hll] at this
            rw [Nat.pow_succ, Nat.pow_succ]
            omega
          have cP := plus32 (some ⟨g2, o2, none⟩) 32 c2 (l2.take 32) (some ⟨g4, 0, none⟩) (m + 1 - 32 + 1 + 1) (m + 1 - 32 + 1 + 1) (digs (m + 1 - 32 + 1 + 1) (valD (l2.drop 32) * 38)) w4 hl3 (digs_len _ _) (by omega) (by omega) (hlo.below hS4) (fun _ => ⟨g4, 0, rfl, ints_row hR4.2.2⟩) (hd2.take 32) (digs_dig _ _)
          rw [hvT] at cP
          obtain ⟨Z, hZ⟩ : ∃ Z, Z = valD (l2.take 32) + valD (l2.drop 32) * 38 := ⟨_, rfl⟩
          obtain ⟨K, hK⟩ : ∃ K, K = max 32 (m + 1 - 32 + 1 + 1) + 1 := ⟨_, rfl⟩
          have hZK : Z < 256 ^ K := by
            have h1 := valD_lt (hd2.take 32)
            have h2 := valD_lt (digs_dig (m + 1 - 32 + 1 + 1) (valD (l2.drop 32) * 38))
            rw [hl3] at h1
            rw [hvT, digs_len] at h2
            have h3 : 256 ^ 32 ≤ 256 ^ (K - 1) := Nat.pow_le_pow_right (by decide) (by omega)
            have h4 : 256 ^ (m + 1 - 32 + 1 + 1) ≤ 256 ^ (K - 1) := Nat.pow_le_pow_right (by decide) (by omega)
            have h5 : 256 ^ K = 256 ^ (K - 1) * 256 := by rw [← Nat.pow_succ]; congr 1; omega
            omega
          have hK1 : K ≤ 10000 := by omega
          rw [← hZ, ← hK] at cP
          rw [← hZ] at HLT HMD
          clear hZ hK hvT hhi hlo hll hl3 h38 cT hR4 hc hv2 hd2
          refine one_at (i := 6) (by kernel_rfl) ?_
          refine call_at (some 32) rfl rfl rfl 27 #[.slice (some ⟨g2, o2, none⟩) 32 c2, .slice (some ⟨g4, 0, none⟩) (m + 1 - 32 + 1 + 1) (m + 1 - 32 + 1 + 1)] (R := fun v w' => ∃ g, v = .slice (some ⟨g, 0, none⟩) K K ∧ RelR w4 w' g (digs K Z)) (by kernel_rfl) (cP.mono fun e w' ⟨g, h1, h2⟩ => ⟨_, h1, g, rfl, h2⟩) ?_
          rintro v5 w5 ⟨g5, rfl, hR5⟩
          have hS5 : Below wr.heap.size wr w5 := hS4.trans (hR5.1.mono hS4.size)
          refine ⟨hS5, ?_⟩
          simp only [Act.put, List.setIfInBounds_toArray, List.set_cons_succ, List.set_cons_zero]
          refine one_at (i := 7) (by kernel_rfl) ?_
          refine run_at (some 0) (.slice (some ⟨g5, 0, none⟩) K K) rfl rfl rfl (run_assignO (.tmp 32) rfl _) ?_
          simp only [Act.put, List.setIfInBounds_toArray, List.set_cons_zero]
          refine ⟨hS5, wpAnyH_done (by kernel_rfl) ?_ _⟩
          have hiv : IView w5 (some ⟨g5, 0, none⟩) (digs K Z) := fun _ => ⟨g5, 0, rfl, ints_row hR5.2.2⟩
          have HR : Hid (RelF w w5 (.slice (some ⟨g5, 0, none⟩) K K) R (digs K Z)) := ⟨_, K, by rw [digs_len], by rw [digs_len]; omega, by omega, by rw [digs_len]; omega, digs_dig _ _, hiv, by rw [valD_digs_lt hZK]; exact HMD.out, hB.trans (hS5.mono hB.size)⟩
          have HME : Hid (valOf w5 (.slice (some ⟨g5, 0, none⟩) K K) = Z) := by
            show _ = _
            rw [valOf_eq hiv (digs_len _ _), valD_digs_lt hZK]
          clear cP hiv hR5 hB hS0 hS1 hS4 hS5
          go_wp2
          refine ⟨⟨_, HR.out⟩, ?_⟩
          rw [HME.out]
          obtain ⟨a1, n1, c1, h1, h2⟩ := HV1.out
          rw [h1, h2]
          exact HLT.out
      · have hmk := make31 32 (by omega)
        simp only [Int.cast_ofNat_Int] at hmk
        go_wp2_with fail
        have hR0 : RelR w (wr.alloc (.cells (ints .i64 (digs 32 0)) 3)) wr.heap.size (digs 32 (valD (l2.take 0))) := ⟨hB.alloc hB.size _, hB.size, alloc_row _ _ _⟩
        have hv3 : IView (wr.alloc (.cells (ints .i64 (digs 32 0)) 3)) a2 l2 := hv2.below (below1 _ _)
        have hlt0 : Hid (∀ b off, a2 = some ⟨b, off, none⟩ → 0 < l2.length → b < wr.heap.size) := by
          intro b off h1 h2
          obtain ⟨g2', o2', he2, hc'⟩ := hv2 h2
          rw [h1] at he2
          cases he2
          exact block_lt_of_cell (hc' 0 h2)
        generalize (wr.alloc (.cells (ints .i64 (digs 32 0)) 3)) = w3 at hR0 hv3 ⊢
        generalize wr.heap.size = gh at hR0 hlt0 ⊢
        clear hv2 hB hR1 HV1
        go_loopw [4] (fun i wx => ∃ k : Nat, k ≤ n ∧ i = .int .i64 k ∧ RelR w wx gh (digs 32 (valD (l2.take k))) ∧ IView wx a2 l2) (fun i _ => n - (intOf i).toNat)
        case atStart => exact ⟨0, by omega, rfl, hR0, hv3⟩
        case round =>
          obtain ⟨k, hk, rfl, hRk, hvk⟩ := hrel
          clear hR0 hmk hv3
          by_cases hlt : k < n
          · obtain ⟨g2, o2, rfl, hc⟩ := hvk (by rw [HN.out]; omega)
            have k1 := hc k (by rw [HN.out]; omega)
            have hg2 : g2 < gh := hlt0.out g2 o2 rfl (by rw [HN.out]; omega)
            obtain ⟨x, hx⟩ : ∃ x, x = l2.getD k 0 := ⟨_, rfl⟩
            have hxl : x < 256 := by rw [hx]; exact hd2 k
            rw [← hx] at k1
            have k3 := hRk.at k (by rw [digs_len]; omega)
            have f3 := hRk.free k
            have HNx : Hid (RelR w (wr.setCell ⟨gh, k, none⟩ (.int .i64 (x : Int))) gh (digs 32 (valD (l2.take (k + 1)))) ∧ IView (wr.setCell ⟨gh, k, none⟩ (.int .i64 (x : Int))) (some ⟨g2, o2, none⟩) l2) := by
              refine ⟨?_, fun _ => ⟨g2, o2, rfl, fun i hi => ?_⟩⟩
              · rw [valD_take_succ, ← hx, ← digs_set (valD_take_lt hd2 k) hxl (by omega)]
                exact hRk.set k x
              · rw [World.cell?_setCell_far _ _ _ _ (by show gh ≠ g2; omega)]
                exact hc i hi
            clear hc hx hRk hvk
            go_wp2
            go_roundw
            case rel => exact ⟨k + 1, by omega, by go_num, HNx.out.1, HNx.out.2⟩
            case measure => simp [intOf]; omega
          · obtain rfl : k = n := by omega
            rw [List.take_of_length_le (by rw [HN.out]; exact Nat.le_refl _)] at hRk
            have hV32 : valD l2 < 256 ^ 32 := Nat.lt_of_lt_of_le (valD_lt hd2) (Nat.pow_le_pow_right (by decide) (by rw [HN.out]; omega))
            have HV32 : Hid (valD l2 < 256 ^ 32) := hV32
            clear hV32 hvk hlt0
            go_wp2_with fail
            go_loopw [3] (fun v wx => ∃ g V, v = .slice (some ⟨g, 0, none⟩) 32 32 ∧ V < 256 ^ 32 ∧ V % pp = R ∧ RelR w wx g (digs 32 V)) (fun v wx => valOf wx v)
            case atStart => exact ⟨gh, valD l2, rfl, HV32.out, HM.out, hRk⟩
            case round =>
              obtain ⟨g, V, rfl, hV, hVm, hRv⟩ := hrel
              have HVm : Hid (V % pp = R) := hVm
              have HV : Hid (V < 256 ^ 32) := hV
              have hvd : valD (digs 32 V) = V := valD_digs_lt hV
              have hvp : valD (digs 32 pp) = pp := by decide
              have hiv : IView wr (some ⟨g, 0, none⟩) (digs 32 V) := fun _ => ⟨g, 0, rfl, ints_row hRv.2.2⟩
              have HME : Hid (valOf wr (.slice (some ⟨g, 0, none⟩) 32 32) = V) := by
                show _ = _
                rw [valOf_eq hiv (digs_len _ _), hvd]
              have cL := fun w1 g1 (hb : Below wr.heap.size wr w1) (hr : w1.heap[g1]? = some (.cells (ints .i64 (digs 32 pp)) 3 (0, 0))) => less10 (some ⟨g, 0, none⟩) 32 32 (digs 32 V) (some ⟨g1, 0, none⟩) 32 32 (digs 32 pp) w1 (digs_len _ _) (digs_len _ _) (by omega) (by omega) (hiv.below hb) (fun _ => ⟨g1, 0, rfl, ints_row hr⟩) (digs_dig _ _) (digs_dig _ _)
              rw [hvd, hvp] at cL
              clear hV hVm hRk HV32 HM HVAL hd2
              go_wp2_with fail
              refine (p12 _).mono ?_
              rintro e w4 ⟨g4, rfl, hR4⟩
              go_wp2_with fail
              refine (cL w4 g4 hR4.1 hR4.2.2).mono ?_
              rintro e w5 ⟨rfl, rfl⟩
              by_cases hlp : V < pp
              · rw [decide_eq_true hlp]
                have HF : Hid (V = R) := by show _ = _; rw [← HVm.out, Nat.mod_eq_of_lt hlp]
                have HRR : Hid (RelR w w5 g (digs 32 R)) := by
                  show RelR _ _ _ _
                  rw [← HF.out]
                  exact ⟨hRv.1.trans (hR4.1.mono hRv.1.size), hRv.2.1, block_below hR4.1 (lt_of_heap hRv.2.2) hRv.2.2⟩
                clear hR4 hRv cL hiv hlp hvd hvp
                go_wp2
                go_ret
                exact ⟨g, rfl, HRR.out⟩
              · rw [decide_eq_false hlp]
                have hpV : pp ≤ V := by omega
                have hB5 : Below w.heap.size w w5 := hRv.1.trans (hR4.1.mono hRv.1.size)
                have hiv5 := hiv.below hR4.1
                have cM := fun w1 g1 (hb : Below w5.heap.size w5 w1) (hr : w1.heap[g1]? = some (.cells (ints .i64 (digs 32 pp)) 3 (0, 0))) => minus40 (some ⟨g, 0, none⟩) 32 32 (digs 32 V) (some ⟨g1, 0, none⟩) 32 32 (digs 32 pp) w1 (digs_len _ _) (digs_len _ _) (by omega) (by omega) (hiv5.below hb) (fun _ => ⟨g1, 0, rfl, ints_row hr⟩) (digs_dig _ _) (digs_dig _ _) (by omega) (by show _ ≤ _; rw [hvd, hvp]; exact hpV)
                rw [hvd, hvp] at cM
                have HVp : Hid (V - pp < 256 ^ 32 ∧ (V - pp) % pp = R ∧ V - pp < V) := by
                  have := HV.out
                  refine ⟨by omega, ?_, by have := pp_pos; omega⟩
                  rw [← HVm.out, Nat.mod_eq_sub_mod hpV]
                obtain ⟨V2, hV2⟩ : ∃ V2, V2 = V - pp := ⟨_, rfl⟩
                rw [← hV2] at cM HVp
                clear hV2 hpV hlp hR4 hRv cL hiv hvd hvp
                go_wp2_with fail
                refine (p12 _).mono ?_
                rintro e w6 ⟨g6, rfl, hR6⟩
                go_wp2_with fail
                refine (cM w6 g6 hR6.1 hR6.2.2).mono ?_
                rintro e w7 ⟨g7, rfl, hR7⟩
                have hB6 : Below w.heap.size w w6 := hB5.trans (hR6.1.mono hB5.size)
                have HRR : Hid (RelR w w7 g7 (digs 32 V2)) := ⟨hB6.trans (hR7.1.mono hB6.size), Nat.le_trans hB6.size hR7.2.1, hR7.2.2⟩
                have HME2 : Hid (valOf w7 (.slice (some ⟨g7, 0, none⟩) 32 32) = V2) := by
                  show _ = _
                  rw [valOf_eq (l := digs 32 V2) (fun _ => ⟨g7, 0, rfl, ints_row hR7.2.2⟩) (digs_len _ _), valD_digs_lt HVp.out.1]
                clear hB6 hB5 hR6 hR7 cM hiv5
                go_wp2
                refine ⟨⟨g7, V2, rfl, HVp.out.1, HVp.out.2.1, HRR.out⟩, ?_⟩
                rw [HME.out, HME2.out]
                exact HVp.out.2.2
end Go.Proofs.YtpfcboakafbnlaaDoor
