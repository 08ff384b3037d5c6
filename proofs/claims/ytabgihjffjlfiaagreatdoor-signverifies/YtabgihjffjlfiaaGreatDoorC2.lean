/-
  The reference: Fold. The reference: Add, Sub, Mul, Int. The reference: Int. The reference: Pow, Inv. The reference: Inv, Same; the law's like and of. 2^255 - 19 is a prime, and what follows: an element but 0 to the power of p - 1 is 1. Plain mathematics: nothing of the program stands here. Numbers modulo 2^255 - 19 as a field: inverses, powers, squares. Plain mathematics: nothing of the program stands here. The curve's points are a group: sums have no 0 below them, are points, and go together. Plain mathematics: nothing of the program stands here. The base, and its order: L of it are the neutral one. Plain mathematics: nothing of the program stands here. The base: L of it are the neutral one, and fewer than 256 are not. Plain mathematics: nothing of the program stands here. Roots modulo p; which numbers are those of points. Plain mathematics: nothing of the program stands here.
-/
import Derived.Test.YtabgihjffjlfiaaGreatDoorC1
import Derived.Deep.RegionHeld
import Derived.Test.YtabgihjffjlfiaaGreatDoorC0
set_option linter.unusedVariables false
namespace Go.Proofs.YtabgihjffjlfiaaGreatDoor
open Go.RowKit Go.Sort Go.BigFrame
set_option maxRecDepth 100000
set_option maxHeartbeats 2000000
def valOf (w : World) : Value → Nat
 | .slice (some ⟨g, off, none⟩) n _ => valD ((List.range n).map fun i => match w.cell? ⟨g, off + i, none⟩ with | some (.int _ z) => z.toNat | _ => 0)
 | _ => 0
theorem valOf_eq {w : World} {a : Option Addr} {l : List Nat} {n cap : Nat} (h : IView w a l) (hl : l.length = n) : valOf w (.slice a n cap) = valD l := by
 by_cases hp : 0 < l.length
 ·obtain ⟨b, off, rfl, hc⟩ := h hp
  show valD _ = _
  congr 1
  apply List.ext_getElem
  ·simp [hl]
  ·intro i h1 h2
   simp only [List.getElem_map, List.getElem_range]
   rw [hc i h2]
   simp [h2]
 ·have h0 : l = [] := List.eq_nil_of_length_eq_zero (by omega)
  subst h0
  obtain rfl : n = 0 := by simpa using hl.symm
  unfold valOf
  split
  ·rename_i he; cases he; rfl
  ·rfl
theorem IView.take {w : World} {a : Option Addr} {l : List Nat} (h : IView w a l) (n : Nat) : IView w a (l.take n) := fun hp => by
 obtain ⟨b, off, rfl, hb⟩ := h (by simp at hp; omega)
 refine ⟨b, off, rfl, fun i hi => ?_⟩
 have hi' : i < n ∧ i < l.length := by simp at hi; omega
 rw [show (l.take n).getD i 0 = l.getD i 0 by simp [hi'.1]]
 exact hb i hi'.2
theorem IView.drop {w : World} {b off : Nat} {l : List Nat} (h : IntsAt w b off l) (n : Nat) : IntsAt w b (off + n) (l.drop n) := fun i hi => by
 have hi' : n + i < l.length := by simp at hi; omega
 have := h (n + i) hi'
 rw [← Nat.add_assoc] at this
 rw [this]
 simp
def RelF (w wr : World) (v : Value) (R : Nat) (l : List Nat) : Prop := ∃ a cap, v = .slice a l.length cap ∧ l.length ≤ cap ∧ cap ≤ 9223372036854775807 ∧ l.length ≤ 10000 ∧ Dig l ∧ IView wr a l ∧ valD l % pp = R ∧ Below w.heap.size w wr
theorem top_zero {l : List Nat} {n : Nat} (hl : l.length = n + 1) (h : l.getD n 0 = 0) : valD (l.take n) = valD l := by
 have := valD_take_succ l n
 rw [List.take_of_length_le (by omega), h] at this
 omega
theorem fold_le {l : List Nat} (h : 32 < l.length) (ht : l.getD (l.length - 1) 0 ≠ 0) : valD (l.take 32) + valD (l.drop 32) * 38 < valD l := by
 have h1 := valD_append (l.take 32) (l.drop 32)
 rw [List.take_append_drop, List.length_take, show min 32 l.length = 32 by omega] at h1
 have h2 : 0 < valD (l.drop 32) := by
  have h3 := valD_append ((l.drop 32).take (l.length - 33)) ((l.drop 32).drop (l.length - 33))
  rw [List.take_append_drop, List.drop_drop, show 32 + (l.length - 33) = l.length - 1 by omega, drop_val l (l.length - 1)] at h3
  have hp := pos256 (List.take (l.length - 33) (l.drop 32)).length
  have : 0 < 256 ^ (List.take (l.length - 33) (l.drop 32)).length * (l.getD (l.length - 1) 0 + 256 * valD (l.drop (l.length - 1 + 1))) := Nat.mul_pos hp (by omega)
  omega
 have e : (256 : Nat) ^ 32 = 115792089237316195423570985008687907853269984665640564039457584007913129639936 := by decide
 rw [e] at h1
 omega
theorem fold_mod {l : List Nat} (h : 32 < l.length) : (valD (l.take 32) + valD (l.drop 32) * 38) % pp = valD l % pp := by
 have h1 := valD_append (l.take 32) (l.drop 32)
 rw [List.take_append_drop, List.length_take, show min 32 l.length = 32 by omega] at h1
 have e : (256 : Nat) ^ 32 = 115792089237316195423570985008687907853269984665640564039457584007913129639936 := by decide
 have e2 : valD l = (valD (l.take 32) + valD (l.drop 32) * 38) + pp * (2 * valD (l.drop 32)) := by
  rw [e] at h1
  unfold pp
  omega
 rw [e2, Nat.add_mul_mod_self_left]
theorem elem31 : Tryz.prog.elem 43 = 3 := by kernel_rfl
theorem size3 : ∀ w, (sizeOf 3).run Tryz.prog w = .ok 1 w := fun _ => by kernel_rfl
theorem run_cut_h31 (g off len cap h : Nat) (w : World) (hh : h ≤ cap) : (Instr.sliceAt 43 (.slice (some ⟨g, off, none⟩) len cap) none (some (.int .i64 (h : Int))) none).run Tryz.prog w = .ok (.slice (some ⟨g, off, none⟩) h cap) w := by
 have hu : Tryz.prog.underlying 43 = some (.slice (Tryz.prog.elem 43)) := by rw [elem31]; exact Tryz.underlying43
 rw [run_sliceAt_slice w 43 _ _ _ _ hu, run_slice_h w 43 _ len cap hu .i64 _ (by omega) (by omega), elem31, size3]
 simp [Result.andThen, sliced, Addr.add_mid]
theorem run_cut_l31 (g off len cap l : Nat) (w : World) (hl : l ≤ len) (hc : len < cap ∨ l < len) (hlc : len ≤ cap) : (Instr.sliceAt 43 (.slice (some ⟨g, off, none⟩) len cap) (some (.int .i64 (l : Int))) none none).run Tryz.prog w = .ok (.slice (some ⟨g, off + l, none⟩) (len - l) (cap - l)) w := by
 have hu : Tryz.prog.underlying 43 = some (.slice (Tryz.prog.elem 43)) := by rw [elem31]; exact Tryz.underlying43
 rw [run_sliceAt_slice w 43 _ _ _ _ hu, run_slice_l w 43 _ len cap hu .i64 _ (by omega) (by omega), elem31, size3]
 simp [Result.andThen, sliced, Addr.add_mid]
 omega
theorem run_sliceO {ρ : Operand → Value} {t : TypeId} {x : Operand} {lo hi mx : Option Operand} {w : World} {v : Value} {o : Oper}
  (hr : (Instr.sliceAt t (ρ x) (lo.map ρ) (hi.map ρ) (mx.map ρ)).run Tryz.prog w = .ok v w) (ho : o.op = .slice t x lo hi mx) : (execOp ρ o).run Tryz.prog w = .ok (.value v) w := by
 unfold execOp
 rw [ho]
 simp only [Sem.run_bind, hr, Result.andThen_ok, Sem.run_pure]
theorem fold38 (a : Option Addr) (len cap : Nat) (l : List Nat) (w : World) (hlen : l.length = len) (hcap : len ≤ cap) (hcap2 : cap ≤ 9223372036854775807) (hl : len ≤ 10000) (hd : Dig l) (hv : IView w a l) :
  Calls Tryz.prog 62 #[.slice a len cap] w fun e w' => ∃ g, e = .returned (.slice (some ⟨g, 0, none⟩) 32 32) ∧ RelR w w' g (digs 32 (valD l % pp)) := by
 have hR0 : RelF w w (.slice a len cap) (valD l % pp) l := ⟨a, cap, by rw [hlen], by omega, hcap2, by omega, hd, hv, rfl, Below.refl _ _⟩
 obtain ⟨R, hR⟩ : ∃ R, R = valD l % pp := ⟨_, rfl⟩
 rw [← hR] at hR0 ⊢
 clear hR hv hd
 go_enter Tryz.func62, Tryz.ntmps62
 go_wp2_with fail
 go_loopw [0] (fun v wr => ∃ l, RelF w wr v R l) (fun v wr => valOf wr v)
 case atStart => exact ⟨l, hR0⟩
 case round =>
  obtain ⟨l1, hR1⟩ := hrel
  clear hR0 hlen hcap hcap2 hl
  have HV1 : Hid (∃ a n c, u0 = .slice a n c ∧ valOf wr (.slice a n c) = valD l1) := by
   obtain ⟨a1, c1, h1, _, _, _, _, h2, _⟩ := hR1
   exact ⟨a1, _, c1, h1, valOf_eq h2 rfl⟩
  go_wp2_with fail
  go_loop [0] (fun v => ∃ l, valD l = valD l1 ∧ RelF w wr v R l) (fun v => match v with | .slice _ n _ => n | _ => 0)
  case atStart => exact ⟨l1, rfl, hR1⟩
  case round =>
   obtain ⟨l2, hval, a2, c2, rfl, hc1, hc2, hl2, hd2, hv2, hm2, hB⟩ := hrel
   obtain ⟨n, hn⟩ : ∃ n, n = l2.length := ⟨_, rfl⟩
   rw [← hn] at hc1 hl2 ⊢
   have HN : Hid (l2.length = n) := hn.symm
   have HVAL : Hid (valD l2 = valD l1) := hval
   have HM : Hid (valD l2 % pp = R) := hm2
   clear hn hval hm2
   by_cases h32 : 32 < n
   ·obtain ⟨m, rfl⟩ : ∃ m, n = m + 1 := ⟨n - 1, by omega⟩
    obtain ⟨g2, o2, rfl, hc⟩ := hv2 (by rw [HN.out]; omega)
    have k1 := hc m (by rw [HN.out]; omega)
    have hdm := hd2 m
    by_cases htop : l2.getD m 0 = 0
    ·rw [htop] at k1
     have HR : Hid (RelF w wr (.slice (some ⟨g2, o2, none⟩) m c2) R (l2.take m)) := by
      have hlm : (l2.take m).length = m := by rw [List.length_take, HN.out]; omega
      exact ⟨_, c2, by rw [hlm], by omega, hc2, by omega, hd2.take m, hv2.take m, by rw [top_zero HN.out htop]; exact HM.out, hB⟩
     have HV2 : Hid (valD (l2.take m) = valD l1) := by show _ = _; rw [top_zero HN.out htop]; exact HVAL.out
     clear htop hv2 hd2 hB
     go_wp2
     exact ⟨⟨_, HV2.out, HR.out⟩, Nat.lt_succ_self _⟩
    ·have k1n : ((l2.getD m 0 : Nat) : Int) ≠ 0 := by omega
     have k1b : (((l2.getD m 0 : Nat) : Int) == 0) = false := by simpa using k1n
     have hlt := fold_le (l := l2) (by rw [HN.out]; omega) (by rw [HN.out]; exact htop)
     have hmd := fold_mod (l := l2) (by rw [HN.out]; omega)
     rw [HM.out] at hmd
     rw [HVAL.out] at hlt
     have HLT : Hid (valD (l2.take 32) + valD (l2.drop 32) * 38 < valD l1) := hlt
     have HMD : Hid ((valD (l2.take 32) + valD (l2.drop 32) * 38) % pp = R) := hmd
     obtain ⟨x, hx⟩ : ∃ x, x = l2.getD m 0 := ⟨_, rfl⟩
     rw [← hx] at k1 k1n k1b hdm
     clear hlt hmd htop hx
     go_wp2_with fail
     have hS0 : Below wr.heap.size wr wr.drew := (Below.refl _ _).drew
     refine wp_region_held (S := fun w' => Below wr.heap.size wr w') (by kernel_rfl) ?_
     show wpAnyH _ _ _ _ _ 8 (Array.replicate 8 false) _ wr.drew
     refine take_at (i := 0) (some 26) _ rfl rfl (by kernel_rfl) (by kernel_rfl) (by kernel_rfl) (fun _ _ _ h => h) (yields_move rfl (.tmp 0) rfl) hS0 ?_
     simp only [Act.put, lA, lS, lZ]
     refine take_at (i := 1) (some 27) _ rfl rfl (by kernel_rfl) (by kernel_rfl) (by kernel_rfl) (fun _ _ _ h => h) (yields_run (v := .slice (some ⟨g2, o2, none⟩) 32 c2) rfl fun w' _ => run_sliceO (run_cut_h31 g2 o2 (m + 1) c2 32 w' (by omega)) rfl) hS0 ?_
     simp only [Act.put, lA, lS, lZ]
     refine take_at (i := 2) (some 28) _ rfl rfl (by kernel_rfl) (by kernel_rfl) (by kernel_rfl) (fun _ _ _ h => h) (yields_move rfl (.tmp 0) rfl) hS0 ?_
     simp only [Act.put, lA, lS, lZ]
     refine take_at (i := 3) (some 29) _ rfl rfl (by kernel_rfl) (by kernel_rfl) (by kernel_rfl) (fun _ _ _ h => h) (yields_run (v := .slice (some ⟨g2, o2 + 32, none⟩) (m + 1 - 32) (c2 - 32)) rfl fun w' _ => run_sliceO (run_cut_l31 g2 o2 (m + 1) c2 32 w' (by omega) (by omega) (by omega)) rfl) hS0 ?_
     simp only [Act.put, lA, lS, lZ]
     refine one_at (i := 4) (by kernel_rfl) ?_
     refine new_at (some 30) (.slice (some ⟨wr.drew.heap.size, 0, none⟩) 1 1) (.cells (ints .i64 [38]) 3) rfl rfl rfl (by kernel_rfl) ?_
     have hS1 : Below wr.heap.size wr (wr.drew.alloc (.cells (ints .i64 [38]) 3)) := hS0.alloc (Nat.le_refl _) _
     refine ⟨hS1, ?_⟩
     simp only [Act.put, lA, lS, lZ]
     have h38 : IntsAt (wr.drew.alloc (.cells (ints .i64 [38]) 3)) wr.drew.heap.size 0 [38] := ints_row (alloc_row _ _ _)
     have hhi : IView (wr.drew.alloc (.cells (ints .i64 [38]) 3)) (some ⟨g2, o2 + 32, none⟩) (l2.drop 32) := (IView.below (fun _ => ⟨g2, o2 + 32, rfl, IView.drop hc 32⟩) hS1)
     have hlo : IView wr (some ⟨g2, o2, none⟩) (l2.take 32) := hv2.take 32
     have hll : (l2.drop 32).length = m + 1 - 32 := by rw [List.length_drop, HN.out]
     have hl3 : (l2.take 32).length = 32 := by rw [List.length_take, HN.out]; omega
     have hd38 : Dig [38] := by
      intro j
      match j with
      | 0 => decide
      | j + 1 => simp
     have cT := times44 (some ⟨g2, o2 + 32, none⟩) (m + 1 - 32) (c2 - 32) (l2.drop 32) (some ⟨wr.drew.heap.size, 0, none⟩) 1 1 [38] _ hll rfl (by omega) (by omega) hhi (fun _ => ⟨_, 0, rfl, h38⟩) (hd2.drop 32) hd38
     generalize (wr.drew.alloc (.cells (ints .i64 [38]) 3)) = w3 at hS1 cT ⊢
     refine one_at (i := 5) (by kernel_rfl) ?_
     refine call_at (some 31) rfl rfl rfl 55 #[.slice (some ⟨g2, o2 + 32, none⟩) (m + 1 - 32) (c2 - 32), .slice (some ⟨wr.drew.heap.size, 0, none⟩) 1 1] (R := fun v w' => ∃ g, v = .slice (some ⟨g, 0, none⟩) (m + 1 - 32 + 1 + 1) (m + 1 - 32 + 1 + 1) ∧ RelR w3 w' g (digs (m + 1 - 32 + 1 + 1) (valD (l2.drop 32) * 38))) (by kernel_rfl) (cT.mono fun e w' ⟨g, h1, h2⟩ => ⟨_, h1, g, rfl, by simpa [valD] using h2⟩) ?_
     rintro v4 w4 ⟨g4, rfl, hR4⟩
     have hS4 : Below wr.heap.size wr w4 := hS1.trans (hR4.1.mono hS1.size)
     refine ⟨hS4, ?_⟩
     simp only [Act.put, lA, lS, lZ]
     have hvT : valD (digs (m + 1 - 32 + 1 + 1) (valD (l2.drop 32) * 38)) = valD (l2.drop 32) * 38 := by
      refine valD_digs_lt ?_
      have := valD_lt (hd2.drop 32)
      rw [hll] at this
      rw [Nat.pow_succ, Nat.pow_succ]
      omega
     have cP := plus32 (some ⟨g2, o2, none⟩) 32 c2 (l2.take 32) (some ⟨g4, 0, none⟩) (m + 1 - 32 + 1 + 1) (m + 1 - 32 + 1 + 1) (digs (m + 1 - 32 + 1 + 1) (valD (l2.drop 32) * 38)) w4 hl3 (digs_len _ _) (by omega) (by omega) (hlo.below hS4) (fun _ => ⟨g4, 0, rfl, ints_row hR4.2.2⟩) (hd2.take 32) (digs_dig _ _)
     rw [hvT] at cP
     obtain ⟨Z, hZ⟩ : ∃ Z, Z = valD (l2.take 32) + valD (l2.drop 32) * 38 := ⟨_, rfl⟩
     obtain ⟨K, hK⟩ : ∃ K, K = max 32 (m + 1 - 32 + 1 + 1) + 1 := ⟨_, rfl⟩
     have hZK : Z < 256 ^ K := by
      have h1 := valD_lt (hd2.take 32)
      have h2 := valD_lt (digs_dig (m + 1 - 32 + 1 + 1) (valD (l2.drop 32) * 38))
      rw [hl3] at h1
      rw [hvT, digs_len] at h2
      have h3 : 256 ^ 32 ≤ 256 ^ (K - 1) := Nat.pow_le_pow_right (by decide) (by omega)
      have h4 : 256 ^ (m + 1 - 32 + 1 + 1) ≤ 256 ^ (K - 1) := Nat.pow_le_pow_right (by decide) (by omega)
      have h5 : 256 ^ K = 256 ^ (K - 1) * 256 := by rw [← Nat.pow_succ]; congr 1; omega
      omega
     have hK1 : K ≤ 10000 := by omega
     rw [← hZ, ← hK] at cP
     rw [← hZ] at HLT HMD
     clear hZ hK hvT hhi hlo hll hl3 h38 cT hR4 hc hv2 hd2
     refine one_at (i := 6) (by kernel_rfl) ?_
     refine call_at (some 32) rfl rfl rfl 54 #[.slice (some ⟨g2, o2, none⟩) 32 c2, .slice (some ⟨g4, 0, none⟩) (m + 1 - 32 + 1 + 1) (m + 1 - 32 + 1 + 1)] (R := fun v w' => ∃ g, v = .slice (some ⟨g, 0, none⟩) K K ∧ RelR w4 w' g (digs K Z)) (by kernel_rfl) (cP.mono fun e w' ⟨g, h1, h2⟩ => ⟨_, h1, g, rfl, h2⟩) ?_
     rintro v5 w5 ⟨g5, rfl, hR5⟩
     have hS5 : Below wr.heap.size wr w5 := hS4.trans (hR5.1.mono hS4.size)
     refine ⟨hS5, ?_⟩
     simp only [Act.put, lA, lS, lZ]
     refine one_at (i := 7) (by kernel_rfl) ?_
     refine run_at (some 0) (.slice (some ⟨g5, 0, none⟩) K K) rfl rfl rfl (run_assignO (.tmp 32) rfl _) ?_
     simp only [Act.put, lA, lZ]
     refine ⟨hS5, wpAnyH_done (by kernel_rfl) ?_ _⟩
     have hiv : IView w5 (some ⟨g5, 0, none⟩) (digs K Z) := fun _ => ⟨g5, 0, rfl, ints_row hR5.2.2⟩
     have HR : Hid (RelF w w5 (.slice (some ⟨g5, 0, none⟩) K K) R (digs K Z)) := ⟨_, K, by rw [digs_len], by rw [digs_len]; omega, by omega, by rw [digs_len]; omega, digs_dig _ _, hiv, by rw [valD_digs_lt hZK]; exact HMD.out, hB.trans (hS5.mono hB.size)⟩
     have HME : Hid (valOf w5 (.slice (some ⟨g5, 0, none⟩) K K) = Z) := by
      show _ = _
      rw [valOf_eq hiv (digs_len _ _), valD_digs_lt hZK]
     clear cP hiv hR5 hB hS0 hS1 hS4 hS5
     go_wp2
     refine ⟨⟨_, HR.out⟩, ?_⟩
     rw [HME.out]
     obtain ⟨a1, n1, c1, h1, h2⟩ := HV1.out
     rw [h1, h2]
     exact HLT.out
   ·have hmk := make31 32 (by omega)
    simp only [Int.cast_ofNat_Int] at hmk
    go_wp2_with fail
    have hR0 : RelR w (wr.alloc (.cells (ints .i64 (digs 32 0)) 3)) wr.heap.size (digs 32 (valD (l2.take 0))) := ⟨hB.alloc hB.size _, hB.size, alloc_row _ _ _⟩
    have hv3 : IView (wr.alloc (.cells (ints .i64 (digs 32 0)) 3)) a2 l2 := hv2.below (below1 _ _)
    have hlt0 : Hid (∀ b off, a2 = some ⟨b, off, none⟩ → 0 < l2.length → b < wr.heap.size) := by
     intro b off h1 h2
     obtain ⟨g2', o2', he2, hc'⟩ := hv2 h2
     rw [h1] at he2
     cases he2
     exact block_lt_of_cell (hc' 0 h2)
    generalize (wr.alloc (.cells (ints .i64 (digs 32 0)) 3)) = w3 at hR0 hv3 ⊢
    generalize wr.heap.size = gh at hR0 hlt0 ⊢
    clear hv2 hB hR1 HV1
    go_loopw [4] (fun i wx => ∃ k : Nat, k ≤ n ∧ i = .int .i64 k ∧ RelR w wx gh (digs 32 (valD (l2.take k))) ∧ IView wx a2 l2) (fun i _ => n - (intOf i).toNat)
    case atStart => exact ⟨0, by omega, rfl, hR0, hv3⟩
    case round =>
     obtain ⟨k, hk, rfl, hRk, hvk⟩ := hrel
     clear hR0 hmk hv3
     by_cases hlt : k < n
     ·obtain ⟨g2, o2, rfl, hc⟩ := hvk (by rw [HN.out]; omega)
      have k1 := hc k (by rw [HN.out]; omega)
      have hg2 : g2 < gh := hlt0.out g2 o2 rfl (by rw [HN.out]; omega)
      obtain ⟨x, hx⟩ : ∃ x, x = l2.getD k 0 := ⟨_, rfl⟩
      have hxl : x < 256 := by rw [hx]; exact hd2 k
      rw [← hx] at k1
      have k3 := hRk.at k (by rw [digs_len]; omega)
      have f3 := hRk.free k
      have HNx : Hid (RelR w (wr.setCell ⟨gh, k, none⟩ (.int .i64 (x : Int))) gh (digs 32 (valD (l2.take (k + 1)))) ∧ IView (wr.setCell ⟨gh, k, none⟩ (.int .i64 (x : Int))) (some ⟨g2, o2, none⟩) l2) := by
       refine ⟨?_, fun _ => ⟨g2, o2, rfl, fun i hi => ?_⟩⟩
       ·rw [valD_take_succ, ← hx, ← digs_set (valD_take_lt hd2 k) hxl (by omega)]
        exact hRk.set k x
       ·rw [World.cell?_setCell_far _ _ _ _ (by show gh ≠ g2; omega)]
        exact hc i hi
      clear hc hx hRk hvk
      go_wp2
      go_roundw
      case rel => exact ⟨k + 1, by omega, by go_num, HNx.out.1, HNx.out.2⟩
      case measure => simp [intOf]; omega
     ·obtain rfl : k = n := by omega
      rw [List.take_of_length_le (by rw [HN.out]; exact Nat.le_refl _)] at hRk
      have hV32 : valD l2 < 256 ^ 32 := Nat.lt_of_lt_of_le (valD_lt hd2) (Nat.pow_le_pow_right (by decide) (by rw [HN.out]; omega))
      have HV32 : Hid (valD l2 < 256 ^ 32) := hV32
      clear hV32 hvk hlt0
      go_wp2_with fail
      go_loopw [3] (fun v wx => ∃ g V, v = .slice (some ⟨g, 0, none⟩) 32 32 ∧ V < 256 ^ 32 ∧ V % pp = R ∧ RelR w wx g (digs 32 V)) (fun v wx => valOf wx v)
      case atStart => exact ⟨gh, valD l2, rfl, HV32.out, HM.out, hRk⟩
      case round =>
       obtain ⟨g, V, rfl, hV, hVm, hRv⟩ := hrel
       have HVm : Hid (V % pp = R) := hVm
       have HV : Hid (V < 256 ^ 32) := hV
       have hvd : valD (digs 32 V) = V := valD_digs_lt hV
       have hvp : valD (digs 32 pp) = pp := by decide
       have hiv : IView wr (some ⟨g, 0, none⟩) (digs 32 V) := fun _ => ⟨g, 0, rfl, ints_row hRv.2.2⟩
       have HME : Hid (valOf wr (.slice (some ⟨g, 0, none⟩) 32 32) = V) := by
        show _ = _
        rw [valOf_eq hiv (digs_len _ _), hvd]
       have cL := fun w1 g1 (hb : Below wr.heap.size wr w1) (hr : w1.heap[g1]? = some (.cells (ints .i64 (digs 32 pp)) 3 (0, 0))) => less10 (some ⟨g, 0, none⟩) 32 32 (digs 32 V) (some ⟨g1, 0, none⟩) 32 32 (digs 32 pp) w1 (digs_len _ _) (digs_len _ _) (by omega) (by omega) (hiv.below hb) (fun _ => ⟨g1, 0, rfl, ints_row hr⟩) (digs_dig _ _) (digs_dig _ _)
       rw [hvd, hvp] at cL
       clear hV hVm hRk HV32 HM HVAL hd2
       go_wp2_with fail
       refine (p12 _).mono ?_
       rintro e w4 ⟨g4, rfl, hR4⟩
       go_wp2_with fail
       refine (cL w4 g4 hR4.1 hR4.2.2).mono ?_
       rintro e w5 ⟨rfl, rfl⟩
       by_cases hlp : V < pp
       ·rw [decide_eq_true hlp]
        have HF : Hid (V = R) := by show _ = _; rw [← HVm.out, Nat.mod_eq_of_lt hlp]
        have HRR : Hid (RelR w w5 g (digs 32 R)) := by
         show RelR _ _ _ _
         rw [← HF.out]
         exact ⟨hRv.1.trans (hR4.1.mono hRv.1.size), hRv.2.1, block_below hR4.1 (lt_of_heap hRv.2.2) hRv.2.2⟩
        clear hR4 hRv cL hiv hlp hvd hvp
        go_wp2
        go_ret
        exact ⟨g, rfl, HRR.out⟩
       ·rw [decide_eq_false hlp]
        have hpV : pp ≤ V := by omega
        have hB5 : Below w.heap.size w w5 := hRv.1.trans (hR4.1.mono hRv.1.size)
        have hiv5 := hiv.below hR4.1
        have cM := fun w1 g1 (hb : Below w5.heap.size w5 w1) (hr : w1.heap[g1]? = some (.cells (ints .i64 (digs 32 pp)) 3 (0, 0))) => minus40 (some ⟨g, 0, none⟩) 32 32 (digs 32 V) (some ⟨g1, 0, none⟩) 32 32 (digs 32 pp) w1 (digs_len _ _) (digs_len _ _) (by omega) (by omega) (hiv5.below hb) (fun _ => ⟨g1, 0, rfl, ints_row hr⟩) (digs_dig _ _) (digs_dig _ _) (by omega) (by show _ ≤ _; rw [hvd, hvp]; exact hpV)
        rw [hvd, hvp] at cM
        have HVp : Hid (V - pp < 256 ^ 32 ∧ (V - pp) % pp = R ∧ V - pp < V) := by
         have := HV.out
         refine ⟨by omega, ?_, by have := pp_pos; omega⟩
         rw [← HVm.out, Nat.mod_eq_sub_mod hpV]
        obtain ⟨V2, hV2⟩ : ∃ V2, V2 = V - pp := ⟨_, rfl⟩
        rw [← hV2] at cM HVp
        clear hV2 hpV hlp hR4 hRv cL hiv hvd hvp
        go_wp2_with fail
        refine (p12 _).mono ?_
        rintro e w6 ⟨g6, rfl, hR6⟩
        go_wp2_with fail
        refine (cM w6 g6 hR6.1 hR6.2.2).mono ?_
        rintro e w7 ⟨g7, rfl, hR7⟩
        have hB6 : Below w.heap.size w w6 := hB5.trans (hR6.1.mono hB5.size)
        have HRR : Hid (RelR w w7 g7 (digs 32 V2)) := ⟨hB6.trans (hR7.1.mono hB6.size), Nat.le_trans hB6.size hR7.2.1, hR7.2.2⟩
        have HME2 : Hid (valOf w7 (.slice (some ⟨g7, 0, none⟩) 32 32) = V2) := by
         show _ = _
         rw [valOf_eq (l := digs 32 V2) (fun _ => ⟨g7, 0, rfl, ints_row hR7.2.2⟩) (digs_len _ _), valD_digs_lt HVp.out.1]
        clear hB6 hB5 hR6 hR7 cM hiv5
        go_wp2
        refine ⟨⟨g7, V2, rfl, HVp.out.1, HVp.out.2.1, HRR.out⟩, ?_⟩
        rw [HME.out, HME2.out]
        exact HVp.out.2.2
end Go.Proofs.YtabgihjffjlfiaaGreatDoor
set_option linter.unusedVariables false
namespace Go.Proofs.YtabgihjffjlfiaaGreatDoor
open Go.RowKit Go.Sort Go.BigFrame
set_option maxRecDepth 100000
set_option maxHeartbeats 2000000
theorem add23 (a : Option Addr) (la ca : Nat) (x : List Nat) (b : Option Addr) (lb cb : Nat) (y : List Nat) (w : World) (hx : x.length = la) (hy : y.length = lb) (hla : la ≤ 5000) (hlb : lb ≤ 5000)
  (ha : IView w a x) (hb : IView w b y) (dx : Dig x) (dy : Dig y) :
  Calls Tryz.prog 64 #[.slice a la ca, .slice b lb cb] w fun e w' => ∃ g, e = .returned (.slice (some ⟨g, 0, none⟩) 32 32) ∧ RelR w w' g (digs 32 ((valD x + valD y) % pp)) := by
 have cP := plus32 a la ca x b lb cb y w hx hy (by omega) (by omega) ha hb dx dy
 have hlt : valD x + valD y < 256 ^ (max la lb + 1) := by
  have h1 := valD_lt dx
  have h2 := valD_lt dy
  rw [hx] at h1
  rw [hy] at h2
  have h3 : 256 ^ la ≤ 256 ^ max la lb := Nat.pow_le_pow_right (by decide) (by omega)
  have h4 : 256 ^ lb ≤ 256 ^ max la lb := Nat.pow_le_pow_right (by decide) (by omega)
  rw [Nat.pow_succ]
  omega
 have hv := valD_digs_lt hlt
 obtain ⟨n, hn⟩ : ∃ n, n = max la lb + 1 := ⟨_, rfl⟩
 have hn2 : n ≤ 10000 := by omega
 rw [← hn] at cP hv
 obtain ⟨S, hS⟩ : ∃ S, S = valD x + valD y := ⟨_, rfl⟩
 rw [← hS] at cP hv ⊢
 clear hn hS hlt hx hy
 have cF := fun w1 g (h : w1.heap[g]? = some (.cells (ints .i64 (digs n S)) 3 (0, 0))) => fold38 (some ⟨g, 0, none⟩) n n (digs n S) w1 (digs_len _ _) (Nat.le_refl _) (by omega) (by omega) (digs_dig _ _) (fun _ => ⟨g, 0, rfl, ints_row h⟩)
 rw [hv] at cF
 clear hv ha hb
 go_enter Tryz.func64, Tryz.ntmps64
 go_wp2_with fail
 refine cP.mono ?_
 rintro e w1 ⟨g1, rfl, hR1⟩
 go_wp2_with fail
 refine (cF w1 g1 hR1.2.2).mono ?_
 rintro e w2 ⟨g2, rfl, hR2⟩
 go_wp2
 go_ret
 exact ⟨g2, rfl, hR1.1.trans (hR2.1.mono hR1.1.size), Nat.le_trans hR1.1.size hR2.2.1, hR2.2.2⟩
theorem mul25 (a : Option Addr) (la ca : Nat) (x : List Nat) (b : Option Addr) (lb cb : Nat) (y : List Nat) (w : World) (hx : x.length = la) (hy : y.length = lb) (hla : la ≤ 4000) (hlb : lb ≤ 4000)
  (ha : IView w a x) (hb : IView w b y) (dx : Dig x) (dy : Dig y) :
  Calls Tryz.prog 52 #[.slice a la ca, .slice b lb cb] w fun e w' => ∃ g, e = .returned (.slice (some ⟨g, 0, none⟩) 32 32) ∧ RelR w w' g (digs 32 (valD x * valD y % pp)) := by
 have cP := times44 a la ca x b lb cb y w hx hy (by omega) (by omega) ha hb dx dy
 have hlt : valD x * valD y < 256 ^ (la + lb + 1) := by
  have h1 := valD_lt dx
  have h2 := valD_lt dy
  rw [hx] at h1
  rw [hy] at h2
  have h3 : valD x * valD y ≤ 256 ^ la * 256 ^ lb := Nat.mul_le_mul (Nat.le_of_lt h1) (Nat.le_of_lt h2)
  rw [Nat.pow_succ, Nat.pow_add]
  have := Nat.mul_pos (pos256 la) (pos256 lb)
  omega
 have hv := valD_digs_lt hlt
 obtain ⟨n, hn⟩ : ∃ n, n = la + lb + 1 := ⟨_, rfl⟩
 have hn2 : n ≤ 10000 := by omega
 rw [← hn] at cP hv
 obtain ⟨S, hS⟩ : ∃ S, S = valD x * valD y := ⟨_, rfl⟩
 rw [← hS] at cP hv ⊢
 clear hn hS hlt hx hy
 have cF := fun w1 g (h : w1.heap[g]? = some (.cells (ints .i64 (digs n S)) 3 (0, 0))) => fold38 (some ⟨g, 0, none⟩) n n (digs n S) w1 (digs_len _ _) (Nat.le_refl _) (by omega) (by omega) (digs_dig _ _) (fun _ => ⟨g, 0, rfl, ints_row h⟩)
 rw [hv] at cF
 clear hv ha hb
 go_enter Tryz.func52, Tryz.ntmps52
 go_wp2_with fail
 refine cP.mono ?_
 rintro e w1 ⟨g1, rfl, hR1⟩
 go_wp2_with fail
 refine (cF w1 g1 hR1.2.2).mono ?_
 rintro e w2 ⟨g2, rfl, hR2⟩
 go_wp2
 go_ret
 exact ⟨g2, rfl, hR1.1.trans (hR2.1.mono hR1.1.size), Nat.le_trans hR1.1.size hR2.2.1, hR2.2.2⟩
theorem sub21 (a : Option Addr) (ca : Nat) (x : List Nat) (b : Option Addr) (cb : Nat) (y : List Nat) (w : World) (hx : x.length = 32) (hy : y.length = 32)
  (ha : IView w a x) (hb : IView w b y) (dx : Dig x) (dy : Dig y) (hle : valD y ≤ pp) :
  Calls Tryz.prog 27 #[.slice a 32 ca, .slice b 32 cb] w fun e w' => ∃ g, e = .returned (.slice (some ⟨g, 0, none⟩) 32 32) ∧ RelR w w' g (digs 32 ((valD x + pp - valD y) % pp)) := by
 have hvp : valD (digs 32 pp) = pp := by decide
 have cP := fun w1 g (hB : Below w.heap.size w w1) (h : w1.heap[g]? = some (.cells (ints .i64 (digs 32 pp)) 3 (0, 0))) => plus32 a 32 ca x (some ⟨g, 0, none⟩) 32 32 (digs 32 pp) w1 hx (digs_len _ _) (by omega) (by omega) (ha.below hB) (fun _ => ⟨g, 0, rfl, ints_row h⟩) dx (digs_dig _ _)
 rw [hvp] at cP
 have hx32 : valD x < 256 ^ 32 := by have := valD_lt dx; rwa [hx] at this
 have hlt : valD x + pp < 256 ^ 33 := by
  have : pp < 256 ^ 32 := by decide
  rw [Nat.pow_succ]; omega
 have hv := valD_digs_lt hlt
 have cM := fun w1 g (hB : Below w.heap.size w w1) (h : w1.heap[g]? = some (.cells (ints .i64 (digs 33 (valD x + pp))) 3 (0, 0))) => minus40 (some ⟨g, 0, none⟩) 33 33 (digs 33 (valD x + pp)) b 32 cb y w1 (digs_len _ _) hy (by omega) (by omega) (fun _ => ⟨g, 0, rfl, ints_row h⟩) (hb.below hB) (digs_dig _ _) dy (by omega) (by show _ ≤ _; rw [hv]; omega)
 rw [hv] at cM
 have hv2 : valD (digs 33 (valD x + pp - valD y)) = valD x + pp - valD y := valD_digs_lt (by omega)
 obtain ⟨S, hS⟩ : ∃ S, S = valD x + pp - valD y := ⟨_, rfl⟩
 rw [← hS] at cM hv2 ⊢
 have cF := fun w1 g (h : w1.heap[g]? = some (.cells (ints .i64 (digs 33 S)) 3 (0, 0))) => fold38 (some ⟨g, 0, none⟩) 33 33 (digs 33 S) w1 (digs_len _ _) (Nat.le_refl _) (by omega) (by omega) (digs_dig _ _) (fun _ => ⟨g, 0, rfl, ints_row h⟩)
 rw [hv2] at cF
 obtain ⟨D, hD⟩ : ∃ D, D = digs 33 (valD x + pp) := ⟨_, rfl⟩
 change ∀ w1 g, _ → _ → Calls _ _ _ _ (fun e w' => ∃ g, e = .returned (.slice (some ⟨g, 0, none⟩) 33 33) ∧ RelR w1 w' g (digs 33 (valD x + pp))) at cP
 rw [← hD] at cP cM
 clear hv hv2 hD hS hlt hx32 hx hy hle ha hb hvp
 go_enter Tryz.func27, Tryz.ntmps27
 go_wp2_with fail
 refine (p12 _).mono ?_
 rintro e w0 ⟨g0, rfl, hR0⟩
 go_wp2_with fail
 refine (cP w0 g0 hR0.1 hR0.2.2).mono ?_
 rintro e w1 ⟨g1, rfl, hR1⟩
 have hB1 := hR0.1.trans (hR1.1.mono hR0.1.size)
 go_wp2_with fail
 refine (cM w1 g1 hB1 hR1.2.2).mono ?_
 rintro e w2 ⟨g2, rfl, hR2⟩
 have hB2 := hB1.trans (hR2.1.mono hB1.size)
 go_wp2_with fail
 refine (cF w2 g2 hR2.2.2).mono ?_
 rintro e w3 ⟨g3, rfl, hR3⟩
 go_wp2
 go_ret
 exact ⟨g3, rfl, hB2.trans (hR3.1.mono hB2.size), Nat.le_trans hB2.size hR3.2.1, hR3.2.2⟩
end Go.Proofs.YtabgihjffjlfiaaGreatDoor
set_option linter.unusedVariables false
namespace Go.Proofs.YtabgihjffjlfiaaGreatDoor
open Go.RowKit Go.Sort Go.BigFrame
set_option maxRecDepth 100000
set_option maxHeartbeats 2000000
theorem k_lt8 {N k : Nat} (hN : N ≤ 9223372036854775808) (h : N / 256 ^ k ≠ 0) : k < 8 := by
 by_cases hk : k < 8
 ·exact hk
 ·exfalso
  apply h
  apply Nat.div_eq_of_lt
  have : 256 ^ 8 ≤ 256 ^ k := Nat.pow_le_pow_right (by decide) (by omega)
  omega
theorem int18p (N : Nat) (w : World) (hN : N ≤ 9223372036854775807) :
  Calls Tryz.prog 28 #[.int .i64 (N : Int)] w fun e w' => ∃ g, e = .returned (.slice (some ⟨g, 0, none⟩) 32 32) ∧ RelR w w' g (digs 32 (N % pp)) := by
 obtain ⟨i0, hi, hz0, hz1, hz2⟩ := info3
 have hneg : decide ((N : Int) < 0) = false := by simp
 go_enter Tryz.func28, Tryz.ntmps28
 go_wp2_with fail
 go_loopw [0, 3] (fun nv v wr => ∃ k : Nat, k ≤ 8 ∧ nv = .int .i64 ((N / 256 ^ k : Nat) : Int) ∧ Below w.heap.size w wr ∧ wr.ownsRow w.heap.size 3 1 v k (iv (digs k N))) (fun nv _ _ => (intOf nv).toNat)
 case atStart => exact ⟨0, by omega, by simp, Below.refl _ _, World.ownsRow_nil _ _ _ _⟩
 case round =>
  obtain ⟨k, hk, rfl, hB, hown⟩ := hrel
  obtain ⟨m, hm⟩ : ∃ m, m = N / 256 ^ k := ⟨_, rfl⟩
  have hml : m ≤ 9223372036854775807 := by rw [hm]; exact Nat.le_trans (Nat.div_le_self _ _) hN
  have HT : Hid (digs (k + 1) N = digs k N ++ [m % 256]) := by show _ = _; rw [← digs_snoc, hm]
  have HQ : Hid (N / 256 ^ (k + 1) = m / 256) := by show _ = _; rw [hm, Nat.pow_succ, Nat.div_div_eq_div_mul]
  have HM : Hid (m = N / 256 ^ k) := hm
  rw [← hm]
  clear hm
  by_cases h0 : m = 0
  ·subst h0
   have hlt : N < 256 ^ k := by
    have h1 := HM.out
    have h2 := Nat.div_add_mod N (256 ^ k)
    have h3 := Nat.mod_lt N (pos256 k)
    rw [← h1, Nat.mul_zero, Nat.zero_add] at h2
    omega
   obtain ⟨a3, c3, rfl, hc3, hc4⟩ := own_slice hown
   obtain ⟨hiv, _⟩ := own_iview hown
   have cF := fold38 a3 k c3 (digs k N) wr (digs_len _ _) hc3 hc4 (by omega) (digs_dig _ _) hiv
   rw [valD_digs_lt hlt] at cF
   clear hlt hiv hown
   go_wp2_with fail
   refine cF.mono ?_
   rintro e w2 ⟨g2, rfl, hR2⟩
   go_wp2
   go_ret
   exact ⟨g2, rfl, hB.trans (hR2.1.mono hB.size), Nat.le_trans hB.size hR2.2.1, hR2.2.2⟩
  ·have hk8 : k < 8 := k_lt8 (N := N) (by omega) (by rw [← HM.out]; exact h0)
   have hne : ((m : Int) != 0) = true := by simp; omega
   have hown' := hown.alloc (.cells #[.int .i64 ((m : Int) % 256)] 3)
   have hm1 : k + 1 ≤ maxLen := by unfold maxLen; omega
   have hm2 : (k + 1) * 8 ≤ 140737488355328 := by omega
   have hm3 : w.heap.size ≤ (wr.alloc (.cells #[.int .i64 ((m : Int) % 256)] 3)).heap.size := by have := hB.size; simp; omega
   go_wp2_with (at_builtin; refine wpList_append_own _ rfl (.tmp 17) (.tmp 19) 43 rfl w.heap.size 3 i0 (.int .i64 0) 1 8 Tryz.underlying43 hi hz0 hz1 hz2 rfl (by decide) u3 k _ rfl hown' ⟨wr.heap.size, 0, none⟩ 1 1 [.int .i64 ((m : Int) % 256)] rfl rfl (news_one _ _ _) one_int hm1 hm2 hm3 ?_; intro v2 w2 hown2 hgrow2 _)
   have hB2 : Below w.heap.size w w2 := (hB.alloc hB.size _).grown hgrow2 hm3 (fun j hj => (hown.lt j hj).1)
   have e0 := iv_snoc (digs k N) (m % 256)
   rw [← HT.out] at e0
   have hown3 : w2.ownsRow w.heap.size 3 1 v2 (k + 1) (iv (digs (k + 1) N)) := by rw [← e0]; simpa using hown2
   go_roundw
   case rel => first | exact ⟨k + 1, by omega, by rw [HQ.out]; go_num, hB2, hown3⟩ | ((repeat apply Exists.intro); exact ⟨⟨k + 1, by omega, by rw [HQ.out]; go_num, hB2, hown3⟩, rfl⟩)
   case measure => simp [intOf]; omega
theorem int18n (N : Nat) (w : World) (h0 : 0 < N) (hN : N ≤ 9223372036854775808) :
  Calls Tryz.prog 28 #[.int .i64 (-(N : Int))] w fun e w' => ∃ g, e = .returned (.slice (some ⟨g, 0, none⟩) 32 32) ∧ RelR w w' g (digs 32 ((pp - N % pp) % pp)) := by
 obtain ⟨i0, hi, hz0, hz1, hz2⟩ := info3
 have hneg : -(N : Int) < 0 := by omega
 have hmk := make31 32 (by omega)
 simp only [Int.cast_ofNat_Int] at hmk
 go_enter Tryz.func28, Tryz.ntmps28
 go_wp2_with fail
 go_loopw [0, 3] (fun nv v wr => ∃ k : Nat, k ≤ 8 ∧ nv = .int .i64 (-((N / 256 ^ k : Nat) : Int)) ∧ Below w.heap.size w wr ∧ wr.ownsRow w.heap.size 3 1 v k (iv (digs k N))) (fun nv _ _ => (-(intOf nv)).toNat)
 case atStart => exact ⟨0, by omega, by simp, Below.refl _ _, World.ownsRow_nil _ _ _ _⟩
 case round =>
  obtain ⟨k, hk, rfl, hB, hown⟩ := hrel
  obtain ⟨m, hm⟩ : ∃ m, m = N / 256 ^ k := ⟨_, rfl⟩
  have hml : m ≤ 9223372036854775808 := by rw [hm]; exact Nat.le_trans (Nat.div_le_self _ _) hN
  have HT : Hid (digs (k + 1) N = digs k N ++ [m % 256]) := by show _ = _; rw [← digs_snoc, hm]
  have HQ : Hid (N / 256 ^ (k + 1) = m / 256) := by show _ = _; rw [hm, Nat.pow_succ, Nat.div_div_eq_div_mul]
  have HM : Hid (m = N / 256 ^ k) := hm
  rw [← hm]
  clear hm
  by_cases h0' : m = 0
  ·subst h0'
   have hlt : N < 256 ^ k := by
    have h1 := HM.out
    have h2 := Nat.div_add_mod N (256 ^ k)
    have h3 := Nat.mod_lt N (pos256 k)
    rw [← h1, Nat.mul_zero, Nat.zero_add] at h2
    omega
   obtain ⟨a3, c3, rfl, hc3, hc4⟩ := own_slice hown
   obtain ⟨hiv, _⟩ := own_iview hown
   have cF := fold38 a3 k c3 (digs k N) wr (digs_len _ _) hc3 hc4 (by omega) (digs_dig _ _) hiv
   rw [valD_digs_lt hlt] at cF
   have hNp : N % pp < pp := Nat.mod_lt _ pp_pos
   obtain ⟨V, hV⟩ : ∃ V, V = N % pp := ⟨_, rfl⟩
   rw [← hV] at cF hNp
   have hvV : valD (digs 32 V) = V := valD_digs_lt (Nat.lt_trans hNp (by decide))
   have HV : Hid (V = N % pp) := hV
   have hz : valD (digs 32 0) = 0 := by decide
   have cS := fun w1 ga gb (ha : w1.heap[ga]? = some (.cells (ints .i64 (digs 32 0)) 3 (0, 0))) (hb : w1.heap[gb]? = some (.cells (ints .i64 (digs 32 V)) 3 (0, 0))) => sub21 (some ⟨ga, 0, none⟩) 32 (digs 32 0) (some ⟨gb, 0, none⟩) 32 (digs 32 V) w1 (digs_len _ _) (digs_len _ _) (fun _ => ⟨ga, 0, rfl, ints_row ha⟩) (fun _ => ⟨gb, 0, rfl, ints_row hb⟩) (digs_dig _ _) (digs_dig _ _) (by rw [hvV]; omega)
   rw [hvV, hz, Nat.zero_add] at cS
   clear hlt hiv hown hvV hV hz
   go_wp2_with fail
   refine cF.mono ?_
   rintro e w2 ⟨g2, rfl, hR2⟩
   have hB2 := hB.trans (hR2.1.mono hB.size)
   have hb2 : (w2.alloc (.cells (ints .i64 (digs 32 0)) 3)).heap[g2]? = some (.cells (ints .i64 (digs 32 V)) 3 (0, 0)) := (heap_alloc_old _ _ (lt_of_heap hR2.2.2)).trans hR2.2.2
   go_wp2_with fail
   refine (cS _ _ _ (alloc_row _ _ _) hb2).mono ?_
   rintro e w3 ⟨g3, rfl, hR3⟩
   have hB3 : Below w.heap.size w (w2.alloc (.cells (ints .i64 (digs 32 0)) 3)) := hB2.alloc hB2.size _
   rw [HV.out] at hR3
   go_wp2
   go_ret
   exact ⟨g3, rfl, hB3.trans (hR3.1.mono hB3.size), Nat.le_trans hB3.size hR3.2.1, hR3.2.2⟩
  ·have hk8 : k < 8 := k_lt8 (N := N) (by omega) (by rw [← HM.out]; exact h0')
   have hne : ((-(m : Int)) != 0) = true := by simp; omega
   have htm : (-(m : Int)).tmod 256 = -((m % 256 : Nat) : Int) := by rw [Int.neg_tmod, Int.tmod_eq_emod_of_nonneg (by omega)]; simp
   have htd : (-(m : Int)).tdiv 256 = -((m / 256 : Nat) : Int) := by rw [Int.neg_tdiv, Int.tdiv_eq_ediv_of_nonneg (by omega)]; simp
   obtain ⟨r, hr⟩ : ∃ r, r = m % 256 := ⟨_, rfl⟩
   have hrl : r < 256 := by omega
   obtain ⟨q, hq⟩ : ∃ q, q = m / 256 := ⟨_, rfl⟩
   have hql : q < m := by omega
   rw [← hr] at htm HT
   rw [← hq] at htd HQ
   clear hr hq
   have hown' := hown.alloc (.cells #[.int .i64 (r : Int)] 3)
   have hm1 : k + 1 ≤ maxLen := by unfold maxLen; omega
   have hm2 : (k + 1) * 8 ≤ 140737488355328 := by omega
   have hm3 : w.heap.size ≤ (wr.alloc (.cells #[.int .i64 (r : Int)] 3)).heap.size := by have := hB.size; simp; omega
   by_cases hr0 : r = 0
   ·subst hr0
    simp only [Int.natCast_zero, Int.neg_zero] at htm hown' hm3
    go_wp2_with (at_builtin; refine wpList_append_own _ rfl (.tmp 17) (.tmp 19) 43 rfl w.heap.size 3 i0 (.int .i64 0) 1 8 Tryz.underlying43 hi hz0 hz1 hz2 rfl (by decide) u3 k _ rfl hown' ⟨wr.heap.size, 0, none⟩ 1 1 [.int .i64 0] rfl rfl (news_one _ _ _) one_int hm1 hm2 hm3 ?_; intro v2 w2 hown2 hgrow2 _)
    have hB2 : Below w.heap.size w w2 := (hB.alloc hB.size _).grown hgrow2 hm3 (fun j hj => (hown.lt j hj).1)
    have e0 := iv_snoc (digs k N) 0
    rw [← HT.out] at e0
    have hown3 : w2.ownsRow w.heap.size 3 1 v2 (k + 1) (iv (digs (k + 1) N)) := by rw [← e0]; exact hown2
    go_roundw
    case rel => first | exact ⟨k + 1, by omega, by rw [HQ.out], hB2, hown3⟩ | ((repeat apply Exists.intro); exact ⟨⟨k + 1, by omega, by rw [HQ.out], hB2, hown3⟩, rfl⟩)
    case measure => simp [intOf]; omega
   ·go_wp2_with (at_builtin; refine wpList_append_own _ rfl (.tmp 17) (.tmp 19) 43 rfl w.heap.size 3 i0 (.int .i64 0) 1 8 Tryz.underlying43 hi hz0 hz1 hz2 rfl (by decide) u3 k _ rfl hown' ⟨wr.heap.size, 0, none⟩ 1 1 [.int .i64 (r : Int)] rfl rfl (news_one _ _ _) one_int hm1 hm2 hm3 ?_; intro v2 w2 hown2 hgrow2 _)
    have hB2 : Below w.heap.size w w2 := (hB.alloc hB.size _).grown hgrow2 hm3 (fun j hj => (hown.lt j hj).1)
    have e0 := iv_snoc (digs k N) r
    rw [← HT.out] at e0
    have hown3 : w2.ownsRow w.heap.size 3 1 v2 (k + 1) (iv (digs (k + 1) N)) := by rw [← e0]; exact hown2
    go_roundw
    case rel => first | exact ⟨k + 1, by omega, by rw [HQ.out], hB2, hown3⟩ | ((repeat apply Exists.intro); exact ⟨⟨k + 1, by omega, by rw [HQ.out], hB2, hown3⟩, rfl⟩)
    case measure => simp [intOf]; omega
end Go.Proofs.YtabgihjffjlfiaaGreatDoor
set_option linter.unusedVariables false
namespace Go.Proofs.YtabgihjffjlfiaaGreatDoor
open Go.RowKit Go.Sort Go.BigFrame
set_option maxRecDepth 100000
set_option maxHeartbeats 2000000
theorem pow33 (a : Option Addr) (ca : Nat) (x : List Nat) (b : Option Addr) (lb cb : Nat) (y : List Nat) (w : World) (hx : x.length = 32) (hy : Hid (y.length = lb)) (hlb : lb ≤ 1000)
  (ha : IView w a x) (hb : IView w b y) (dx : Dig x) (dy : Dig y) :
  Calls Tryz.prog 84 #[.slice a 32 ca, .slice b lb cb] w fun e w' => ∃ g, e = .returned (.slice (some ⟨g, 0, none⟩) 32 32) ∧ RelR w w' g (digs 32 (valD x ^ valD y % pp)) := by
 have hone := fun w1 => int18p 1 w1 (by omega)
 simp only [Int.cast_ofNat_Int] at hone
 obtain ⟨X, hX⟩ : ∃ X, X = valD x := ⟨_, rfl⟩
 have HX : Hid (X = valD x) := hX
 rw [← hX]
 clear hX
 have hpl : ∀ v, v % pp < 256 ^ 32 := fun v => Nat.lt_trans (Nat.mod_lt _ pp_pos) (by decide)
 have cSq := fun w1 g (N : Nat) (h : w1.heap[g]? = some (.cells (ints .i64 (digs 32 (X ^ N % pp))) 3 (0, 0))) => mul25 (some ⟨g, 0, none⟩) 32 32 (digs 32 (X ^ N % pp)) (some ⟨g, 0, none⟩) 32 32 (digs 32 (X ^ N % pp)) w1 (digs_len _ _) (digs_len _ _) (by omega) (by omega) (fun _ => ⟨g, 0, rfl, ints_row h⟩) (fun _ => ⟨g, 0, rfl, ints_row h⟩) (digs_dig _ _) (digs_dig _ _)
 have cSq2 : ∀ w1 g (N : Nat), w1.heap[g]? = some (.cells (ints .i64 (digs 32 (X ^ N % pp))) 3 (0, 0)) → Calls Tryz.prog 52 #[.slice (some ⟨g, 0, none⟩) 32 32, .slice (some ⟨g, 0, none⟩) 32 32] w1 fun e w' => ∃ g', e = .returned (.slice (some ⟨g', 0, none⟩) 32 32) ∧ RelR w1 w' g' (digs 32 (X ^ (2 * N) % pp)) := fun w1 g N h => by
  have := cSq w1 g N h
  rw [valD_digs_lt (hpl _), ← Nat.mul_mod, ← Nat.pow_add, ← Nat.two_mul] at this
  exact this
 have cA2 : ∀ w1 g (N : Nat), Below w.heap.size w w1 → w1.heap[g]? = some (.cells (ints .i64 (digs 32 (X ^ N % pp))) 3 (0, 0)) → Calls Tryz.prog 52 #[.slice (some ⟨g, 0, none⟩) 32 32, .slice a 32 ca] w1 fun e w' => ∃ g', e = .returned (.slice (some ⟨g', 0, none⟩) 32 32) ∧ RelR w1 w' g' (digs 32 (X ^ (N + 1) % pp)) := fun w1 g N hB h => by
  have := mul25 (some ⟨g, 0, none⟩) 32 32 (digs 32 (X ^ N % pp)) a 32 ca x w1 (digs_len _ _) hx (by omega) (by omega) (fun _ => ⟨g, 0, rfl, ints_row h⟩) (ha.below hB) (digs_dig _ _) dx
  rw [valD_digs_lt (hpl _), ← HX.out, Nat.mod_mul_mod, ← Nat.pow_succ] at this
  exact this
 clear cSq ha hpl
 go_enter Tryz.func84, Tryz.ntmps84
 go_wp2_with fail
 refine (hone _).mono ?_
 rintro e w1 ⟨g1, rfl, hR1⟩
 have hR0 : RelR w w1 g1 (digs 32 (X ^ valD (y.drop lb) % pp)) := by
  rw [List.drop_of_length_le (by rw [hy.out]; exact Nat.le_refl _)]
  exact hR1
 clear hone hR1
 go_wp2_with fail
 go_loopw [5, 6] (fun v i wr => ∃ j g : Nat, j ≤ lb ∧ i = .int .i64 ((j : Int) - 1) ∧ v = .slice (some ⟨g, 0, none⟩) 32 32 ∧ RelR w wr g (digs 32 (X ^ valD (y.drop j) % pp))) (fun _ i _ => (intOf i + 1).toNat)
 case atStart => exact ⟨lb, g1, Nat.le_refl _, rfl, rfl, hR0⟩
 case round =>
  obtain ⟨j, g, hj, rfl, rfl, hR⟩ := hrel
  clear hR0
  by_cases hj0 : j = 0
  ·subst hj0
   go_wp2
   go_ret
   exact ⟨g, rfl, hR⟩
  ·obtain ⟨i, rfl⟩ : ∃ i, j = i + 1 := ⟨j - 1, by omega⟩
   have eI : (((i + 1 : Nat) : Int) - 1) = (i : Int) := by omega
   rw [eI]
   obtain ⟨gx, off, rfl, hc⟩ := hb (by rw [hy.out]; omega)
   have hci := hc i (by rw [hy.out]; omega)
   have hgx := block_lt_of_cell hci
   obtain ⟨c, hcc⟩ : ∃ c, c = y.getD i 0 := ⟨_, rfl⟩
   have hcl : c < 256 := by rw [hcc]; exact dy i
   rw [← hcc] at hci
   have HDR : Hid (valD (y.drop i) = c + 256 * valD (y.drop (i + 1))) := by show _ = _; rw [hcc]; exact drop_val y i
   obtain ⟨E, hE⟩ : ∃ E, E = valD (y.drop (i + 1)) := ⟨_, rfl⟩
   rw [← hE] at HDR hR
   clear hcc hE hc eI hj0
   have hR0 : RelR w wr g (digs 32 (X ^ (E * 2 ^ 0 + c / 2 ^ (8 - 0)) % pp)) := by
    rw [Nat.sub_zero, Nat.div_eq_of_lt hcl, Nat.pow_zero, Nat.mul_one, Nat.add_zero]; exact hR
   clear hR
   go_wp2_with fail
   go_loopw [5, 7, 8] (fun v d k wr => ∃ t g : Nat, t ≤ 8 ∧ k = .int .i64 t ∧ d = .int .i64 ((2 ^ (7 - t) : Nat) : Int) ∧ v = .slice (some ⟨g, 0, none⟩) 32 32 ∧ RelR w wr g (digs 32 (X ^ (E * 2 ^ t + c / 2 ^ (8 - t)) % pp))) (fun _ _ k _ => 8 - (intOf k).toNat)
   case atStart => exact ⟨0, g, by omega, rfl, rfl, rfl, hR0⟩
   case round =>
    obtain ⟨t, g, ht, rfl, rfl, rfl, hR⟩ := hrel
    clear hR0
    by_cases ht8 : t < 8
    ·obtain ⟨N, hN⟩ : ∃ N, N = E * 2 ^ t + c / 2 ^ (8 - t) := ⟨_, rfl⟩
     have HN : Hid (E * 2 ^ (t + 1) + c / 2 ^ (8 - (t + 1)) = 2 * N + c / 2 ^ (7 - t) % 2) := by
      show _ = _
      have h1 := bit_step c (7 - t)
      rw [show 7 - t + 1 = 8 - t by omega] at h1
      have h3 : E * (2 ^ t * 2) = 2 * (E * 2 ^ t) := by rw [← Nat.mul_assoc, Nat.mul_comm]
      rw [hN, show 8 - (t + 1) = 7 - t by omega, Nat.pow_succ]
      omega
     rw [← hN] at hR
     have cS := cSq2 wr g N hR.2.2
     have cA := fun w1 g => cA2 w1 g (2 * N)
     have hci2 := fun w2 (hB2 : Below w.heap.size w w2) => (hB2.cell (p := ⟨gx, off + i, none⟩) hgx).trans hci
     obtain ⟨dd, hdd⟩ : ∃ d, d = 2 ^ (7 - t) := ⟨_, rfl⟩
     have hd0 : 0 < dd := by rw [hdd]; exact Nat.pow_pos (by decide)
     have hd1 : dd ≤ 128 := by rw [hdd]; exact Nat.pow_le_pow_right (by decide) (by omega : 7 - t ≤ 7)
     have hDD : Hid (2 ^ (7 - (t + 1)) = if 1 < dd then dd / 2 else 1) := by
      show _ = _
      by_cases h7 : t < 7
      ·have e7 : 2 ^ (7 - t) = 2 ^ (7 - (t + 1)) * 2 := by rw [← Nat.pow_succ]; congr 1; omega
       have := Nat.pow_pos (n := 7 - (t + 1)) (by decide : 0 < 2)
       rw [hdd, if_pos (by omega)]
       omega
      ·obtain rfl : t = 7 := by omega
       subst hdd
       rfl
     rw [← hdd] at HN ⊢
     have HBS : Hid (w.heap.size ≤ wr.heap.size) := hR.1.size
     have hB := hR.1
     clear hN hdd hR
     go_wp2_with fail
     refine cS.mono ?_
     rintro e w2 ⟨g2, rfl, hR2⟩
     have hB2 : Below w.heap.size w w2 := hB.trans (hR2.1.mono hB.size)
     have hcell := hci2 w2 hB2
     clear cS hci2 hB
     obtain ⟨q, hq⟩ : ∃ q, q = c / dd := ⟨_, rfl⟩
     have iq : (c : Int) / (dd : Int) = (q : Int) := by rw [hq]; simp
     have hql : q < 256 := by rw [hq]; exact Nat.lt_of_le_of_lt (Nat.div_le_self _ _) hcl
     rw [← hq] at HN
     clear hq
     by_cases hodd : q % 2 = 1
     ·have ho2 : ((q : Int) % 2 == 1) = true := by simp; omega
      have HO : Hid (q % 2 = 1) := hodd
      clear hodd
      by_cases hbig : 1 < dd
      ·have HD : Hid (2 ^ (7 - (t + 1)) = dd / 2) := by show _ = _; rw [hDD.out, if_pos hbig]
       go_wp2_with fail
       refine (cA w2 g2 hB2 hR2.2.2).mono ?_
       rintro e w3 ⟨g3, rfl, hR3⟩
       have HRR : Hid (RelR w w3 g3 (digs 32 (X ^ (2 * N + 1) % pp))) := ⟨hB2.trans (hR3.1.mono hB2.size), Nat.le_trans hB2.size hR3.2.1, hR3.2.2⟩
       clear hR3 hR2 hB2 cA
       go_wp2
       go_roundw
       case rel => exact ⟨t + 1, g3, by omega, by go_num, by rw [HD.out]; go_num, rfl, by rw [HN.out, HO.out]; exact HRR.out⟩
       case measure => simp [intOf]; omega
      ·have HD : Hid (2 ^ (7 - (t + 1)) = 1) := by show _ = _; rw [hDD.out, if_neg hbig]
       obtain rfl : dd = 1 := by omega
       go_wp2_with fail
       refine (cA w2 g2 hB2 hR2.2.2).mono ?_
       rintro e w3 ⟨g3, rfl, hR3⟩
       have HRR : Hid (RelR w w3 g3 (digs 32 (X ^ (2 * N + 1) % pp))) := ⟨hB2.trans (hR3.1.mono hB2.size), Nat.le_trans hB2.size hR3.2.1, hR3.2.2⟩
       clear hR3 hR2 hB2 cA
       go_wp2
       go_roundw
       case rel => exact ⟨t + 1, g3, by omega, by go_num, by rw [HD.out]; rfl, rfl, by rw [HN.out, HO.out]; exact HRR.out⟩
       case measure => simp [intOf]; omega
     ·have ho2 : ((q : Int) % 2 == 1) = false := by simp; omega
      have HO : Hid (q % 2 = 0) := by show _ = _; omega
      clear hodd
      by_cases hbig : 1 < dd
      ·have HD : Hid (2 ^ (7 - (t + 1)) = dd / 2) := by show _ = _; rw [hDD.out, if_pos hbig]
       go_wp2_with fail
       go_roundw
       case rel => exact ⟨t + 1, g2, by omega, by go_num, by rw [HD.out]; go_num, rfl, by rw [HN.out, HO.out, Nat.add_zero]; exact ⟨hB2, Nat.le_trans HBS.out hR2.2.1, hR2.2.2⟩⟩
       case measure => simp [intOf]; omega
      ·have HD : Hid (2 ^ (7 - (t + 1)) = 1) := by show _ = _; rw [hDD.out, if_neg hbig]
       obtain rfl : dd = 1 := by omega
       go_wp2_with fail
       go_roundw
       case rel => exact ⟨t + 1, g2, by omega, by go_num, by rw [HD.out]; rfl, rfl, by rw [HN.out, HO.out, Nat.add_zero]; exact ⟨hB2, Nat.le_trans HBS.out hR2.2.1, hR2.2.2⟩⟩
       case measure => simp [intOf]; omega
    ·obtain rfl : t = 8 := by omega
     have HR : Hid (RelR w wr g (digs 32 (X ^ valD (y.drop i) % pp))) := by
      show RelR _ _ _ _
      rw [HDR.out]
      have e : E * 2 ^ 8 + c / 2 ^ (8 - 8) = c + 256 * E := by simp; omega
      rw [← e]; exact hR
     clear hR
     go_wp2
     go_roundw
     case rel => exact ⟨i, g, by omega, rfl, rfl, HR.out⟩
     case measure => simp [intOf]
end Go.Proofs.YtabgihjffjlfiaaGreatDoor
set_option linter.unusedVariables false
namespace Go.Proofs.YtabgihjffjlfiaaGreatDoor
open Go.RowKit Go.Sort Go.BigFrame
set_option maxRecDepth 100000
set_option maxHeartbeats 2000000
theorem inv29 (a : Option Addr) (ca : Nat) (x : List Nat) (w : World) (hx : x.length = 32) (ha : IView w a x) (dx : Dig x) :
  Calls Tryz.prog 51 #[.slice a 32 ca] w fun e w' => ∃ g, e = .returned (.slice (some ⟨g, 0, none⟩) 32 32) ∧ RelR w w' g (digs 32 (valD x ^ 57896044618658097711785492504343953926634992332820282019728792003956564819947 % pp)) := by
 have hvp : valD (digs 32 pp) = pp := by decide
 have hd2 : Dig [2] := by
  intro j
  match j with
  | 0 => decide
  | j + 1 => simp
 have cM := fun w1 g g2 (h : w1.heap[g]? = some (.cells (ints .i64 (digs 32 pp)) 3 (0, 0))) (h2 : w1.heap[g2]? = some (.cells (ints .i64 [2]) 3 (0, 0))) => minus40 (some ⟨g, 0, none⟩) 32 32 (digs 32 pp) (some ⟨g2, 0, none⟩) 1 1 [2] w1 (digs_len _ _) rfl (by omega) (by omega) (fun _ => ⟨g, 0, rfl, ints_row h⟩) (fun _ => ⟨g2, 0, rfl, ints_row h2⟩) (digs_dig _ _) hd2 (by omega) (by show _ ≤ _; decide)
 have hval : valD (digs 32 pp) - valD [2] = 57896044618658097711785492504343953926634992332820282019728792003956564819947 := by rw [hvp]; decide
 rw [hval] at cM
 obtain ⟨X, hX⟩ : ∃ X, X = 57896044618658097711785492504343953926634992332820282019728792003956564819947 := ⟨_, rfl⟩
 have hvX : valD (digs 32 X) = X := valD_digs_lt (by rw [hX]; decide)
 rw [← hX] at cM ⊢
 clear hX hval hvp
 have cP := fun w1 g (hB : Below w.heap.size w w1) (h : w1.heap[g]? = some (.cells (ints .i64 (digs 32 X)) 3 (0, 0))) => pow33 a ca x (some ⟨g, 0, none⟩) 32 32 (digs 32 X) w1 hx (digs_len _ _) (by omega) (ha.below hB) (fun _ => ⟨g, 0, rfl, ints_row h⟩) dx (digs_dig _ _)
 rw [hvX] at cP
 clear hvX ha hx
 go_enter Tryz.func51, Tryz.ntmps51
 go_wp2_with fail
 refine (p12 _).mono ?_
 rintro e w1 ⟨g1, rfl, hR1⟩
 have h2 : (w1.alloc (.cells #[.int .i64 2] 3)).heap[w1.heap.size]? = some (.cells (ints .i64 [2]) 3 (0, 0)) := heap_alloc_new _ _
 have h1 : (w1.alloc (.cells #[.int .i64 2] 3)).heap[g1]? = some (.cells (ints .i64 (digs 32 pp)) 3 (0, 0)) := (heap_alloc_old _ _ (lt_of_heap hR1.2.2)).trans hR1.2.2
 have hB1 : Below w.heap.size w (w1.alloc (.cells #[.int .i64 2] 3)) := hR1.1.alloc hR1.1.size _
 go_wp2_with fail
 refine (cM _ g1 w1.heap.size h1 h2).mono ?_
 rintro e w2 ⟨g2, rfl, hR2⟩
 have hB2 := hB1.trans (hR2.1.mono hB1.size)
 go_wp2_with fail
 refine (cP w2 g2 hB2 hR2.2.2).mono ?_
 rintro e w3 ⟨g3, rfl, hR3⟩
 go_wp2
 go_ret
 exact ⟨g3, rfl, hB2.trans (hR3.1.mono hB2.size), Nat.le_trans hB2.size hR3.2.1, hR3.2.2⟩
theorem run_eqStrO {ρ : Operand → Value} {x y : Operand} {w : World} {s t : ByteArray} {o : Oper} (ho : o.op = .binOp .eql 9 x y 9) (hx : ρ x = .string s) (hy : ρ y = .string t) : (execOp ρ o).run Tryz.prog w = .ok (.value (.bool (s.toList == t.toList))) w := by
 simp [execOp, ho, hx, hy, go_sem]
theorem same26 (a : Option Addr) (la ca : Nat) (x : List Nat) (b : Option Addr) (lb cb : Nat) (y : List Nat) (w : World) (hx : x.length = la) (hy : y.length = lb) (hla : la ≤ 5000) (hlb : lb ≤ 5000)
  (ha : IView w a x) (hb : IView w b y) (dx : Dig x) (dy : Dig y) :
  Calls Tryz.prog 86 #[.slice a la ca, .slice b lb cb] w fun r w' => r = .returned (.bool (decide (digs 32 (valD x) = digs 32 (valD y)))) ∧ Below w.heap.size w w' := by
 have c1 := fun w1 (hB : Below w.heap.size w w1) => bytes31 a la ca x w1 hx (by omega) dx (ha.below hB)
 have c2 := fun w1 (hB : Below w.heap.size w w1) => bytes31 b lb cb y w1 hy (by omega) dy (hb.below hB)
 obtain ⟨A, hA⟩ : ∃ A, A = digs 32 (valD x) := ⟨_, rfl⟩
 obtain ⟨D, hD⟩ : ∃ D, D = digs 32 (valD y) := ⟨_, rfl⟩
 have hAd : Dig A := by rw [hA]; exact digs_dig _ _
 have hDd : Dig D := by rw [hD]; exact digs_dig _ _
 have hE := strOf_eq hAd hDd
 rw [← hA, ← hD]
 rw [← hA] at c1
 rw [← hD] at c2
 obtain ⟨r, hr⟩ : ∃ r, r = decide (A = D) := ⟨_, rfl⟩
 rw [← hr] at hE ⊢
 have HE : Hid (((strOf A).toList == (strOf D).toList) = r) := hE
 clear hr hE hA hD ha hb hx hy
 go_enter Tryz.func86, Tryz.ntmps86
 go_wp2_with fail
 have hS0 : Below w.heap.size w w.drew := (Below.refl _ _).drew
 refine wp_region_held (S := fun w' => Below w.heap.size w w') (by kernel_rfl) ?_
 show wpAnyH _ _ _ _ _ 8 (Array.replicate 8 false) _ w.drew
 refine take_at (i := 0) (some 5) _ rfl rfl (by kernel_rfl) (by kernel_rfl) (by kernel_rfl) (fun _ _ _ h => h) (yields_move rfl (.tmp 0) rfl) hS0 ?_
 simp only [Act.put, lA, lS, lZ]
 refine take_at (i := 3) (some 8) _ rfl rfl (by kernel_rfl) (by kernel_rfl) (by kernel_rfl) (fun _ _ _ h => h) (yields_move rfl (.tmp 1) rfl) hS0 ?_
 simp only [Act.put, lA, lS, lZ]
 refine one_at (i := 1) (by kernel_rfl) ?_
 refine call_at (some 6) rfl rfl rfl 48 #[.slice a la ca] (R := fun v w' => ∃ b c, v = .slice b 32 c ∧ Below w.drew.heap.size w.drew w' ∧ View w' b A ∧ A.length = 32) (by kernel_rfl) ((c1 w.drew hS0).mono fun e w' ⟨v, h1, h2, h3⟩ => by
  obtain ⟨b, c, rfl, _⟩ := own_slice h3
  exact ⟨_, h1, b, c, rfl, h2, (own_bview h3).1, (own_bview h3).2⟩) ?_
 rintro v1 w1 ⟨b1, k1, rfl, hb1, hv1, hl1⟩
 have hS1 : Below w.heap.size w w1 := hS0.trans (hb1.mono hS0.size)
 clear hb1 hS0 c1
 refine ⟨hS1, ?_⟩
 simp only [Act.put, lA, lS, lZ]
 refine strengthen (S' := fun w' => Below w.heap.size w w' ∧ View w' b1 A) (fun _ h => h.1) _ _ _ _ ?_
 have hS2 : Below w.heap.size w w1 ∧ View w1 b1 A := ⟨hS1, hv1⟩
 refine take_at (i := 2) (some 7) _ rfl rfl (by kernel_rfl) (by kernel_rfl) (by kernel_rfl) (fun _ _ _ h => h) (yields_run (v := .string (strOf A)) rfl fun w' hw' => run_convertO (toString_view (cap := k1) hl1 hw'.2) rfl) hS2 ?_
 simp only [Act.put, lA, lS, lZ]
 refine one_at (i := 4) (by kernel_rfl) ?_
 refine call_at (some 9) rfl rfl rfl 48 #[.slice b lb cb] (R := fun v w' => ∃ b c, v = .slice b 32 c ∧ Below w1.heap.size w1 w' ∧ View w' b D ∧ D.length = 32) (by kernel_rfl) ((c2 w1 hS1).mono fun e w' ⟨v, h1, h2, h3⟩ => by
  obtain ⟨b, c, rfl, _⟩ := own_slice h3
  exact ⟨_, h1, b, c, rfl, h2, (own_bview h3).1, (own_bview h3).2⟩) ?_
 rintro v2 w2 ⟨b2, k2, rfl, hb2, hv2, hl2⟩
 have hS3 : Below w.heap.size w w2 ∧ View w2 b1 A := ⟨hS1.trans (hb2.mono hS1.size), hv1.below hb2⟩
 clear hb2 hS1 hS2 c2
 refine ⟨hS3, ?_⟩
 simp only [Act.put, lA, lS, lZ]
 refine one_at (i := 5) (by kernel_rfl) ?_
 refine run_at (some 10) (.string (strOf D)) rfl rfl rfl (run_convertO (toString_view (cap := k2) hl2 hv2) rfl) ?_
 refine ⟨hS3, ?_⟩
 simp only [Act.put, lA, lS, lZ]
 refine one_at (i := 6) (by kernel_rfl) ?_
 refine run_at (some 11) (.bool r) rfl rfl rfl ?c6 ?_
 case c6 => rw [← HE.out]; exact run_eqStrO (x := .tmp 7) (y := .tmp 10) rfl rfl rfl
 refine ⟨hS3, ?_⟩
 simp only [Act.put, lA, lS, lZ]
 refine one_at (i := 7) (by kernel_rfl) ?_
 refine run_at (some 4) (.bool r) rfl rfl rfl (run_assignO (.tmp 11) rfl _) ?_
 simp only [Act.put, lA, lS, lZ]
 refine ⟨hS3, wpAnyH_done (by kernel_rfl) ?_ _⟩
 clear hv2 hl2 hv1 hl1
 have hSf := hS3.1
 clear hS3
 go_wp2
 go_ret
 exact ⟨rfl, hSf⟩
end Go.Proofs.YtabgihjffjlfiaaGreatDoor
set_option linter.unusedVariables false
namespace Go.Proofs.YtabgihjffjlfiaaGreatDoor
def Pr (n : Nat) : Prop := 2 ≤ n ∧ ∀ d, d ∣ n → d = 1 ∨ d = n
theorem Pr.cop {p a : Nat} (h : Pr p) (ha : ¬ p ∣ a) : Nat.Coprime p a := by
 rcases h.2 _ (Nat.gcd_dvd_left p a) with h1 | h1
 ·exact h1
 ·exact absurd (by rw [← h1]; exact Nat.gcd_dvd_right p a) ha
theorem Pr.dvd {p a b : Nat} (h : Pr p) (hd : p ∣ a * b) : p ∣ a ∨ p ∣ b := by
 by_cases ha : p ∣ a
 ·exact .inl ha
 ·exact .inr ((h.cop ha).dvd_of_dvd_mul_left hd)
theorem ex_prime : ∀ n, 2 ≤ n → ∃ r, Pr r ∧ r ∣ n := by
 intro n
 induction n using Nat.strongRecOn with
 | _ n ih =>
  intro hn
  by_cases hp : Pr n
  ·exact ⟨n, hp, Nat.dvd_refl n⟩
  ·have : ∃ d, d ∣ n ∧ d ≠ 1 ∧ d ≠ n := by
    apply Classical.byContradiction
    intro hno
    apply hp
    refine ⟨hn, fun d hd => ?_⟩
    by_cases h1 : d = 1
    ·exact .inl h1
    ·by_cases h2 : d = n
     ·exact .inr h2
     ·exact absurd ⟨d, hd, h1, h2⟩ hno
   obtain ⟨d, hd, h1, h2⟩ := this
   have hdn : d ≤ n := Nat.le_of_dvd (by omega) hd
   have hd0 : d ≠ 0 := fun h => by subst h; have := Nat.eq_zero_of_zero_dvd hd; omega
   obtain ⟨r, hr, hrd⟩ := ih d (by omega) (by omega)
   exact ⟨r, hr, Nat.dvd_trans hrd hd⟩
/- binomials -/
def ch : Nat → Nat → Nat
 | _, 0 => 1
 | 0, _ + 1 => 0
 | n + 1, k + 1 => ch n k + ch n (k + 1)
theorem ch_big : ∀ n k, n < k → ch n k = 0
 | 0, k + 1, _ => rfl
 | n + 1, k + 1, h => by rw [ch, ch_big n k (by omega), ch_big n (k + 1) (by omega)]
theorem ch_self : ∀ n, ch n n = 1
 | 0 => rfl
 | n + 1 => by rw [ch, ch_self n, ch_big n (n + 1) (by omega)]
theorem ch_zero (n : Nat) : ch n 0 = 1 := by cases n <;> rfl
theorem ch_absorb : ∀ n k, (k + 1) * ch (n + 1) (k + 1) = (n + 1) * ch n k
 | 0, 0 => rfl
 | 0, k + 1 => by simp [ch]
 | n + 1, 0 => by
  have h := ch_absorb n 0
  rw [ch_zero] at h ⊢
  rw [ch, ch_zero]
  omega
 | n + 1, k + 1 => by
  have h1 := ch_absorb n k
  have h2 := ch_absorb n (k + 1)
  rw [ch]
  have e : ch (n + 1) (k + 1) = ch n k + ch n (k + 1) := rfl
  have e1 : (k + 1 + 1) * (ch (n + 1) (k + 1) + ch (n + 1) (k + 1 + 1)) = (k + 1) * ch (n + 1) (k + 1) + ch (n + 1) (k + 1) + (k + 1 + 1) * ch (n + 1) (k + 1 + 1) := by grind
  rw [e1, h1, h2, e]
  grind
def T (n x : Nat) : Nat → Nat
 | 0 => 0
 | k + 1 => T n x k + ch n k * x ^ k
theorem T_succ (n x : Nat) : ∀ k, T (n + 1) x (k + 1) = x * T n x k + T n x (k + 1)
 | 0 => by simp [T, ch_zero]
 | k + 1 => by
  have ih := T_succ n x k
  rw [T, ih]
  have e : ch (n + 1) (k + 1) = ch n k + ch n (k + 1) := rfl
  have e2 : T n x (k + 1 + 1) = T n x (k + 1) + ch n (k + 1) * x ^ (k + 1) := rfl
  have e3 : T n x (k + 1) = T n x k + ch n k * x ^ k := rfl
  rw [e, e2, e3, Nat.pow_succ]
  grind
theorem binom (x : Nat) : ∀ n, (x + 1) ^ n = T n x (n + 1)
 | 0 => by simp [T, ch]
 | n + 1 => by
  have e : T n x (n + 1 + 1) = T n x (n + 1) := by rw [T, ch_big n (n + 1) (by omega)]; simp
  rw [T_succ, e, ← binom x n, Nat.pow_succ]
  grind
theorem T_mod {p : Nat} (hp : Pr p) (x : Nat) : ∀ k, k < p → T p x (k + 1) % p = 1 % p
 | 0, _ => by simp [T, ch_zero]
 | k + 1, h => by
  have ih := T_mod hp x k (by omega)
  have h1 : p ∣ ch p (k + 1) := by
   obtain ⟨q, rfl⟩ : ∃ q, p = q + 1 := ⟨p - 1, by omega⟩
   have := ch_absorb q k
   rcases hp.dvd (⟨ch q k, this⟩ : (q + 1) ∣ (k + 1) * ch (q + 1) (k + 1)) with h2 | h2
   ·exact absurd (Nat.le_of_dvd (by omega) h2) (by omega)
   ·exact h2
  obtain ⟨c, hc⟩ := h1
  rw [T, hc, Nat.mul_assoc, Nat.add_mul_mod_self_left, ih]
theorem frob {p : Nat} (hp : Pr p) (x : Nat) : (x + 1) ^ p % p = (x ^ p + 1) % p := by
 obtain ⟨q, rfl⟩ : ∃ q, p = q + 1 := ⟨p - 1, by have := hp.1; omega⟩
 have h1 := T_mod hp x q (by omega)
 rw [binom, T, ch_self, Nat.one_mul, Nat.add_mod, h1, ← Nat.add_mod, Nat.add_comm]
theorem fermat {p : Nat} (hp : Pr p) : ∀ a, a ^ p % p = a % p
 | 0 => by rw [Nat.zero_pow (by have := hp.1; omega)]
 | a + 1 => by rw [frob hp, Nat.add_mod, fermat hp a, ← Nat.add_mod]
theorem fermat1 {p a : Nat} (hp : Pr p) (ha : ¬ p ∣ a) : a ^ (p - 1) % p = 1 := by
 have h2 := hp.1
 have h := fermat hp a
 have e : a ^ p = a * a ^ (p - 1) := by rw [← Nat.pow_succ', show (p - 1).succ = p by omega]
 have hpos : 0 < a := by
  rcases Nat.eq_zero_or_pos a with h0 | h0
  ·exact absurd (by rw [h0]; exact Nat.dvd_zero p) ha
  ·exact h0
 have hge : 1 ≤ a ^ (p - 1) := Nat.pow_pos hpos
 have hd : p ∣ a * (a ^ (p - 1) - 1) := by
  rw [Nat.mul_sub, Nat.mul_one, ← e]
  exact Nat.dvd_of_mod_eq_zero (Nat.sub_mod_eq_zero_of_mod_eq h)
 rcases hp.dvd hd with h3 | h3
 ·exact absurd h3 ha
 ·obtain ⟨c, hc⟩ := h3
  have : a ^ (p - 1) = 1 + p * c := by omega
  rw [this, Nat.add_mul_mod_self_left, Nat.mod_eq_of_lt (by omega)]
/- powers modulo m -/
def pmod (m : Nat) : Nat → Nat → Nat → Nat → Nat
 | 0, _, _, acc => acc % m
 | f + 1, b, e, acc => pmod m f (b * b % m) (e / 2) (bif Nat.beq (e % 2) 1 then acc * b % m else acc)
theorem pmod_eq (m : Nat) : ∀ f b e acc, e < 2 ^ f → pmod m f b e acc = acc * b ^ e % m
 | 0, b, e, acc, h => by
  obtain rfl : e = 0 := by simpa using h
  simp [pmod]
 | f + 1, b, e, acc, h => by
  rw [pmod, pmod_eq m f _ _ _ (by rw [Nat.pow_succ] at h; omega)]
  have hb : (b * b % m) ^ (e / 2) % m = (b ^ (2 * (e / 2))) % m := by rw [← Nat.pow_mod, Nat.pow_mul, Nat.pow_two]
  have h2 : e % 2 = 0 ∨ e % 2 = 1 := by omega
  rcases h2 with h2 | h2
  ·rw [h2]
   show acc * (b * b % m) ^ (e / 2) % m = _
   rw [Nat.mul_mod, hb, ← Nat.mul_mod, show 2 * (e / 2) = e by omega]
  ·rw [h2]
   show (acc * b % m) * (b * b % m) ^ (e / 2) % m = _
   rw [Nat.mod_mul_mod, Nat.mul_mod, hb, ← Nat.mul_mod, Nat.mul_assoc, ← Nat.pow_succ', show (2 * (e / 2)).succ = e by omega]
theorem pmod_one {m b e : Nat} (f v : Nat) (he : e < 2 ^ f) (h : pmod m f b e 1 = v) : b ^ e % m = v := by
 rw [pmod_eq m f b e 1 he, Nat.one_mul] at h; exact h
/- exponents that give 1 -/
theorem one_mul_pow {r a m : Nat} (h : a ^ m % r = 1 % r) (k : Nat) : a ^ (m * k) % r = 1 % r := by
 rw [Nat.pow_mul, Nat.pow_mod, h, ← Nat.pow_mod, Nat.one_pow]
theorem one_gcd {r a : Nat} : ∀ m n, a ^ m % r = 1 % r → a ^ n % r = 1 % r → a ^ Nat.gcd m n % r = 1 % r := by
 intro m n
 induction m, n using Nat.gcd.induction with
 | H0 n => intro _ h; simpa using h
 | H1 m n hm ih =>
  intro h1 h2
  rw [Nat.gcd_rec]
  refine ih ?_ h1
  have e : a ^ n = a ^ (n % m) * a ^ (m * (n / m)) := by rw [← Nat.pow_add, Nat.mod_add_div]
  rw [e, Nat.mul_mod, one_mul_pow h1, ← Nat.mul_mod, Nat.mul_one] at h2
  exact h2
theorem pock {N q M a r : Nat} (hq : Pr q) (hN : N = q * M + 1) (h1 : a ^ (q * M) % N = 1 % N) (h2 : Nat.gcd (a ^ M - 1) N = 1) (ha : 0 < a) (hr : Pr r) (hrN : r ∣ N) : q ∣ r - 1 := by
 apply Classical.byContradiction
 intro hno
 have hr1 : a ^ (q * M) % r = 1 % r := by
  rw [← Nat.mod_mod_of_dvd _ hrN, h1, Nat.mod_mod_of_dvd _ hrN]
 have hra : ¬ r ∣ a := fun h => by
  have h3 : r ∣ a ^ (q * M) ∨ q * M = 0 := by
   rcases Nat.eq_zero_or_pos (q * M) with h0 | h0
   ·exact .inr h0
   ·obtain ⟨k, hk⟩ : ∃ k, q * M = k + 1 := ⟨q * M - 1, by omega⟩
    exact .inl (by rw [hk, Nat.pow_succ]; exact Nat.dvd_trans h (Nat.dvd_mul_left _ _))
  have h4 := hr.1
  rcases h3 with h3 | h3
  ·have := Nat.mod_eq_zero_of_dvd h3
   rw [this, Nat.mod_eq_of_lt (by omega)] at hr1
   omega
  ·rw [h3] at hN
   have := Nat.le_of_dvd (by omega) hrN
   omega
 have hf : a ^ (r - 1) % r = 1 % r := by rw [fermat1 hr hra, Nat.mod_eq_of_lt (by have := hr.1; omega)]
 have hg := one_gcd _ _ hf hr1
 have hgd : Nat.gcd (r - 1) (q * M) ∣ M := by
  have hcop : Nat.Coprime (Nat.gcd (r - 1) (q * M)) q := by
   have := hq.cop (a := Nat.gcd (r - 1) (q * M)) (fun h => hno (Nat.dvd_trans h (Nat.gcd_dvd_left _ _)))
   exact this.symm
  exact hcop.dvd_of_dvd_mul_left (Nat.gcd_dvd_right _ _)
 obtain ⟨k, hk⟩ := hgd
 have hM : a ^ M % r = 1 % r := by rw [hk]; exact one_mul_pow hg k
 have hge : 1 ≤ a ^ M := Nat.pow_pos ha
 have hd : r ∣ a ^ M - 1 := Nat.dvd_of_mod_eq_zero (Nat.sub_mod_eq_zero_of_mod_eq hM)
 have : r ∣ 1 := by rw [← h2]; exact Nat.dvd_gcd hd hrN
 have := Nat.le_of_dvd (by decide) this
 have := hr.1
 omega
theorem gcd_mod {a M N v : Nat} (ha : 0 < a) (h : a ^ M % N = v) (hv : 1 ≤ v) (hg : Nat.gcd (v - 1) N = 1) : Nat.gcd (a ^ M - 1) N = 1 := by
 have hge : 1 ≤ a ^ M := Nat.pow_pos ha
 have e : a ^ M - 1 = (v - 1) + N * (a ^ M / N) := by
  have := Nat.mod_add_div (a ^ M) N
  omega
 rw [e, Nat.mul_comm N, Nat.gcd_add_mul_right_left]
 exact hg
theorem pr_of_big {N F : Nat} (hN : 2 ≤ N) (hF : N < (F + 1) * (F + 1)) (h : ∀ r, Pr r → r ∣ N → F ∣ r - 1) : Pr N := by
 have hbig : ∀ d, d ∣ N → d ≠ 1 → F + 1 ≤ d := fun d hd h1 => by
  have hd0 : 0 < d := Nat.pos_of_ne_zero fun h0 => by subst h0; have := Nat.eq_zero_of_zero_dvd hd; omega
  obtain ⟨r, hr, hrd⟩ := ex_prime d (by omega)
  have h2 := h r hr (Nat.dvd_trans hrd hd)
  have h3 := Nat.le_of_dvd (by have := hr.1; omega) h2
  have h4 := Nat.le_of_dvd hd0 hrd
  have := hr.1
  omega
 refine ⟨hN, fun d hd => ?_⟩
 obtain ⟨e, he⟩ := hd
 by_cases h1 : d = 1
 ·exact .inl h1
 ·by_cases h2 : e = 1
  ·right; rw [he, h2, Nat.mul_one]
  ·have b1 := hbig d ⟨e, he⟩ h1
   have b2 := hbig e ⟨d, by rw [he, Nat.mul_comm]⟩ h2
   have := Nat.mul_le_mul b1 b2
   rw [← he] at this
   omega
/- small primes, by trial -/
def noDiv (n : Nat) : Nat → Bool
 | 0 => true
 | k + 1 => (Nat.ble (k + 1) 1 || !(Nat.beq (n % (k + 1)) 0)) && noDiv n k
theorem noDiv_spec (n : Nat) : ∀ K, noDiv n K = true → ∀ d, 2 ≤ d → d ≤ K → ¬ d ∣ n
 | 0, _, d, h1, h2 => by omega
 | K + 1, h, d, h1, h2 => by
  rw [noDiv, Bool.and_eq_true] at h
  by_cases he : d = K + 1
  ·subst he
   intro hd
   have h3 := h.1
   rw [Nat.mod_eq_zero_of_dvd hd] at h3
   simp at h3
   omega
  ·exact noDiv_spec n K h.2 d h1 (by omega)
theorem pr_small {n : Nat} (K : Nat) (hn : 2 ≤ n) (hK : n < (K + 1) * (K + 1)) (h : noDiv n K = true) : Pr n := by
 have hs := noDiv_spec n K h
 refine ⟨hn, fun d hd => ?_⟩
 obtain ⟨e, he⟩ := hd
 by_cases h1 : d = 1
 ·exact .inl h1
 ·by_cases h2 : e = 1
  ·right; rw [he, h2, Nat.mul_one]
  ·exfalso
   have hd0 : d ≠ 0 := fun h0 => by subst h0; omega
   have he0 : e ≠ 0 := fun h0 => by subst h0; omega
   have b1 : K < d := Nat.lt_of_not_le fun hle => hs d (by omega) hle ⟨e, he⟩
   have b2 : K < e := Nat.lt_of_not_le fun hle => hs e (by omega) hle ⟨d, by rw [he, Nat.mul_comm]⟩
   have : (K + 1) * (K + 1) ≤ d * e := Nat.mul_le_mul b1 b2
   rw [← he] at this
   omega
theorem two_dvd {q q' n : Nat} (hc : Nat.gcd q q' = 1) (h1 : q ∣ n) (h2 : q' ∣ n) : q * q' ∣ n := Nat.Coprime.mul_dvd_of_dvd_of_dvd hc h1 h2
theorem pock2 {N q q' a : Nat} (M M' f v v' : Nat) (hq : Pr q) (hq' : Pr q') (hN : N = q * M + 1) (hN' : N = q' * M' + 1) (ha : 0 < a) (h1 : N - 1 < 2 ^ f) (e0 : pmod N f a (N - 1) 1 = 1) (e1 : pmod N f a M 1 = v) (e2 : pmod N f a M' 1 = v')
  (g1 : Nat.gcd (v - 1) N = 1) (g2 : Nat.gcd (v' - 1) N = 1) (hv : 1 ≤ v) (hv' : 1 ≤ v') (hc : Nat.gcd q q' = 1) (hF : N < (q * q' + 1) * (q * q' + 1)) (h2 : 2 ≤ N) (hM : M < 2 ^ f) (hM' : M' < 2 ^ f) : Pr N := by
 have hp := pmod_one f 1 h1 e0
 have hone : 1 % N = 1 := Nat.mod_eq_of_lt (by omega)
 refine pr_of_big (F := q * q') h2 hF fun r hr hrN => two_dvd hc ?_ ?_
 ·exact pock hq hN (by rw [hone, ← hp]; congr 2; omega) (gcd_mod ha (pmod_one f v hM e1) hv g1) ha hr hrN
 ·exact pock hq' hN' (by rw [hone, ← hp]; congr 2; omega) (gcd_mod ha (pmod_one f v' hM' e2) hv' g2) ha hr hrN
theorem pr127 : Pr 127 := pr_small 11 (by decide) (by decide) (by kernel_rfl)
theorem pr8574133 : Pr 8574133 := pr_small 2928 (by decide) (by decide) (by kernel_rfl)
theorem pr75707 : Pr 75707 := pr_small 275 (by decide) (by decide) (by kernel_rfl)
theorem pr1923133 : Pr 1923133 := pr_small 1386 (by decide) (by decide) (by kernel_rfl)
theorem pr65147 : Pr 65147 := pr_small 255 (by decide) (by decide) (by kernel_rfl)
theorem prq3 : Pr 1919519569386763 :=
 pock2 (N := 1919519569386763) (q := 8574133) (q' := 127) (a := 2) 223873314 15114327318006 51 1059928654987441 576774792492622 pr8574133 pr127 (by decide) (by decide) (by decide) (by decide) (by kernel_rfl) (by kernel_rfl) (by kernel_rfl) (by kernel_rfl) (by kernel_rfl) (by decide) (by decide) (by kernel_rfl) (by decide) (by decide) (by decide) (by decide)
theorem prq2 : Pr 75445702479781427272750846543864801 :=
 pock2 (N := 75445702479781427272750846543864801) (q := 1919519569386763) (q' := 75707) (a := 2) 39304471641247389600 996548568557483816196003626400 116 56747016255153332959347766392083459 58781699294900834553279248901967638 prq3 pr75707 (by decide) (by decide) (by decide) (by decide) (by kernel_rfl) (by kernel_rfl) (by kernel_rfl) (by kernel_rfl) (by kernel_rfl) (by decide) (by decide) (by kernel_rfl) (by decide) (by decide) (by decide) (by decide)
theorem prq1 : Pr 74058212732561358302231226437062788676166966415465897661863160754340907 :=
 pock2 (N := 74058212732561358302231226437062788676166966415465897661863160754340907) (q := 75445702479781427272750846543864801) (q' := 1923133) (a := 2) 981609426360740691344999861639072106 38509147694185143878364744631319200843710219946028640589009268082 236 69490809710348678725736597923071784769591275419387514694139338586948360 52266576830164329332527201090776533817489900267135412990654516667243924 prq2 pr1923133 (by decide) (by decide) (by decide) (by decide) (by kernel_rfl) (by kernel_rfl) (by kernel_rfl) (by kernel_rfl) (by kernel_rfl) (by decide) (by decide) (by kernel_rfl) (by decide) (by decide) (by decide) (by decide)
theorem pr_pp0 : Pr 57896044618658097711785492504343953926634992332820282019728792003956564819949 :=
 pock2 (N := 57896044618658097711785492504343953926634992332820282019728792003956564819949) (q := 74058212732561358302231226437062788676166966415465897661863160754340907) (q' := 65147) (a := 2) 781764 888698552790736299626774717244753464114003596985590771942357929052090884 255 427094198651976259540344842774561673889945192655078505504941250475370961481 22602559476203468486837656474023958799180643873278202064348025470901666305470 prq1 pr65147 (by decide) (by decide) (by decide) (by decide) (by kernel_rfl) (by kernel_rfl) (by kernel_rfl) (by kernel_rfl) (by kernel_rfl) (by decide) (by decide) (by kernel_rfl) (by decide) (by decide) (by decide) (by decide)
theorem pr_pp : Pr pp := pr_pp0
theorem pp_fermat {a : Nat} (ha : a % pp ≠ 0) : a ^ (pp - 1) % pp = 1 := fermat1 pr_pp fun h => ha (Nat.mod_eq_zero_of_dvd h)
end Go.Proofs.YtabgihjffjlfiaaGreatDoor
set_option linter.unusedVariables false
namespace Go.Proofs.YtabgihjffjlfiaaGreatDoor
abbrev Fe := Fin pp
def fe (n : Nat) : Fe := Fin.ofNat pp n
theorem fe_val (n : Nat) : (fe n).val = n % pp := rfl
theorem fe_eq {a b : Nat} (h : a % pp = b % pp) : fe a = fe b := Fin.ext h
theorem fe_iff {a b : Nat} : fe a = fe b ↔ a % pp = b % pp := ⟨fun h => congrArg Fin.val h, fe_eq⟩
theorem fe_mod (n : Nat) : fe (n % pp) = fe n := fe_eq (Nat.mod_mod _ _)
theorem fe_of (x : Fe) : fe x.val = x := Fin.ext (Nat.mod_eq_of_lt x.isLt)
theorem fe_add (a b : Nat) : fe (a + b) = fe a + fe b := by
 apply Fin.ext
 rw [Fin.val_add, fe_val, fe_val, fe_val, ← Nat.add_mod]
theorem fe_mul (a b : Nat) : fe (a * b) = fe a * fe b := by
 apply Fin.ext
 rw [Fin.val_mul, fe_val, fe_val, fe_val, ← Nat.mul_mod]
theorem fe_one : fe 1 = 1 := rfl
theorem val0 : (0 : Fe).val = 0 := rfl
theorem val1 : (1 : Fe).val = 1 := rfl
theorem ne_val {a : Fe} (h : a ≠ 0) : a.val % pp ≠ 0 := fun h0 => h (Fin.ext (by rw [Nat.mod_eq_of_lt a.isLt] at h0; exact h0))
theorem one_ne : (1 : Fe) ≠ 0 := fun h => absurd (congrArg Fin.val h) (by rw [val0, val1]; decide)
theorem mul_ne {a b : Fe} (ha : a ≠ 0) (hb : b ≠ 0) : a * b ≠ 0 := fun h => by
 have h1 : a.val * b.val % pp = 0 := by have := congrArg Fin.val h; rwa [Fin.val_mul, val0] at this
 rcases pr_pp.dvd (Nat.dvd_of_mod_eq_zero h1) with h2 | h2
 ·exact ne_val ha (Nat.mod_eq_zero_of_dvd h2)
 ·exact ne_val hb (Nat.mod_eq_zero_of_dvd h2)
theorem mul_zero_or {a b : Fe} (h : a * b = 0) : a = 0 ∨ b = 0 := by
 by_cases ha : a = 0
 ·exact .inl ha
 ·by_cases hb : b = 0
  ·exact .inr hb
  ·exact absurd h (mul_ne ha hb)
theorem mul_cancel {a b c : Fe} (hc : c ≠ 0) (h : a * c = b * c) : a = b := by
 have h1 : (a - b) * c = 0 := by grobner
 rcases mul_zero_or h1 with h2 | h2
 ·grobner
 ·exact absurd h2 hc
def pw (a : Fe) (e : Nat) : Fe := fe (a.val ^ e)
theorem pw_fe (n e : Nat) : pw (fe n) e = fe (n ^ e) := fe_eq (by rw [fe_val]; exact (Nat.pow_mod n e pp).symm)
theorem pw_add (a : Fe) (m n : Nat) : pw a (m + n) = pw a m * pw a n := by rw [pw, Nat.pow_add, fe_mul]; rfl
theorem pw_pw (a : Fe) (m n : Nat) : pw (pw a m) n = pw a (m * n) := by
 show pw (fe (a.val ^ m)) n = fe (a.val ^ (m * n))
 rw [pw_fe, ← Nat.pow_mul]
theorem pw_one (a : Fe) : pw a 1 = a := by rw [pw, Nat.pow_one, fe_of]
theorem pw_two (a : Fe) : pw a 2 = a * a := by rw [show (2 : Nat) = 1 + 1 from rfl, pw_add, pw_one]
theorem pw_succ (a : Fe) (n : Nat) : pw a (n + 1) = pw a n * a := by rw [pw_add, pw_one]
theorem pw_fermat {a : Fe} (h : a ≠ 0) (n : Nat) (hn : n = pp - 1) : pw a n = 1 := by
 rw [hn]
 exact fe_eq (b := 1) (by rw [pp_fermat (ne_val h)]; decide)
theorem pw_of (a e f v : Nat) (he : e < 2 ^ f) (h : pmod pp f a e 1 = v) : pw (fe a) e = fe v := by
 rw [pw_fe, ← fe_mod, pmod_one f v he h]
def fin (a : Fe) : Fe := fe (pmod pp 255 a.val 57896044618658097711785492504343953926634992332820282019728792003956564819947 1)
theorem fin_pw (a : Fe) {n : Nat} (hn : n = pp - 2) : fin a = pw a n := by
 obtain ⟨X, hX⟩ : ∃ X, X = 57896044618658097711785492504343953926634992332820282019728792003956564819947 := ⟨_, rfl⟩
 have e : n = X := by rw [hn, hX]; decide
 rw [fin, ← hX, pmod_eq _ _ _ _ _ (by rw [hX]; decide), Nat.one_mul, fe_mod, e]
 rfl
theorem mul_fin {a : Fe} (h : a ≠ 0) : a * fin a = 1 := by
 obtain ⟨n, hn⟩ : ∃ n, n = pp - 2 := ⟨_, rfl⟩
 rw [fin_pw a hn]
 have h1 : pw a (n + 1) = 1 := pw_fermat h _ (by rw [hn]; decide)
 rw [pw_succ] at h1
 grobner
theorem fin_mul {a : Fe} (h : a ≠ 0) : fin a * a = 1 := by have := mul_fin h; grobner
/- Squares. -/
theorem sq_eq {a b : Fe} (h : a * a = b * b) : a = b ∨ a = -b := by
 have h1 : (a - b) * (a + b) = 0 := by grobner
 rcases mul_zero_or h1 with h2 | h2
 ·left; grobner
 ·right; grobner
theorem two_ne : (2 : Fe) ≠ 0 := fun h => absurd (congrArg Fin.val h) (by decide)
theorem neg_one_ne : (1 : Fe) ≠ -1 := by decide
def ii : Fe := fe 19681161376707505956807079304988542015446066515923890162744021073123829784752
theorem ii_sq : ii * ii = -1 := by
 have : ii * ii + 1 = 0 := by
  show fe _ * fe _ + fe 1 = fe 0
  rw [← fe_mul, ← fe_add]
  exact fe_eq (by decide)
 grobner
theorem euler {a s : Fe} (ha : a ≠ 0) (h : a = s * s) {n : Nat} (hn : 2 * n = pp - 1) : pw a n = 1 := by
 have hs : s ≠ 0 := fun h0 => ha (by rw [h, h0]; grobner)
 rw [h, ← pw_two, pw_pw]
 exact pw_fermat hs _ hn
end Go.Proofs.YtabgihjffjlfiaaGreatDoor
set_option linter.unusedVariables false
namespace Go.Proofs.YtabgihjffjlfiaaGreatDoor
def dd : Fe := fe 37095705934669439343138083508754565189542113879843219016388785533085940283555
theorem dd_def : dd * 121666 = -121665 := by
 have : dd * 121666 + 121665 = 0 := by
  show fe _ * fe 121666 + fe 121665 = fe 0
  rw [← fe_mul, ← fe_add]
  exact fe_eq (by decide)
 grobner
theorem dd_ne : dd ≠ 0 := fun h => absurd (congrArg Fin.val h) (by decide)
theorem dd_half {n : Nat} (hn : n = 28948022309329048855892746252171976963317496166410141009864396001978282409974) : pw dd n = -1 := by
 have h := pw_of 37095705934669439343138083508754565189542113879843219016388785533085940283555 n 255 57896044618658097711785492504343953926634992332820282019728792003956564819948 (by rw [hn]; decide) (by rw [hn]; kernel_rfl)
 exact h.trans (by decide)
theorem dd_nsq (s : Fe) : dd ≠ s * s := fun h => by
 obtain ⟨n, hn⟩ : ∃ n, n = 28948022309329048855892746252171976963317496166410141009864396001978282409974 := ⟨_, rfl⟩
 have h1 := euler dd_ne h (n := n) (by rw [hn]; decide)
 rw [dd_half hn] at h1
 exact neg_one_ne h1.symm
theorem dd_nsq2 {a b : Fe} (hb : b ≠ 0) : a * a ≠ dd * (b * b) := fun h => dd_nsq (a * fin b) (by
 have := mul_fin hb
 grobner)
def On (x y : Fe) : Prop := y * y - x * x = 1 + dd * (x * x) * (y * y)
theorem nd_aux {x1 y1 x2 y2 e : Fe} (h1 : On x1 y1) (h2 : On x2 y2) (he : e = dd * (x1 * x2) * (y1 * y2)) (hee : e * e = 1) : False := by
 unfold On at h1 h2
 have hi := ii_sq
 have hne : e ≠ 0 := fun h => one_ne (by rw [← hee, h]; grobner)
 have hx1 : x1 ≠ 0 := fun h => hne (by rw [he, h]; grobner)
 have hx2 : x2 ≠ 0 := fun h => hne (by rw [he, h]; grobner)
 have hy1 : y1 ≠ 0 := fun h => hne (by rw [he, h]; grobner)
 have a1 : (ii * x1 + e * y1) * (ii * x1 + e * y1) = dd * ((x1 * y1 * (ii * x2 + y2)) * (x1 * y1 * (ii * x2 + y2))) := by grobner
 have a2 : (ii * x1 - e * y1) * (ii * x1 - e * y1) = dd * ((x1 * y1 * (ii * x2 - y2)) * (x1 * y1 * (ii * x2 - y2))) := by grobner
 by_cases c1 : ii * x2 + y2 = 0
 ·by_cases c2 : ii * x2 - y2 = 0
  ·have hi0 : ii ≠ 0 := fun h => by rw [h] at hi; exact neg_one_ne (by grobner)
   exact mul_ne two_ne (mul_ne hi0 hx2) (by grobner)
  ·exact dd_nsq2 (mul_ne (mul_ne hx1 hy1) c2) a2
 ·exact dd_nsq2 (mul_ne (mul_ne hx1 hy1) c1) a1
theorem den1 {x1 y1 x2 y2 : Fe} (h1 : On x1 y1) (h2 : On x2 y2) : 1 + dd * (x1 * x2) * (y1 * y2) ≠ 0 := fun h => nd_aux h1 h2 rfl (by grobner)
theorem den2 {x1 y1 x2 y2 : Fe} (h1 : On x1 y1) (h2 : On x2 y2) : 1 - dd * (x1 * x2) * (y1 * y2) ≠ 0 := fun h => nd_aux h1 h2 rfl (by grobner)
structure Pt where
 x : Fe
 y : Fe
 on : On x y
theorem Pt.ext {p q : Pt} (hx : p.x = q.x) (hy : p.y = q.y) : p = q := by
 cases p; cases q; cases hx; cases hy; rfl
theorem add_on {x1 y1 x2 y2 : Fe} (h1 : On x1 y1) (h2 : On x2 y2) :
  On ((x1 * y2 + y1 * x2) * fin (1 + dd * (x1 * x2) * (y1 * y2))) ((y1 * y2 + x1 * x2) * fin (1 - dd * (x1 * x2) * (y1 * y2))) := by
 have d1 := den1 h1 h2
 have d2 := den2 h1 h2
 have i1 := mul_fin d1
 have i2 := mul_fin d2
 unfold On at h1 h2 ⊢
 obtain ⟨k, hk⟩ : ∃ k, k = dd * (x1 * x2) * (y1 * y2) := ⟨_, rfl⟩
 rw [← hk] at d1 d2 i1 i2 ⊢
 obtain ⟨i, hi⟩ : ∃ i, i = fin (1 + k) := ⟨_, rfl⟩
 obtain ⟨j, hj⟩ : ∃ j, j = fin (1 - k) := ⟨_, rfl⟩
 rw [← hi] at i1 ⊢
 rw [← hj] at i2 ⊢
 have key : (y1 * y2 + x1 * x2) * (y1 * y2 + x1 * x2) * ((1 + k) * (1 + k)) - (x1 * y2 + y1 * x2) * (x1 * y2 + y1 * x2) * ((1 - k) * (1 - k)) = (1 + k) * (1 + k) * ((1 - k) * (1 - k)) + dd * ((x1 * y2 + y1 * x2) * (x1 * y2 + y1 * x2)) * ((y1 * y2 + x1 * x2) * (y1 * y2 + x1 * x2)) := by grobner
 obtain ⟨A, hA⟩ : ∃ A, A = x1 * y2 + y1 * x2 := ⟨_, rfl⟩
 obtain ⟨B, hB⟩ : ∃ B, B = y1 * y2 + x1 * x2 := ⟨_, rfl⟩
 obtain ⟨u, hu⟩ : ∃ u, u = 1 + k := ⟨_, rfl⟩
 obtain ⟨v, hv⟩ : ∃ v, v = 1 - k := ⟨_, rfl⟩
 rw [← hA, ← hB] at key ⊢
 rw [← hu, ← hv] at key
 rw [← hu] at i1
 rw [← hv] at i2
 clear hA hB hu hv hi hj hk d1 d2 h1 h2
 grobner
def Pt.add (p q : Pt) : Pt := ⟨(p.x * q.y + p.y * q.x) * fin (1 + dd * (p.x * q.x) * (p.y * q.y)), (p.y * q.y + p.x * q.x) * fin (1 - dd * (p.x * q.x) * (p.y * q.y)), add_on p.on q.on⟩
theorem zero_on : On 0 1 := by unfold On; grobner
def Pt.zero : Pt := ⟨0, 1, zero_on⟩
theorem neg_on {x y : Fe} (h : On x y) : On (-x) y := by unfold On at *; grobner
def Pt.neg (p : Pt) : Pt := ⟨-p.x, p.y, neg_on p.on⟩
theorem Pt.addX (p q : Pt) : (p.add q).x * (1 + dd * (p.x * q.x) * (p.y * q.y)) = p.x * q.y + p.y * q.x := by
 have := fin_mul (den1 p.on q.on)
 show _ * fin _ * _ = _
 grobner
theorem Pt.addY (p q : Pt) : (p.add q).y * (1 - dd * (p.x * q.x) * (p.y * q.y)) = p.y * q.y + p.x * q.x := by
 have := fin_mul (den2 p.on q.on)
 show _ * fin _ * _ = _
 grobner
theorem Pt.add_eq {p q r : Pt} (hx : r.x * (1 + dd * (p.x * q.x) * (p.y * q.y)) = p.x * q.y + p.y * q.x) (hy : r.y * (1 - dd * (p.x * q.x) * (p.y * q.y)) = p.y * q.y + p.x * q.x) : p.add q = r :=
 Pt.ext (mul_cancel (den1 p.on q.on) (by rw [Pt.addX, hx])) (mul_cancel (den2 p.on q.on) (by rw [Pt.addY, hy]))
theorem Pt.add_comm (p q : Pt) : p.add q = q.add p := by
 have h1 := q.addX p
 have h2 := q.addY p
 exact Pt.add_eq (by grobner) (by grobner)
theorem Pt.add_zero (p : Pt) : p.add Pt.zero = p := by
 refine Pt.add_eq ?_ ?_
 ·show p.x * (1 + dd * (p.x * 0) * (p.y * 1)) = p.x * 1 + p.y * 0
  grobner
 ·show p.y * (1 - dd * (p.x * 0) * (p.y * 1)) = p.y * 1 + p.x * 0
  grobner
theorem Pt.zero_add (p : Pt) : Pt.zero.add p = p := by rw [Pt.add_comm, Pt.add_zero]
theorem Pt.add_neg (p : Pt) : p.add p.neg = Pt.zero := by
 have h := p.on
 unfold On at h
 refine Pt.add_eq ?_ ?_
 ·show 0 * (1 + dd * (p.x * -p.x) * (p.y * p.y)) = p.x * p.y + p.y * -p.x
  grobner
 ·show 1 * (1 - dd * (p.x * -p.x) * (p.y * p.y)) = p.y * p.y + p.x * -p.x
  grobner
theorem assoc_key (x1 y1 x2 y2 x3 y3 d k l : Fe) (hk : k = d * (x1 * x2) * (y1 * y2)) (hl : l = d * (x2 * x3) * (y2 * y3)) (e1 : y1 * y1 - x1 * x1 = 1 + d * (x1 * x1) * (y1 * y1)) (e2 : y2 * y2 - x2 * x2 = 1 + d * (x2 * x2) * (y2 * y2)) (e3 : y3 * y3 - x3 * x3 = 1 + d * (x3 * x3) * (y3 * y3)) :
  ((x1 * y2 + y1 * x2) * (1 - k) * y3 + (y1 * y2 + x1 * x2) * (1 + k) * x3) * ((1 - l * l) + d * (x2 * y3 + y2 * x3) * (y2 * y3 + x2 * x3) * x1 * y1)
  = ((x2 * y3 + y2 * x3) * (1 - l) * y1 + (y2 * y3 + x2 * x3) * (1 + l) * x1) * ((1 - k * k) + d * (x1 * y2 + y1 * x2) * (y1 * y2 + x1 * x2) * x3 * y3) := by grobner
theorem assoc_keyY (x1 y1 x2 y2 x3 y3 d k l : Fe) (hk : k = d * (x1 * x2) * (y1 * y2)) (hl : l = d * (x2 * x3) * (y2 * y3)) (e1 : y1 * y1 - x1 * x1 = 1 + d * (x1 * x1) * (y1 * y1)) (e2 : y2 * y2 - x2 * x2 = 1 + d * (x2 * x2) * (y2 * y2)) (e3 : y3 * y3 - x3 * x3 = 1 + d * (x3 * x3) * (y3 * y3)) :
  ((y1 * y2 + x1 * x2) * (1 + k) * y3 + (x1 * y2 + y1 * x2) * (1 - k) * x3) * ((1 - l * l) - d * (x2 * y3 + y2 * x3) * (y2 * y3 + x2 * x3) * x1 * y1)
  = ((y2 * y3 + x2 * x3) * (1 + l) * y1 + (x2 * y3 + y2 * x3) * (1 - l) * x1) * ((1 - k * k) - d * (x1 * y2 + y1 * x2) * (y1 * y2 + x1 * x2) * x3 * y3) := by grobner
theorem clearX {rx ry u v A B sx sy X d : Fe} (hx : rx * u = A) (hy : ry * v = B) (h : X * (1 + d * (rx * sx) * (ry * sy)) = rx * sy + ry * sx) : X * (u * v + d * A * B * sx * sy) = A * v * sy + B * u * sx := by subst hx hy; grobner
theorem clearY {rx ry u v A B sx sy Y d : Fe} (hx : rx * u = A) (hy : ry * v = B) (h : Y * (1 - d * (rx * sx) * (ry * sy)) = ry * sy + rx * sx) : Y * (u * v - d * A * B * sx * sy) = B * u * sy + A * v * sx := by subst hx hy; grobner
theorem clearD {rx ry u v A B sx sy d : Fe} (hx : rx * u = A) (hy : ry * v = B) (hu : u ≠ 0) (hv : v ≠ 0) (h : 1 + d * (rx * sx) * (ry * sy) ≠ 0) : u * v + d * A * B * sx * sy ≠ 0 := fun h0 => mul_ne (mul_ne hu hv) h (by subst hx hy; grobner)
theorem clearE {rx ry u v A B sx sy d : Fe} (hx : rx * u = A) (hy : ry * v = B) (hu : u ≠ 0) (hv : v ≠ 0) (h : 1 - d * (rx * sx) * (ry * sy) ≠ 0) : u * v - d * A * B * sx * sy ≠ 0 := fun h0 => mul_ne (mul_ne hu hv) h (by subst hx hy; grobner)
theorem cross {X1 X2 D1 D2 N1 N2 : Fe} (h1 : X1 * D1 = N1) (h2 : X2 * D2 = N2) (hk : N1 * D2 = N2 * D1) (n1 : D1 ≠ 0) (n2 : D2 ≠ 0) : X1 = X2 :=
 mul_cancel (mul_ne n1 n2) (by subst h1 h2; grobner)
theorem finX (x1 y1 x2 y2 x3 y3 d k l : Fe) (h : ((x1 * y2 + y1 * x2) * (1 - k) * y3 + (y1 * y2 + x1 * x2) * (1 + k) * x3) * ((1 - l * l) + d * (x2 * y3 + y2 * x3) * (y2 * y3 + x2 * x3) * x1 * y1)
  = ((x2 * y3 + y2 * x3) * (1 - l) * y1 + (y2 * y3 + x2 * x3) * (1 + l) * x1) * ((1 - k * k) + d * (x1 * y2 + y1 * x2) * (y1 * y2 + x1 * x2) * x3 * y3)) :
  ((x1 * y2 + y1 * x2) * (1 - k) * y3 + (y1 * y2 + x1 * x2) * (1 + k) * x3) * ((1 + l) * (1 - l) + d * (x2 * y3 + y2 * x3) * (y2 * y3 + x2 * x3) * x1 * y1)
  = ((x2 * y3 + y2 * x3) * (1 - l) * y1 + (y2 * y3 + x2 * x3) * (1 + l) * x1) * ((1 + k) * (1 - k) + d * (x1 * y2 + y1 * x2) * (y1 * y2 + x1 * x2) * x3 * y3) := by grobner
theorem finY (x1 y1 x2 y2 x3 y3 d k l : Fe) (h : ((y1 * y2 + x1 * x2) * (1 + k) * y3 + (x1 * y2 + y1 * x2) * (1 - k) * x3) * ((1 - l * l) - d * (x2 * y3 + y2 * x3) * (y2 * y3 + x2 * x3) * x1 * y1)
  = ((y2 * y3 + x2 * x3) * (1 + l) * y1 + (x2 * y3 + y2 * x3) * (1 - l) * x1) * ((1 - k * k) - d * (x1 * y2 + y1 * x2) * (y1 * y2 + x1 * x2) * x3 * y3)) :
  ((y1 * y2 + x1 * x2) * (1 + k) * y3 + (x1 * y2 + y1 * x2) * (1 - k) * x3) * ((1 + l) * (1 - l) - d * (x2 * y3 + y2 * x3) * (y2 * y3 + x2 * x3) * x1 * y1)
  = ((y2 * y3 + x2 * x3) * (1 + l) * y1 + (x2 * y3 + y2 * x3) * (1 - l) * x1) * ((1 + k) * (1 - k) - d * (x1 * y2 + y1 * x2) * (y1 * y2 + x1 * x2) * x3 * y3) := by grobner
theorem Pt.add_assoc (p q s : Pt) : (p.add q).add s = p.add (q.add s) := by
 have e1 := p.on
 have e2 := q.on
 have e3 := s.on
 unfold On at e1 e2 e3
 have n1 := den1 p.on q.on
 have n2 := den2 p.on q.on
 have m1 := den1 q.on s.on
 have m2 := den2 q.on s.on
 have hx := p.addX q
 have hy := p.addY q
 have gx := q.addX s
 have gy := q.addY s
 have kX := assoc_key p.x p.y q.x q.y s.x s.y dd _ _ rfl rfl e1 e2 e3
 have kY := assoc_keyY p.x p.y q.x q.y s.x s.y dd _ _ rfl rfl e1 e2 e3
 rw [Pt.add_comm p (q.add s)]
 refine Pt.ext (cross (clearX hx hy ((p.add q).addX s)) (clearX gx gy ((q.add s).addX p)) ?_ (clearD hx hy n1 n2 (den1 (p.add q).on s.on)) (clearD gx gy m1 m2 (den1 (q.add s).on p.on)))
  (cross (clearY hx hy ((p.add q).addY s)) (clearY gx gy ((q.add s).addY p)) ?_ (clearE hx hy n1 n2 (den2 (p.add q).on s.on)) (clearE gx gy m1 m2 (den2 (q.add s).on p.on)))
 ·exact finX _ _ _ _ _ _ _ _ _ kX
 ·exact finY _ _ _ _ _ _ _ _ _ kY
/- Sums of many. -/
def Pt.nm (p : Pt) : Nat → Pt
 | 0 => Pt.zero
 | n + 1 => (p.nm n).add p
theorem Pt.nm_zero (p : Pt) : p.nm 0 = Pt.zero := rfl
theorem Pt.nm_succ (p : Pt) (n : Nat) : p.nm (n + 1) = (p.nm n).add p := rfl
theorem Pt.nm_one (p : Pt) : p.nm 1 = p := Pt.zero_add p
theorem Pt.nm_add (p : Pt) (m : Nat) : ∀ n, p.nm (m + n) = (p.nm m).add (p.nm n)
 | 0 => (Pt.add_zero _).symm
 | n + 1 => by rw [← Nat.add_assoc, Pt.nm_succ, Pt.nm_add p m n, Pt.nm_succ, Pt.add_assoc]
theorem Pt.nm_two (p : Pt) (n : Nat) : p.nm (2 * n) = (p.nm n).add (p.nm n) := by rw [Nat.two_mul, Pt.nm_add]
theorem Pt.add_add (a b c d : Pt) : (a.add b).add (c.add d) = (a.add c).add (b.add d) := by
 rw [Pt.add_assoc, Pt.add_assoc, ← Pt.add_assoc b, Pt.add_comm b c, Pt.add_assoc c]
theorem Pt.add_nm (p q : Pt) : ∀ n, (p.add q).nm n = (p.nm n).add (q.nm n)
 | 0 => by rw [Pt.nm_zero, Pt.nm_zero, Pt.nm_zero, Pt.add_zero]
 | n + 1 => by rw [Pt.nm_succ, Pt.add_nm p q n, Pt.nm_succ, Pt.nm_succ, Pt.add_add]
theorem Pt.neg_add (p : Pt) : p.neg.add p = Pt.zero := by rw [Pt.add_comm, Pt.add_neg]
theorem Pt.cancel {p q r : Pt} (h : p.add r = q.add r) : p = q := by
 have h1 : (p.add r).add r.neg = (q.add r).add r.neg := by rw [h]
 rwa [Pt.add_assoc, Pt.add_assoc, Pt.add_neg, Pt.add_zero, Pt.add_zero] at h1
theorem Pt.neg_eq {p q : Pt} (h : p.add q = Pt.zero) : p = q.neg := Pt.cancel (r := q) (by rw [h, Pt.neg_add])
theorem Pt.neg_sum (p q : Pt) : (p.add q).neg = p.neg.add q.neg := by
 refine (Pt.neg_eq ?_).symm
 rw [Pt.add_add, Pt.neg_add, Pt.neg_add, Pt.add_zero]
theorem Pt.neg_zero : Pt.zero.neg = Pt.zero := (Pt.neg_eq (Pt.add_zero _)).symm
theorem Pt.neg_nm (p : Pt) : ∀ n, p.neg.nm n = (p.nm n).neg
 | 0 => Pt.neg_zero.symm
 | n + 1 => by rw [Pt.nm_succ, Pt.neg_nm p n, Pt.nm_succ, Pt.neg_sum]
end Go.Proofs.YtabgihjffjlfiaaGreatDoor
set_option linter.unusedVariables false
namespace Go.Proofs.YtabgihjffjlfiaaGreatDoor
def Rep (X Y Z T : Fe) (p : Pt) : Prop := Z ≠ 0 ∧ p.x * Z = X ∧ p.y * Z = Y ∧ T * Z = X * Y
theorem Rep.t {X Y Z T : Fe} {p : Pt} (h : Rep X Y Z T p) : T = p.x * p.y * Z := by
 obtain ⟨h0, h1, h2, h3⟩ := h
 exact mul_cancel h0 (by rw [h3]; grobner)
theorem rep_add {X1 Y1 Z1 T1 X2 Y2 Z2 T2 : Fe} {p q : Pt} (h1 : Rep X1 Y1 Z1 T1 p) (h2 : Rep X2 Y2 Z2 T2 q) {A B C D E F G H : Fe} (hA : A = (Y1 - X1) * (Y2 - X2)) (hB : B = (Y1 + X1) * (Y2 + X2)) (hC : C = 2 * dd * T1 * T2) (hD : D = 2 * Z1 * Z2) (hE : E = B - A) (hF : F = D - C) (hG : G = D + C) (hH : H = B + A) :
  Rep (E * F) (G * H) (F * G) (E * H) (p.add q) := by
 have t1 := h1.t
 have t2 := h2.t
 obtain ⟨z1, a1, b1, c1⟩ := h1
 obtain ⟨z2, a2, b2, c2⟩ := h2
 have n1 := den1 p.on q.on
 have n2 := den2 p.on q.on
 have sx := p.addX q
 have sy := p.addY q
 have fG : G = 2 * (Z1 * Z2) * (1 + dd * (p.x * q.x) * (p.y * q.y)) := by rw [hG, hD, hC, t1, t2]; grobner
 have fF : F = 2 * (Z1 * Z2) * (1 - dd * (p.x * q.x) * (p.y * q.y)) := by rw [hF, hD, hC, t1, t2]; grobner
 have fE : E = 2 * (Z1 * Z2) * (p.x * q.y + p.y * q.x) := by rw [hE, hB, hA, ← a1, ← b1, ← a2, ← b2]; grobner
 have fH : H = 2 * (Z1 * Z2) * (p.y * q.y + p.x * q.x) := by rw [hH, hB, hA, ← a1, ← b1, ← a2, ← b2]; grobner
 have zz : 2 * (Z1 * Z2) ≠ 0 := mul_ne two_ne (mul_ne z1 z2)
 refine ⟨?_, ?_, ?_, by grobner⟩
 ·rw [fG, fF]; exact mul_ne (mul_ne zz n2) (mul_ne zz n1)
 ·rw [fE, ← sx, fG]; grobner
 ·rw [fH, ← sy, fF]; grobner
theorem rep_neg {X Y Z T : Fe} {p : Pt} (h : Rep X Y Z T p) : Rep (-X) Y Z (-T) p.neg := by
 obtain ⟨h0, h1, h2, h3⟩ := h
 refine ⟨h0, ?_, h2, by grobner⟩
 show -p.x * Z = -X
 grobner
theorem rep_zero : Rep 0 1 1 0 Pt.zero := ⟨one_ne, by show (0 : Fe) * 1 = 0; grobner, by show (1 : Fe) * 1 = 1; grobner, by grobner⟩
theorem rep_aff (p : Pt) : Rep p.x p.y 1 (p.x * p.y) p := ⟨one_ne, by grobner, by grobner, by grobner⟩
end Go.Proofs.YtabgihjffjlfiaaGreatDoor
set_option linter.unusedVariables false
namespace Go.Proofs.YtabgihjffjlfiaaGreatDoor
def bxN : Nat := 15112221349535400772501151409588531511454012693041857206046113283949847762202
def byN : Nat := 46316835694926478169428394003475163141307993866256225615783033603165251855960
theorem base_on : On (fe bxN) (fe byN) := by
 unfold On
 show (fe byN * fe byN - fe bxN * fe bxN : Fe) = 1 + dd * (fe bxN * fe bxN) * (fe byN * fe byN)
 decide
def bp : Pt := ⟨fe bxN, fe byN, base_on⟩
/- By the kernel: numbers are found one by one. -/
def force {α : Type} (n : Nat) (k : Nat → α) : α :=
 match n with
 | 0 => k 0
 | m + 1 => k (m + 1)
theorem force_eq {α : Type} (n : Nat) (k : Nat → α) : force n k = k n := by cases n <;> rfl
def d2N : Nat := 16295367250680780974490674513165176452449235426866156013048779062215315747161
def qadd (X1 Y1 Z1 T1 X2 Y2 Z2 T2 : Nat) (k : Nat → Nat → Nat → Nat → Bool) : Bool :=
 force ((Y1 + (pp - X1)) * (Y2 + (pp - X2)) % pp) fun A =>
 force ((Y1 + X1) * (Y2 + X2) % pp) fun B =>
 force (d2N * T1 * T2 % pp) fun C =>
 force (2 * Z1 * Z2 % pp) fun D =>
 force ((B + (pp - A)) % pp) fun E =>
 force ((D + (pp - C)) % pp) fun F =>
 force ((D + C) % pp) fun G =>
 force ((B + A) % pp) fun H =>
 force (E * F % pp) fun X =>
 force (G * H % pp) fun Y =>
 force (F * G % pp) fun Z =>
 force (E * H % pp) fun T => k X Y Z T
theorem fe_sub {a b : Nat} (h : b ≤ pp) : fe (a + (pp - b)) = fe a - fe b := by
 have h1 : fe (pp - b) + fe b = 0 := by
  rw [← fe_add, Nat.sub_add_cancel h]
  exact fe_eq (by rw [Nat.mod_self]; rfl)
 rw [fe_add]
 grobner
theorem d2_eq : fe d2N = 2 * dd := by decide
def RepN (X Y Z T : Nat) (p : Pt) : Prop := X < pp ∧ Rep (fe X) (fe Y) (fe Z) (fe T) p
theorem modlt (n : Nat) : n % pp < pp := Nat.mod_lt _ (by decide)
theorem qadd_spec {X1 Y1 Z1 T1 X2 Y2 Z2 T2 : Nat} {p q : Pt} (h1 : RepN X1 Y1 Z1 T1 p) (h2 : RepN X2 Y2 Z2 T2 q) (k : Nat → Nat → Nat → Nat → Bool) :
  ∃ X Y Z T, RepN X Y Z T (p.add q) ∧ qadd X1 Y1 Z1 T1 X2 Y2 Z2 T2 k = k X Y Z T := by
 unfold qadd
 simp only [force_eq]
 refine ⟨_, _, _, _, ⟨modlt _, ?_⟩, rfl⟩
 simp only [fe_mod, fe_mul]
 refine rep_add h1.2 h2.2 (A := fe _) (B := fe _) (C := fe _) (D := fe _) ?_ ?_ ?_ ?_ (fe_sub (Nat.le_of_lt (modlt _))) (fe_sub (Nat.le_of_lt (modlt _))) (fe_add _ _) (fe_add _ _)
 ·rw [fe_mod, fe_mul, fe_sub (Nat.le_of_lt h1.1), fe_sub (Nat.le_of_lt h2.1)]
 ·rw [fe_mod, fe_mul, fe_add, fe_add]
 ·rw [fe_mod, fe_mul, fe_mul, d2_eq]
 ·rw [fe_mod, fe_mul, fe_mul]; rfl
def qmul : Nat → Nat → Nat → Nat → Nat → Nat → Nat → Nat → Nat → Nat → (Nat → Nat → Nat → Nat → Bool) → Bool
 | 0, _, _, _, _, _, X, Y, Z, T, k => k X Y Z T
 | f + 1, n, A, B, C, D, X, Y, Z, T, k =>
  bif Nat.beq (n % 2) 1 then
   qadd X Y Z T A B C D fun X' Y' Z' T' => qadd A B C D A B C D fun A' B' C' D' => force (n / 2) fun m => qmul f m A' B' C' D' X' Y' Z' T' k
  else qadd A B C D A B C D fun A' B' C' D' => force (n / 2) fun m => qmul f m A' B' C' D' X Y Z T k
theorem qmul_spec (k : Nat → Nat → Nat → Nat → Bool) : ∀ (f n : Nat) {A B C D X Y Z T : Nat} {p q : Pt}, n < 2 ^ f → RepN A B C D p → RepN X Y Z T q →
  ∃ X' Y' Z' T', RepN X' Y' Z' T' (q.add (p.nm n)) ∧ qmul f n A B C D X Y Z T k = k X' Y' Z' T'
 | 0, n, A, B, C, D, X, Y, Z, T, p, q, hn, hp, hq => by
  obtain rfl : n = 0 := by simpa using hn
  exact ⟨X, Y, Z, T, by rw [Pt.nm_zero, Pt.add_zero]; exact hq, rfl⟩
 | f + 1, n, A, B, C, D, X, Y, Z, T, p, q, hn, hp, hq => by
  have hm : n / 2 < 2 ^ f := by rw [Nat.pow_succ] at hn; omega
  unfold qmul
  have h2 : n % 2 = 0 ∨ n % 2 = 1 := by omega
  rcases h2 with h2 | h2
  ·rw [h2]
   show ∃ X' Y' Z' T', RepN X' Y' Z' T' (q.add (p.nm n)) ∧ (qadd A B C D A B C D fun A' B' C' D' => force (n / 2) fun m => qmul f m A' B' C' D' X Y Z T k) = k X' Y' Z' T'
   obtain ⟨A', B', C', D', hp', e⟩ := qadd_spec hp hp (fun A' B' C' D' => force (n / 2) fun m => qmul f m A' B' C' D' X Y Z T k)
   rw [e, force_eq]
   obtain ⟨X', Y', Z', T', hr, e2⟩ := qmul_spec k f (n / 2) hm hp' hq
   refine ⟨X', Y', Z', T', ?_, e2⟩
   have e3 : p.nm n = (p.add p).nm (n / 2) := by
    rw [show n = 2 * (n / 2) by omega, Pt.nm_two, Pt.add_nm, show 2 * (n / 2) / 2 = n / 2 by omega]
   rw [e3]; exact hr
  ·rw [h2]
   show ∃ X' Y' Z' T', RepN X' Y' Z' T' (q.add (p.nm n)) ∧ (qadd X Y Z T A B C D fun X' Y' Z' T' => qadd A B C D A B C D fun A' B' C' D' => force (n / 2) fun m => qmul f m A' B' C' D' X' Y' Z' T' k) = k X' Y' Z' T'
   obtain ⟨X1, Y1, Z1, T1, hq', e0⟩ := qadd_spec hq hp (fun X' Y' Z' T' => qadd A B C D A B C D fun A' B' C' D' => force (n / 2) fun m => qmul f m A' B' C' D' X' Y' Z' T' k)
   rw [e0]
   obtain ⟨A', B', C', D', hp', e⟩ := qadd_spec hp hp (fun A' B' C' D' => force (n / 2) fun m => qmul f m A' B' C' D' X1 Y1 Z1 T1 k)
   rw [e, force_eq]
   obtain ⟨X', Y', Z', T', hr, e2⟩ := qmul_spec k f (n / 2) hm hp' hq'
   refine ⟨X', Y', Z', T', ?_, e2⟩
   have e3 : q.add (p.nm n) = (q.add p).add ((p.add p).nm (n / 2)) := by
    have e4 : n = 1 + 2 * (n / 2) := by omega
    have e5 : p.nm n = p.add (p.nm (2 * (n / 2))) := by
     have e6 : p.nm (1 + 2 * (n / 2)) = p.add (p.nm (2 * (n / 2))) := by rw [Pt.nm_add, Pt.nm_one]
     rwa [← e4] at e6
    rw [Pt.add_nm, ← Pt.nm_two, Pt.add_assoc, e5]
   rw [e3]; exact hr
def btN : Nat := 46827403850823179245072216630277197565144205554125654976674165829533817101731
theorem bp_rep : RepN bxN byN 1 btN bp := by
 refine ⟨by decide, one_ne, ?_, ?_, ?_⟩
 ·show fe bxN * fe 1 = fe bxN
  rw [fe_one]; grobner
 ·show fe byN * fe 1 = fe byN
  rw [fe_one]; grobner
 ·decide
theorem zero_rep : RepN 0 1 1 0 Pt.zero := ⟨by decide, rep_zero⟩
end Go.Proofs.YtabgihjffjlfiaaGreatDoor
set_option linter.unusedVariables false
namespace Go.Proofs.YtabgihjffjlfiaaGreatDoor
def IsSq (a : Fe) : Prop := ∃ s, a = s * s
theorem zero_pw (n : Nat) : pw 0 (n + 1) = 0 := by rw [pw_succ]; grobner
theorem pw_sq {a : Fe} (ha : IsSq a) {n : Nat} (hn : 2 * n = pp - 1) : a ≠ 0 → pw a n = 1 := fun h => by
 obtain ⟨s, hs⟩ := ha
 exact euler h hs hn
theorem root_or {a : Fe} (ha : IsSq a) {e : Nat} (he : 8 * e = pp + 3) : pw a e * pw a e = a ∨ (pw a e * ii) * (pw a e * ii) = a := by
 by_cases h0 : a = 0
 ·left
  obtain ⟨n, rfl⟩ : ∃ n, e = n + 1 := ⟨e - 1, by have : 0 < pp := by decide
                                                 omega⟩
  rw [h0, zero_pw]; grobner
 ·obtain ⟨n, hn⟩ : ∃ n, 4 * e = n + 2 := ⟨4 * e - 2, by have : 0 < pp := by decide
                                                        omega⟩
  have h2 : 2 * n = pp - 1 := by have : 0 < pp := by decide
                                 omega
  have h4 : (pw a e * pw a e) * (pw a e * pw a e) = a * a := by
   rw [← pw_add, ← pw_add, show e + e + (e + e) = 4 * e by omega, hn, pw_add, pw_sq ha h2 h0, pw_two]; grobner
  have hi := ii_sq
  rcases sq_eq h4 with h | h
  ·exact .inl h
  ·right; grobner
theorem pw2_quarter {n : Nat} (hn : n = 14474011154664524427946373126085988481658748083205070504932198000989141204987) : pw (fe 2) n = ii :=
 pw_of 2 n 255 19681161376707505956807079304988542015446066515923890162744021073123829784752 (by rw [hn]; decide) (by rw [hn]; kernel_rfl)
def av (y : Fe) : Fe := (y * y - 1) * fin (dd * (y * y) + 1)
theorem v_ne (y : Fe) : dd * (y * y) + 1 ≠ 0 := fun h => by
 by_cases hy : y = 0
 ·have h1 : dd * (y * y) + 1 = 1 := by clear h; grobner
  exact one_ne (h1.symm.trans h)
 ·have hi := ii_sq
  exact dd_nsq2 (a := ii) hy (by grobner)
theorem on_iff (x y : Fe) : On x y ↔ x * x = av y := by
 have hv := mul_fin (v_ne y)
 unfold On av
 constructor
 ·intro h; exact mul_cancel (v_ne y) (by grobner)
 ·intro h; grobner
theorem Pt.sq (p : Pt) : p.x * p.x = av p.y := (on_iff _ _).1 p.on
/- Odd and even. -/
theorem neg_val {x : Fe} (h : x ≠ 0) : (-x).val = pp - x.val := by
 have h1 : x.val ≠ 0 := fun h0 => h (Fin.ext h0)
 have h2 := x.isLt
 rw [Fin.neg_def]
 show (pp - x.val) % pp = pp - x.val
 exact Nat.mod_eq_of_lt (by omega)
theorem neg_par {x : Fe} (h : x ≠ 0) : (-x).val % 2 = 1 - x.val % 2 := by
 have h2 := x.isLt
 have h3 : pp % 2 = 1 := by decide
 rw [neg_val h]
 omega
def t255 : Nat := 57896044618658097711785492504343953926634992332820282019728792003956564819968
def Pt.enc (p : Pt) : Nat := p.y.val + t255 * (p.x.val % 2)
theorem pp_t : pp + 19 = t255 := by decide
theorem Pt.enc_y (p : Pt) : p.enc % t255 = p.y.val := by
 have h1 := p.y.isLt
 have h2 := pp_t
 unfold Pt.enc
 rw [Nat.add_mul_mod_self_left, Nat.mod_eq_of_lt (by omega)]
theorem Pt.enc_odd (p : Pt) : p.enc / t255 = p.x.val % 2 := by
 have h1 := p.y.isLt
 have h2 := pp_t
 unfold Pt.enc
 rw [Nat.add_mul_div_left _ _ (by omega), Nat.div_eq_of_lt (by omega), Nat.zero_add]
end Go.Proofs.YtabgihjffjlfiaaGreatDoor
