/-
  The reference: Small. The reference: L, cut, Reduce, MulAdd, Is. The walks of the reference's hash, Sign. Single operations and calls for Verify and the laws. The reference's Read. Single operations and calls for the reference's Verify.
-/
import Derived.Test.YtabgihjffjlfiaaGreatDoorC9
import Derived.Test.YtabgihjffjlfiaaGreatDoorC5
import Derived.Deep.CutRange
import Derived.Deep.RegionHeld
import Derived.Test.YtabgihjffjlfiaaGreatDoorC6
import Derived.Test.YtabgihjffjlfiaaGreatDoorC7
set_option linter.unusedVariables false
namespace Go.Proofs.YtabgihjffjlfiaaGreatDoor
namespace EN
open Go.RowKit Go.Sort Go.BigFrame
set_option maxRecDepth 100000
set_option maxHeartbeats 2000000
def sb : List Nat := [50, 55, 55, 52, 50, 51, 49, 55, 55, 55, 55, 51, 55, 50, 51, 53, 51, 53, 51, 53, 56, 53, 49, 57, 51, 55, 55, 57, 48, 56, 56, 51, 54, 52, 56, 52, 57, 51]
def sv : Nat → Nat
 | 0 => 0
 | k + 1 => sv k * 10 + (sb.getD k 0 - 48)
theorem sv_lt : ∀ k, k ≤ 38 → sv k < 256 ^ 16 := by decide
theorem sb_digit : ∀ k, k < 38 → 48 ≤ sb.getD k 0 ∧ sb.getD k 0 ≤ 57 := by decide
def RelS (w wr : World) (v : Value) (k : Nat) : Prop :=
 ∃ g n cap, v = .slice (some ⟨g, 0, none⟩) n cap ∧ n ≤ cap ∧ cap ≤ 100 ∧ 1 ≤ n ∧ (n = 1 ∨ 256 ^ (n - 1) ≤ sv k) ∧ sv k < 256 ^ n ∧ Below w.heap.size w wr ∧ w.heap.size ≤ g ∧ IntsAt wr g 0 (digs n (sv k))
theorem relS_len {n k : Nat} (hk : k ≤ 38) (h : n = 1 ∨ 256 ^ (n - 1) ≤ sv k) : n ≤ 16 := by
 rcases h with h | h
 ·omega
 ·have h1 := sv_lt k hk
  have h2 : (256 : Nat) ^ (n - 1) < 256 ^ 16 := Nat.lt_of_le_of_lt h h1
  have := (Nat.pow_lt_pow_iff_right (by decide : 1 < 256)).1 h2
  omega
def decS : ByteArray := ⟨#[50, 55, 55, 52, 50, 51, 49, 55, 55, 55, 55, 51, 55, 50, 51, 53, 51, 53, 51, 53, 56, 53, 49, 57, 51, 55, 55, 57, 48, 56, 56, 51, 54, 52, 56, 52, 57, 51]⟩
def lenOf : Value → Nat
 | .slice _ n _ => n
 | _ => 0
theorem run_indexO {P : Program} {ρ : Operand → Value} {t : TypeId} {x y : Operand} {w : World} {v : Value} {o : Oper} (hr : (Instr.index t (ρ x) (ρ y)).run P w = .ok v w) (ho : o.op = .index t x y) : (execOp ρ o).run P w = .ok (.value v) w := by
 unfold execOp
 rw [ho]
 simp only [Sem.run_bind, hr, Result.andThen_ok, Sem.run_pure]
theorem dec_get : ∀ k, k < 38 → (decS[k]!).toNat = sb.getD k 0 := by decide
theorem dec_index (k : Nat) (hk : k < 38) (w : World) : (Instr.index 9 (.string decS) (.int .i64 (k : Int))).run Tryz.prog w = .ok (.int .u8 ((sb.getD k 0 : Nat) : Int)) w := by
 rw [run_index_string w 9 decS .i64 (k : Int) Tryz.underlying9]
 have h := dec_get k hk
 have hs : decS.size = 38 := rfl
 have hk2 : k < decS.size := by rw [hs]; exact hk
 rw [getElem!_pos decS k hk2] at h
 rw [dif_pos ⟨by omega, by rw [hs]; omega⟩]
 have e : ((k : Int).toNat) = k := by omega
 simp only [e, h]
theorem dig10 : Dig [10] := by
 intro j
 match j with
 | 0 => decide
 | j + 1 => simp
theorem dig1 {d : Nat} (h : d ≤ 9) : Dig [d] := by
 intro j
 match j with
 | 0 => simp; omega
 | j + 1 => simp
theorem val10 : valD [10] = 10 := rfl
theorem val1 {d : Nat} : valD [d] = d := by simp [valD]
theorem run_bin_sub (d : Nat) (hd : d ≤ 9) {ρ : Operand → Value} {x y : Operand} {w : World} {o : Oper} (ho : o.op = .binOp .sub 5 x y 5) (hx : ρ x = .int .u8 ((d + 48 : Nat) : Int)) (hy : ρ y = .int .u8 48) : (execOp ρ o).run Tryz.prog w = .ok (.value (.int .u8 (d : Int))) w := by
 simp only [execOp, ho, hx, hy]
 simp [go_sem, IntKind.wrap, IntKind.bits, IntKind.signed]
 omega
theorem run_conv_int (d : Nat) (hd : d ≤ 9) {ρ : Operand → Value} {x : Operand} {w : World} {o : Oper} (ho : o.op = .convert 5 3 x) (hx : ρ x = .int .u8 (d : Int)) : (execOp ρ o).run Tryz.prog w = .ok (.value (.int .i64 (d : Int))) w := by
 simp only [execOp, ho, hx]
 simp [go_sem, Tryz.underlying5, Tryz.underlying3, IntKind.wrap, IntKind.bits, IntKind.signed]
 omega
theorem top_nonzero {V m : Nat} (hm : 1 ≤ m) (h : (digs m V).getD (m - 1) 0 ≠ 0) : 256 ^ (m - 1) ≤ V := by
 rw [digs_get _ _ _ (by omega)] at h
 by_cases hlt : V < 256 ^ (m - 1)
 ·rw [Nat.div_eq_of_lt hlt] at h; simp at h
 ·omega
theorem top_zero {V m : Nat} (hm : 1 ≤ m) (hV : V < 256 ^ m) (h : (digs m V).getD (m - 1) 0 = 0) : V < 256 ^ (m - 1) := by
 rw [digs_get _ _ _ (by omega)] at h
 have h1 : V / 256 ^ (m - 1) < 256 := by
  rw [Nat.div_lt_iff_lt_mul (pos256 _)]
  have e : 256 * 256 ^ (m - 1) = 256 ^ m := by rw [Nat.mul_comm, ← Nat.pow_succ]; congr 1; omega
  omega
 rw [Nat.mod_eq_of_lt h1] at h
 rcases (Nat.div_eq_zero_iff).1 h with h | h
 ·have := pos256 (m - 1); omega
 ·exact h
theorem small29 (w : World) :
  Calls Tryz.prog 87 #[] w fun e w' => ∃ v, e = .returned v ∧ RelS w w' v 38 := by
 go_enter Tryz.func87, Tryz.ntmps87
 go_wp2_with fail
 have h0 : RelS w (w.alloc (.cells #[.int .i64 0] 3)) (.slice (some ⟨w.heap.size, 0, none⟩) 1 1) 0 := by
  refine ⟨w.heap.size, 1, 1, rfl, by omega, by omega, by omega, .inl rfl, by decide, below1 _ _, Nat.le_refl _, ?_⟩
  exact ints_row (alloc_row w [0] 3)
 go_loopw [2, 3] (fun v i wr => ∃ k : Nat, k ≤ 38 ∧ i = .int .i64 k ∧ RelS w wr v k) (fun _ i _ => 38 - (intOf i).toNat)
 case atStart => exact ⟨0, by omega, rfl, h0⟩
 case round =>
  obtain ⟨k, hk, rfl, hS⟩ := hrel
  clear h0
  by_cases hlt : k < 38
  ·obtain ⟨g, n, cap, rfl, hnc, hcap, hn1, hmin, hvl, hB, hgw, hrow⟩ := hS
   have hn16 := relS_len hk hmin
   obtain ⟨d, hde⟩ : ∃ d, sb.getD k 0 = d + 48 := ⟨sb.getD k 0 - 48, by have := sb_digit k hlt; omega⟩
   have hd9 : d ≤ 9 := by have := sb_digit k hlt; omega
   have hidx := dec_index k hlt
   rw [hde] at hidx
   have HSV : Hid (sv (k + 1) = sv k * 10 + d) := by show _ = _; rw [sv, hde]; congr 1
   obtain ⟨V, hV⟩ : ∃ V, V = sv k := ⟨_, rfl⟩
   rw [← hV] at hvl hrow HSV
   have HVL : Hid (V < 256 ^ n) := hvl
   have HVT : Hid (V * 10 < 256 ^ (n + 1 + 1)) := by show _ < _; rw [Nat.pow_succ, Nat.pow_succ]; omega
   have HV3 : Hid (sv (k + 1) < 256 ^ (n + 3)) := by
    show _ < _
    rw [HSV.out, show n + 3 = n + 1 + 1 + 1 from rfl, Nat.pow_succ, Nat.pow_succ, Nat.pow_succ]
    have := pos256 n
    omega
   clear hmin hvl hV hde hnc
   go_wp2_with fail
   go_cut [2] from 5 to 37 (fun v wx => ∃ g', v = .slice (some ⟨g', 0, none⟩) (n + 3) (n + 3) ∧ Below wr.heap.size wr wx ∧ wr.heap.size ≤ g' ∧ IntsAt wx g' 0 (digs (n + 3) (sv (k + 1))))
   case first =>
    have hS0 : Below wr.heap.size wr wr.drew := (Below.refl _ _).drew
    refine wp_region_held (S := fun w' => Below wr.heap.size wr w') (by kernel_rfl) ?_
    show wpAnyH _ _ _ _ _ 11 (Array.replicate 11 false) _ wr.drew
    refine take_at (i := 0) (some 11) _ rfl rfl (by kernel_rfl) (by kernel_rfl) (by kernel_rfl) (fun _ _ _ h => h) (yields_run (v := .slice (some ⟨g, 0, none⟩) n cap) rfl fun w' hw' => BigFrame.run_move (.tmp 2) rfl w') hS0 ?_
    simp only [Act.put, lA, lS, lZ]
    refine take_at (i := 3) (some 14) _ rfl rfl (by kernel_rfl) (by kernel_rfl) (by kernel_rfl) (fun _ _ _ h => h) (yields_run (v := .string decS) rfl fun w' hw' => BigFrame.run_move (.tmp 1) rfl w') hS0 ?_
    simp only [Act.put, lA, lS, lZ]
    refine take_at (i := 4) (some 15) _ rfl rfl (by kernel_rfl) (by kernel_rfl) (by kernel_rfl) (fun _ _ _ h => h) (yields_run (v := .int .i64 (k : Int)) rfl fun w' hw' => BigFrame.run_move (.tmp 3) rfl w') hS0 ?_
    simp only [Act.put, lA, lS, lZ]
    refine take_at (i := 5) (some 16) _ rfl rfl (by kernel_rfl) (by kernel_rfl) (by kernel_rfl) (fun _ _ _ h => h) (yields_run (v := .int .u8 ((d + 48 : Nat) : Int)) rfl fun w' hw' => run_indexO (hidx w') rfl) hS0 ?_
    simp only [Act.put, lA, lS, lZ]
    refine take_at (i := 6) (some 17) _ rfl rfl (by kernel_rfl) (by kernel_rfl) (by kernel_rfl) (fun _ _ _ h => h) (yields_run (v := .int .u8 (d : Int)) rfl fun w' hw' => run_bin_sub d hd9 rfl rfl rfl) hS0 ?_
    simp only [Act.put, lA, lS, lZ]
    refine take_at (i := 7) (some 18) _ rfl rfl (by kernel_rfl) (by kernel_rfl) (by kernel_rfl) (fun _ _ _ h => h) (yields_run (v := .int .i64 (d : Int)) rfl fun w' hw' => run_conv_int d hd9 rfl rfl) hS0 ?_
    simp only [Act.put, lA, lS, lZ]
    refine two_at (i := 1) (j := 8) (by kernel_rfl) ?_ ?_
    ·refine new_at (some 12) (.slice (some ⟨wr.drew.heap.size, 0, none⟩) 1 1) (.cells (ints .i64 [10]) 3) rfl rfl rfl (by first | kernel_rfl | rfl) ?_
     have hS1 : Below wr.heap.size wr (wr.drew.alloc (.cells (ints .i64 [10]) 3)) := hS0.alloc hS0.size _
     refine ⟨hS1, ?_⟩
     simp only [Act.put, lA, lS, lZ]
     have h10 : (wr.drew.alloc (.cells (ints .i64 [10]) 3)).heap[wr.drew.heap.size]? = some (.cells (ints .i64 [10]) 3 (0, 0)) := alloc_row _ _ _
     generalize hw1 : (wr.drew.alloc (.cells (ints .i64 [10]) 3)) = w1 at hS1 h10 ⊢
     obtain ⟨g10, hgg10⟩ : ∃ z, z = wr.drew.heap.size := ⟨_, rfl⟩
     rw [← hgg10] at h10 ⊢
     clear hgg10 hw1 hS0
     refine two_at (i := 2) (j := 8) (by kernel_rfl) ?_ ?_
     ·have cT := times44 (some ⟨g, 0, none⟩) n cap (digs n V) (some ⟨g10, 0, none⟩) 1 1 [10] w1 (digs_len _ _) rfl (by omega) (by omega) (IView.below (fun _ => ⟨g, 0, rfl, hrow⟩) hS1) (fun _ => ⟨g10, 0, rfl, ints_row h10⟩) (digs_dig _ _) dig10
      rw [valD_digs_lt HVL.out, val10] at cT
      refine call_at (some 13) rfl rfl rfl 55 #[.slice (some ⟨g, 0, none⟩) n cap, .slice (some ⟨g10, 0, none⟩) 1 1] (R := fun v w' => ∃ g, v = .slice (some ⟨g, 0, none⟩) (n + 1 + 1) (n + 1 + 1) ∧ RelR w1 w' g (digs (n + 1 + 1) (V * 10))) (by kernel_rfl) (cT.mono fun e w' ⟨g, h1, h2⟩ => ⟨_, h1, g, rfl, h2⟩) ?_
      rintro v2 w2 ⟨gT, rfl, hRT⟩
      have hS2 : Below wr.heap.size wr w2 := hS1.trans (hRT.1.mono hS1.size)
      have hT := hRT.2.2
      refine ⟨hS2, ?_⟩
      simp only [Act.put, lA, lS, lZ]
      have h10' := block_below hRT.1 (lt_of_heap h10) h10
      clear h10
      have h10 := h10'
      clear h10'
      clear cT hRT hS1
      refine one_at (i := 8) (by kernel_rfl) ?_
      refine new_at (some 19) (.slice (some ⟨w2.heap.size, 0, none⟩) 1 1) (.cells (ints .i64 [d]) 3) rfl rfl rfl (by first | kernel_rfl | rfl) ?_
      have hS3 : Below wr.heap.size wr (w2.alloc (.cells (ints .i64 [d]) 3)) := hS2.alloc hS2.size _
      refine ⟨hS3, ?_⟩
      simp only [Act.put, lA, lS, lZ]
      have hd1 : (w2.alloc (.cells (ints .i64 [d]) 3)).heap[w2.heap.size]? = some (.cells (ints .i64 [d]) 3 (0, 0)) := alloc_row _ _ _
      have h10' := block_below (below1 w2 (.cells (ints .i64 [d]) 3)) (lt_of_heap h10) h10
      clear h10
      have h10 := h10'
      clear h10'
      have hT' := block_below (below1 w2 (.cells (ints .i64 [d]) 3)) (lt_of_heap hT) hT
      clear hT
      have hT := hT'
      clear hT'
      generalize hw3 : (w2.alloc (.cells (ints .i64 [d]) 3)) = w3 at hS3 hd1 h10 hT ⊢
      obtain ⟨gd, hggd⟩ : ∃ z, z = w2.heap.size := ⟨_, rfl⟩
      rw [← hggd] at hd1 ⊢
      clear hggd hw3 hS2
      refine one_at (i := 9) (by kernel_rfl) ?_
      have cP := plus32 (some ⟨gT, 0, none⟩) (n + 1 + 1) (n + 1 + 1) (digs (n + 1 + 1) (V * 10)) (some ⟨gd, 0, none⟩) 1 1 [d] w3 (digs_len _ _) rfl (by omega) (by omega) (fun _ => ⟨gT, 0, rfl, ints_row hT⟩) (fun _ => ⟨gd, 0, rfl, ints_row hd1⟩) (digs_dig _ _) (dig1 hd9)
      rw [valD_digs_lt HVT.out, val1, show max (n + 1 + 1) 1 + 1 = n + 3 by omega, ← HSV.out] at cP
      refine call_at (some 20) rfl rfl rfl 54 #[.slice (some ⟨gT, 0, none⟩) (n + 1 + 1) (n + 1 + 1), .slice (some ⟨gd, 0, none⟩) 1 1] (R := fun v w' => ∃ g, v = .slice (some ⟨g, 0, none⟩) (n + 3) (n + 3) ∧ RelR w3 w' g (digs (n + 3) (sv (k + 1)))) (by kernel_rfl) (cP.mono fun e w' ⟨g, h1, h2⟩ => ⟨_, h1, g, rfl, h2⟩) ?_
      rintro v8 w8 ⟨g8, rfl, hR8⟩
      have hS8 : Below wr.heap.size wr w8 := hS3.trans (hR8.1.mono hS3.size)
      refine ⟨hS8, ?_⟩
      simp only [Act.put, lA, lS, lZ]
      refine one_at (i := 10) (by kernel_rfl) ?_
      refine run_at (some 2) (.slice (some ⟨g8, 0, none⟩) (n + 3) (n + 3)) rfl rfl rfl (run_assignO (.tmp 20) rfl _) ?_
      simp only [Act.put, lA, lS, lZ]
      refine ⟨hS8, wpAnyH_done (by kernel_rfl) ?_ _⟩
      go_wp2_with fail
      go_meet
      case rel => exact ⟨g8, rfl, hS8, Nat.le_trans hS3.size hR8.2.1, ints_row hR8.2.2⟩
     ·refine new_at (some 19) (.slice (some ⟨w1.heap.size, 0, none⟩) 1 1) (.cells (ints .i64 [d]) 3) rfl rfl rfl (by first | kernel_rfl | rfl) ?_
      have hS2 : Below wr.heap.size wr (w1.alloc (.cells (ints .i64 [d]) 3)) := hS1.alloc hS1.size _
      refine ⟨hS2, ?_⟩
      simp only [Act.put, lA, lS, lZ]
      have hd1 : (w1.alloc (.cells (ints .i64 [d]) 3)).heap[w1.heap.size]? = some (.cells (ints .i64 [d]) 3 (0, 0)) := alloc_row _ _ _
      have h10' := block_below (below1 w1 (.cells (ints .i64 [d]) 3)) (lt_of_heap h10) h10
      clear h10
      have h10 := h10'
      clear h10'
      generalize hw2 : (w1.alloc (.cells (ints .i64 [d]) 3)) = w2 at hS2 hd1 h10 ⊢
      obtain ⟨gd, hggd⟩ : ∃ z, z = w1.heap.size := ⟨_, rfl⟩
      rw [← hggd] at hd1 ⊢
      clear hggd hw2 hS1
      refine one_at (i := 2) (by kernel_rfl) ?_
      have cT := times44 (some ⟨g, 0, none⟩) n cap (digs n V) (some ⟨g10, 0, none⟩) 1 1 [10] w2 (digs_len _ _) rfl (by omega) (by omega) (IView.below (fun _ => ⟨g, 0, rfl, hrow⟩) hS2) (fun _ => ⟨g10, 0, rfl, ints_row h10⟩) (digs_dig _ _) dig10
      rw [valD_digs_lt HVL.out, val10] at cT
      refine call_at (some 13) rfl rfl rfl 55 #[.slice (some ⟨g, 0, none⟩) n cap, .slice (some ⟨g10, 0, none⟩) 1 1] (R := fun v w' => ∃ g, v = .slice (some ⟨g, 0, none⟩) (n + 1 + 1) (n + 1 + 1) ∧ RelR w2 w' g (digs (n + 1 + 1) (V * 10))) (by kernel_rfl) (cT.mono fun e w' ⟨g, h1, h2⟩ => ⟨_, h1, g, rfl, h2⟩) ?_
      rintro v3 w3 ⟨gT, rfl, hRT⟩
      have hS3 : Below wr.heap.size wr w3 := hS2.trans (hRT.1.mono hS2.size)
      have hT := hRT.2.2
      refine ⟨hS3, ?_⟩
      simp only [Act.put, lA, lS, lZ]
      have h10' := block_below hRT.1 (lt_of_heap h10) h10
      clear h10
      have h10 := h10'
      clear h10'
      have hd1' := block_below hRT.1 (lt_of_heap hd1) hd1
      clear hd1
      have hd1 := hd1'
      clear hd1'
      clear cT hRT hS2
      refine one_at (i := 9) (by kernel_rfl) ?_
      have cP := plus32 (some ⟨gT, 0, none⟩) (n + 1 + 1) (n + 1 + 1) (digs (n + 1 + 1) (V * 10)) (some ⟨gd, 0, none⟩) 1 1 [d] w3 (digs_len _ _) rfl (by omega) (by omega) (fun _ => ⟨gT, 0, rfl, ints_row hT⟩) (fun _ => ⟨gd, 0, rfl, ints_row hd1⟩) (digs_dig _ _) (dig1 hd9)
      rw [valD_digs_lt HVT.out, val1, show max (n + 1 + 1) 1 + 1 = n + 3 by omega, ← HSV.out] at cP
      refine call_at (some 20) rfl rfl rfl 54 #[.slice (some ⟨gT, 0, none⟩) (n + 1 + 1) (n + 1 + 1), .slice (some ⟨gd, 0, none⟩) 1 1] (R := fun v w' => ∃ g, v = .slice (some ⟨g, 0, none⟩) (n + 3) (n + 3) ∧ RelR w3 w' g (digs (n + 3) (sv (k + 1)))) (by kernel_rfl) (cP.mono fun e w' ⟨g, h1, h2⟩ => ⟨_, h1, g, rfl, h2⟩) ?_
      rintro v8 w8 ⟨g8, rfl, hR8⟩
      have hS8 : Below wr.heap.size wr w8 := hS3.trans (hR8.1.mono hS3.size)
      refine ⟨hS8, ?_⟩
      simp only [Act.put, lA, lS, lZ]
      refine one_at (i := 10) (by kernel_rfl) ?_
      refine run_at (some 2) (.slice (some ⟨g8, 0, none⟩) (n + 3) (n + 3)) rfl rfl rfl (run_assignO (.tmp 20) rfl _) ?_
      simp only [Act.put, lA, lS, lZ]
      refine ⟨hS8, wpAnyH_done (by kernel_rfl) ?_ _⟩
      go_wp2_with fail
      go_meet
      case rel => exact ⟨g8, rfl, hS8, Nat.le_trans hS3.size hR8.2.1, ints_row hR8.2.2⟩
    ·refine new_at (some 19) (.slice (some ⟨wr.drew.heap.size, 0, none⟩) 1 1) (.cells (ints .i64 [d]) 3) rfl rfl rfl (by first | kernel_rfl | rfl) ?_
     have hS1 : Below wr.heap.size wr (wr.drew.alloc (.cells (ints .i64 [d]) 3)) := hS0.alloc hS0.size _
     refine ⟨hS1, ?_⟩
     simp only [Act.put, lA, lS, lZ]
     have hd1 : (wr.drew.alloc (.cells (ints .i64 [d]) 3)).heap[wr.drew.heap.size]? = some (.cells (ints .i64 [d]) 3 (0, 0)) := alloc_row _ _ _
     generalize hw1 : (wr.drew.alloc (.cells (ints .i64 [d]) 3)) = w1 at hS1 hd1 ⊢
     obtain ⟨gd, hggd⟩ : ∃ z, z = wr.drew.heap.size := ⟨_, rfl⟩
     rw [← hggd] at hd1 ⊢
     clear hggd hw1 hS0
     refine one_at (i := 1) (by kernel_rfl) ?_
     refine new_at (some 12) (.slice (some ⟨w1.heap.size, 0, none⟩) 1 1) (.cells (ints .i64 [10]) 3) rfl rfl rfl (by first | kernel_rfl | rfl) ?_
     have hS2 : Below wr.heap.size wr (w1.alloc (.cells (ints .i64 [10]) 3)) := hS1.alloc hS1.size _
     refine ⟨hS2, ?_⟩
     simp only [Act.put, lA, lS, lZ]
     have h10 : (w1.alloc (.cells (ints .i64 [10]) 3)).heap[w1.heap.size]? = some (.cells (ints .i64 [10]) 3 (0, 0)) := alloc_row _ _ _
     have hd1' := block_below (below1 w1 (.cells (ints .i64 [10]) 3)) (lt_of_heap hd1) hd1
     clear hd1
     have hd1 := hd1'
     clear hd1'
     generalize hw2 : (w1.alloc (.cells (ints .i64 [10]) 3)) = w2 at hS2 h10 hd1 ⊢
     obtain ⟨g10, hgg10⟩ : ∃ z, z = w1.heap.size := ⟨_, rfl⟩
     rw [← hgg10] at h10 ⊢
     clear hgg10 hw2 hS1
     refine one_at (i := 2) (by kernel_rfl) ?_
     have cT := times44 (some ⟨g, 0, none⟩) n cap (digs n V) (some ⟨g10, 0, none⟩) 1 1 [10] w2 (digs_len _ _) rfl (by omega) (by omega) (IView.below (fun _ => ⟨g, 0, rfl, hrow⟩) hS2) (fun _ => ⟨g10, 0, rfl, ints_row h10⟩) (digs_dig _ _) dig10
     rw [valD_digs_lt HVL.out, val10] at cT
     refine call_at (some 13) rfl rfl rfl 55 #[.slice (some ⟨g, 0, none⟩) n cap, .slice (some ⟨g10, 0, none⟩) 1 1] (R := fun v w' => ∃ g, v = .slice (some ⟨g, 0, none⟩) (n + 1 + 1) (n + 1 + 1) ∧ RelR w2 w' g (digs (n + 1 + 1) (V * 10))) (by kernel_rfl) (cT.mono fun e w' ⟨g, h1, h2⟩ => ⟨_, h1, g, rfl, h2⟩) ?_
     rintro v3 w3 ⟨gT, rfl, hRT⟩
     have hS3 : Below wr.heap.size wr w3 := hS2.trans (hRT.1.mono hS2.size)
     have hT := hRT.2.2
     refine ⟨hS3, ?_⟩
     simp only [Act.put, lA, lS, lZ]
     have hd1' := block_below hRT.1 (lt_of_heap hd1) hd1
     clear hd1
     have hd1 := hd1'
     clear hd1'
     have h10' := block_below hRT.1 (lt_of_heap h10) h10
     clear h10
     have h10 := h10'
     clear h10'
     clear cT hRT hS2
     refine one_at (i := 9) (by kernel_rfl) ?_
     have cP := plus32 (some ⟨gT, 0, none⟩) (n + 1 + 1) (n + 1 + 1) (digs (n + 1 + 1) (V * 10)) (some ⟨gd, 0, none⟩) 1 1 [d] w3 (digs_len _ _) rfl (by omega) (by omega) (fun _ => ⟨gT, 0, rfl, ints_row hT⟩) (fun _ => ⟨gd, 0, rfl, ints_row hd1⟩) (digs_dig _ _) (dig1 hd9)
     rw [valD_digs_lt HVT.out, val1, show max (n + 1 + 1) 1 + 1 = n + 3 by omega, ← HSV.out] at cP
     refine call_at (some 20) rfl rfl rfl 54 #[.slice (some ⟨gT, 0, none⟩) (n + 1 + 1) (n + 1 + 1), .slice (some ⟨gd, 0, none⟩) 1 1] (R := fun v w' => ∃ g, v = .slice (some ⟨g, 0, none⟩) (n + 3) (n + 3) ∧ RelR w3 w' g (digs (n + 3) (sv (k + 1)))) (by kernel_rfl) (cP.mono fun e w' ⟨g, h1, h2⟩ => ⟨_, h1, g, rfl, h2⟩) ?_
     rintro v8 w8 ⟨g8, rfl, hR8⟩
     have hS8 : Below wr.heap.size wr w8 := hS3.trans (hR8.1.mono hS3.size)
     refine ⟨hS8, ?_⟩
     simp only [Act.put, lA, lS, lZ]
     refine one_at (i := 10) (by kernel_rfl) ?_
     refine run_at (some 2) (.slice (some ⟨g8, 0, none⟩) (n + 3) (n + 3)) rfl rfl rfl (run_assignO (.tmp 20) rfl _) ?_
     simp only [Act.put, lA, lS, lZ]
     refine ⟨hS8, wpAnyH_done (by kernel_rfl) ?_ _⟩
     go_wp2_with fail
     go_meet
     case rel => exact ⟨g8, rfl, hS8, Nat.le_trans hS3.size hR8.2.1, ints_row hR8.2.2⟩
   case rest =>
    obtain ⟨g', rfl, hB', hgr, hrow'⟩ := hcut
    have hgw' : w.heap.size ≤ g' := Nat.le_trans hB.size hgr
    clear hgr
    have hBw : Below w.heap.size w wc := hB.trans (hB'.mono hB.size)
    have hk1 : k + 1 ≤ 38 := hlt
    obtain ⟨V2, hV2⟩ : ∃ V, V = sv (k + 1) := ⟨_, rfl⟩
    have HV2 : Hid (V2 = sv (k + 1)) := hV2
    rw [← hV2] at hrow' HV3
    clear hV2 hrow hB' hB HSV HVL HVT hidx
    go_wp2_with fail
    go_loopw [2] (fun v wr => wr = wc ∧ ∃ m : Nat, 1 ≤ m ∧ m ≤ n + 3 ∧ v = .slice (some ⟨g', 0, none⟩) m (n + 3) ∧ V2 < 256 ^ m) (fun v _ => lenOf v)
    case atStart => exact ⟨rfl, n + 3, by omega, by omega, rfl, HV3.out⟩
    case round =>
     obtain ⟨rfl, m, hm1, hm3, rfl, hVm⟩ := hrel
     have hd : ∀ m', m' ≤ n + 3 → IntsAt wr g' 0 (digs m' V2) := fun m' hm' i hi => by
      rw [digs_len] at hi
      rw [hrow' i (by rw [digs_len]; omega), digs_get _ _ _ (by omega), digs_get _ _ _ hi]
     have HD : Hid (∀ m', m' ≤ n + 3 → IntsAt wr g' 0 (digs m' V2)) := hd
     have HVm : Hid (V2 < 256 ^ m) := hVm
     have HB : Hid (Below w.heap.size w wr) := hBw
     clear hd HV3 hVm hBw
     by_cases hm : m = 1
     ·subst hm
      clear hrow'
      go_wp2
      go_roundw
      case rel => exact ⟨k + 1, hk1, by go_num, g', 1, n + 3, rfl, by omega, by omega, by omega, .inl rfl, by rw [← HV2.out]; exact HVm.out, HB.out, hgw', by rw [← HV2.out]; exact HD.out 1 (by omega)⟩
      case measure => simp [intOf]; omega
     ·have c1 := hrow' (m - 1) (by rw [digs_len]; omega)
      rw [Nat.zero_add] at c1
      have hz : (digs (n + 3) V2).getD (m - 1) 0 = (digs m V2).getD (m - 1) 0 := by rw [digs_get _ _ _ (by omega), digs_get _ _ _ (by omega)]
      rw [hz] at c1
      have hgt : (1 : Int) < (m : Int) := by omega
      have hi1 : ((m : Int) - 1) = ((m - 1 : Nat) : Int) := by omega
      have HTN : Hid ((digs m V2).getD (m - 1) 0 ≠ 0 → 256 ^ (m - 1) ≤ V2) := fun h => top_nonzero hm1 h
      have HTZ : Hid ((digs m V2).getD (m - 1) 0 = 0 → V2 < 256 ^ (m - 1)) := fun h => top_zero hm1 HVm.out h
      obtain ⟨x, hx⟩ : ∃ x, x = (digs m V2).getD (m - 1) 0 := ⟨_, rfl⟩
      rw [← hx] at c1 HTN HTZ
      clear hx hz hrow' hm
      by_cases hx0 : x = 0
      ·subst hx0
       have HZ : Hid (V2 < 256 ^ (m - 1)) := HTZ.out rfl
       go_wp2
       go_roundw
       case rel => first | exact ⟨trivial, m - 1, by omega, by omega, rfl, HZ.out⟩ | exact ⟨rfl, m - 1, by omega, by omega, rfl, HZ.out⟩
       case measure => simp [lenOf]; omega
      ·have hxb : ((x : Int) == 0) = false := by simp; omega
       have HZ : Hid (256 ^ (m - 1) ≤ V2) := HTN.out hx0
       go_wp2
       go_roundw
       case rel => exact ⟨k + 1, hk1, by go_num, g', m, n + 3, rfl, by omega, by omega, by omega, .inr (by rw [← HV2.out]; exact HZ.out), by rw [← HV2.out]; exact HVm.out, HB.out, hgw', by rw [← HV2.out]; exact HD.out m (by omega)⟩
       case measure => simp [intOf]; omega
  ·obtain rfl : k = 38 := by omega
   obtain ⟨g, n, cap, rfl, hrest⟩ := hS
   go_wp2
   go_ret
   exact ⟨_, rfl, g, n, cap, rfl, hrest⟩
end EN
end Go.Proofs.YtabgihjffjlfiaaGreatDoor
set_option linter.unusedVariables false
namespace Go.Proofs.YtabgihjffjlfiaaGreatDoor
namespace EN
open Go.RowKit Go.Sort Go.BigFrame
set_option maxRecDepth 100000
set_option maxHeartbeats 2000000
def T252 : Nat := 7237005577332262213973186563042994240829374041602535252466099000494570602496
theorem T252_eq : T252 = 256 ^ 31 * 16 := by decide
theorem T252_start : (digs 32 0).set 31 16 = digs 32 (T252 + sv 38 % 256 ^ 0) := by decide
theorem T252_end {n : Nat} (h : sv 38 < 256 ^ n) : T252 + sv 38 % 256 ^ n = LL := by
 rw [Nat.mod_eq_of_lt h]; decide
theorem T252_lt (k : Nat) (S : Nat) (hk : k ≤ 31) : T252 + S % 256 ^ k < 256 ^ 32 := by
 have h1 := Nat.mod_lt S (pos256 k)
 have h2 : 256 ^ k ≤ 256 ^ 31 := Nat.pow_le_pow_right (by decide) hk
 have : T252 + 256 ^ 31 < 256 ^ 32 := by decide
 omega
theorem T252_get (k S : Nat) (hk : k < 31) : (digs 32 (T252 + S % 256 ^ k)).getD k 0 = 0 := by
 have e : T252 = 256 ^ k * (256 ^ (30 - k) * 256 * 16) := by
  rw [T252_eq, ← Nat.mul_assoc, ← Nat.mul_assoc, ← Nat.pow_add, ← Nat.pow_succ]
  congr 2
  omega
 rw [digs_get _ _ _ (by omega), e, Nat.mul_add_div (pos256 k), Nat.div_eq_of_lt (Nat.mod_lt _ (pos256 k))]
 omega
theorem T252_step (k S : Nat) (hk : k < 31) : (digs 32 (T252 + S % 256 ^ k)).set k (S / 256 ^ k % 256) = digs 32 (T252 + S % 256 ^ (k + 1)) := by
 have hs := valD_set (digs 32 (T252 + S % 256 ^ k)) k (S / 256 ^ k % 256) (by rw [digs_len]; omega)
 rw [T252_get k S hk, valD_digs_lt (T252_lt k S (by omega))] at hs
 refine digs_of ((digs_dig _ _).set (Nat.mod_lt _ (by decide))) (by rw [List.length_set, digs_len]) ?_
 rw [Nat.pow_succ, Nat.mod_mul]
 omega
theorem ref_L17 (w : World) : Calls Tryz.prog 58 #[] w fun e w' => ∃ g, e = .returned (.slice (some ⟨g, 0, none⟩) 32 32) ∧ RelR w w' g (digs 32 LL) := by
 have hmk := make31 32 (by omega)
 simp only [Int.cast_ofNat_Int] at hmk
 have hR0 : RelR w (w.alloc (.cells (ints .i64 (digs 32 0)) 3)) w.heap.size (digs 32 0) := ⟨below1 _ _, Nat.le_refl _, alloc_row _ _ _⟩
 have c0 := hR0.at 31 (by rw [digs_len]; omega)
 have f0 := hR0.free 31
 have hR1 : RelR w (w.alloc (.cells ((ints .i64 (digs 32 0)).setIfInBounds 31 (.int .i64 16)) 3)) w.heap.size (digs 32 (T252 + sv 38 % 256 ^ 0)) := by
  have e := ints_set .i64 (digs 32 0) 31 16
  rw [T252_start] at e
  exact ⟨below1 _ _, Nat.le_refl _, by rw [← e]; exact heap_alloc_new _ _⟩
 clear hR0
 go_enter Tryz.func58, Tryz.ntmps58
 go_wp2_with fail
 generalize (w.alloc (.cells ((ints .i64 (digs 32 0)).setIfInBounds 31 (.int .i64 16)) 3)) = w1 at hR1 ⊢
 generalize hgo : w.heap.size = go at *
 clear c0 f0 hmk
 refine (small29 w1).mono ?_
 rintro e w2 ⟨v, rfl, g2, n, cap, rfl, hnc, hcap, hn1, hmin, hvl, hB2, hg2, hrow⟩
 have hn16 := relS_len (Nat.le_refl _) hmin
 have hgl := lt_of_heap hR1.2.2
 have hR2 : RelR w w2 go (digs 32 (T252 + sv 38 % 256 ^ 0)) := by
  have hs1 : w.heap.size ≤ w1.heap.size := hR1.1.size
  exact ⟨hR1.1.trans (hB2.mono hs1), hR1.2.1, block_below hB2 hgl hR1.2.2⟩
 have hne : g2 ≠ go := by omega
 have HVL : Hid (sv 38 < 256 ^ n) := hvl
 have HG : Hid (w.heap.size = go) := hgo
 clear hmin hvl hB2 hR1 hgl hg2 hgo
 go_wp2_with fail
 go_loopw [3] (fun i wr => ∃ k : Nat, k ≤ n ∧ i = .int .i64 k ∧ RelR w wr go (digs 32 (T252 + sv 38 % 256 ^ k)) ∧ IntsAt wr g2 0 (digs n (sv 38))) (fun i _ => n - (intOf i).toNat)
 case atStart => exact ⟨0, by omega, rfl, hR2, hrow⟩
 case round =>
  obtain ⟨k, hk, rfl, hR, hI⟩ := hrel
  clear hR2 hrow
  by_cases hlt : k < n
  ·have c1 := hR.at k (by rw [digs_len]; omega)
   rw [T252_get k _ (by omega)] at c1
   have f1 := hR.free k
   have c2 := hI k (by rw [digs_len]; omega)
   rw [Nat.zero_add, digs_get _ _ _ hlt] at c2
   have hst := T252_step k (sv 38) (by omega)
   have hdl : sv 38 / 256 ^ k % 256 < 256 := Nat.mod_lt _ (by decide)
   obtain ⟨d, hd⟩ : ∃ d, d = sv 38 / 256 ^ k % 256 := ⟨_, rfl⟩
   rw [← hd] at c2 hst hdl
   have HN : Hid (RelR w (wr.setCell ⟨go, k, none⟩ (.int .i64 (d : Int))).drew go (digs 32 (T252 + sv 38 % 256 ^ (k + 1))) ∧ IntsAt (wr.setCell ⟨go, k, none⟩ (.int .i64 (d : Int))).drew g2 0 (digs n (sv 38))) := by
    refine ⟨?_, fun i hi => ?_⟩
    ·rw [← hst]; exact (hR.set k d).drew
    ·show (wr.setCell ⟨go, k, none⟩ (.int .i64 (d : Int))).cell? _ = _
     rw [World.cell?_setCell_far _ _ _ _ (by show go ≠ g2; omega)]
     exact hI i hi
   clear hd hst hR hI
   go_wp2_with fail
   go_big_region
   go_wp2
   go_roundw
   case rel => exact ⟨k + 1, by omega, by go_num, HN.out.1, HN.out.2⟩
   case measure => simp [intOf]; omega
  ·obtain rfl : k = n := by omega
   rw [T252_end HVL.out] at hR
   go_wp2
   go_ret
   exact ⟨go, rfl, hR⟩
theorem own_irow {w w' : World} {v : Value} {n : Nat} {l : List Nat} (h : w'.ownsRow w.heap.size 3 1 v n (iv l)) : ∃ a cap, v = .slice a n cap ∧ n ≤ cap ∧ cap ≤ 9223372036854775807 ∧ IView w' a l ∧ l.length = n := by
 obtain ⟨a, cap, rfl, h1, h2⟩ := own_slice h
 obtain ⟨h3, h4⟩ := own_iview h
 exact ⟨a, cap, rfl, h1, h2, h3, h4⟩
theorem cut24 (a : Option Addr) (len cap : Nat) (bs : List Nat) (most : Nat) (w : World) (hlen : Hid (bs.length = len)) (hcap : len ≤ cap) (hcap2 : cap ≤ 9223372036854775807) (hl : most ≤ 64) (hd : Dig bs) (hv : View w a bs) :
  Calls Tryz.prog 56 #[.slice a len cap, .int .i64 most] w fun e w' => ∃ a' n c', e = .returned (.slice a' n c') ∧ Below w.heap.size w w' ∧ n ≤ c' ∧ c' ≤ 9223372036854775807 ∧ n ≤ 64 ∧ IView w' a' (bs.take most) ∧ (bs.take most).length = n := by
 by_cases h : most < len
 ·have cD := digits11 a most cap (bs.take most) w (by show _ = _; rw [List.length_take, hlen.out]; omega) (by omega) (by omega) (hd.take most) (hv.take most)
  clear hlen hv hd
  go_enter Tryz.func56, Tryz.ntmps56
  go_wp2_with fail
  refine cD.mono ?_
  rintro e w1 ⟨v, rfl, hB, hown⟩
  obtain ⟨a', c', rfl, h1, h2, h3, h4⟩ := own_irow hown
  go_wp2
  go_ret
  exact ⟨a', most, c', rfl, hB, h1, h2, by omega, h3, h4⟩
 ·have cD := digits11 a len cap bs w hlen hcap (by omega) hd hv
  have HT : Hid (bs.take most = bs) := List.take_of_length_le (by rw [hlen.out]; omega)
  rw [HT.out]
  clear hlen hv hd
  go_enter Tryz.func56, Tryz.ntmps56
  go_wp2_with fail
  refine cD.mono ?_
  rintro e w1 ⟨v, rfl, hB, hown⟩
  obtain ⟨a', c', rfl, h1, h2, h3, h4⟩ := own_irow hown
  go_wp2
  go_ret
  exact ⟨a', len, c', rfl, hB, h1, h2, by omega, h3, h4⟩
theorem valL : valD (digs 32 LL) = LL := valD_digs_lt (by decide)
theorem digs33_view {w w' : World} {g R : Nat} (h : RelR w w' g (digs 33 R)) : IView w' (some ⟨g, 0, none⟩) (digs 32 R) := fun _ => ⟨g, 0, rfl, fun i hi => by
 rw [digs_len] at hi
 rw [ints_row h.2.2 i (by rw [digs_len]; omega), digs_get _ _ _ (by omega), digs_get _ _ _ hi]⟩
def Ref32 (w w' : World) (v : Value) (R : Nat) : Prop := ∃ a cap, v = .slice a 32 cap ∧ 32 ≤ cap ∧ cap ≤ 9223372036854775807 ∧ Below w.heap.size w w' ∧ View w' a (digs 32 R)
theorem modBytes (a' : Option Addr) (n c' : Nat) (x : List Nat) (w : World) (hx : x.length = n) (hn : n ≤ 10000) (dx : Dig x) (hv : IView w a' x) (g : Nat) (w1 : World) (hL : RelR w w1 g (digs 32 LL)) :
  Calls Tryz.prog 57 #[.slice a' n c', .slice (some ⟨g, 0, none⟩) 32 32] w1 fun e w' => ∃ g', e = .returned (.slice (some ⟨g', 0, none⟩) 32 33) ∧ RelR w1 w' g' (digs 33 (valD x % LL)) :=
 mod23 a' n c' x (some ⟨g, 0, none⟩) 32 32 (digs 32 LL) LL w1 hx (digs_len _ _) hn (by omega) (hv.below hL.1) (fun _ => ⟨g, 0, rfl, ints_row hL.2.2⟩) dx (digs_dig _ _) valL LL_pos (by show _ < _; decide)
theorem bytesOf (g R : Nat) (w w1 : World) (hR : R < LL) (h : RelR w w1 g (digs 33 R)) :
  Calls Tryz.prog 48 #[.slice (some ⟨g, 0, none⟩) 32 33] w1 fun e w' => ∃ v, e = .returned v ∧ Ref32 w1 w' v R := by
 have c := bytes31 (some ⟨g, 0, none⟩) 32 33 (digs 32 R) w1 (digs_len _ _) (by omega) (digs_dig _ _) (digs33_view h)
 rw [valD_digs_lt (Nat.lt_trans hR (by decide))] at c
 refine c.mono ?_
 rintro e w' ⟨v, rfl, hB, hown⟩
 obtain ⟨a, cap, rfl, h1, h2⟩ := own_slice hown
 exact ⟨_, rfl, a, cap, rfl, h1, h2, hB, (own_bview hown).1⟩
theorem refReduce10 (a : Option Addr) (len cap : Nat) (bs : List Nat) (w : World) (hlen : Hid (bs.length = len)) (hcap : len ≤ cap) (hcap2 : cap ≤ 9223372036854775807) (hd : Dig bs) (hv : View w a bs) :
  Calls Tryz.prog 47 #[.slice a len cap] w fun e w' => ∃ v, e = .returned v ∧ Ref32 w w' v (valD (bs.take 64) % LL) := by
 have cC := cut24 a len cap bs 64 w hlen hcap hcap2 (by omega) hd hv
 simp only [Int.cast_ofNat_Int] at cC
 have hd64 := hd.take 64
 clear hlen hv hd
 obtain ⟨x, hxe⟩ : ∃ x, x = bs.take 64 := ⟨_, rfl⟩
 rw [← hxe] at cC hd64 ⊢
 clear hxe
 go_enter Tryz.func47, Tryz.ntmps47
 go_wp2_with fail
 refine cC.mono ?_
 rintro e w1 ⟨a', n, c', rfl, hB1, hnc, hc2, hn64, hvw, hxl⟩
 go_wp2_with fail
 refine (ref_L17 w1).mono ?_
 rintro e w2 ⟨g, rfl, hL⟩
 go_wp2_with fail
 refine (modBytes a' n c' x w1 hxl (by omega) hd64 hvw g w2 hL).mono ?_
 rintro e w3 ⟨g3, rfl, hR3⟩
 go_wp2_with fail
 refine (bytesOf g3 (valD x % LL) w2 w3 (Nat.mod_lt _ LL_pos) hR3).mono ?_
 rintro e w4 ⟨v, rfl, a4, cap4, rfl, h1, h2, hB4, hv4⟩
 have hB2 : Below w.heap.size w w2 := hB1.trans (hL.1.mono hB1.size)
 have hB3 : Below w.heap.size w w3 := hB2.trans (hR3.1.mono hB2.size)
 go_wp2
 go_ret
 exact ⟨_, rfl, a4, cap4, rfl, h1, h2, hB3.trans (hB4.mono hB3.size), hv4⟩
theorem refIs15 (a : Option Addr) (len cap : Nat) (bs : List Nat) (w : World) (hlen : Hid (bs.length = len)) (hcap : len ≤ cap) (hcap2 : cap ≤ 9223372036854775807) (hl : len ≤ 10000) (hd : Dig bs) (hv : View w a bs) :
  Calls Tryz.prog 26 #[.slice a len cap] w fun e w' => e = .returned (.bool (isL bs)) ∧ Below w.heap.size w w' := by
 by_cases h : len = 32
 ·subst h
  have cD := digits11 a 32 cap bs w hlen hcap (by omega) hd hv
  have HI : Hid (isL bs = decide (valD bs < LL)) := by
   show _ = _
   unfold isL
   rw [decide_eq_decide]
   exact ⟨fun h => h.2, fun h => ⟨hlen.out, h⟩⟩
  rw [HI.out]
  clear hlen hv
  go_enter Tryz.func26, Tryz.ntmps26
  go_wp2_with fail
  refine cD.mono ?_
  rintro e w1 ⟨v, rfl, hB1, hown⟩
  obtain ⟨a', c', rfl, h1, h2, h3, h4⟩ := own_irow hown
  go_wp2_with fail
  refine (ref_L17 w1).mono ?_
  rintro e w2 ⟨g, rfl, hL⟩
  have cL := less10 a' 32 c' bs (some ⟨g, 0, none⟩) 32 32 (digs 32 LL) w2 h4 (digs_len _ _) (by omega) (by omega) (h3.below hL.1) (fun _ => ⟨g, 0, rfl, ints_row hL.2.2⟩) hd (digs_dig _ _)
  rw [valL] at cL
  go_wp2_with fail
  refine cL.mono ?_
  rintro e w3 ⟨rfl, rfl⟩
  go_wp2
  go_ret
  exact ⟨rfl, hB1.trans (hL.1.mono hB1.size)⟩
 ·have HI : Hid (isL bs = false) := by
   show _ = _
   unfold isL
   rw [decide_eq_false_iff_not, hlen.out]
   exact fun hh => h hh.1
  rw [HI.out]
  have hb : ((len : Int) == 32) = false := by simp; omega
  clear hlen hv
  go_enter Tryz.func26, Tryz.ntmps26
  go_wp2
  go_ret
  exact ⟨rfl, Below.refl _ _⟩
end EN
end Go.Proofs.YtabgihjffjlfiaaGreatDoor
set_option linter.unusedVariables false
namespace Go.Proofs.YtabgihjffjlfiaaGreatDoor
open Go.RowKit Go.Sort Go.BigFrame EN
set_option maxRecDepth 100000
set_option maxHeartbeats 4000000
theorem refBts {w w' : World} {v : Value} {R : Nat} (h : Ref32 w w' v R) : Below w.heap.size w w' ∧ Bts (digs 32 R) v w' := by
 obtain ⟨a, cap, rfl, h1, h2, h3, h4⟩ := h
 exact ⟨h3, a, cap, by rw [digs_len], by rw [digs_len]; exact h1, h2, h4⟩
theorem rReduce {v : Value} {l : List Nat} (w : World) (h : Bts l v w) (hd : Dig l) (hl : l.length ≤ 64) : Ret 47 #[v] w (Bts (digs 32 (valD l % LL))) := by
 obtain ⟨a, cap, rfl, h1, h2, hv⟩ := h
 refine (refReduce10 a l.length cap l w rfl h1 h2 hd hv).mono ?_
 rintro e w' ⟨v, rfl, hR⟩
 rw [List.take_of_length_le hl] at hR
 exact ⟨_, rfl, (refBts hR).1, (refBts hR).2⟩
theorem rHash {x y z : List Nat} {v1 v2 v3 : Value} (w : World) (hx : Bts x v1 w) (hy : Bts y v2 w) (hz : Bts z v3 w) (dx : Dig x) (dy : Dig y) (dz : Dig z) (h0 : 0 < x.length) (hl : x.length + y.length + z.length ≤ 100000) :
  Ret 19 #[v1, v2, v3] w (Bts (digs 32 (numL (x ++ y ++ z)))) := by
 obtain ⟨a, ca, rfl, a1, a2, av⟩ := hx
 obtain ⟨b, cb, rfl, b1, b2, bv⟩ := hy
 obtain ⟨c, cc, rfl, c1, c2, cv⟩ := hz
 obtain ⟨lx, hlx⟩ : ∃ n, n = x.length := ⟨_, rfl⟩
 obtain ⟨ly, hly⟩ : ∃ n, n = y.length := ⟨_, rfl⟩
 obtain ⟨lz, hlz⟩ : ∃ n, n = z.length := ⟨_, rfl⟩
 rw [← hlx] at a1 h0 hl ⊢
 rw [← hly] at b1 hl ⊢
 rw [← hlz] at c1 hl ⊢
 have HX : Hid (x.length = lx) := hlx.symm
 have HY : Hid (y.length = ly) := hly.symm
 have HZ : Hid (z.length = lz) := hlz.symm
 clear hlx hly hlz
 unfold Ret
 go_enter Tryz.func19, Tryz.ntmps19
 go_wp2_with (at_builtin; first
  | (refine wpList_append_any _ rfl (.tmp 8) (.tmp 9) rfl (.slice none 0 0) 0 [] rfl a lx ca x rfl w.heap.size (World.ownsRow_nil _ _ _ _) HX.out av (Nat.le_refl _) (by omega) ?_; intro v2 w2 hown2 hB2; rw [Nat.zero_add, List.nil_append] at hown2; have bv2 := bv.below hB2)
  | (refine wpList_append_any _ rfl (.tmp 11) (.tmp 12) rfl v2 lx x rfl b ly cb y rfl w.heap.size hown2 HY.out bv2 hB2.size (by omega) ?_; intro v3 w3 hown3 hB3; have hB03 := hB2.trans hB3; have cv3 := cv.below hB03)
  | (refine wpList_append_any _ rfl (.tmp 14) (.tmp 15) rfl v3 (lx + ly) (x ++ y) rfl c lz cc z rfl w.heap.size hown3 HZ.out cv3 hB03.size (by omega) ?_; intro v4 w4 hown4 hB4))
 have hB04 := hB03.trans hB4
 have hO4 := own_C (by rw [List.length_append, List.length_append, HX.out, HY.out, HZ.out]) (by omega) hown4
 have hd := (dx.app dy).app dz
 have hll : (x ++ y ++ z).length ≤ 100000 := by rw [List.length_append, List.length_append, HX.out, HY.out, HZ.out]; exact hl
 clear hown2 hown3 hown4
 refine (rSum512 w4 hO4.bts hd hll).mono ?_
 rintro e w5 ⟨v5, rfl, hB5, hO5⟩
 have hB05 := hB04.trans (hB5.mono hB04.size)
 go_wp2_with fail
 refine (rReduce w5 hO5.bts (SH_dig _) (by rw [SH_len]; omega)).mono ?_
 rintro e w6 ⟨v6, rfl, hB6, hO6⟩
 have hB06 := hB05.trans (hB6.mono hB05.size)
 go_wp2
 go_ret
 exact ⟨_, rfl, hB06, hO6⟩
end Go.Proofs.YtabgihjffjlfiaaGreatDoor
set_option linter.unusedVariables false
namespace Go.Proofs.YtabgihjffjlfiaaGreatDoor
open Go.RowKit Go.Sort Go.BigFrame EN
set_option maxRecDepth 100000
set_option maxHeartbeats 2000000
theorem cHalves {v : Value} {l : List Nat} (w : World) (h : Bts l v w) (hl : l.length = 64) : Ret 31 #[v] w (Tup2 (Bts (l.take 32)) (Bts (l.drop 32))) := by
 obtain ⟨a, cap, rfl, h1, h2, hv⟩ := h
 obtain ⟨g, off, rfl, hb⟩ := hv (by omega)
 rw [hl] at h1 ⊢
 refine (halves24 g off cap w h1 h2).mono ?_
 rintro e w' ⟨rfl, hB⟩
 have hv' := hv.below hB
 refine ⟨_, rfl, hB, _, _, rfl, ⟨_, 32, by rw [List.length_take]; congr 1; omega, by rw [List.length_take]; omega, by decide, fun _ => ⟨g, off, rfl, fun i hi => ?_⟩⟩, ⟨_, 32, by rw [List.length_drop, hl], by rw [List.length_drop]; omega, by decide, fun _ => ⟨g, off + 32, rfl, fun i hi => ?_⟩⟩⟩
 ·obtain ⟨g', off', e, hb'⟩ := hv' (by omega)
  injection e with e; injection e with e1 e2; subst e1 e2
  rw [List.length_take] at hi
  rw [hb' i (by omega), List.getD_eq_getElem?_getD, List.getD_eq_getElem?_getD, List.getElem?_take_of_lt (by omega)]
 ·obtain ⟨g', off', e, hb'⟩ := hv' (by omega)
  injection e with e; injection e with e1 e2; subst e1 e2
  rw [List.length_drop] at hi
  rw [show off + 32 + i = off + (32 + i) by omega, hb' (32 + i) (by omega), List.getD_eq_getElem?_getD, List.getD_eq_getElem?_getD, List.getElem?_drop]
section
variable {ρ : Operand → Value} {o : Oper} {x y z t : Operand} {w : World}
theorem dLenB {l : List Nat} {n : Nat} (hn : l.length = n) (ho : o.op = .call { callee := .builtin .len, args := #[x], argTypes := #[22] }) (h : Bts l (ρ x) w) : Does Tryz.prog o ρ w (fun v w' => Below w.heap.size w w' ∧ Is (.int .i64 (n : Int)) v w') := by
 obtain ⟨a, c, h1, _⟩ := h
 rw [hn] at h1
 exact Does.run _ (run_lenO ho h1) rfl
theorem run_neqN {n k : Nat} (h : n ≠ k) (ho : o.op = .binOp .neq 3 x y 3) (hx : ρ x = .int .i64 (n : Int)) (hy : ρ y = .int .i64 (k : Int)) : (execOp ρ o).run Tryz.prog w = .ok (.value (.bool true)) w := by
 have h2 : (n : Int) ≠ (k : Int) := by omega
 simp [execOp, ho, hx, hy, go_sem, h2]
theorem dParts3 {a b c : List Nat} (ho : o.op = .buildSlice 67 3 #[(0, x), (1, y), (2, z)]) (hx : Bts a (ρ x) w) (hy : Bts b (ρ y) w) (hz : Bts c (ρ z) w) : Does Tryz.prog o ρ w (fun v w' => Below w.heap.size w w' ∧ Parts 3 a b c v w') := by
 refine Does.new (.slice (some ⟨w.heap.size, 0, none⟩) 3 3) (.cells #[ρ x, ρ y, ρ z] 22) ?_ (parts3 hx hy hz)
 obtain ⟨a1, c1, e1⟩ := hx.form
 obtain ⟨a2, c2, e2⟩ := hy.form
 obtain ⟨a3, c3, e3⟩ := hz.form
 simp only [execOp, ho, List.map_toArray, List.map, e1, e2, e3]; kernel_rfl
end
theorem cIsB {v : Value} {l : List Nat} {b : Bool} (hb : isL l = b) (w : World) (hT : TabA w) (h : Bts l v w) (hd : Dig l) : Ret 32 #[v] w (Is (.bool b)) := by
 rw [← hb]; exact cIs w hT h hd
theorem cEqualB {v1 v2 : Value} {x y : List Nat} {b : Bool} (hb : decide (x = y) = b) (w : World) (hx : Bts x v1 w) (hy : Bts y v2 w) (dx : Dig x) (dy : Dig y) : Ret 37 #[v1, v2] w (Is (.bool b)) := by
 rw [← hb]; exact cEqual w hx hy dx dy
theorem cNumber3 {x y z : List Nat} {v : Value} (w : World) (hT : TabA w) (h : Parts 3 x y z v w) (dx : Dig x) (dy : Dig y) (dz : Dig z) (h0 : 0 < x.length) (hl : x.length + y.length + z.length ≤ 100000) : Ret 13 #[v] w (Own w.heap.size (digs 32 (numL (x ++ y ++ z)))) := by
 have := numberP w hT (by omega) h (by rw [cat3, List.length_append, List.length_append]; omega) (by rw [cat3, List.length_append, List.length_append]; omega) dx dy dz
 rwa [cat3] at this
theorem ownLo' {f : FuncId} {args : Array Value} {w : World} {l : List Nat} {lo : Nat} (hlo : lo ≤ w.heap.size) (h : Ret f args w (Own w.heap.size l)) : Ret f args w (Own lo l) :=
 h.mono fun e w' ⟨v, h1, h2, g, h3, h4, h5⟩ => ⟨v, h1, h2, g, h3, by omega, h5⟩
theorem few06 (a : Option Addr) (len cap most : Nat) (w : World) (hcap : len ≤ cap) (hcap2 : cap ≤ 9223372036854775807) (hm : most ≤ 1000) :
  Calls Tryz.prog 7 #[.slice a len cap, .int .i64 (most : Int)] w fun e w' => e = .returned (.slice a (min len most) cap) ∧ w = w' := by
 by_cases h : most < len
 ·rw [show min len most = most by omega]
  go_enter Tryz.func7, Tryz.ntmps7
  go_wp2
  go_ret
  exact ⟨rfl, rfl⟩
 ·rw [show min len most = len by omega]
  go_enter Tryz.func7, Tryz.ntmps7
  go_wp2
  go_ret
  exact ⟨rfl, rfl⟩
theorem cFew {v : Value} {l : List Nat} (most : Nat) (w : World) (h : Bts l v w) (hm : most ≤ 1000) : Ret 7 #[v, .int .i64 (most : Int)] w (Bts (l.take most)) := by
 obtain ⟨a, cap, rfl, h1, h2, hv⟩ := h
 refine (few06 a l.length cap most w h1 h2 hm).mono fun e w' ⟨he, hw⟩ => ?_
 subst hw
 refine ⟨_, he, Below.refl _ _, a, cap, ?_, ?_, h2, hv.take most⟩
 ·rw [List.length_take, Nat.min_comm]
 ·rw [List.length_take]; omega
def SEED (l : List Nat) : List Nat := l.take 32 ++ List.replicate (32 - l.length) 0
end Go.Proofs.YtabgihjffjlfiaaGreatDoor
set_option linter.unusedVariables false
namespace Go.Proofs.YtabgihjffjlfiaaGreatDoor
open Go.RowKit Go.Sort Go.BigFrame
set_option maxRecDepth 100000
set_option maxHeartbeats 2000000
def OwnI (lo : Nat) (l : List Nat) (v : Value) (w : World) : Prop :=
 ∃ g cap cur, v = .slice (some ⟨g, 0, none⟩) l.length cap ∧ lo ≤ g ∧ w.heap[g]? = some (.cells cur 3 (0, 0)) ∧ l.length ≤ cap ∧ cap ≤ 9223372036854775807 ∧ ∀ i, i < l.length → cur[i]? = some (.int .i64 ((l.getD i 0 : Nat) : Int))
theorem OwnI.stb (lo : Nat) (l : List Nat) : Stb (OwnI lo l) := fun _ _ _ hb ⟨g, c, cur, h1, h2, h3, h4⟩ => ⟨g, c, cur, h1, h2, block_below hb (lt_of_heap h3) h3, h4⟩
theorem own_I {w : World} {lo n : Nat} {v : Value} {l : List Nat} (hn : l.length = n) (h0 : 0 < n) (h : w.ownsRow lo 3 1 v n (iv l)) : OwnI lo l v w := by
 obtain ⟨_, h | ⟨g, cap, cur, h1, h2, h3, h4, h5, h6, h7⟩⟩ := h
 ·omega
 ·subst hn
  refine ⟨g, cap, cur, h1, h2, h3, h4, by unfold maxLen at h5; omega, fun i hi => ?_⟩
  have := congrArg (fun x : List Value => x[i]?) h7
  rw [List.getElem?_take_of_lt (by omega), Array.getElem?_toList] at this
  rw [this]
  simp [iv, hi]
theorem intsAt_cur {w : World} {g : Nat} {cur : Array Value} {t : Nat} {fr : Nat × Nat} {l : List Nat} (h : w.heap[g]? = some (.cells cur t fr)) (hc : ∀ i, i < l.length → cur[i]? = some (.int .i64 ((l.getD i 0 : Nat) : Int))) : IntsAt w g 0 l := fun i hi => by
 rw [Nat.zero_add, cell_of_row w g i _ t _ h]; exact hc i hi
theorem cur_setI {w : World} {g : Nat} {cur : Array Value} {l : List Nat} (h : w.heap[g]? = some (.cells cur 3 (0, 0))) (hc : ∀ i, i < l.length → cur[i]? = some (.int .i64 ((l.getD i 0 : Nat) : Int))) (k x : Nat) (hk : k < l.length) :
  (w.setCell ⟨g, k, none⟩ (.int .i64 (x : Int))).heap[g]? = some (.cells (cur.setIfInBounds k (.int .i64 (x : Int))) 3 (0, 0)) ∧ ∀ i, i < (l.set k x).length → (cur.setIfInBounds k (.int .i64 (x : Int)))[i]? = some (.int .i64 (((l.set k x).getD i 0 : Nat) : Int)) := by
 refine ⟨heap_setCell_same w g k _ 3 _ h, fun i hi => ?_⟩
 rw [List.length_set] at hi
 have hks : k < cur.size := (Array.getElem?_eq_some_iff.1 (hc k hk)).1
 rw [getD_set2 _ _ _ _ hk]
 by_cases e : i = k
 ·subst e
  rw [Array.getElem?_setIfInBounds_self_of_lt hks, if_pos rfl]
 ·rw [Array.getElem?_setIfInBounds_ne (Ne.symm e), if_neg e]; exact hc i hi
theorem rDigitsOwn {v x : Value} {l : List Nat} {lo : Nat} (w : World) (hlo : lo ≤ w.heap.size) (hv : v = x) (h : Bts l x w) (hd : Dig l) (hl : l.length = 32) : Ret 59 #[v] w (OwnI lo l) := by
 subst hv
 obtain ⟨a, cap, rfl, h1, h2, hv⟩ := h
 refine (digits11 a l.length cap l w rfl h1 (by omega) hd hv).mono fun e w' ⟨v, he, hB, hown⟩ => ⟨v, he, hB, ?_⟩
 obtain ⟨g, c, cur, k1, k2, k3⟩ := own_I rfl (by omega) hown
 exact ⟨g, c, cur, k1, by omega, k3⟩
theorem rP (w : World) : Ret 61 #[] w (DRow (digs 32 pp)) := (p12 w).mono fun e w' ⟨g, he, hR⟩ => ⟨_, he, hR.1, drow_of hR (digs_len _ _)⟩
theorem rLess {x y : List Nat} {v1 v2 : Value} {b : Bool} (hb : decide (valD x < valD y) = b) (w : World) (h1 : DRow x v1 w) (h2 : DRow y v2 w) (hx : x.length ≤ 1000) (hy : y.length ≤ 1000) (dx : Dig x) (dy : Dig y) : Ret 60 #[v1, v2] w (Is (.bool b)) := by
 obtain ⟨a, ca, rfl, _, _, ha⟩ := h1
 obtain ⟨c, cb, rfl, _, _, hc⟩ := h2
 refine (less10 a x.length ca x c y.length cb y w rfl rfl (by omega) (by omega) ha hc dx dy).mono fun e w' ⟨he, hw⟩ => ?_
 subst hw
 exact ⟨_, he, Below.refl _ _, by rw [← hb]; rfl⟩
theorem drow_rw {L : List Nat} {x : Fe} {v : Value} {w : World} (hL : L = digs 32 x.val) (h : DRow L v w) : Rw x v w := by
 subst hL
 obtain ⟨a, c, h1, h2, h3, h4⟩ := h
 rw [digs_len] at h1 h2
 exact ⟨a, c, h1, h2, h3, h4⟩
theorem valPP : valD (digs 32 pp) = pp := by decide
theorem rOfErrI {y : Fe} {v v2 : Value} {bb : Bool} (hno : ¬ ∃ p : Pt, p.y = y ∧ decide (p.x.val % 2 = 1) = bb) (w : World) (hy : Rw y v w) (h2 : v2 = .bool bb) : Ret 53 #[v, v2] w (Tup2 (Is (.agg #[.slice none 0 0, .slice none 0 0])) (Is (.bool false))) := by
 subst h2; exact rOfErr hno w hy
theorem rOfPtI {p : Pt} {v v2 : Value} {bb : Bool} (hb : decide (p.x.val % 2 = 1) = bb) (w : World) (hy : Rw p.y v w) (h2 : v2 = .bool bb) : Ret 53 #[v, v2] w (Tup2 (RPt p.x p.y) (Is (.bool true))) := by
 subst h2; exact rOfPt hb w hy
theorem rReadLen (ad : Option Addr) (len cap : Nat) (w : World) (h : len ≠ 32) : Ret 25 #[.slice ad len cap] w (Tup2 (Is (.agg #[.slice none 0 0, .slice none 0 0])) (Is (.bool false))) := by
 unfold Ret
 have hO0 : Below w.heap.size w w := Below.refl _ _
 go_enter Tryz.func25, Tryz.ntmps25
 refine wp_seq_k fun K1 hK1 => ?_
 refine wp_plain_inv 2 (specs [Box w.heap.size (#[.slice none 0 0, .slice none 0 0]) 45, Is (.bool false)]) (specs_stb ⟨Box.stb _ _ _, Is.stb _, trivial⟩) (by kernel_rfl) ?_ ?_
 ·refine ⟨fun a w hB hfr hdep => Step.plain rfl (dAlloc35 hB.size rfl),
   fun a w hB hfr hdep => Step.plain rfl (dAssign (R := Is (.bool false)) rfl rfl), trivial⟩
 intro u1 hb1
 simp only [List.take, List.drop, FinAll, Act.put, lA, lS, lZ]
 rintro _ ⟨g2_1, rfl, l2_1, m2_1⟩ _ rfl
 have hO1 := (hO0).trans (hb1.mono (hO0).size)
 have lwm2_1 := Nat.le_trans (hO0).size l2_1
 refine hK1 _ _ ?_
 clear hK1 K1
 refine wp_seq_k fun KO1 hKO1 => ?_
 refine wp_seq_k fun K2 hK2 => ?_
 refine wp_plain_inv 3 (specs [Is (.slice ad len cap), Is (.int .i64 (len : Int)), Is (.bool true)]) (specs_stb ⟨Is.stb _, Is.stb _, Is.stb _, trivial⟩) (by kernel_rfl) ?_ ?_
 ·refine ⟨fun a w hB hfr hdep => Step.plain rfl (dMove (R := Is (.slice ad len cap)) rfl (hfr 0 (by kernel_rfl))),
   fun a w hB hfr hdep => Step.plain rfl (Does.run _ (run_lenO rfl (hdep 0 7 (by kernel_rfl))) rfl),
   fun a w hB hfr hdep => Step.plain rfl (Does.run _ (run_neq32 h rfl (hdep 1 8 (by kernel_rfl)) rfl) rfl), trivial⟩
 intro u2 hb2
 simp only [List.take, List.drop, FinAll, Act.put, lA, lS, lZ]
 rintro _ rfl _ rfl _ rfl
 have hO2 := (hO1).trans (hb2.mono (hO1).size)
 have m2_1__2 := block_below hb2 (lt_of_heap m2_1) m2_1
 refine hK2 _ _ ?_
 clear hK2 K2
 refine wp_cond_true rfl ?_
 refine wp_seq_k fun K3 hK3 => ?_
 refine wp_plain_inv 1 (specs [Is (.agg #[.slice none 0 0, .slice none 0 0])]) (specs_stb ⟨Is.stb _, trivial⟩) (by kernel_rfl) ?_ ?_
 ·refine ⟨fun a w hB hfr hdep => Step.plain rfl (Does.run _ (bu35z rfl) rfl), trivial⟩
 intro u3 hb3
 simp only [List.take, List.drop, FinAll, Act.put, lA, lS, lZ]
 rintro _ rfl
 have om2_1__2 := block_below hb3 (lt_of_heap m2_1__2) m2_1__2
 refine wpList_store_row rfl 45 (.tmp 2) (.tmp 10) rfl _ (#[.slice none 0 0, .slice none 0 0]) rfl rfl 45 _ om2_1__2 info35 rfl (by simp [Value.oneCell']) ?_
 refine wpList_assign rfl rfl rfl ?_
 simp only [Act.put, Act.eval, lA, lS, lZ]
 have n2_3 := setRow_heap _ _ _ (#[.slice none 0 0, .slice none 0 0]) _ _ om2_1__2
 have hO3 := setRow_below (hO2.trans (hb3.mono (hO2).size)) lwm2_1 (#[.slice none 0 0, .slice none 0 0])
 refine hK3 _ _ ?_
 clear hK3 K3
 refine wp_ret ?_
 simp only [Exit.then]
 refine bodyPost_ret (v := .tuple #[.agg (#[.slice none 0 0, .slice none 0 0]), .bool false]) ?_ rfl ⟨_, rfl, hO3, ⟨_, _, rfl, rfl, rfl⟩⟩
 exact results_cell_tmp Tryz.results25 _ _ _ 45 _ (0, 0) _ _ rfl rfl n2_3 Tryz.underlying45 rfl (by first | exact info26 | exact info29 | exact info35 | (rw [(Pt4.cells (by assumption)).1]; exact info29) | (rw [cellsP_size (by assumption)]; exact info29))
theorem rReadA (w : World) {l : List Nat} {gx off cap c d : Nat} {bb : Bool} (hb : Bts l (.slice (some ⟨gx, off, none⟩) 32 cap) w) (hl : l.length = 32) (hd : Dig l) (hcc : Hid (c = l.getD 31 0)) (hc256 : c < 256) (hge : decide ((128 : Int) ≤ (c : Int)) = bb) (hrm : Int.tmod (c : Int) 128 = (d : Int)) (hl1 : (l.set 31 d).length = 32) (hd1 : Dig (l.set 31 d)) (hA : decide (valD (l.set 31 d) < valD (digs 32 pp)) = false) : Ret 25 #[.slice (some ⟨gx, off, none⟩) 32 cap] w (Tup2 (Is (.agg #[.slice none 0 0, .slice none 0 0])) (Is (.bool false))) := by
 have h32 : ((32 : Int) != 32) = false := rfl
 unfold Ret
 have hO0 : Below w.heap.size w w := Below.refl _ _
 go_enter Tryz.func25, Tryz.ntmps25
 refine wp_seq_k fun K1 hK1 => ?_
 refine wp_plain_inv 2 (specs [Box w.heap.size (#[.slice none 0 0, .slice none 0 0]) 45, Is (.bool false)]) (specs_stb ⟨Box.stb _ _ _, Is.stb _, trivial⟩) (by kernel_rfl) ?_ ?_
 ·refine ⟨fun a w hB hfr hdep => Step.plain rfl (dAlloc35 hB.size rfl),
   fun a w hB hfr hdep => Step.plain rfl (dAssign (R := Is (.bool false)) rfl rfl), trivial⟩
 intro u1 hb1
 simp only [List.take, List.drop, FinAll, Act.put, lA, lS, lZ]
 rintro _ ⟨g2_1, rfl, l2_1, m2_1⟩ _ rfl
 have hO1 := (hO0).trans (hb1.mono (hO0).size)
 have lwm2_1 := Nat.le_trans (hO0).size l2_1
 refine hK1 _ _ ?_
 clear hK1 K1
 refine wp_seq_k fun KO1 hKO1 => ?_
 refine wp_seq_k fun K2 hK2 => ?_
 refine wp_plain_inv 3 (specs [Is (.slice (some ⟨gx, off, none⟩) 32 cap), Is (.int .i64 32), Is (.bool false)]) (specs_stb ⟨Is.stb _, Is.stb _, Is.stb _, trivial⟩) (by kernel_rfl) ?_ ?_
 ·refine ⟨fun a w hB hfr hdep => Step.plain rfl (dMove (R := Is (.slice (some ⟨gx, off, none⟩) 32 cap)) rfl (hfr 0 (by kernel_rfl))),
   fun a w hB hfr hdep => Step.plain rfl (Does.run _ (run_lenO rfl (hdep 0 7 (by kernel_rfl))) rfl),
   fun a w hB hfr hdep => Step.plain rfl (Does.run _ (run_binO rfl (hdep 1 8 (by kernel_rfl)) rfl (by kernel_rfl)) rfl), trivial⟩
 intro u2 hb2
 simp only [List.take, List.drop, FinAll, Act.put, lA, lS, lZ]
 rintro _ rfl _ rfl _ rfl
 have hO2 := (hO1).trans (hb2.mono (hO1).size)
 have m2_1__2 := block_below hb2 (lt_of_heap m2_1) m2_1
 refine hK2 _ _ ?_
 clear hK2 K2
 refine wp_cond_false rfl ?_
 refine wp_skip ?_
 refine hKO1 _ _ ?_
 clear hKO1 KO1
 refine wp_seq_k fun K3 hK3 => ?_
 refine wp_plain_inv 3 (specs [Is (.slice (some ⟨gx, off, none⟩) 32 cap), OwnI u2.heap.size l, OwnI u2.heap.size l]) (specs_stb ⟨Is.stb _, OwnI.stb _ _, OwnI.stb _ _, trivial⟩) (by kernel_rfl) ?_ ?_
 ·refine ⟨fun a w hB hfr hdep => Step.plain rfl (dMove (R := Is (.slice (some ⟨gx, off, none⟩) 32 cap)) rfl (hfr 0 (by kernel_rfl))),
   fun a w hB hfr hdep => Step.plain rfl (Does.call 59 #[(a.eval (.tmp 11))] (by kernel_rfl) (rDigitsOwn w hB.size (hdep 0 11 (by kernel_rfl)) (Bts.stb _ _ _ _ hB (Bts.stb _ _ _ _ hO2 hb)) hd hl)),
   fun a w hB hfr hdep => Step.plain rfl (dAssign (R := OwnI u2.heap.size l) rfl (hdep 1 12 (by kernel_rfl))), trivial⟩
 intro u3 hb3
 simp only [List.take, List.drop, FinAll, Act.put, lA, lS, lZ]
 rintro _ rfl v12_3 h12_3 v4_3 h4_3
 have hO3 := (hO2).trans (hb3.mono (hO2).size)
 have m2_1__3 := block_below hb3 (lt_of_heap m2_1__2) m2_1__2
 refine hK3 _ _ ?_
 clear hK3 K3
 obtain ⟨g4, cap4, cur4, hv4, hl4, hrow4, hc4, hc4', hcur⟩ := h4_3
 rw [hl] at hv4 hcur hc4
 subst hv4
 have c31 := cell_of_row _ g4 31 _ _ _ hrow4
 rw [hcur 31 (by omega), ← hcc.out] at c31
 have f31 := frozen_of_row _ g4 31 _ _ hrow4
 have hst := cur_setI hrow4 (by rw [hl]; exact hcur) 31 d (by omega)
 have hOs := (hO3).setCell (p := ⟨g4, 31, none⟩) (by show _ ≤ g4; have := hO1.size; have := hb2.size; omega) (.int .i64 (d : Int))
 have nz : g2_1 ≠ g4 := by have := hb2.size; have := lt_of_heap m2_1; omega
 have hz2 := (heap_setCell_other u3 ⟨g4, 31, none⟩ g2_1 (.int .i64 (d : Int)) nz).trans m2_1__3
 have HOS : Hid _ := hOs
 have HZ2 : Hid _ := hz2
 have HST : Hid _ := hst
 clear hOs hz2 hst
 refine wp_seq_k fun KB hKB => ?_
 have HKB : Hid _ := hKB
 clear hKB
 go_wp2
 refine HKB.out _ _ ?_
 clear HKB KB
 refine wp_seq_k fun KC hKC => ?_
 have HKC : Hid _ := hKC
 clear hKC
 go_wp2
 refine HKC.out _ _ ?_
 clear HKC KC
 have hO := HOS.out
 have hz := HZ2.out
 have hb9 : DRow (l.set 31 d) (.slice (some ⟨g4, 0, none⟩) 32 cap4) (u3.setCell ⟨g4, 31, none⟩ (.int .i64 (d : Int))) := ⟨_, _, by rw [hl1], by rw [hl1]; exact hc4, hc4', fun _ => ⟨g4, 0, rfl, intsAt_cur HST.out.1 HST.out.2⟩⟩
 clear HOS HZ2 HST c31 f31
 generalize u3.setCell ⟨g4, 31, none⟩ (.int .i64 (d : Int)) = uu at hO hz hb9 ⊢
 refine wp_seq_k fun K4 hK4 => ?_
 refine wp_plain_inv 4 (specs [DRow (l.set 31 d), DRow (digs 32 pp), Is (.bool false), Is (.bool false)]) (specs_stb ⟨DRow.stb _, DRow.stb _, Is.stb _, Is.stb _, trivial⟩) (by kernel_rfl) ?_ ?_
 ·refine ⟨fun a w hB hfr hdep => Step.plain rfl (dMove (R := DRow (l.set 31 d)) rfl (use (hfr 4 (by kernel_rfl)) ((DRow.stb _) _ _ _ hB hb9))),
   fun a w hB hfr hdep => Step.plain rfl (Does.call 61 #[] (by kernel_rfl) (rP w)),
   fun a w hB hfr hdep => Step.plain rfl (Does.call 60 #[(a.eval (.tmp 23)), (a.eval (.tmp 24))] (by kernel_rfl) (rLess hA w (hdep 0 23 (by kernel_rfl)) (hdep 1 24 (by kernel_rfl)) (by rw [hl1]; decide) (by rw [digs_len]; decide) hd1 (digs_dig _ _))),
   fun a w hB hfr hdep => Step.plain rfl (dAssign (R := Is (.bool false)) rfl (hdep 2 25 (by kernel_rfl))), trivial⟩
 intro u4 hb4
 simp only [List.take, List.drop, FinAll, Act.put, lA, lS, lZ]
 rintro v23_4 h23_4 v24_4 h24_4 _ rfl _ rfl
 have hO4 := (hO).trans (hb4.mono (hO).size)
 have hz__4 := block_below hb4 (lt_of_heap hz) hz
 refine hK4 _ _ ?_
 clear hK4 K4
 refine wp_seq_k fun KO7 hKO7 => ?_
 refine wp_seq_k fun K5 hK5 => ?_
 refine wp_plain_inv 2 (specs [Is (.bool false), Is (.bool true)]) (specs_stb ⟨Is.stb _, Is.stb _, trivial⟩) (by kernel_rfl) ?_ ?_
 ·refine ⟨fun a w hB hfr hdep => Step.plain rfl (dMove (R := Is (.bool false)) rfl (hfr 6 (by kernel_rfl))),
   fun a w hB hfr hdep => Step.plain rfl (Does.run _ (run_notO rfl (hdep 0 26 (by kernel_rfl))) rfl), trivial⟩
 intro u5 hb5
 simp only [List.take, List.drop, FinAll, Act.put, lA, lS, lZ]
 rintro _ rfl _ rfl
 have hO5 := (hO4).trans (hb5.mono (hO4).size)
 have hz__5 := block_below hb5 (lt_of_heap hz__4) hz__4
 refine hK5 _ _ ?_
 clear hK5 K5
 refine wp_cond_true rfl ?_
 refine wp_seq_k fun K6 hK6 => ?_
 refine wp_plain_inv 1 (specs [Is (.agg #[.slice none 0 0, .slice none 0 0])]) (specs_stb ⟨Is.stb _, trivial⟩) (by kernel_rfl) ?_ ?_
 ·refine ⟨fun a w hB hfr hdep => Step.plain rfl (Does.run _ (bu35z rfl) rfl), trivial⟩
 intro u6 hb6
 simp only [List.take, List.drop, FinAll, Act.put, lA, lS, lZ]
 rintro _ rfl
 have ohz__5 := block_below hb6 (lt_of_heap hz__5) hz__5
 refine wpList_store_row rfl 45 (.tmp 2) (.tmp 28) rfl _ (#[.slice none 0 0, .slice none 0 0]) rfl rfl 45 _ ohz__5 info35 rfl (by simp [Value.oneCell']) ?_
 refine wpList_assign rfl rfl rfl ?_
 simp only [Act.put, Act.eval, lA, lS, lZ]
 have n2_6 := setRow_heap _ _ _ (#[.slice none 0 0, .slice none 0 0]) _ _ ohz__5
 have hO6 := setRow_below (hO5.trans (hb6.mono (hO5).size)) lwm2_1 (#[.slice none 0 0, .slice none 0 0])
 refine hK6 _ _ ?_
 clear hK6 K6
 refine wp_ret ?_
 simp only [Exit.then]
 refine bodyPost_ret (v := .tuple #[.agg (#[.slice none 0 0, .slice none 0 0]), .bool false]) ?_ rfl ⟨_, rfl, hO6, ⟨_, _, rfl, rfl, rfl⟩⟩
 exact results_cell_tmp Tryz.results25 _ _ _ 45 _ (0, 0) _ _ rfl rfl n2_6 Tryz.underlying45 rfl (by first | exact info26 | exact info29 | exact info35 | (rw [(Pt4.cells (by assumption)).1]; exact info29) | (rw [cellsP_size (by assumption)]; exact info29))
theorem rReadE (w : World) {l : List Nat} {gx off cap c d : Nat} {bb : Bool} (hb : Bts l (.slice (some ⟨gx, off, none⟩) 32 cap) w) (hl : l.length = 32) (hd : Dig l) (hcc : Hid (c = l.getD 31 0)) (hc256 : c < 256) (hge : decide ((128 : Int) ≤ (c : Int)) = bb) (hrm : Int.tmod (c : Int) 128 = (d : Int)) (hl1 : (l.set 31 d).length = 32) (hd1 : Dig (l.set 31 d)) {y : Fe} (hA : decide (valD (l.set 31 d) < valD (digs 32 pp)) = true) (hL : l.set 31 d = digs 32 y.val) (hno : ¬ ∃ p : Pt, p.y = y ∧ decide (p.x.val % 2 = 1) = bb) : Ret 25 #[.slice (some ⟨gx, off, none⟩) 32 cap] w (Tup2 (Is (.agg #[.slice none 0 0, .slice none 0 0])) (Is (.bool false))) := by
 have h32 : ((32 : Int) != 32) = false := rfl
 unfold Ret
 have hO0 : Below w.heap.size w w := Below.refl _ _
 go_enter Tryz.func25, Tryz.ntmps25
 refine wp_seq_k fun K1 hK1 => ?_
 refine wp_plain_inv 2 (specs [Box w.heap.size (#[.slice none 0 0, .slice none 0 0]) 45, Is (.bool false)]) (specs_stb ⟨Box.stb _ _ _, Is.stb _, trivial⟩) (by kernel_rfl) ?_ ?_
 ·refine ⟨fun a w hB hfr hdep => Step.plain rfl (dAlloc35 hB.size rfl),
   fun a w hB hfr hdep => Step.plain rfl (dAssign (R := Is (.bool false)) rfl rfl), trivial⟩
 intro u1 hb1
 simp only [List.take, List.drop, FinAll, Act.put, lA, lS, lZ]
 rintro _ ⟨g2_1, rfl, l2_1, m2_1⟩ _ rfl
 have hO1 := (hO0).trans (hb1.mono (hO0).size)
 have lwm2_1 := Nat.le_trans (hO0).size l2_1
 refine hK1 _ _ ?_
 clear hK1 K1
 refine wp_seq_k fun KO1 hKO1 => ?_
 refine wp_seq_k fun K2 hK2 => ?_
 refine wp_plain_inv 3 (specs [Is (.slice (some ⟨gx, off, none⟩) 32 cap), Is (.int .i64 32), Is (.bool false)]) (specs_stb ⟨Is.stb _, Is.stb _, Is.stb _, trivial⟩) (by kernel_rfl) ?_ ?_
 ·refine ⟨fun a w hB hfr hdep => Step.plain rfl (dMove (R := Is (.slice (some ⟨gx, off, none⟩) 32 cap)) rfl (hfr 0 (by kernel_rfl))),
   fun a w hB hfr hdep => Step.plain rfl (Does.run _ (run_lenO rfl (hdep 0 7 (by kernel_rfl))) rfl),
   fun a w hB hfr hdep => Step.plain rfl (Does.run _ (run_binO rfl (hdep 1 8 (by kernel_rfl)) rfl (by kernel_rfl)) rfl), trivial⟩
 intro u2 hb2
 simp only [List.take, List.drop, FinAll, Act.put, lA, lS, lZ]
 rintro _ rfl _ rfl _ rfl
 have hO2 := (hO1).trans (hb2.mono (hO1).size)
 have m2_1__2 := block_below hb2 (lt_of_heap m2_1) m2_1
 refine hK2 _ _ ?_
 clear hK2 K2
 refine wp_cond_false rfl ?_
 refine wp_skip ?_
 refine hKO1 _ _ ?_
 clear hKO1 KO1
 refine wp_seq_k fun K3 hK3 => ?_
 refine wp_plain_inv 3 (specs [Is (.slice (some ⟨gx, off, none⟩) 32 cap), OwnI u2.heap.size l, OwnI u2.heap.size l]) (specs_stb ⟨Is.stb _, OwnI.stb _ _, OwnI.stb _ _, trivial⟩) (by kernel_rfl) ?_ ?_
 ·refine ⟨fun a w hB hfr hdep => Step.plain rfl (dMove (R := Is (.slice (some ⟨gx, off, none⟩) 32 cap)) rfl (hfr 0 (by kernel_rfl))),
   fun a w hB hfr hdep => Step.plain rfl (Does.call 59 #[(a.eval (.tmp 11))] (by kernel_rfl) (rDigitsOwn w hB.size (hdep 0 11 (by kernel_rfl)) (Bts.stb _ _ _ _ hB (Bts.stb _ _ _ _ hO2 hb)) hd hl)),
   fun a w hB hfr hdep => Step.plain rfl (dAssign (R := OwnI u2.heap.size l) rfl (hdep 1 12 (by kernel_rfl))), trivial⟩
 intro u3 hb3
 simp only [List.take, List.drop, FinAll, Act.put, lA, lS, lZ]
 rintro _ rfl v12_3 h12_3 v4_3 h4_3
 have hO3 := (hO2).trans (hb3.mono (hO2).size)
 have m2_1__3 := block_below hb3 (lt_of_heap m2_1__2) m2_1__2
 refine hK3 _ _ ?_
 clear hK3 K3
 obtain ⟨g4, cap4, cur4, hv4, hl4, hrow4, hc4, hc4', hcur⟩ := h4_3
 rw [hl] at hv4 hcur hc4
 subst hv4
 have c31 := cell_of_row _ g4 31 _ _ _ hrow4
 rw [hcur 31 (by omega), ← hcc.out] at c31
 have f31 := frozen_of_row _ g4 31 _ _ hrow4
 have hst := cur_setI hrow4 (by rw [hl]; exact hcur) 31 d (by omega)
 have hOs := (hO3).setCell (p := ⟨g4, 31, none⟩) (by show _ ≤ g4; have := hO1.size; have := hb2.size; omega) (.int .i64 (d : Int))
 have nz : g2_1 ≠ g4 := by have := hb2.size; have := lt_of_heap m2_1; omega
 have hz2 := (heap_setCell_other u3 ⟨g4, 31, none⟩ g2_1 (.int .i64 (d : Int)) nz).trans m2_1__3
 have HOS : Hid _ := hOs
 have HZ2 : Hid _ := hz2
 have HST : Hid _ := hst
 clear hOs hz2 hst
 refine wp_seq_k fun KB hKB => ?_
 have HKB : Hid _ := hKB
 clear hKB
 go_wp2
 refine HKB.out _ _ ?_
 clear HKB KB
 refine wp_seq_k fun KC hKC => ?_
 have HKC : Hid _ := hKC
 clear hKC
 go_wp2
 refine HKC.out _ _ ?_
 clear HKC KC
 have hO := HOS.out
 have hz := HZ2.out
 have hb9 : DRow (l.set 31 d) (.slice (some ⟨g4, 0, none⟩) 32 cap4) (u3.setCell ⟨g4, 31, none⟩ (.int .i64 (d : Int))) := ⟨_, _, by rw [hl1], by rw [hl1]; exact hc4, hc4', fun _ => ⟨g4, 0, rfl, intsAt_cur HST.out.1 HST.out.2⟩⟩
 clear HOS HZ2 HST c31 f31
 generalize u3.setCell ⟨g4, 31, none⟩ (.int .i64 (d : Int)) = uu at hO hz hb9 ⊢
 refine wp_seq_k fun K4 hK4 => ?_
 refine wp_plain_inv 4 (specs [DRow (l.set 31 d), DRow (digs 32 pp), Is (.bool true), Is (.bool true)]) (specs_stb ⟨DRow.stb _, DRow.stb _, Is.stb _, Is.stb _, trivial⟩) (by kernel_rfl) ?_ ?_
 ·refine ⟨fun a w hB hfr hdep => Step.plain rfl (dMove (R := DRow (l.set 31 d)) rfl (use (hfr 4 (by kernel_rfl)) ((DRow.stb _) _ _ _ hB hb9))),
   fun a w hB hfr hdep => Step.plain rfl (Does.call 61 #[] (by kernel_rfl) (rP w)),
   fun a w hB hfr hdep => Step.plain rfl (Does.call 60 #[(a.eval (.tmp 23)), (a.eval (.tmp 24))] (by kernel_rfl) (rLess hA w (hdep 0 23 (by kernel_rfl)) (hdep 1 24 (by kernel_rfl)) (by rw [hl1]; decide) (by rw [digs_len]; decide) hd1 (digs_dig _ _))),
   fun a w hB hfr hdep => Step.plain rfl (dAssign (R := Is (.bool true)) rfl (hdep 2 25 (by kernel_rfl))), trivial⟩
 intro u4 hb4
 simp only [List.take, List.drop, FinAll, Act.put, lA, lS, lZ]
 rintro v23_4 h23_4 v24_4 h24_4 _ rfl _ rfl
 have hO4 := (hO).trans (hb4.mono (hO).size)
 have hz__4 := block_below hb4 (lt_of_heap hz) hz
 refine hK4 _ _ ?_
 clear hK4 K4
 refine wp_seq_k fun KO7 hKO7 => ?_
 refine wp_seq_k fun K5 hK5 => ?_
 refine wp_plain_inv 2 (specs [Is (.bool true), Is (.bool false)]) (specs_stb ⟨Is.stb _, Is.stb _, trivial⟩) (by kernel_rfl) ?_ ?_
 ·refine ⟨fun a w hB hfr hdep => Step.plain rfl (dMove (R := Is (.bool true)) rfl (hfr 6 (by kernel_rfl))),
   fun a w hB hfr hdep => Step.plain rfl (Does.run _ (run_notO rfl (hdep 0 26 (by kernel_rfl))) rfl), trivial⟩
 intro u5 hb5
 simp only [List.take, List.drop, FinAll, Act.put, lA, lS, lZ]
 rintro _ rfl _ rfl
 have hO5 := (hO4).trans (hb5.mono (hO4).size)
 have hz__5 := block_below hb5 (lt_of_heap hz__4) hz__4
 refine hK5 _ _ ?_
 clear hK5 K5
 refine wp_cond_false rfl ?_
 refine wp_skip ?_
 refine hKO7 _ _ ?_
 clear hKO7 KO7
 refine wp_seq_k fun K6 hK6 => ?_
 refine wp_plain_inv 5 (specs [DRow (l.set 31 d), Is (.bool bb), Tup2 (Is (.agg #[.slice none 0 0, .slice none 0 0])) (Is (.bool false)), Is (.agg #[.slice none 0 0, .slice none 0 0]), Is (.bool false)]) (specs_stb ⟨DRow.stb _, Is.stb _, Tup2.stb (Is.stb _) (Is.stb _), Is.stb _, Is.stb _, trivial⟩) (by kernel_rfl) ?_ ?_
 ·refine ⟨fun a w hB hfr hdep => Step.plain rfl (dMove (R := DRow (l.set 31 d)) rfl (use (hfr 4 (by kernel_rfl)) ((DRow.stb _) _ _ _ hB ((DRow.stb _) _ _ _ hb5 ((DRow.stb _) _ _ _ hb4 hb9))))),
   fun a w hB hfr hdep => Step.plain rfl (dMove (R := Is (.bool bb)) rfl (hfr 5 (by kernel_rfl))),
   fun a w hB hfr hdep => Step.plain rfl (Does.call 53 #[(a.eval (.tmp 29)), (a.eval (.tmp 30))] (by kernel_rfl) (rOfErrI hno w (drow_rw hL (hdep 0 29 (by kernel_rfl))) (hdep 1 30 (by kernel_rfl)))),
   fun a w hB hfr hdep => Step.plain rfl (dExt0 rfl (hdep 2 31 (by kernel_rfl))),
   fun a w hB hfr hdep => Step.plain rfl (dExt1 rfl (hdep 2 31 (by kernel_rfl))), trivial⟩
 intro u6 hb6
 simp only [List.take, List.drop, FinAll, Act.put, lA, lS, lZ]
 rintro v29_6 h29_6 _ rfl v31_6 h31_6 _ rfl _ rfl
 have ohz__5 := block_below hb6 (lt_of_heap hz__5) hz__5
 refine wpList_store_row rfl 45 (.tmp 2) (.tmp 32) rfl _ (#[.slice none 0 0, .slice none 0 0]) rfl rfl 45 _ ohz__5 info35 rfl (by simp [Value.oneCell']) ?_
 refine wpList_assign rfl rfl rfl ?_
 simp only [Act.put, Act.eval, Array.getD_eq_getD_getElem?, List.getElem?_toArray, List.getElem?_cons_succ, List.getElem?_cons_zero, Option.getD_some, lA, lS, lZ]
 have n2_6 := setRow_heap _ _ _ (#[.slice none 0 0, .slice none 0 0]) _ _ ohz__5
 have hO6 := setRow_below (hO5.trans (hb6.mono (hO5).size)) lwm2_1 (#[.slice none 0 0, .slice none 0 0])
 refine hK6 _ _ ?_
 clear hK6 K6
 refine wp_ret ?_
 refine bodyPost_ret (v := .tuple #[.agg (#[.slice none 0 0, .slice none 0 0]), .bool false]) ?_ rfl ⟨_, rfl, hO6, ⟨_, _, rfl, rfl, rfl⟩⟩
 exact results_cell_tmp Tryz.results25 _ _ _ 45 _ (0, 0) _ _ rfl rfl n2_6 Tryz.underlying45 rfl (by first | exact info26 | exact info29 | exact info35 | (rw [(Pt4.cells (by assumption)).1]; exact info29) | (rw [cellsP_size (by assumption)]; exact info29))
theorem rReadP (w : World) {l : List Nat} {gx off cap c d : Nat} {bb : Bool} (hb : Bts l (.slice (some ⟨gx, off, none⟩) 32 cap) w) (hl : l.length = 32) (hd : Dig l) (hcc : Hid (c = l.getD 31 0)) (hc256 : c < 256) (hge : decide ((128 : Int) ≤ (c : Int)) = bb) (hrm : Int.tmod (c : Int) 128 = (d : Int)) (hl1 : (l.set 31 d).length = 32) (hd1 : Dig (l.set 31 d)) {p : Pt} (hA : decide (valD (l.set 31 d) < valD (digs 32 pp)) = true) (hL : l.set 31 d = digs 32 p.y.val) (hbp : decide (p.x.val % 2 = 1) = bb) : Ret 25 #[.slice (some ⟨gx, off, none⟩) 32 cap] w (Tup2 (RPt p.x p.y) (Is (.bool true))) := by
 have h32 : ((32 : Int) != 32) = false := rfl
 unfold Ret
 have hO0 : Below w.heap.size w w := Below.refl _ _
 go_enter Tryz.func25, Tryz.ntmps25
 refine wp_seq_k fun K1 hK1 => ?_
 refine wp_plain_inv 2 (specs [Box w.heap.size (#[.slice none 0 0, .slice none 0 0]) 45, Is (.bool false)]) (specs_stb ⟨Box.stb _ _ _, Is.stb _, trivial⟩) (by kernel_rfl) ?_ ?_
 ·refine ⟨fun a w hB hfr hdep => Step.plain rfl (dAlloc35 hB.size rfl),
   fun a w hB hfr hdep => Step.plain rfl (dAssign (R := Is (.bool false)) rfl rfl), trivial⟩
 intro u1 hb1
 simp only [List.take, List.drop, FinAll, Act.put, lA, lS, lZ]
 rintro _ ⟨g2_1, rfl, l2_1, m2_1⟩ _ rfl
 have hO1 := (hO0).trans (hb1.mono (hO0).size)
 have lwm2_1 := Nat.le_trans (hO0).size l2_1
 refine hK1 _ _ ?_
 clear hK1 K1
 refine wp_seq_k fun KO1 hKO1 => ?_
 refine wp_seq_k fun K2 hK2 => ?_
 refine wp_plain_inv 3 (specs [Is (.slice (some ⟨gx, off, none⟩) 32 cap), Is (.int .i64 32), Is (.bool false)]) (specs_stb ⟨Is.stb _, Is.stb _, Is.stb _, trivial⟩) (by kernel_rfl) ?_ ?_
 ·refine ⟨fun a w hB hfr hdep => Step.plain rfl (dMove (R := Is (.slice (some ⟨gx, off, none⟩) 32 cap)) rfl (hfr 0 (by kernel_rfl))),
   fun a w hB hfr hdep => Step.plain rfl (Does.run _ (run_lenO rfl (hdep 0 7 (by kernel_rfl))) rfl),
   fun a w hB hfr hdep => Step.plain rfl (Does.run _ (run_binO rfl (hdep 1 8 (by kernel_rfl)) rfl (by kernel_rfl)) rfl), trivial⟩
 intro u2 hb2
 simp only [List.take, List.drop, FinAll, Act.put, lA, lS, lZ]
 rintro _ rfl _ rfl _ rfl
 have hO2 := (hO1).trans (hb2.mono (hO1).size)
 have m2_1__2 := block_below hb2 (lt_of_heap m2_1) m2_1
 refine hK2 _ _ ?_
 clear hK2 K2
 refine wp_cond_false rfl ?_
 refine wp_skip ?_
 refine hKO1 _ _ ?_
 clear hKO1 KO1
 refine wp_seq_k fun K3 hK3 => ?_
 refine wp_plain_inv 3 (specs [Is (.slice (some ⟨gx, off, none⟩) 32 cap), OwnI u2.heap.size l, OwnI u2.heap.size l]) (specs_stb ⟨Is.stb _, OwnI.stb _ _, OwnI.stb _ _, trivial⟩) (by kernel_rfl) ?_ ?_
 ·refine ⟨fun a w hB hfr hdep => Step.plain rfl (dMove (R := Is (.slice (some ⟨gx, off, none⟩) 32 cap)) rfl (hfr 0 (by kernel_rfl))),
   fun a w hB hfr hdep => Step.plain rfl (Does.call 59 #[(a.eval (.tmp 11))] (by kernel_rfl) (rDigitsOwn w hB.size (hdep 0 11 (by kernel_rfl)) (Bts.stb _ _ _ _ hB (Bts.stb _ _ _ _ hO2 hb)) hd hl)),
   fun a w hB hfr hdep => Step.plain rfl (dAssign (R := OwnI u2.heap.size l) rfl (hdep 1 12 (by kernel_rfl))), trivial⟩
 intro u3 hb3
 simp only [List.take, List.drop, FinAll, Act.put, lA, lS, lZ]
 rintro _ rfl v12_3 h12_3 v4_3 h4_3
 have hO3 := (hO2).trans (hb3.mono (hO2).size)
 have m2_1__3 := block_below hb3 (lt_of_heap m2_1__2) m2_1__2
 refine hK3 _ _ ?_
 clear hK3 K3
 obtain ⟨g4, cap4, cur4, hv4, hl4, hrow4, hc4, hc4', hcur⟩ := h4_3
 rw [hl] at hv4 hcur hc4
 subst hv4
 have c31 := cell_of_row _ g4 31 _ _ _ hrow4
 rw [hcur 31 (by omega), ← hcc.out] at c31
 have f31 := frozen_of_row _ g4 31 _ _ hrow4
 have hst := cur_setI hrow4 (by rw [hl]; exact hcur) 31 d (by omega)
 have hOs := (hO3).setCell (p := ⟨g4, 31, none⟩) (by show _ ≤ g4; have := hO1.size; have := hb2.size; omega) (.int .i64 (d : Int))
 have nz : g2_1 ≠ g4 := by have := hb2.size; have := lt_of_heap m2_1; omega
 have hz2 := (heap_setCell_other u3 ⟨g4, 31, none⟩ g2_1 (.int .i64 (d : Int)) nz).trans m2_1__3
 have HOS : Hid _ := hOs
 have HZ2 : Hid _ := hz2
 have HST : Hid _ := hst
 clear hOs hz2 hst
 refine wp_seq_k fun KB hKB => ?_
 have HKB : Hid _ := hKB
 clear hKB
 go_wp2
 refine HKB.out _ _ ?_
 clear HKB KB
 refine wp_seq_k fun KC hKC => ?_
 have HKC : Hid _ := hKC
 clear hKC
 go_wp2
 refine HKC.out _ _ ?_
 clear HKC KC
 have hO := HOS.out
 have hz := HZ2.out
 have hb9 : DRow (l.set 31 d) (.slice (some ⟨g4, 0, none⟩) 32 cap4) (u3.setCell ⟨g4, 31, none⟩ (.int .i64 (d : Int))) := ⟨_, _, by rw [hl1], by rw [hl1]; exact hc4, hc4', fun _ => ⟨g4, 0, rfl, intsAt_cur HST.out.1 HST.out.2⟩⟩
 clear HOS HZ2 HST c31 f31
 generalize u3.setCell ⟨g4, 31, none⟩ (.int .i64 (d : Int)) = uu at hO hz hb9 ⊢
 refine wp_seq_k fun K4 hK4 => ?_
 refine wp_plain_inv 4 (specs [DRow (l.set 31 d), DRow (digs 32 pp), Is (.bool true), Is (.bool true)]) (specs_stb ⟨DRow.stb _, DRow.stb _, Is.stb _, Is.stb _, trivial⟩) (by kernel_rfl) ?_ ?_
 ·refine ⟨fun a w hB hfr hdep => Step.plain rfl (dMove (R := DRow (l.set 31 d)) rfl (use (hfr 4 (by kernel_rfl)) ((DRow.stb _) _ _ _ hB hb9))),
   fun a w hB hfr hdep => Step.plain rfl (Does.call 61 #[] (by kernel_rfl) (rP w)),
   fun a w hB hfr hdep => Step.plain rfl (Does.call 60 #[(a.eval (.tmp 23)), (a.eval (.tmp 24))] (by kernel_rfl) (rLess hA w (hdep 0 23 (by kernel_rfl)) (hdep 1 24 (by kernel_rfl)) (by rw [hl1]; decide) (by rw [digs_len]; decide) hd1 (digs_dig _ _))),
   fun a w hB hfr hdep => Step.plain rfl (dAssign (R := Is (.bool true)) rfl (hdep 2 25 (by kernel_rfl))), trivial⟩
 intro u4 hb4
 simp only [List.take, List.drop, FinAll, Act.put, lA, lS, lZ]
 rintro v23_4 h23_4 v24_4 h24_4 _ rfl _ rfl
 have hO4 := (hO).trans (hb4.mono (hO).size)
 have hz__4 := block_below hb4 (lt_of_heap hz) hz
 refine hK4 _ _ ?_
 clear hK4 K4
 refine wp_seq_k fun KO7 hKO7 => ?_
 refine wp_seq_k fun K5 hK5 => ?_
 refine wp_plain_inv 2 (specs [Is (.bool true), Is (.bool false)]) (specs_stb ⟨Is.stb _, Is.stb _, trivial⟩) (by kernel_rfl) ?_ ?_
 ·refine ⟨fun a w hB hfr hdep => Step.plain rfl (dMove (R := Is (.bool true)) rfl (hfr 6 (by kernel_rfl))),
   fun a w hB hfr hdep => Step.plain rfl (Does.run _ (run_notO rfl (hdep 0 26 (by kernel_rfl))) rfl), trivial⟩
 intro u5 hb5
 simp only [List.take, List.drop, FinAll, Act.put, lA, lS, lZ]
 rintro _ rfl _ rfl
 have hO5 := (hO4).trans (hb5.mono (hO4).size)
 have hz__5 := block_below hb5 (lt_of_heap hz__4) hz__4
 refine hK5 _ _ ?_
 clear hK5 K5
 refine wp_cond_false rfl ?_
 refine wp_skip ?_
 refine hKO7 _ _ ?_
 clear hKO7 KO7
 refine wp_seq_k fun K6 hK6 => ?_
 refine wp_plain_inv 5 (specs [DRow (l.set 31 d), Is (.bool bb), Tup2 (RPt (p.x) (p.y)) (Is (.bool true)), RPt (p.x) (p.y), Is (.bool true)]) (specs_stb ⟨DRow.stb _, Is.stb _, Tup2.stb (RPt.stb _ _) (Is.stb _), RPt.stb _ _, Is.stb _, trivial⟩) (by kernel_rfl) ?_ ?_
 ·refine ⟨fun a w hB hfr hdep => Step.plain rfl (dMove (R := DRow (l.set 31 d)) rfl (use (hfr 4 (by kernel_rfl)) ((DRow.stb _) _ _ _ hB ((DRow.stb _) _ _ _ hb5 ((DRow.stb _) _ _ _ hb4 hb9))))),
   fun a w hB hfr hdep => Step.plain rfl (dMove (R := Is (.bool bb)) rfl (hfr 5 (by kernel_rfl))),
   fun a w hB hfr hdep => Step.plain rfl (Does.call 53 #[(a.eval (.tmp 29)), (a.eval (.tmp 30))] (by kernel_rfl) (rOfPtI hbp w (drow_rw hL (hdep 0 29 (by kernel_rfl))) (hdep 1 30 (by kernel_rfl)))),
   fun a w hB hfr hdep => Step.plain rfl (dExt0 rfl (hdep 2 31 (by kernel_rfl))),
   fun a w hB hfr hdep => Step.plain rfl (dExt1 rfl (hdep 2 31 (by kernel_rfl))), trivial⟩
 intro u6 hb6
 simp only [List.take, List.drop, FinAll, Act.put, lA, lS, lZ]
 rintro v29_6 h29_6 _ rfl v31_6 h31_6 _ ⟨p32_6, q32_6, rfl, x32_6, y32_6⟩ _ rfl
 have ohz__5 := block_below hb6 (lt_of_heap hz__5) hz__5
 refine wpList_store_row rfl 45 (.tmp 2) (.tmp 32) rfl _ (#[p32_6, q32_6]) rfl rfl 45 _ ohz__5 info35 rfl (rpt_one x32_6 y32_6) ?_
 refine wpList_assign rfl rfl rfl ?_
 simp only [Act.put, Act.eval, Array.getD_eq_getD_getElem?, List.getElem?_toArray, List.getElem?_cons_succ, List.getElem?_cons_zero, Option.getD_some, lA, lS, lZ]
 have xx := Rw.setRow x32_6 ohz__5 nz35 (#[p32_6, q32_6])
 have yy := Rw.setRow y32_6 ohz__5 nz35 (#[p32_6, q32_6])
 have n2_6 := setRow_heap _ _ _ (#[p32_6, q32_6]) _ _ ohz__5
 have hO6 := setRow_below (hO5.trans (hb6.mono (hO5).size)) lwm2_1 (#[p32_6, q32_6])
 refine hK6 _ _ ?_
 clear hK6 K6
 refine wp_ret ?_
 refine bodyPost_ret (v := .tuple #[.agg (#[p32_6, q32_6]), .bool true]) ?_ rfl ⟨_, rfl, hO6, ⟨_, _, rfl, ⟨_, _, rfl, xx, yy⟩, rfl⟩⟩
 exact results_cell_tmp Tryz.results25 _ _ _ 45 _ (0, 0) _ _ rfl rfl n2_6 Tryz.underlying45 rfl (by first | exact info26 | exact info29 | exact info35 | (rw [(Pt4.cells (by assumption)).1]; exact info29) | (rw [cellsP_size (by assumption)]; exact info29))
theorem rem128 (c : Nat) : Int.tmod (c : Int) 128 = ((c % 128 : Nat) : Int) := by
 rw [Int.tmod_eq_emod_of_nonneg (by omega)]; omega
theorem ge128 {c n : Nat} (hc : c < 256) (h : n / t255 = c / 128) : decide ((128 : Int) ≤ (c : Int)) = decide (n / t255 = 1) := by
 rw [decide_eq_decide, h]; omega
theorem rReadPt {v : Value} {l : List Nat} {p : Pt} (w : World) (h : Bts l v w) (hl : l.length = 32) (hd : Dig l) (hp : p.enc = valD l) : Ret 25 #[v] w (Tup2 (RPt p.x p.y) (Is (.bool true))) := by
 obtain ⟨a, cap, rfl, hc1, hc2, hv⟩ := id h
 obtain ⟨gx, off, rfl, hb⟩ := hv (by omega)
 rw [hl] at h ⊢
 obtain ⟨q1, q2, q3⟩ := high_bit hl hd
 have h3 := hd 31
 have hy : valD l % t255 = p.y.val := by rw [← hp, p.enc_y]
 have ho : valD l / t255 = p.x.val % 2 := by rw [← hp, p.enc_odd]
 have hds : Dig (l.set 31 (l.getD 31 0 % 128)) := hd.set (by omega)
 exact rReadP w h hl hd rfl h3 (ge128 h3 q1) (rem128 _) (by rw [List.length_set]; exact hl) hds (decide_eq_true (by rw [q2, hy, valPP]; exact p.y.isLt)) (digs_of hds (by rw [List.length_set]; exact hl) (by rw [q2, hy])) (by rw [ho])
theorem rReadErr {v : Value} {l : List Nat} (w : World) (h : Bts l v w) (hl : l.length = 32) (hd : Dig l) (hno : ¬ ∃ p : Pt, p.enc = valD l) : Ret 25 #[v] w (Tup2 (Is (.agg #[.slice none 0 0, .slice none 0 0])) (Is (.bool false))) := by
 obtain ⟨a, cap, rfl, hc1, hc2, hv⟩ := id h
 obtain ⟨gx, off, rfl, hb⟩ := hv (by omega)
 rw [hl] at h ⊢
 obtain ⟨q1, q2, q3⟩ := high_bit hl hd
 have h3 := hd 31
 have hds : Dig (l.set 31 (l.getD 31 0 % 128)) := hd.set (by omega)
 have hls : (l.set 31 (l.getD 31 0 % 128)).length = 32 := by rw [List.length_set]; exact hl
 have hn2 : valD l / t255 < 2 := by rw [q1]; omega
 by_cases c1 : valD l % t255 < pp
 ·refine rReadE w h hl hd rfl h3 (ge128 h3 q1) (rem128 _) hls hds (y := fe (valD l % t255)) (decide_eq_true (by rw [q2, valPP]; exact c1)) (digs_of hds hls (by rw [q2, fe_val, Nat.mod_eq_of_lt c1])) ?_
  rintro ⟨p, hy, hb⟩
  refine hno ⟨p, ?_⟩
  unfold Pt.enc
  rw [hy, fe_val, Nat.mod_eq_of_lt c1]
  have : p.x.val % 2 = valD l / t255 := by
   rw [decide_eq_decide] at hb
   omega
  rw [this, Nat.mod_add_div]
 ·exact rReadA w h hl hd rfl h3 (ge128 h3 q1) (rem128 _) hls hds (decide_eq_false (by rw [q2, valPP]; exact c1))
end Go.Proofs.YtabgihjffjlfiaaGreatDoor
set_option linter.unusedVariables false
namespace Go.Proofs.YtabgihjffjlfiaaGreatDoor
open Go.RowKit Go.Sort Go.BigFrame EN
set_option maxRecDepth 100000
set_option maxHeartbeats 4000000
theorem negRPt {P : Pt} {v : Value} {w : World} (h : RPt (0 - P.x) P.y v w) : RPt P.neg.x P.neg.y v w := by
 have e : P.neg.x = 0 - P.x := by show -P.x = 0 - P.x; grobner
 rw [e]; exact h
theorem cutH (g off len cap h : Nat) (w : World) (hh : h ≤ cap) : (Instr.sliceAt 22 (.slice (some ⟨g, off, none⟩) len cap) none (some (.int .i64 (h : Int))) none).run Tryz.prog w = .ok (.slice (some ⟨g, off, none⟩) h cap) w := by
 rw [run_cut_h _ _ _ _ _ hh]
 unfold cutA
 split <;> rfl
theorem cutD (g off len cap : Nat) (w : World) (hl : 32 ≤ len) (hh : 64 ≤ cap) : (Instr.sliceAt 22 (.slice (some ⟨g, off, none⟩) len cap) (some (.int .i64 32)) none none).run Tryz.prog w = .ok (.slice (some ⟨g, off + 32, none⟩) (len - 32) (cap - 32)) w := by
 have h := run_cut_l (some ⟨g, off, none⟩) len cap 32 w hl
 unfold cutA at h
 rw [if_neg (by omega)] at h
 exact h
section
variable {ρ : Operand → Value} {o : Oper} {x y : Operand} {w : World}
theorem dTake32 {l : List Nat} (hl : l.length = 64) (ho : o.op = .slice 22 x none (some y) none) (hx : Bts l (ρ x) w) (hy : ρ y = .int .i64 32) : Does Tryz.prog o ρ w (fun v w' => Below w.heap.size w w' ∧ Bts (l.take 32) v w') := by
 obtain ⟨a, cap, e, h1, h2, hv⟩ := hx
 obtain ⟨g, off, rfl, hb⟩ := id (hv (by omega))
 refine Does.run (.slice (some ⟨g, off, none⟩) 32 cap) (Hrun_sliceO (by rw [e]; show (Instr.sliceAt 22 _ none (some (ρ y)) none).run Tryz.prog w = _; rw [hy]; exact cutH g off _ cap 32 w (by omega)) ho) ⟨_, cap, by rw [List.length_take, hl]; rfl, by rw [List.length_take]; omega, h2, hv.take 32⟩
theorem dDrop32 {l : List Nat} (hl : l.length = 64) (ho : o.op = .slice 22 x (some y) none none) (hx : Bts l (ρ x) w) (hy : ρ y = .int .i64 32) : Does Tryz.prog o ρ w (fun v w' => Below w.heap.size w w' ∧ Bts (l.drop 32) v w') := by
 obtain ⟨a, cap, e, h1, h2, hv⟩ := hx
 obtain ⟨g, off, rfl, hb⟩ := id (hv (by omega))
 refine Does.run (.slice (some ⟨g, off + 32, none⟩) (l.length - 32) (cap - 32)) (Hrun_sliceO (by rw [e]; show (Instr.sliceAt 22 _ (some (ρ y)) none none).run Tryz.prog w = _; rw [hy]; exact cutD g off _ cap w (by omega) (by omega)) ho) ⟨_, cap - 32, by rw [List.length_drop], by rw [List.length_drop]; omega, by omega, fun _ => ⟨g, off + 32, rfl, fun i hi => ?_⟩⟩
 rw [List.length_drop] at hi
 rw [show off + 32 + i = off + (32 + i) by omega, hb (32 + i) (by omega), List.getD_eq_getElem?_getD, List.getD_eq_getElem?_getD, List.getElem?_drop]
theorem run_neqStrB {s t : ByteArray} {b : Bool} (hb : (s.toList == t.toList) = !b) (ho : o.op = .binOp .neq 9 x y 9) (hx : ρ x = .string s) (hy : ρ y = .string t) : (execOp ρ o).run Tryz.prog w = .ok (.value (.bool b)) w := by
 simp [execOp, ho, hx, hy, go_sem, hb]
def W3 (lo : Nat) (v : Value) (w : World) : Prop := ∃ g, v = .slice (some ⟨g, 0, none⟩) 3 3 ∧ lo ≤ g ∧ w.heap[g]? = some (.cells #[.int .i64 0, .int .i64 11, .int .i64 10] 23 (0, 0))
theorem W3.stb (lo : Nat) : Stb (W3 lo) := fun _ _ _ hb ⟨g, h1, h2, h3⟩ => ⟨g, h1, h2, block_below hb (lt_of_heap h3) h3⟩
def W3p (k : Nat) (v : Value) (w : World) : Prop := ∃ g, v = .pointer (some ⟨g, 0 + k, none⟩) ∧ w.heap[g]? = some (.cells #[.int .i64 0, .int .i64 11, .int .i64 10] 23 (0, 0))
theorem W3p.stb (k : Nat) : Stb (W3p k) := fun _ _ _ hb ⟨g, h1, h3⟩ => ⟨g, h1, block_below hb (lt_of_heap h3) h3⟩
theorem dW3idx {lo k : Nat} (hk : k < 3) (ho : o.op = .indexAddr 31 x y) (hx : W3 lo (ρ x) w) (hy : ρ y = .int .i64 (k : Int)) : Does Tryz.prog o ρ w (fun v w' => Below w.heap.size w w' ∧ W3p k v w') := by
 obtain ⟨g, e, hl, hr⟩ := hx
 refine Does.run (.pointer (some ⟨g, 0 + k, none⟩)) ?_ ⟨g, rfl, hr⟩
 have hk2 : ¬ (3 : Int) ≤ (k : Int) := by omega
 simp [execOp, ho, e, hy, go_sem]
 intro h3
 exact absurd h3 hk2
theorem dW3load {k : Nat} {n : Int} (hk : (#[.int .i64 0, .int .i64 11, .int .i64 10] : Array Value)[k]? = some (.int .i64 n)) (ho : o.op = .load 23 x) (hx : W3p k (ρ x) w) : Does Tryz.prog o ρ w (fun v w' => Below w.heap.size w w' ∧ Is (.int .i64 n) v w') := by
 obtain ⟨g, e, hr⟩ := hx
 have hc := cell_of_row w g k _ _ _ hr
 rw [hk] at hc
 rw [Nat.zero_add] at e
 exact Does.run (.int .i64 n) (by simp [execOp, ho, e, go_sem, hc, Instr.loadAt, Instr.sureAddr]) rfl
end
theorem dW3 {a : Act} {o : Oper} {w : World} {lo : Nat} (hlo : lo ≤ w.heap.size) (ho : o.op = .buildSlice 31 3 #[(0, .const (.int .i64 0)), (1, .const (.int .i64 11)), (2, .const (.int .i64 10))]) : Does Tryz.prog o a.eval w (fun v w' => Below w.heap.size w w' ∧ W3 lo v w') :=
 Does.new (.slice (some ⟨w.heap.size, 0, none⟩) 3 3) (.cells #[.int .i64 0, .int .i64 11, .int .i64 10] 23) (by simp only [execOp, ho, Act.eval, List.map_toArray, List.map]; kernel_rfl) ⟨_, rfl, hlo, heap_alloc_new _ _⟩
theorem rIsB {v : Value} {l : List Nat} {b : Bool} (hb : isL l = b) (w : World) (h : Bts l v w) (hd : Dig l) (hl : l.length ≤ 10000) : Ret 26 #[v] w (Is (.bool b)) := by
 obtain ⟨a, cap, rfl, h1, h2, hv⟩ := h
 exact (refIs15 a l.length cap l w rfl h1 h2 hl hd hv).mono fun e w' ⟨h, hB⟩ => ⟨_, h, hB, by rw [hb]; rfl⟩
end Go.Proofs.YtabgihjffjlfiaaGreatDoor
