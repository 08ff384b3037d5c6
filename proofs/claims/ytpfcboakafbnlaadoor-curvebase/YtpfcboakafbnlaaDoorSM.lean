/-
  The reference: Small.
-/
import Derived.Test.YtpfcboakafbnlaaDoorQA
import Derived.Deep.CutRange
set_option linter.unusedVariables false
namespace Go.Proofs.YtpfcboakafbnlaaDoor
open Go.RowKit Go.Sort Go.BigFrame
set_option maxRecDepth 100000
set_option maxHeartbeats 2000000
def sb : List Nat := [50, 55, 55, 52, 50, 51, 49, 55, 55, 55, 55, 51, 55, 50, 51, 53, 51, 53, 51, 53, 56, 53, 49, 57, 51, 55, 55, 57, 48, 56, 56, 51, 54, 52, 56, 52, 57, 51]
def sv : Nat → Nat
  | 0 => 0
  | k + 1 => sv k * 10 + (sb.getD k 0 - 48)
theorem sv_end : sv 38 = 27742317777372353535851937790883648493 := by decide
theorem sv_lt : ∀ k, k ≤ 38 → sv k < 256 ^ 16 := by decide
theorem sb_digit : ∀ k, k < 38 → 48 ≤ sb.getD k 0 ∧ sb.getD k 0 ≤ 57 := by decide
def RelS (w wr : World) (v : Value) (k : Nat) : Prop :=
  ∃ g n cap, v = .slice (some ⟨g, 0, none⟩) n cap ∧ n ≤ cap ∧ cap ≤ 100 ∧ 1 ≤ n ∧ (n = 1 ∨ 256 ^ (n - 1) ≤ sv k) ∧ sv k < 256 ^ n ∧ Below w.heap.size w wr ∧ w.heap.size ≤ g ∧ IntsAt wr g 0 (digs n (sv k))
theorem relS_len {n k : Nat} (hk : k ≤ 38) (h : n = 1 ∨ 256 ^ (n - 1) ≤ sv k) : n ≤ 16 := by
  rcases h with h | h
  · omega
  · have h1 := sv_lt k hk
    have h2 : (256 : Nat) ^ (n - 1) < 256 ^ 16 := Nat.lt_of_le_of_lt h h1
    have := (Nat.pow_lt_pow_iff_right (by decide : 1 < 256)).1 h2
    omega
def decS : ByteArray := ⟨#[50, 55, 55, 52, 50, 51, 49, 55, 55, 55, 55, 51, 55, 50, 51, 53, 51, 53, 51, 53, 56, 53, 49, 57, 51, 55, 55, 57, 48, 56, 56, 51, 54, 52, 56, 52, 57, 51]⟩
def lenOf : Value → Nat
  | .slice _ n _ => n
  | _ => 0
theorem run_indexO {P : Program} {ρ : Operand → Value} {t : TypeId} {x y : Operand} {w : World} {v : Value} {o : Oper} (hr : (Instr.index t (ρ x) (ρ y)).run P w = .ok v w) (ho : o.op = .index t x y) : (execOp ρ o).run P w = .ok (.value v) w := by
  unfold execOp
  rw [ho]
  simp only [Sem.run_bind, hr, Result.andThen_ok, Sem.run_pure]
theorem dec_get : ∀ k, k < 38 → (decS[k]!).toNat = sb.getD k 0 := by decide
theorem dec_index (k : Nat) (hk : k < 38) (w : World) : (Instr.index 9 (.string decS) (.int .i64 (k : Int))).run Tryd.prog w = .ok (.int .u8 ((sb.getD k 0 : Nat) : Int)) w := by
  rw [run_index_string w 9 decS .i64 (k : Int) Tryd.underlying9]
  have h := dec_get k hk
  have hs : decS.size = 38 := rfl
  have hk2 : k < decS.size := by rw [hs]; exact hk
  rw [getElem!_pos decS k hk2] at h
  rw [dif_pos ⟨by omega, by rw [hs]; omega⟩]
  have e : ((k : Int).toNat) = k := by omega
  simp only [e, h]
theorem dig10 : Dig [10] := by
  intro j
  match j with
  | 0 => decide
  | j + 1 => simp
theorem dig1 {d : Nat} (h : d ≤ 9) : Dig [d] := by
  intro j
  match j with
  | 0 => simp; omega
  | j + 1 => simp
theorem val10 : valD [10] = 10 := rfl
theorem valOne {d : Nat} : valD [d] = d := by simp [valD]
theorem run_bin_sub (d : Nat) (hd : d ≤ 9) {ρ : Operand → Value} {x y : Operand} {w : World} {o : Oper} (ho : o.op = .binOp .sub 5 x y 5) (hx : ρ x = .int .u8 ((d + 48 : Nat) : Int)) (hy : ρ y = .int .u8 48) : (execOp ρ o).run Tryd.prog w = .ok (.value (.int .u8 (d : Int))) w := by
  simp only [execOp, ho, hx, hy]
  simp [go_sem, IntKind.wrap, IntKind.bits, IntKind.signed]
  omega
theorem run_conv_int (d : Nat) (hd : d ≤ 9) {ρ : Operand → Value} {x : Operand} {w : World} {o : Oper} (ho : o.op = .convert 5 3 x) (hx : ρ x = .int .u8 (d : Int)) : (execOp ρ o).run Tryd.prog w = .ok (.value (.int .i64 (d : Int))) w := by
  simp only [execOp, ho, hx]
  simp [go_sem, Tryd.underlying5, Tryd.underlying3, IntKind.wrap, IntKind.bits, IntKind.signed]
  omega
theorem top_nonzero {V m : Nat} (hm : 1 ≤ m) (h : (digs m V).getD (m - 1) 0 ≠ 0) : 256 ^ (m - 1) ≤ V := by
  rw [digs_get _ _ _ (by omega)] at h
  by_cases hlt : V < 256 ^ (m - 1)
  · rw [Nat.div_eq_of_lt hlt] at h; simp at h
  · omega
theorem top_zeroS {V m : Nat} (hm : 1 ≤ m) (hV : V < 256 ^ m) (h : (digs m V).getD (m - 1) 0 = 0) : V < 256 ^ (m - 1) := by
  rw [digs_get _ _ _ (by omega)] at h
  have h1 : V / 256 ^ (m - 1) < 256 := by
    rw [Nat.div_lt_iff_lt_mul (pos256 _)]
    have e : 256 * 256 ^ (m - 1) = 256 ^ m := by rw [Nat.mul_comm, ← Nat.pow_succ]; congr 1; omega
    omega
  rw [Nat.mod_eq_of_lt h1] at h
  rcases (Nat.div_eq_zero_iff).1 h with h | h
  · have := pos256 (m - 1); omega
  · exact h
theorem intsAt_less {w : World} {g m V : Nat} (hm : 1 ≤ m) (h : IntsAt w g 0 (digs m V)) : IntsAt w g 0 (digs (m - 1) V) := fun i hi => by
  rw [digs_len] at hi
  rw [h i (by rw [digs_len]; omega), digs_get _ _ _ (by omega), digs_get _ _ _ hi]
theorem small29 (w : World) :
    Calls Tryd.prog 51 #[] w fun e w' => ∃ v, e = .returned v ∧ RelS w w' v 38 := by
  go_enter Tryd.func51, Tryd.ntmps51
  go_wp2_with fail
  have h0 : RelS w (w.alloc (.cells #[.int .i64 0] 3)) (.slice (some ⟨w.heap.size, 0, none⟩) 1 1) 0 := by
    refine ⟨w.heap.size, 1, 1, rfl, by omega, by omega, by omega, .inl rfl, by decide, below1 _ _, Nat.le_refl _, ?_⟩
    exact ints_row (alloc_row w [0] 3)
  go_loopw [2, 3] (fun v i wr => ∃ k : Nat, k ≤ 38 ∧ i = .int .i64 k ∧ RelS w wr v k) (fun _ i _ => 38 - (intOf i).toNat)
  case atStart => exact ⟨0, by omega, rfl, h0⟩
  case round =>
    obtain ⟨k, hk, rfl, hS⟩ := hrel
    clear h0
    by_cases hlt : k < 38
    · obtain ⟨g, n, cap, rfl, hnc, hcap, hn1, hmin, hvl, hB, hgw, hrow⟩ := hS
      have hn16 := relS_len hk hmin
      obtain ⟨d, hde⟩ : ∃ d, sb.getD k 0 = d + 48 := ⟨sb.getD k 0 - 48, by have := sb_digit k hlt; omega⟩
      have hd9 : d ≤ 9 := by have := sb_digit k hlt; omega
      have hidx := dec_index k hlt
      rw [hde] at hidx
      have HSV : Hid (sv (k + 1) = sv k * 10 + d) := by show _ = _; rw [sv, hde]; congr 1
      obtain ⟨V, hV⟩ : ∃ V, V = sv k := ⟨_, rfl⟩
      rw [← hV] at hvl hrow HSV
      have HVL : Hid (V < 256 ^ n) := hvl
      have HVT : Hid (V * 10 < 256 ^ (n + 1 + 1)) := by show _ < _; rw [Nat.pow_succ, Nat.pow_succ]; omega
      have HV3 : Hid (sv (k + 1) < 256 ^ (n + 3)) := by
        show _ < _
        rw [HSV.out, show n + 3 = n + 1 + 1 + 1 from rfl, Nat.pow_succ, Nat.pow_succ, Nat.pow_succ]
        have := pos256 n
        omega
      clear hmin hvl hV hde hnc
      go_wp2_with fail
      go_cut [2] from 5 to 37 (fun v wx => ∃ g', v = .slice (some ⟨g', 0, none⟩) (n + 3) (n + 3) ∧ Below wr.heap.size wr wx ∧ wr.heap.size ≤ g' ∧ IntsAt wx g' 0 (digs (n + 3) (sv (k + 1))))
      case first =>
        have hS0 : Below wr.heap.size wr wr.drew := (Below.refl _ _).drew
        refine wp_region_held (S := fun w' => Below wr.heap.size wr w') (by kernel_rfl) ?_
        show wpAnyH _ _ _ _ _ 11 (Array.replicate 11 false) _ wr.drew
        refine take_at (i := 0) (some 11) _ rfl rfl (by kernel_rfl) (by kernel_rfl) (by kernel_rfl) (fun _ _ _ h => h) (yields_run (v := .slice (some ⟨g, 0, none⟩) n cap) rfl fun w' hw' => BigFrame.run_move (.tmp 2) rfl w') hS0 ?_
        simp only [Act.put, List.setIfInBounds_toArray, List.set_cons_succ, List.set_cons_zero]
        refine take_at (i := 3) (some 14) _ rfl rfl (by kernel_rfl) (by kernel_rfl) (by kernel_rfl) (fun _ _ _ h => h) (yields_run (v := .string decS) rfl fun w' hw' => BigFrame.run_move (.tmp 1) rfl w') hS0 ?_
        simp only [Act.put, List.setIfInBounds_toArray, List.set_cons_succ, List.set_cons_zero]
        refine take_at (i := 4) (some 15) _ rfl rfl (by kernel_rfl) (by kernel_rfl) (by kernel_rfl) (fun _ _ _ h => h) (yields_run (v := .int .i64 (k : Int)) rfl fun w' hw' => BigFrame.run_move (.tmp 3) rfl w') hS0 ?_
        simp only [Act.put, List.setIfInBounds_toArray, List.set_cons_succ, List.set_cons_zero]
        refine take_at (i := 5) (some 16) _ rfl rfl (by kernel_rfl) (by kernel_rfl) (by kernel_rfl) (fun _ _ _ h => h) (yields_run (v := .int .u8 ((d + 48 : Nat) : Int)) rfl fun w' hw' => run_indexO (hidx w') rfl) hS0 ?_
        simp only [Act.put, List.setIfInBounds_toArray, List.set_cons_succ, List.set_cons_zero]
        refine take_at (i := 6) (some 17) _ rfl rfl (by kernel_rfl) (by kernel_rfl) (by kernel_rfl) (fun _ _ _ h => h) (yields_run (v := .int .u8 (d : Int)) rfl fun w' hw' => run_bin_sub d hd9 rfl rfl rfl) hS0 ?_
        simp only [Act.put, List.setIfInBounds_toArray, List.set_cons_succ, List.set_cons_zero]
        refine take_at (i := 7) (some 18) _ rfl rfl (by kernel_rfl) (by kernel_rfl) (by kernel_rfl) (fun _ _ _ h => h) (yields_run (v := .int .i64 (d : Int)) rfl fun w' hw' => run_conv_int d hd9 rfl rfl) hS0 ?_
        simp only [Act.put, List.setIfInBounds_toArray, List.set_cons_succ, List.set_cons_zero]
        refine two_at (i := 1) (j := 8) (by kernel_rfl) ?_ ?_
        · refine new_at (some 12) (.slice (some ⟨wr.drew.heap.size, 0, none⟩) 1 1) (.cells (ints .i64 [10]) 3) rfl rfl rfl (by first | kernel_rfl | rfl) ?_
          have hS1 : Below wr.heap.size wr (wr.drew.alloc (.cells (ints .i64 [10]) 3)) := hS0.alloc hS0.size _
          refine ⟨hS1, ?_⟩
          simp only [Act.put, List.setIfInBounds_toArray, List.set_cons_succ, List.set_cons_zero]
          have h10 : (wr.drew.alloc (.cells (ints .i64 [10]) 3)).heap[wr.drew.heap.size]? = some (.cells (ints .i64 [10]) 3 (0, 0)) := alloc_row _ _ _
          generalize hw1 : (wr.drew.alloc (.cells (ints .i64 [10]) 3)) = w1 at hS1 h10 ⊢
          obtain ⟨g10, hgg10⟩ : ∃ z, z = wr.drew.heap.size := ⟨_, rfl⟩
          rw [← hgg10] at h10 ⊢
          clear hgg10 hw1 hS0
          refine two_at (i := 2) (j := 8) (by kernel_rfl) ?_ ?_
          · have cT := times44 (some ⟨g, 0, none⟩) n cap (digs n V) (some ⟨g10, 0, none⟩) 1 1 [10] w1 (digs_len _ _) rfl (by omega) (by omega) (IView.below (fun _ => ⟨g, 0, rfl, hrow⟩) hS1) (fun _ => ⟨g10, 0, rfl, ints_row h10⟩) (digs_dig _ _) dig10
            rw [valD_digs_lt HVL.out, val10] at cT
            refine call_at (some 13) rfl rfl rfl 67 #[.slice (some ⟨g, 0, none⟩) n cap, .slice (some ⟨g10, 0, none⟩) 1 1] (R := fun v w' => ∃ g, v = .slice (some ⟨g, 0, none⟩) (n + 1 + 1) (n + 1 + 1) ∧ RelR w1 w' g (digs (n + 1 + 1) (V * 10))) (by kernel_rfl) (cT.mono fun e w' ⟨g, h1, h2⟩ => ⟨_, h1, g, rfl, h2⟩) ?_
            rintro v2 w2 ⟨gT, rfl, hRT⟩
            have hS2 : Below wr.heap.size wr w2 := hS1.trans (hRT.1.mono hS1.size)
            have hT := hRT.2.2
            refine ⟨hS2, ?_⟩
            simp only [Act.put, List.setIfInBounds_toArray, List.set_cons_succ, List.set_cons_zero]
            have h10' := block_below hRT.1 (lt_of_heap h10) h10
            clear h10
            have h10 := h10'
            clear h10'
            clear cT hRT hS1
            refine one_at (i := 8) (by kernel_rfl) ?_
            refine new_at (some 19) (.slice (some ⟨w2.heap.size, 0, none⟩) 1 1) (.cells (ints .i64 [d]) 3) rfl rfl rfl (by first | kernel_rfl | rfl) ?_
            have hS3 : Below wr.heap.size wr (w2.alloc (.cells (ints .i64 [d]) 3)) := hS2.alloc hS2.size _
            refine ⟨hS3, ?_⟩
            simp only [Act.put, List.setIfInBounds_toArray, List.set_cons_succ, List.set_cons_zero]
            have hd1 : (w2.alloc (.cells (ints .i64 [d]) 3)).heap[w2.heap.size]? = some (.cells (ints .i64 [d]) 3 (0, 0)) := alloc_row _ _ _
            have h10' := block_below (below1 w2 (.cells (ints .i64 [d]) 3)) (lt_of_heap h10) h10
            clear h10
            have h10 := h10'
            clear h10'
            have hT' := block_below (below1 w2 (.cells (ints .i64 [d]) 3)) (lt_of_heap hT) hT
            clear hT
            have hT := hT'
            clear hT'
            generalize hw3 : (w2.alloc (.cells (ints .i64 [d]) 3)) = w3 at hS3 hd1 h10 hT ⊢
            obtain ⟨gd, hggd⟩ : ∃ z, z = w2.heap.size := ⟨_, rfl⟩
            rw [← hggd] at hd1 ⊢
            clear hggd hw3 hS2
            refine one_at (i := 9) (by kernel_rfl) ?_
            have cP := plus32 (some ⟨gT, 0, none⟩) (n + 1 + 1) (n + 1 + 1) (digs (n + 1 + 1) (V * 10)) (some ⟨gd, 0, none⟩) 1 1 [d] w3 (digs_len _ _) rfl (by omega) (by omega) (fun _ => ⟨gT, 0, rfl, ints_row hT⟩) (fun _ => ⟨gd, 0, rfl, ints_row hd1⟩) (digs_dig _ _) (dig1 hd9)
            rw [valD_digs_lt HVT.out, valOne, show max (n + 1 + 1) 1 + 1 = n + 3 by omega, ← HSV.out] at cP
            refine call_at (some 20) rfl rfl rfl 27 #[.slice (some ⟨gT, 0, none⟩) (n + 1 + 1) (n + 1 + 1), .slice (some ⟨gd, 0, none⟩) 1 1] (R := fun v w' => ∃ g, v = .slice (some ⟨g, 0, none⟩) (n + 3) (n + 3) ∧ RelR w3 w' g (digs (n + 3) (sv (k + 1)))) (by kernel_rfl) (cP.mono fun e w' ⟨g, h1, h2⟩ => ⟨_, h1, g, rfl, h2⟩) ?_
            rintro v8 w8 ⟨g8, rfl, hR8⟩
            have hS8 : Below wr.heap.size wr w8 := hS3.trans (hR8.1.mono hS3.size)
            refine ⟨hS8, ?_⟩
            simp only [Act.put, List.setIfInBounds_toArray, List.set_cons_succ, List.set_cons_zero]
            refine one_at (i := 10) (by kernel_rfl) ?_
            refine run_at (some 2) (.slice (some ⟨g8, 0, none⟩) (n + 3) (n + 3)) rfl rfl rfl (run_assignO (.tmp 20) rfl _) ?_
            simp only [Act.put, List.setIfInBounds_toArray, List.set_cons_succ, List.set_cons_zero]
            refine ⟨hS8, wpAnyH_done (by kernel_rfl) ?_ _⟩
            go_wp2_with fail
            go_meet
            case rel => exact ⟨g8, rfl, hS8, Nat.le_trans hS3.size hR8.2.1, ints_row hR8.2.2⟩
          · refine new_at (some 19) (.slice (some ⟨w1.heap.size, 0, none⟩) 1 1) (.cells (ints .i64 [d]) 3) rfl rfl rfl (by first | kernel_rfl | rfl) ?_
            have hS2 : Below wr.heap.size wr (w1.alloc (.cells (ints .i64 [d]) 3)) := hS1.alloc hS1.size _
            refine ⟨hS2, ?_⟩
            simp only [Act.put, List.setIfInBounds_toArray, List.set_cons_succ, List.set_cons_zero]
            have hd1 : (w1.alloc (.cells (ints .i64 [d]) 3)).heap[w1.heap.size]? = some (.cells (ints .i64 [d]) 3 (0, 0)) := alloc_row _ _ _
            have h10' := block_below (below1 w1 (.cells (ints .i64 [d]) 3)) (lt_of_heap h10) h10
            clear h10
            have h10 := h10'
            clear h10'
            generalize hw2 : (w1.alloc (.cells (ints .i64 [d]) 3)) = w2 at hS2 hd1 h10 ⊢
            obtain ⟨gd, hggd⟩ : ∃ z, z = w1.heap.size := ⟨_, rfl⟩
            rw [← hggd] at hd1 ⊢
            clear hggd hw2 hS1
            refine one_at (i := 2) (by kernel_rfl) ?_
            have cT := times44 (some ⟨g, 0, none⟩) n cap (digs n V) (some ⟨g10, 0, none⟩) 1 1 [10] w2 (digs_len _ _) rfl (by omega) (by omega) (IView.below (fun _ => ⟨g, 0, rfl, hrow⟩) hS2) (fun _ => ⟨g10, 0, rfl, ints_row h10⟩) (digs_dig _ _) dig10
            rw [valD_digs_lt HVL.out, val10] at cT
            refine call_at (some 13) rfl rfl rfl 67 #[.slice (some ⟨g, 0, none⟩) n cap, .slice (some ⟨g10, 0, none⟩) 1 1] (R := fun v w' => ∃ g, v = .slice (some ⟨g, 0, none⟩) (n + 1 + 1) (n + 1 + 1) ∧ RelR w2 w' g (digs (n + 1 + 1) (V * 10))) (by kernel_rfl) (cT.mono fun e w' ⟨g, h1, h2⟩ => ⟨_, h1, g, rfl, h2⟩) ?_
            rintro v3 w3 ⟨gT, rfl, hRT⟩
            have hS3 : Below wr.heap.size wr w3 := hS2.trans (hRT.1.mono hS2.size)
            have hT := hRT.2.2
            refine ⟨hS3, ?_⟩
            simp only [Act.put, List.setIfInBounds_toArray, List.set_cons_succ, List.set_cons_zero]
            have h10' := block_below hRT.1 (lt_of_heap h10) h10
            clear h10
            have h10 := h10'
            clear h10'
            have hd1' := block_below hRT.1 (lt_of_heap hd1) hd1
            clear hd1
            have hd1 := hd1'
            clear hd1'
            clear cT hRT hS2
            refine one_at (i := 9) (by kernel_rfl) ?_
            have cP := plus32 (some ⟨gT, 0, none⟩) (n + 1 + 1) (n + 1 + 1) (digs (n + 1 + 1) (V * 10)) (some ⟨gd, 0, none⟩) 1 1 [d] w3 (digs_len _ _) rfl (by omega) (by omega) (fun _ => ⟨gT, 0, rfl, ints_row hT⟩) (fun _ => ⟨gd, 0, rfl, ints_row hd1⟩) (digs_dig _ _) (dig1 hd9)
            rw [valD_digs_lt HVT.out, valOne, show max (n + 1 + 1) 1 + 1 = n + 3 by omega, ← HSV.out] at cP
            refine call_at (some 20) rfl rfl rfl 27 #[.slice (some ⟨gT, 0, none⟩) (n + 1 + 1) (n + 1 + 1), .slice (some ⟨gd, 0, none⟩) 1 1] (R := fun v w' => ∃ g, v = .slice (some ⟨g, 0, none⟩) (n + 3) (n + 3) ∧ RelR w3 w' g (digs (n + 3) (sv (k + 1)))) (by kernel_rfl) (cP.mono fun e w' ⟨g, h1, h2⟩ => ⟨_, h1, g, rfl, h2⟩) ?_
            rintro v8 w8 ⟨g8, rfl, hR8⟩
            have hS8 : Below wr.heap.size wr w8 := hS3.trans (hR8.1.mono hS3.size)
            refine ⟨hS8, ?_⟩
            simp only [Act.put, List.setIfInBounds_toArray, List.set_cons_succ, List.set_cons_zero]
            refine one_at (i := 10) (by kernel_rfl) ?_
            refine run_at (some 2) (.slice (some ⟨g8, 0, none⟩) (n + 3) (n + 3)) rfl rfl rfl (run_assignO (.tmp 20) rfl _) ?_
            simp only [Act.put, List.setIfInBounds_toArray, List.set_cons_succ, List.set_cons_zero]
            refine ⟨hS8, wpAnyH_done (by kernel_rfl) ?_ _⟩
            go_wp2_with fail
            go_meet
            case rel => exact ⟨g8, rfl, hS8, Nat.le_trans hS3.size hR8.2.1, ints_row hR8.2.2⟩
        · refine new_at (some 19) (.slice (some ⟨wr.drew.heap.size, 0, none⟩) 1 1) (.cells (ints .i64 [d]) 3) rfl rfl rfl (by first | kernel_rfl | rfl) ?_
          have hS1 : Below wr.heap.size wr (wr.drew.alloc (.cells (ints .i64 [d]) 3)) := hS0.alloc hS0.size _
          refine ⟨hS1, ?_⟩
          simp only [Act.put, List.setIfInBounds_toArray, List.set_cons_succ, List.set_cons_zero]
          have hd1 : (wr.drew.alloc (.cells (ints .i64 [d]) 3)).heap[wr.drew.heap.size]? = some (.cells (ints .i64 [d]) 3 (0, 0)) := alloc_row _ _ _
          generalize hw1 : (wr.drew.alloc (.cells (ints .i64 [d]) 3)) = w1 at hS1 hd1 ⊢
          obtain ⟨gd, hggd⟩ : ∃ z, z = wr.drew.heap.size := ⟨_, rfl⟩
          rw [← hggd] at hd1 ⊢
          clear hggd hw1 hS0
          refine one_at (i := 1) (by kernel_rfl) ?_
          refine new_at (some 12) (.slice (some ⟨w1.heap.size, 0, none⟩) 1 1) (.cells (ints .i64 [10]) 3) rfl rfl rfl (by first | kernel_rfl | rfl) ?_
          have hS2 : Below wr.heap.size wr (w1.alloc (.cells (ints .i64 [10]) 3)) := hS1.alloc hS1.size _
          refine ⟨hS2, ?_⟩
          simp only [Act.put, List.setIfInBounds_toArray, List.set_cons_succ, List.set_cons_zero]
          have h10 : (w1.alloc (.cells (ints .i64 [10]) 3)).heap[w1.heap.size]? = some (.cells (ints .i64 [10]) 3 (0, 0)) := alloc_row _ _ _
          have hd1' := block_below (below1 w1 (.cells (ints .i64 [10]) 3)) (lt_of_heap hd1) hd1
          clear hd1
          have hd1 := hd1'
          clear hd1'
          generalize hw2 : (w1.alloc (.cells (ints .i64 [10]) 3)) = w2 at hS2 h10 hd1 ⊢
          obtain ⟨g10, hgg10⟩ : ∃ z, z = w1.heap.size := ⟨_, rfl⟩
          rw [← hgg10] at h10 ⊢
          clear hgg10 hw2 hS1
          refine one_at (i := 2) (by kernel_rfl) ?_
          have cT := times44 (some ⟨g, 0, none⟩) n cap (digs n V) (some ⟨g10, 0, none⟩) 1 1 [10] w2 (digs_len _ _) rfl (by omega) (by omega) (IView.below (fun _ => ⟨g, 0, rfl, hrow⟩) hS2) (fun _ => ⟨g10, 0, rfl, ints_row h10⟩) (digs_dig _ _) dig10
          rw [valD_digs_lt HVL.out, val10] at cT
          refine call_at (some 13) rfl rfl rfl 67 #[.slice (some ⟨g, 0, none⟩) n cap, .slice (some ⟨g10, 0, none⟩) 1 1] (R := fun v w' => ∃ g, v = .slice (some ⟨g, 0, none⟩) (n + 1 + 1) (n + 1 + 1) ∧ RelR w2 w' g (digs (n + 1 + 1) (V * 10))) (by kernel_rfl) (cT.mono fun e w' ⟨g, h1, h2⟩ => ⟨_, h1, g, rfl, h2⟩) ?_
          rintro v3 w3 ⟨gT, rfl, hRT⟩
          have hS3 : Below wr.heap.size wr w3 := hS2.trans (hRT.1.mono hS2.size)
          have hT := hRT.2.2
          refine ⟨hS3, ?_⟩
          simp only [Act.put, List.setIfInBounds_toArray, List.set_cons_succ, List.set_cons_zero]
          have hd1' := block_below hRT.1 (lt_of_heap hd1) hd1
          clear hd1
          have hd1 := hd1'
          clear hd1'
          have h10' := block_below hRT.1 (lt_of_heap h10) h10
          clear h10
          have h10 := h10'
          clear h10'
          clear cT hRT hS2
          refine one_at (i := 9) (by kernel_rfl) ?_
          have cP := plus32 (some ⟨gT, 0, none⟩) (n + 1 + 1) (n + 1 + 1) (digs (n + 1 + 1) (V * 10)) (some ⟨gd, 0, none⟩) 1 1 [d] w3 (digs_len _ _) rfl (by omega) (by omega) (fun _ => ⟨gT, 0, rfl, ints_row hT⟩) (fun _ => ⟨gd, 0, rfl, ints_row hd1⟩) (digs_dig _ _) (dig1 hd9)
          rw [valD_digs_lt HVT.out, valOne, show max (n + 1 + 1) 1 + 1 = n + 3 by omega, ← HSV.out] at cP
          refine call_at (some 20) rfl rfl rfl 27 #[.slice (some ⟨gT, 0, none⟩) (n + 1 + 1) (n + 1 + 1), .slice (some ⟨gd, 0, none⟩) 1 1] (R := fun v w' => ∃ g, v = .slice (some ⟨g, 0, none⟩) (n + 3) (n + 3) ∧ RelR w3 w' g (digs (n + 3) (sv (k + 1)))) (by kernel_rfl) (cP.mono fun e w' ⟨g, h1, h2⟩ => ⟨_, h1, g, rfl, h2⟩) ?_
          rintro v8 w8 ⟨g8, rfl, hR8⟩
          have hS8 : Below wr.heap.size wr w8 := hS3.trans (hR8.1.mono hS3.size)
          refine ⟨hS8, ?_⟩
          simp only [Act.put, List.setIfInBounds_toArray, List.set_cons_succ, List.set_cons_zero]
          refine one_at (i := 10) (by kernel_rfl) ?_
          refine run_at (some 2) (.slice (some ⟨g8, 0, none⟩) (n + 3) (n + 3)) rfl rfl rfl (run_assignO (.tmp 20) rfl _) ?_
          simp only [Act.put, List.setIfInBounds_toArray, List.set_cons_succ, List.set_cons_zero]
          refine ⟨hS8, wpAnyH_done (by kernel_rfl) ?_ _⟩
          go_wp2_with fail
          go_meet
          case rel => exact ⟨g8, rfl, hS8, Nat.le_trans hS3.size hR8.2.1, ints_row hR8.2.2⟩
      case rest =>
        obtain ⟨g', rfl, hB', hgr, hrow'⟩ := hcut
        have hgw' : w.heap.size ≤ g' := Nat.le_trans hB.size hgr
        clear hgr
        have hBw : Below w.heap.size w wc := hB.trans (hB'.mono hB.size)
        have hk1 : k + 1 ≤ 38 := hlt
        obtain ⟨V2, hV2⟩ : ∃ V, V = sv (k + 1) := ⟨_, rfl⟩
        have HV2 : Hid (V2 = sv (k + 1)) := hV2
        rw [← hV2] at hrow' HV3
        clear hV2 hrow hB' hB HSV HVL HVT hidx
        go_wp2_with fail
        go_loopw [2] (fun v wr => wr = wc ∧ ∃ m : Nat, 1 ≤ m ∧ m ≤ n + 3 ∧ v = .slice (some ⟨g', 0, none⟩) m (n + 3) ∧ V2 < 256 ^ m) (fun v _ => lenOf v)
        case atStart => exact ⟨rfl, n + 3, by omega, by omega, rfl, HV3.out⟩
        case round =>
          obtain ⟨rfl, m, hm1, hm3, rfl, hVm⟩ := hrel
          have hd : ∀ m', m' ≤ n + 3 → IntsAt wr g' 0 (digs m' V2) := fun m' hm' i hi => by
            rw [digs_len] at hi
            rw [hrow' i (by rw [digs_len]; omega), digs_get _ _ _ (by omega), digs_get _ _ _ hi]
          have HD : Hid (∀ m', m' ≤ n + 3 → IntsAt wr g' 0 (digs m' V2)) := hd
          have HVm : Hid (V2 < 256 ^ m) := hVm
          have HB : Hid (Below w.heap.size w wr) := hBw
          clear hd HV3 hVm hBw
          by_cases hm : m = 1
          · subst hm
            clear hrow'
            go_wp2
            go_roundw
            case rel => exact ⟨k + 1, hk1, by go_num, g', 1, n + 3, rfl, by omega, by omega, by omega, .inl rfl, by rw [← HV2.out]; exact HVm.out, HB.out, hgw', by rw [← HV2.out]; exact HD.out 1 (by omega)⟩
            case measure => simp [intOf]; omega
          · have c1 := hrow' (m - 1) (by rw [digs_len]; omega)
            rw [Nat.zero_add] at c1
            have hz : (digs (n + 3) V2).getD (m - 1) 0 = (digs m V2).getD (m - 1) 0 := by rw [digs_get _ _ _ (by omega), digs_get _ _ _ (by omega)]
            rw [hz] at c1
            have hgt : (1 : Int) < (m : Int) := by omega
            have hi1 : ((m : Int) - 1) = ((m - 1 : Nat) : Int) := by omega
            have HTN : Hid ((digs m V2).getD (m - 1) 0 ≠ 0 → 256 ^ (m - 1) ≤ V2) := fun h => top_nonzero hm1 h
            have HTZ : Hid ((digs m V2).getD (m - 1) 0 = 0 → V2 < 256 ^ (m - 1)) := fun h => top_zeroS hm1 HVm.out h
            obtain ⟨x, hx⟩ : ∃ x, x = (digs m V2).getD (m - 1) 0 := ⟨_, rfl⟩
            rw [← hx] at c1 HTN HTZ
            clear hx hz hrow' hm
            by_cases hx0 : x = 0
            · subst hx0
              have HZ : Hid (V2 < 256 ^ (m - 1)) := HTZ.out rfl
              go_wp2
              go_roundw
              case rel => first | exact ⟨trivial, m - 1, by omega, by omega, rfl, HZ.out⟩ | exact ⟨rfl, m - 1, by omega, by omega, rfl, HZ.out⟩
              case measure => simp [lenOf]; omega
            · have hxb : ((x : Int) == 0) = false := by simp; omega
              have HZ : Hid (256 ^ (m - 1) ≤ V2) := HTN.out hx0
              go_wp2
              go_roundw
              case rel => exact ⟨k + 1, hk1, by go_num, g', m, n + 3, rfl, by omega, by omega, by omega, .inr (by rw [← HV2.out]; exact HZ.out), by rw [← HV2.out]; exact HVm.out, HB.out, hgw', by rw [← HV2.out]; exact HD.out m (by omega)⟩
              case measure => simp [intOf]; omega
    · obtain rfl : k = 38 := by omega
      obtain ⟨g, n, cap, rfl, hrest⟩ := hS
      go_wp2
      go_ret
      exact ⟨_, rfl, g, n, cap, rfl, hrest⟩
def T252 : Nat := 7237005577332262213973186563042994240829374041602535252466099000494570602496
theorem T252_eq : T252 = 256 ^ 31 * 16 := by decide
theorem T252_start : (digs 32 0).set 31 16 = digs 32 (T252 + sv 38 % 256 ^ 0) := by decide
theorem T252_end {n : Nat} (h : sv 38 < 256 ^ n) : T252 + sv 38 % 256 ^ n = LN := by
  rw [Nat.mod_eq_of_lt h]; decide
theorem T252_lt (k : Nat) (S : Nat) (hk : k ≤ 31) : T252 + S % 256 ^ k < 256 ^ 32 := by
  have h1 := Nat.mod_lt S (pos256 k)
  have h2 : 256 ^ k ≤ 256 ^ 31 := Nat.pow_le_pow_right (by decide) hk
  have : T252 + 256 ^ 31 < 256 ^ 32 := by decide
  omega
theorem T252_get (k S : Nat) (hk : k < 31) : (digs 32 (T252 + S % 256 ^ k)).getD k 0 = 0 := by
  have e : T252 = 256 ^ k * (256 ^ (30 - k) * 256 * 16) := by
    rw [T252_eq, ← Nat.mul_assoc, ← Nat.mul_assoc, ← Nat.pow_add, ← Nat.pow_succ]
    congr 2
    omega
  rw [digs_get _ _ _ (by omega), e, Nat.mul_add_div (pos256 k), Nat.div_eq_of_lt (Nat.mod_lt _ (pos256 k))]
  omega
theorem T252_step (k S : Nat) (hk : k < 31) : (digs 32 (T252 + S % 256 ^ k)).set k (S / 256 ^ k % 256) = digs 32 (T252 + S % 256 ^ (k + 1)) := by
  have hs := valD_set (digs 32 (T252 + S % 256 ^ k)) k (S / 256 ^ k % 256) (by rw [digs_len]; omega)
  rw [T252_get k S hk, valD_digs_lt (T252_lt k S (by omega))] at hs
  refine digs_of ((digs_dig _ _).set (Nat.mod_lt _ (by decide))) (by rw [List.length_set, digs_len]) ?_
  rw [Nat.pow_succ, Nat.mod_mul]
  omega
theorem ref_L17 (w : World) : Calls Tryd.prog 22 #[] w fun e w' => ∃ g, e = .returned (.slice (some ⟨g, 0, none⟩) 32 32) ∧ RelR w w' g (digs 32 LN) := by
  have hmk := make31 32 (by omega)
  simp only [Int.cast_ofNat_Int] at hmk
  have hR0 : RelR w (w.alloc (.cells (ints .i64 (digs 32 0)) 3)) w.heap.size (digs 32 0) := ⟨below1 _ _, Nat.le_refl _, alloc_row _ _ _⟩
  have c0 := hR0.at 31 (by rw [digs_len]; omega)
  have f0 := hR0.free 31
  have hR1 : RelR w (w.alloc (.cells ((ints .i64 (digs 32 0)).setIfInBounds 31 (.int .i64 16)) 3)) w.heap.size (digs 32 (T252 + sv 38 % 256 ^ 0)) := by
    have e := ints_set .i64 (digs 32 0) 31 16
    rw [T252_start] at e
    exact ⟨below1 _ _, Nat.le_refl _, by rw [← e]; exact heap_alloc_new _ _⟩
  clear hR0
  go_enter Tryd.func22, Tryd.ntmps22
  go_wp2_with fail
  generalize (w.alloc (.cells ((ints .i64 (digs 32 0)).setIfInBounds 31 (.int .i64 16)) 3)) = w1 at hR1 ⊢
  generalize hgo : w.heap.size = go at *
  clear c0 f0 hmk
  refine (small29 w1).mono ?_
  rintro e w2 ⟨v, rfl, g2, n, cap, rfl, hnc, hcap, hn1, hmin, hvl, hB2, hg2, hrow⟩
  have hn16 := relS_len (Nat.le_refl _) hmin
  have hgl := lt_of_heap hR1.2.2
  have hR2 : RelR w w2 go (digs 32 (T252 + sv 38 % 256 ^ 0)) := by
    have hs1 : w.heap.size ≤ w1.heap.size := hR1.1.size
    exact ⟨hR1.1.trans (hB2.mono hs1), hR1.2.1, block_below hB2 hgl hR1.2.2⟩
  have hne : g2 ≠ go := by omega
  have HVL : Hid (sv 38 < 256 ^ n) := hvl
  have HG : Hid (w.heap.size = go) := hgo
  clear hmin hvl hB2 hR1 hgl hg2 hgo
  go_wp2_with fail
  go_loopw [3] (fun i wr => ∃ k : Nat, k ≤ n ∧ i = .int .i64 k ∧ RelR w wr go (digs 32 (T252 + sv 38 % 256 ^ k)) ∧ IntsAt wr g2 0 (digs n (sv 38))) (fun i _ => n - (intOf i).toNat)
  case atStart => exact ⟨0, by omega, rfl, hR2, hrow⟩
  case round =>
    obtain ⟨k, hk, rfl, hR, hI⟩ := hrel
    clear hR2 hrow
    by_cases hlt : k < n
    · have c1 := hR.at k (by rw [digs_len]; omega)
      rw [T252_get k _ (by omega)] at c1
      have f1 := hR.free k
      have c2 := hI k (by rw [digs_len]; omega)
      rw [Nat.zero_add, digs_get _ _ _ hlt] at c2
      have hst := T252_step k (sv 38) (by omega)
      have hdl : sv 38 / 256 ^ k % 256 < 256 := Nat.mod_lt _ (by decide)
      obtain ⟨d, hd⟩ : ∃ d, d = sv 38 / 256 ^ k % 256 := ⟨_, rfl⟩
      rw [← hd] at c2 hst hdl
      have HN : Hid (RelR w (wr.setCell ⟨go, k, none⟩ (.int .i64 (d : Int))).drew go (digs 32 (T252 + sv 38 % 256 ^ (k + 1))) ∧ IntsAt (wr.setCell ⟨go, k, none⟩ (.int .i64 (d : Int))).drew g2 0 (digs n (sv 38))) := by
        refine ⟨?_, fun i hi => ?_⟩
        · rw [← hst]; exact (hR.set k d).drew
        · show (wr.setCell ⟨go, k, none⟩ (.int .i64 (d : Int))).cell? _ = _
          rw [World.cell?_setCell_far _ _ _ _ (by show go ≠ g2; omega)]
          exact hI i hi
      clear hd hst hR hI
      go_wp2_with fail
      go_big_region
      go_wp2
      go_roundw
      case rel => exact ⟨k + 1, by omega, by go_num, HN.out.1, HN.out.2⟩
      case measure => simp [intOf]; omega
    · obtain rfl : k = n := by omega
      rw [T252_end HVL.out] at hR
      go_wp2
      go_ret
      exact ⟨go, rfl, hR⟩
theorem rL (w : World) : Ret 22 #[] w (DRow (digs 32 LN)) := (ref_L17 w).mono fun e w' ⟨g, he, hR⟩ => ⟨_, he, hR.1, drow_of hR (digs_len _ _)⟩
end Go.Proofs.YtpfcboakafbnlaaDoor
