/-
  few, lives; moves of operations under a guard.
-/
import Derived.Test.YtoehjkebfpoigaaDoorR7
set_option linter.unusedVariables false
namespace Go.Proofs.YtoehjkebfpoigaaDoor
open Go.RowKit Go.Sort Go.BigFrame
set_option maxRecDepth 100000
set_option maxHeartbeats 2000000
section
variable {P : Program} {ops : Array Oper} {Q : Exit → Act → World → Prop} {S : World → Prop}
/- moves of operations under a guard that holds -/
theorem wpOp_of_wpG {i : Nat} {o : Oper} {K : Act → World → Prop} {a : Act} {w : World} (hi : ops[i]? = some o) (hw : Region.wanted o (yielded ops a.tmps) = true) (h : o.wp P a w K Q) : wpOp P ops Q i K a w := by
  unfold wpOp
  simp only [hi]
  rw [if_pos hw]
  exact .inl h
theorem yields_runG {o : Oper} {v : Value} {a : Act} (hw : Region.wanted o (yielded ops a.tmps) = true) (h : ∀ w, S w → (execOp a.eval o).run P w = .ok (.value v) w) : YieldsIf P ops S o v a := .inl ⟨hw, h⟩
theorem call_atG {i : Nat} {o : Oper} {K : Act → World → Prop} {a : Act} {w : World} (dst : Option Tmp) (hi : ops[i]? = some o) (hw : Region.wanted o (yielded ops a.tmps) = true) (hd : o.dst = dst) (f : FuncId) (args : Array Value) {R : Value → World → Prop}
    (hr : (execOp a.eval o).run P w = .ok (.enter f args) w) (hc : Calls P f args w fun e w' => ∃ v, e = .returned v ∧ R v w') (hk : ∀ v w', R v w' → K (a.put dst v) w') : wpOp P ops Q i K a w :=
  wpOp_of_wpG hi hw (wp_call hr hc (by rw [hd]; exact hk))
theorem run_atG {i : Nat} {o : Oper} {K : Act → World → Prop} {a : Act} {w : World} (dst : Option Tmp) (v : Value) (hi : ops[i]? = some o) (hw : Region.wanted o (yielded ops a.tmps) = true) (hd : o.dst = dst) (hr : (execOp a.eval o).run P w = .ok (.value v) w) (h : K (a.put dst v) w) : wpOp P ops Q i K a w := by
  refine wpOp_of_wpG hi hw ?_
  unfold Oper.wp
  rw [hr]
  subst hd
  exact h
/-- An operation that lays a new block, under a guard that holds. -/
theorem new_atG {i : Nat} {o : Oper} {K : Act → World → Prop} {a : Act} {w : World} (dst : Option Tmp) (v : Value) (ob : Obj) (hi : ops[i]? = some o) (hw : Region.wanted o (yielded ops a.tmps) = true) (hd : o.dst = dst)
    (hr : (execOp a.eval o).run P w = .ok (.value v) (w.alloc ob)) (h : K (a.put dst v) (w.alloc ob)) : wpOp P ops Q i K a w := by
  refine wpOp_of_wpG hi hw ?_
  unfold Oper.wp
  rw [hr]
  subst hd
  exact h
end
theorem strengthen {P : Program} {md : Region.Mode} {ops : Array Oper} {Q : Exit → Act → World → Prop} {S S' : World → Prop} (hS : ∀ w, S' w → S w) : ∀ (n : Nat) (listed : Array Bool) (a : Act) (w : World), wpAnyH P md ops Q S' n listed a w → wpAnyH P md ops Q S n listed a w
  | 0, _, _, _, h => h
  | n + 1, _, _, _, h => ⟨h.1, fun i hi => wpOp_mono (fun a' w' h' => ⟨hS _ h'.1, strengthen hS n _ a' w' h'.2⟩) (h.2 i hi)⟩
theorem run_eqStrO {ρ : Operand → Value} {x y : Operand} {w : World} {s t : ByteArray} {o : Oper} (ho : o.op = .binOp .eql 9 x y 9) (hx : ρ x = .string s) (hy : ρ y = .string t) : (execOp ρ o).run Tryd.prog w = .ok (.value (.bool (s.toList == t.toList))) w := by
  simp [execOp, ho, hx, hy, go_sem]
theorem run_eqStrB {ρ : Operand → Value} {x y : Operand} {w : World} {s t : ByteArray} {o : Oper} {b : Bool} (hb : (s.toList == t.toList) = b) (ho : o.op = .binOp .eql 9 x y 9) (hx : ρ x = .string s) (hy : ρ y = .string t) : (execOp ρ o).run Tryd.prog w = .ok (.value (.bool b)) w := by
  rw [← hb]; exact run_eqStrO ho hx hy
theorem run_loadO {ρ : Operand → Value} {x : Operand} {w : World} {o : Oper} {p : Addr} {n : Int} (ho : o.op = .load 5 x) (hx : ρ x = .pointer (some p)) (hc : w.cell? p = some (.int .u8 n)) : (execOp ρ o).run Tryd.prog w = .ok (.value (.int .u8 n)) w := by
  simp [execOp, ho, hx, go_sem, hc, Instr.loadAt, Instr.sureAddr]
theorem New32.ref {w w' : World} {v : Value} {R : Nat} (h : New32 w w' v R) : Ref32 w w' v R := by
  obtain ⟨gb, h1, h2, h3, h4⟩ := h
  exact ⟨_, 32, h1, by omega, by omega, h3, fun _ => ⟨gb, 0, rfl, bytes_row h4⟩⟩
/-- Same bytes: the strings are the same. -/
theorem str_refl (l : List Nat) : ((strOf l).toList == (strOf l).toList) = true := by simp
theorem few8 (a : Option Addr) (len cap : Nat) (bs : List Nat) (most : Nat) (w : World) (hlen : Hid (bs.length = len)) (hcap : len ≤ cap) (hcap2 : cap ≤ 9223372036854775807) (hm : most ≤ 100) :
    Calls Tryd.prog 8 #[.slice a len cap, .int .i64 most] w fun e w' => e = .returned (.slice a (min len most) cap) ∧ w = w' := by
  by_cases h : most < len
  · rw [show min len most = most by omega]
    go_enter Tryd.func8, Tryd.ntmps8
    go_wp2
    go_ret
    exact ⟨rfl, rfl⟩
  · rw [show min len most = len by omega]
    go_enter Tryd.func8, Tryd.ntmps8
    go_wp2
    go_ret
    exact ⟨rfl, rfl⟩
theorem min_take {bs : List Nat} {len most : Nat} (h : bs.length = len) : (bs.take most).length = min len most := by rw [List.length_take, h]; omega
theorem dig_lt {l : List Nat} (h : ∀ x ∈ l, x < 256) : Dig l := fun j => by
  by_cases hj : j < l.length
  · have := h l[j] (List.getElem_mem hj)
    simpa [hj] using this
  · rw [List.getD_eq_getElem?_getD, List.getElem?_eq_none (by omega)]; decide
def LBs : List Nat := [237, 211, 245, 92, 26, 99, 18, 88, 214, 156, 247, 162, 222, 249, 222, 20, 0, 0, 0, 0, 0, 0, 0, 0, 0, 0, 0, 0, 0, 0, 0, 16]
theorem LBs_val : valD LBs = LL := by decide
theorem LBs_dig : Dig LBs := dig_lt (by decide)
theorem LBs_is : isL LBs = false := by decide
theorem lives11 (w : World) (hT0 : Tab w) : Calls Tryd.prog 11 #[] w fun e w' => e = .returned (.bool true) ∧ Below w.heap.size w w' := by
  have hB1 : Below w.heap.size w (((w.alloc (.cells #[.int .u8 3] 5)).alloc (.cells #[.int .u8 4] 5)).alloc (.cells #[.int .u8 5] 5)) := below3 _ _ _ _
  have v0 : (((w.alloc (.cells #[.int .u8 3] 5)).alloc (.cells #[.int .u8 4] 5)).alloc (.cells #[.int .u8 5] 5)).heap[w.heap.size]? = some (.cells (ints .u8 [3]) 5 (0, 0)) := heap3_0 _ _ _ _
  have v1 : (((w.alloc (.cells #[.int .u8 3] 5)).alloc (.cells #[.int .u8 4] 5)).alloc (.cells #[.int .u8 5] 5)).heap[w.heap.size + 1]? = some (.cells (ints .u8 [4]) 5 (0, 0)) := heap3_1 _ _ _ _
  have v2 : (((w.alloc (.cells #[.int .u8 3] 5)).alloc (.cells #[.int .u8 4] 5)).alloc (.cells #[.int .u8 5] 5)).heap[w.heap.size + 1 + 1]? = some (.cells (ints .u8 [5]) 5 (0, 0)) := heap3_2 _ _ _ _
  have cM := mulAdd12 (some ⟨w.heap.size, 0, none⟩) 1 1 [3] (some ⟨w.heap.size + 1, 0, none⟩) 1 1 [4] (some ⟨w.heap.size + 1 + 1, 0, none⟩) 1 1 [5] _ rfl rfl rfl (by omega) (by omega) (by omega) (by omega) (by omega) (by omega) (dig_lt (by decide)) (dig_lt (by decide)) (dig_lt (by decide)) (fun _ => ⟨_, 0, rfl, bytes_row v0⟩) (fun _ => ⟨_, 0, rfl, bytes_row v1⟩) (fun _ => ⟨_, 0, rfl, bytes_row v2⟩) (hT0.below hB1)
  have e17 : (valD ([3].take 32) * valD ([4].take 32) + valD ([5].take 32)) % LL = 17 := by decide
  rw [e17] at cM
  have c17 : ∀ (w' : World) {g : Nat}, w'.heap[g]? = some (.cells (ints .u8 (digs 32 17)) 5 (0, 0)) → w'.cell? ⟨g, 0, none⟩ = some (.int .u8 17) := fun w' g h => cell_ints h 0 (by rw [digs_len]; omega)
  have cR : ∀ w1 {g : Nat}, w1.heap[g]? = some (.cells (ints .u8 LBs) 5 (0, 0)) → Tab w1 → Calls Tryd.prog 9 #[.slice (some ⟨g, 0, none⟩) 32 32] w1 fun e w' => ∃ v, e = .returned v ∧ New32 w1 w' v 0 := fun w1 g h ht => by
    have := reduce9 (some ⟨g, 0, none⟩) 32 32 LBs w1 rfl (by omega) (by omega) LBs_dig (fun _ => ⟨g, 0, rfl, bytes_row h⟩) ht
    rw [show valD (LBs.take 64) % LL = 0 by decide] at this
    exact this
  have cI : ∀ w1 {g : Nat}, w1.heap[g]? = some (.cells (ints .u8 LBs) 5 (0, 0)) → Tab w1 → Calls Tryd.prog 14 #[.slice (some ⟨g, 0, none⟩) 32 32] w1 fun e w' => ∃ v, e = .returned v ∧ (v = .bool false ∧ Below w1.heap.size w1 w') := fun w1 g h ht => by
    have := is14 (some ⟨g, 0, none⟩) 32 32 LBs w1 rfl (by omega) (by omega) LBs_dig (fun _ => ⟨g, 0, rfl, bytes_row h⟩) ht
    rw [LBs_is] at this
    exact this.mono fun e w' ⟨h1, h2⟩ => ⟨_, h1, rfl, h2⟩
  clear v0 v1 v2 e17
  have hT1 := hT0.below hB1
  go_enter Tryd.func11, Tryd.ntmps11
  go_wp2_with fail
  generalize (((w.alloc (.cells #[.int .u8 3] 5)).alloc (.cells #[.int .u8 4] 5)).alloc (.cells #[.int .u8 5] 5)) = w1 at cM hB1 hT1 ⊢
  refine cM.mono ?_
  rintro e w2 ⟨v, rfl, ga, rfl, _, hb2, ha2⟩
  have hB2 : Below w.heap.size w w2 := hB1.trans (hb2.mono hB1.size)
  have hT2 := hT1.below hb2
  clear cM hB1 hT1 hb2
  go_wp2_with fail
  have hl : (w2.alloc (.cells #[.int .u8 237, .int .u8 211, .int .u8 245, .int .u8 92, .int .u8 26, .int .u8 99, .int .u8 18, .int .u8 88, .int .u8 214, .int .u8 156, .int .u8 247, .int .u8 162, .int .u8 222, .int .u8 249, .int .u8 222, .int .u8 20, .int .u8 0, .int .u8 0, .int .u8 0, .int .u8 0, .int .u8 0, .int .u8 0, .int .u8 0, .int .u8 0, .int .u8 0, .int .u8 0, .int .u8 0, .int .u8 0, .int .u8 0, .int .u8 0, .int .u8 0, .int .u8 16] 5)).heap[w2.heap.size]? = some (.cells (ints .u8 LBs) 5 (0, 0)) := heap_alloc_new _ _
  have hb3 : Below w2.heap.size w2 (w2.alloc (.cells #[.int .u8 237, .int .u8 211, .int .u8 245, .int .u8 92, .int .u8 26, .int .u8 99, .int .u8 18, .int .u8 88, .int .u8 214, .int .u8 156, .int .u8 247, .int .u8 162, .int .u8 222, .int .u8 249, .int .u8 222, .int .u8 20, .int .u8 0, .int .u8 0, .int .u8 0, .int .u8 0, .int .u8 0, .int .u8 0, .int .u8 0, .int .u8 0, .int .u8 0, .int .u8 0, .int .u8 0, .int .u8 0, .int .u8 0, .int .u8 0, .int .u8 0, .int .u8 16] 5)) := below1 _ _
  generalize (w2.alloc (.cells #[.int .u8 237, .int .u8 211, .int .u8 245, .int .u8 92, .int .u8 26, .int .u8 99, .int .u8 18, .int .u8 88, .int .u8 214, .int .u8 156, .int .u8 247, .int .u8 162, .int .u8 222, .int .u8 249, .int .u8 222, .int .u8 20, .int .u8 0, .int .u8 0, .int .u8 0, .int .u8 0, .int .u8 0, .int .u8 0, .int .u8 0, .int .u8 0, .int .u8 0, .int .u8 0, .int .u8 0, .int .u8 0, .int .u8 0, .int .u8 0, .int .u8 0, .int .u8 16] 5)) = w5 at hl hb3 ⊢
  generalize w2.heap.size = gl at hl ⊢
  have ha : w5.heap[ga]? = some (.cells (ints .u8 (digs 32 17)) 5 (0, 0)) := block_below hb3 (lt_of_heap ha2) ha2
  have hT := hT2.below hb3
  have hB : Below w.heap.size w w5 := hB2.trans (hb3.mono hB2.size)
  clear hB2 hT2 hb3 ha2 hT0
  have hS0 : Below w5.heap.size w5 w5.drew := (Below.refl _ _).drew
  refine wp_region_held (S := fun w' => Below w5.heap.size w5 w') (by kernel_rfl) ?_
  show wpAnyH _ _ _ _ _ 23 (Array.replicate 23 false) _ w5.drew
  refine take_at (i := 0) (some 8) _ rfl rfl (by kernel_rfl) (by kernel_rfl) (by kernel_rfl) (fun _ _ _ h => h) (yields_runG (v := .slice (some ⟨ga, 0, none⟩) 32 32) (by kernel_rfl) fun w' hw' => BigFrame.run_move (.tmp 1) rfl w') hS0 ?_
  simp only [Act.put, List.setIfInBounds_toArray, List.set_cons_succ, List.set_cons_zero]
  refine take_at (i := 1) (some 9) _ rfl rfl (by kernel_rfl) (by kernel_rfl) (by kernel_rfl) (fun _ _ _ h => h) (yields_runG (v := .int .i64 32) (by kernel_rfl) fun w' hw' => by kernel_rfl) hS0 ?_
  simp only [Act.put, List.setIfInBounds_toArray, List.set_cons_succ, List.set_cons_zero]
  refine take_at (i := 2) (some 10) _ rfl rfl (by kernel_rfl) (by kernel_rfl) (by kernel_rfl) (fun _ _ _ h => h) (yields_runG (v := .bool true) (by kernel_rfl) fun w' hw' => by kernel_rfl) hS0 ?_
  simp only [Act.put, List.setIfInBounds_toArray, List.set_cons_succ, List.set_cons_zero]
  refine take_at (i := 3) (some 11) _ rfl rfl (by kernel_rfl) (by kernel_rfl) (by kernel_rfl) (fun _ _ _ h => h) (yields_runG (v := .bool true) (by kernel_rfl) fun w' hw' => BigFrame.run_move (.tmp 10) rfl w') hS0 ?_
  simp only [Act.put, List.setIfInBounds_toArray, List.set_cons_succ, List.set_cons_zero]
  refine take_at (i := 4) (some 12) _ rfl rfl (by kernel_rfl) (by kernel_rfl) (by kernel_rfl) (fun _ _ _ h => h) (yields_runG (v := .slice (some ⟨ga, 0, none⟩) 32 32) (by kernel_rfl) fun w' hw' => BigFrame.run_move (.tmp 1) rfl w') hS0 ?_
  simp only [Act.put, List.setIfInBounds_toArray, List.set_cons_succ, List.set_cons_zero]
  refine take_at (i := 5) (some 13) _ rfl rfl (by kernel_rfl) (by kernel_rfl) (by kernel_rfl) (fun _ _ _ h => h) (yields_runG (v := .pointer (some ⟨ga, 0, none⟩)) (by kernel_rfl) fun w' hw' => by kernel_rfl) hS0 ?_
  simp only [Act.put, List.setIfInBounds_toArray, List.set_cons_succ, List.set_cons_zero]
  refine take_at (i := 6) (some 14) _ rfl rfl (by kernel_rfl) (by kernel_rfl) (by kernel_rfl) (fun _ _ _ h => h) (yields_runG (v := .int .u8 17) (by kernel_rfl) fun w' hw' => run_loadO (p := ⟨ga, 0, none⟩) rfl rfl (c17 _ (block_below hw' (lt_of_heap ha) ha))) hS0 ?_
  simp only [Act.put, List.setIfInBounds_toArray, List.set_cons_succ, List.set_cons_zero]
  refine take_at (i := 7) (some 15) _ rfl rfl (by kernel_rfl) (by kernel_rfl) (by kernel_rfl) (fun _ _ _ h => h) (yields_runG (v := .bool true) (by kernel_rfl) fun w' hw' => by kernel_rfl) hS0 ?_
  simp only [Act.put, List.setIfInBounds_toArray, List.set_cons_succ, List.set_cons_zero]
  refine take_at (i := 8) (some 16) _ rfl rfl (by kernel_rfl) (by kernel_rfl) (by kernel_rfl) (fun _ _ _ h => h) (yields_runG (v := .bool true) (by kernel_rfl) fun w' hw' => by kernel_rfl) hS0 ?_
  simp only [Act.put, List.setIfInBounds_toArray, List.set_cons_succ, List.set_cons_zero]
  refine take_at (i := 9) (some 17) _ rfl rfl (by kernel_rfl) (by kernel_rfl) (by kernel_rfl) (fun _ _ _ h => h) (yields_runG (v := .bool true) (by kernel_rfl) fun w' hw' => BigFrame.run_move (.tmp 16) rfl w') hS0 ?_
  simp only [Act.put, List.setIfInBounds_toArray, List.set_cons_succ, List.set_cons_zero]
  refine take_at (i := 10) (some 18) _ rfl rfl (by kernel_rfl) (by kernel_rfl) (by kernel_rfl) (fun _ _ _ h => h) (yields_runG (v := .slice (some ⟨gl, 0, none⟩) 32 32) (by kernel_rfl) fun w' hw' => BigFrame.run_move (.tmp 2) rfl w') hS0 ?_
  simp only [Act.put, List.setIfInBounds_toArray, List.set_cons_succ, List.set_cons_zero]
  refine two_at (i := 11) (j := 13) (by kernel_rfl) ?_ ?_
  · refine call_atG (some 19) rfl (by kernel_rfl) rfl 9 #[.slice (some ⟨gl, 0, none⟩) 32 32] (R := fun v w' => New32 w5.drew w' v 0) (by kernel_rfl) (cR w5.drew (block_below hS0 (lt_of_heap hl) hl) (hT.below hS0)) ?_
    rintro v1 w1 ⟨g19, rfl, _, hb19, h19⟩
    have hb1' : Below w5.heap.size w5 w1 := hS0.trans (hb19.mono hS0.size)
    have hB1 : Below w.heap.size w w1 := hB.trans (hb1'.mono hB.size)
    have ha_1 := block_below hb1' (lt_of_heap ha) ha
    have hl_1 := block_below hb1' (lt_of_heap hl) hl
    have hT_1 := hT.below hb1'
    refine ⟨hb1', ?_⟩
    refine strengthen (S' := fun w' => Below w1.heap.size w1 w') (fun _ h => hb1'.trans (h.mono hb1'.size)) _ _ _ _ ?_
    have hS1 : Below w1.heap.size w1 w1 := Below.refl _ _
    clear hS0 ha hl hT
    simp only [Act.put, List.setIfInBounds_toArray, List.set_cons_succ, List.set_cons_zero]
    refine take_at (i := 12) (some 20) _ rfl rfl (by kernel_rfl) (by kernel_rfl) (by kernel_rfl) (fun _ _ _ h => h) (yields_runG (v := .string (strOf (digs 32 0))) (by kernel_rfl) fun w' hw' => run_convertO (toString_view (cap := 32) (digs_len _ _) (fun _ => ⟨g19, 0, rfl, bytes_row (block_below hw' (lt_of_heap h19) h19)⟩)) rfl) hS1 ?_
    simp only [Act.put, List.setIfInBounds_toArray, List.set_cons_succ, List.set_cons_zero]
    refine one_at (i := 13) (by kernel_rfl) ?_
    refine new_atG (some 21) (.slice (some ⟨w1.heap.size, 0, none⟩) 32 32) (.cells (ints .u8 (digs 32 0)) 5) rfl (by kernel_rfl) rfl (by first | kernel_rfl | rfl) ?_
    have hnew2 : (w1.alloc (.cells (ints .u8 (digs 32 0)) 5)).heap[w1.heap.size]? = some (.cells (ints .u8 (digs 32 0)) 5) := heap_alloc_new _ _
    have hal2 : Below w1.heap.size w1 (w1.alloc (.cells (ints .u8 (digs 32 0)) 5)) := below1 _ _
    generalize hwn2 : w1.alloc (.cells (ints .u8 (digs 32 0)) 5) = w2 at hnew2 hal2 ⊢
    clear hwn2
    have hb2' : Below w1.heap.size w1 w2 := hS1.trans (hal2.mono hS1.size)
    have hB2 : Below w.heap.size w w2 := hB1.trans (hb2'.mono hB1.size)
    have ha_2 := block_below hb2' (lt_of_heap ha_1) ha_1
    have hl_2 := block_below hb2' (lt_of_heap hl_1) hl_1
    have hT_2 := hT_1.below hb2'
    have h19_2 := block_below hb2' (lt_of_heap h19) h19
    refine ⟨hb2', ?_⟩
    refine strengthen (S' := fun w' => Below w2.heap.size w2 w') (fun _ h => hb2'.trans (h.mono hb2'.size)) _ _ _ _ ?_
    have hS2 : Below w2.heap.size w2 w2 := Below.refl _ _
    clear hS1 ha_1 hl_1 hT_1 h19
    simp only [Act.put, List.setIfInBounds_toArray, List.set_cons_succ, List.set_cons_zero]
    generalize hgn2 : w1.heap.size = gn2 at hnew2 ⊢
    clear hgn2
    refine take_at (i := 14) (some 22) _ rfl rfl (by kernel_rfl) (by kernel_rfl) (by kernel_rfl) (fun _ _ _ h => h) (yields_runG (v := .string (strOf (digs 32 0))) (by kernel_rfl) fun w' hw' => run_convertO (toString_view (cap := 32) (digs_len _ _) (fun _ => ⟨gn2, 0, rfl, bytes_row (block_below hw' (lt_of_heap hnew2) hnew2)⟩)) rfl) hS2 ?_
    simp only [Act.put, List.setIfInBounds_toArray, List.set_cons_succ, List.set_cons_zero]
    refine one_at (i := 15) (by kernel_rfl) ?_
    refine run_atG (some 23) (.bool true) rfl (by kernel_rfl) rfl (run_eqStrB (x := .tmp 20) (y := .tmp 22) (str_refl _) rfl rfl rfl) ?_
    refine ⟨hS2, ?_⟩
    simp only [Act.put, List.setIfInBounds_toArray, List.set_cons_succ, List.set_cons_zero]
    refine one_at (i := 16) (by kernel_rfl) ?_
    refine run_atG (some 24) (.bool true) rfl (by kernel_rfl) rfl (by kernel_rfl) ?_
    refine ⟨hS2, ?_⟩
    simp only [Act.put, List.setIfInBounds_toArray, List.set_cons_succ, List.set_cons_zero]
    refine one_at (i := 17) (by kernel_rfl) ?_
    refine run_atG (some 25) (.bool true) rfl (by kernel_rfl) rfl (BigFrame.run_move (.tmp 24) rfl _) ?_
    refine ⟨hS2, ?_⟩
    simp only [Act.put, List.setIfInBounds_toArray, List.set_cons_succ, List.set_cons_zero]
    refine one_at (i := 18) (by kernel_rfl) ?_
    refine run_atG (some 26) (.slice (some ⟨gl, 0, none⟩) 32 32) rfl (by kernel_rfl) rfl (BigFrame.run_move (.tmp 2) rfl _) ?_
    refine ⟨hS2, ?_⟩
    simp only [Act.put, List.setIfInBounds_toArray, List.set_cons_succ, List.set_cons_zero]
    refine one_at (i := 19) (by kernel_rfl) ?_
    refine call_atG (some 27) rfl (by kernel_rfl) rfl 14 #[.slice (some ⟨gl, 0, none⟩) 32 32] (R := fun v w' => v = .bool false ∧ Below w2.heap.size w2 w') (by kernel_rfl) (cI w2 hl_2 hT_2) ?_
    rintro v3 w3 ⟨rfl, hb27⟩
    have hb3' : Below w2.heap.size w2 w3 := hS2.trans (hb27.mono hS2.size)
    have hB3 : Below w.heap.size w w3 := hB2.trans (hb3'.mono hB2.size)
    have ha_3 := block_below hb3' (lt_of_heap ha_2) ha_2
    have hl_3 := block_below hb3' (lt_of_heap hl_2) hl_2
    have hT_3 := hT_2.below hb3'
    have h19_3 := block_below hb3' (lt_of_heap h19_2) h19_2
    have hnew2_3 := block_below hb3' (lt_of_heap hnew2) hnew2
    refine ⟨hb3', ?_⟩
    refine strengthen (S' := fun w' => Below w3.heap.size w3 w') (fun _ h => hb3'.trans (h.mono hb3'.size)) _ _ _ _ ?_
    have hS3 : Below w3.heap.size w3 w3 := Below.refl _ _
    clear hS2 ha_2 hl_2 hT_2 h19_2 hnew2
    simp only [Act.put, List.setIfInBounds_toArray, List.set_cons_succ, List.set_cons_zero]
    refine one_at (i := 20) (by kernel_rfl) ?_
    refine run_atG (some 28) (.bool true) rfl (by kernel_rfl) rfl (by kernel_rfl) ?_
    refine ⟨hS3, ?_⟩
    simp only [Act.put, List.setIfInBounds_toArray, List.set_cons_succ, List.set_cons_zero]
    refine one_at (i := 21) (by kernel_rfl) ?_
    refine run_atG (some 29) (.bool true) rfl (by kernel_rfl) rfl (by kernel_rfl) ?_
    refine ⟨hS3, ?_⟩
    simp only [Act.put, List.setIfInBounds_toArray, List.set_cons_succ, List.set_cons_zero]
    refine one_at (i := 22) (by kernel_rfl) ?_
    refine run_atG (some 0) (.bool true) rfl (by kernel_rfl) rfl (run_assignO (.tmp 29) rfl _) ?_
    simp only [Act.put, List.setIfInBounds_toArray, List.set_cons_zero]
    refine ⟨hS3, wpAnyH_done (by kernel_rfl) ?_ _⟩
    have hfin := hB3
    clear ha_3 hl_3 hT_3 h19_3 hnew2_3 hS3
    go_wp2
    go_ret
    exact ⟨rfl, hfin⟩
  · refine new_atG (some 21) (.slice (some ⟨w5.drew.heap.size, 0, none⟩) 32 32) (.cells (ints .u8 (digs 32 0)) 5) rfl (by kernel_rfl) rfl (by first | kernel_rfl | rfl) ?_
    have hnew1 : (w5.drew.alloc (.cells (ints .u8 (digs 32 0)) 5)).heap[w5.drew.heap.size]? = some (.cells (ints .u8 (digs 32 0)) 5) := heap_alloc_new _ _
    have hal1 : Below w5.drew.heap.size w5.drew (w5.drew.alloc (.cells (ints .u8 (digs 32 0)) 5)) := below1 _ _
    generalize hwn1 : w5.drew.alloc (.cells (ints .u8 (digs 32 0)) 5) = w1 at hnew1 hal1 ⊢
    clear hwn1
    have hb1' : Below w5.heap.size w5 w1 := hS0.trans (hal1.mono hS0.size)
    have hB1 : Below w.heap.size w w1 := hB.trans (hb1'.mono hB.size)
    have ha_1 := block_below hb1' (lt_of_heap ha) ha
    have hl_1 := block_below hb1' (lt_of_heap hl) hl
    have hT_1 := hT.below hb1'
    refine ⟨hb1', ?_⟩
    refine strengthen (S' := fun w' => Below w1.heap.size w1 w') (fun _ h => hb1'.trans (h.mono hb1'.size)) _ _ _ _ ?_
    have hS1 : Below w1.heap.size w1 w1 := Below.refl _ _
    clear hS0 ha hl hT
    simp only [Act.put, List.setIfInBounds_toArray, List.set_cons_succ, List.set_cons_zero]
    generalize hgn1 : w5.drew.heap.size = gn1 at hnew1 ⊢
    clear hgn1
    refine take_at (i := 14) (some 22) _ rfl rfl (by kernel_rfl) (by kernel_rfl) (by kernel_rfl) (fun _ _ _ h => h) (yields_runG (v := .string (strOf (digs 32 0))) (by kernel_rfl) fun w' hw' => run_convertO (toString_view (cap := 32) (digs_len _ _) (fun _ => ⟨gn1, 0, rfl, bytes_row (block_below hw' (lt_of_heap hnew1) hnew1)⟩)) rfl) hS1 ?_
    simp only [Act.put, List.setIfInBounds_toArray, List.set_cons_succ, List.set_cons_zero]
    refine one_at (i := 11) (by kernel_rfl) ?_
    refine call_atG (some 19) rfl (by kernel_rfl) rfl 9 #[.slice (some ⟨gl, 0, none⟩) 32 32] (R := fun v w' => New32 w1 w' v 0) (by kernel_rfl) (cR w1 (block_below hS1 (lt_of_heap hl_1) hl_1) (hT_1.below hS1)) ?_
    rintro v2 w2 ⟨g19, rfl, _, hb19, h19⟩
    have hb2' : Below w1.heap.size w1 w2 := hS1.trans (hb19.mono hS1.size)
    have hB2 : Below w.heap.size w w2 := hB1.trans (hb2'.mono hB1.size)
    have ha_2 := block_below hb2' (lt_of_heap ha_1) ha_1
    have hl_2 := block_below hb2' (lt_of_heap hl_1) hl_1
    have hT_2 := hT_1.below hb2'
    have hnew1_2 := block_below hb2' (lt_of_heap hnew1) hnew1
    refine ⟨hb2', ?_⟩
    refine strengthen (S' := fun w' => Below w2.heap.size w2 w') (fun _ h => hb2'.trans (h.mono hb2'.size)) _ _ _ _ ?_
    have hS2 : Below w2.heap.size w2 w2 := Below.refl _ _
    clear hS1 ha_1 hl_1 hT_1 hnew1
    simp only [Act.put, List.setIfInBounds_toArray, List.set_cons_succ, List.set_cons_zero]
    refine take_at (i := 12) (some 20) _ rfl rfl (by kernel_rfl) (by kernel_rfl) (by kernel_rfl) (fun _ _ _ h => h) (yields_runG (v := .string (strOf (digs 32 0))) (by kernel_rfl) fun w' hw' => run_convertO (toString_view (cap := 32) (digs_len _ _) (fun _ => ⟨g19, 0, rfl, bytes_row (block_below hw' (lt_of_heap h19) h19)⟩)) rfl) hS2 ?_
    simp only [Act.put, List.setIfInBounds_toArray, List.set_cons_succ, List.set_cons_zero]
    refine one_at (i := 15) (by kernel_rfl) ?_
    refine run_atG (some 23) (.bool true) rfl (by kernel_rfl) rfl (run_eqStrB (x := .tmp 20) (y := .tmp 22) (str_refl _) rfl rfl rfl) ?_
    refine ⟨hS2, ?_⟩
    simp only [Act.put, List.setIfInBounds_toArray, List.set_cons_succ, List.set_cons_zero]
    refine one_at (i := 16) (by kernel_rfl) ?_
    refine run_atG (some 24) (.bool true) rfl (by kernel_rfl) rfl (by kernel_rfl) ?_
    refine ⟨hS2, ?_⟩
    simp only [Act.put, List.setIfInBounds_toArray, List.set_cons_succ, List.set_cons_zero]
    refine one_at (i := 17) (by kernel_rfl) ?_
    refine run_atG (some 25) (.bool true) rfl (by kernel_rfl) rfl (BigFrame.run_move (.tmp 24) rfl _) ?_
    refine ⟨hS2, ?_⟩
    simp only [Act.put, List.setIfInBounds_toArray, List.set_cons_succ, List.set_cons_zero]
    refine one_at (i := 18) (by kernel_rfl) ?_
    refine run_atG (some 26) (.slice (some ⟨gl, 0, none⟩) 32 32) rfl (by kernel_rfl) rfl (BigFrame.run_move (.tmp 2) rfl _) ?_
    refine ⟨hS2, ?_⟩
    simp only [Act.put, List.setIfInBounds_toArray, List.set_cons_succ, List.set_cons_zero]
    refine one_at (i := 19) (by kernel_rfl) ?_
    refine call_atG (some 27) rfl (by kernel_rfl) rfl 14 #[.slice (some ⟨gl, 0, none⟩) 32 32] (R := fun v w' => v = .bool false ∧ Below w2.heap.size w2 w') (by kernel_rfl) (cI w2 hl_2 hT_2) ?_
    rintro v3 w3 ⟨rfl, hb27⟩
    have hb3' : Below w2.heap.size w2 w3 := hS2.trans (hb27.mono hS2.size)
    have hB3 : Below w.heap.size w w3 := hB2.trans (hb3'.mono hB2.size)
    have ha_3 := block_below hb3' (lt_of_heap ha_2) ha_2
    have hl_3 := block_below hb3' (lt_of_heap hl_2) hl_2
    have hT_3 := hT_2.below hb3'
    have hnew1_3 := block_below hb3' (lt_of_heap hnew1_2) hnew1_2
    have h19_3 := block_below hb3' (lt_of_heap h19) h19
    refine ⟨hb3', ?_⟩
    refine strengthen (S' := fun w' => Below w3.heap.size w3 w') (fun _ h => hb3'.trans (h.mono hb3'.size)) _ _ _ _ ?_
    have hS3 : Below w3.heap.size w3 w3 := Below.refl _ _
    clear hS2 ha_2 hl_2 hT_2 hnew1_2 h19
    simp only [Act.put, List.setIfInBounds_toArray, List.set_cons_succ, List.set_cons_zero]
    refine one_at (i := 20) (by kernel_rfl) ?_
    refine run_atG (some 28) (.bool true) rfl (by kernel_rfl) rfl (by kernel_rfl) ?_
    refine ⟨hS3, ?_⟩
    simp only [Act.put, List.setIfInBounds_toArray, List.set_cons_succ, List.set_cons_zero]
    refine one_at (i := 21) (by kernel_rfl) ?_
    refine run_atG (some 29) (.bool true) rfl (by kernel_rfl) rfl (by kernel_rfl) ?_
    refine ⟨hS3, ?_⟩
    simp only [Act.put, List.setIfInBounds_toArray, List.set_cons_succ, List.set_cons_zero]
    refine one_at (i := 22) (by kernel_rfl) ?_
    refine run_atG (some 0) (.bool true) rfl (by kernel_rfl) rfl (run_assignO (.tmp 29) rfl _) ?_
    simp only [Act.put, List.setIfInBounds_toArray, List.set_cons_zero]
    refine ⟨hS3, wpAnyH_done (by kernel_rfl) ?_ _⟩
    have hfin := hB3
    clear ha_3 hl_3 hT_3 hnew1_3 h19_3 hS3
    go_wp2
    go_ret
    exact ⟨rfl, hfin⟩
end Go.Proofs.YtoehjkebfpoigaaDoor
