/-
  The walk of the law FieldReads, at 32 bytes.
-/
import Derived.Test.YtghmcaliahjdhaaL1
set_option linter.unusedVariables false
namespace Go.Proofs.Ytghmcaliahjdhaa
open Go.RowKit Go.Sort Go.BigFrame
set_option maxRecDepth 100000
set_option maxHeartbeats 2000000
section
variable {P : Program} {ops : Array Oper} {Q : Exit → Act → World → Prop} {S : World → Prop}
/- moves of operations under a guard that holds -/
theorem wpOp_of_wpG {i : Nat} {o : Oper} {K : Act → World → Prop} {a : Act} {w : World} (hi : ops[i]? = some o) (hw : Region.wanted o (yielded ops a.tmps) = true) (h : o.wp P a w K Q) : wpOp P ops Q i K a w := by
  unfold wpOp
  simp only [hi]
  rw [if_pos hw]
  exact .inl h
theorem yields_runG {o : Oper} {v : Value} {a : Act} (hw : Region.wanted o (yielded ops a.tmps) = true) (h : ∀ w, S w → (execOp a.eval o).run P w = .ok (.value v) w) : YieldsIf P ops S o v a := .inl ⟨hw, h⟩
theorem call_atG {i : Nat} {o : Oper} {K : Act → World → Prop} {a : Act} {w : World} (dst : Option Tmp) (hi : ops[i]? = some o) (hw : Region.wanted o (yielded ops a.tmps) = true) (hd : o.dst = dst) (f : FuncId) (args : Array Value) {R : Value → World → Prop}
    (hr : (execOp a.eval o).run P w = .ok (.enter f args) w) (hc : Calls P f args w fun e w' => ∃ v, e = .returned v ∧ R v w') (hk : ∀ v w', R v w' → K (a.put dst v) w') : wpOp P ops Q i K a w :=
  wpOp_of_wpG hi hw (wp_call hr hc (by rw [hd]; exact hk))
theorem run_atG {i : Nat} {o : Oper} {K : Act → World → Prop} {a : Act} {w : World} (dst : Option Tmp) (v : Value) (hi : ops[i]? = some o) (hw : Region.wanted o (yielded ops a.tmps) = true) (hd : o.dst = dst) (hr : (execOp a.eval o).run P w = .ok (.value v) w) (h : K (a.put dst v) w) : wpOp P ops Q i K a w := by
  refine wpOp_of_wpG hi hw ?_
  unfold Oper.wp
  rw [hr]
  subst hd
  exact h
theorem run_loadRow {ρ : Operand → Value} {o : Oper} (ty : TypeId) (x : Operand) (ho : o.op = .load ty x) (g : Nat) (hx : ρ x = .pointer (some ⟨g, 0, none⟩)) (t : TypeId) (cs : Array Value) (fr : Nat × Nat) (d : TypeDesc) {w : World} (hgp : w.heap[g]? = some (.cells cs t fr))
    (hu : P.underlying ty = some d) (hd : (match d with | .struct _ | .array _ _ => true | _ => false) = true) (hi : (P.info? ty).map (·.size) = some cs.size) : (execOp ρ o).run P w = .ok (.value (.agg cs)) w := by
  unfold execOp
  simp only [ho, hx, Instr.loadAt, Instr.sureAddr, Sem.run_bind, Sem.run_pure, Result.andThen_ok, run_loadVar_row w g t ty cs fr d hgp hu hd hi]
end
theorem run_eqStrB {ρ : Operand → Value} {x y : Operand} {w : World} {s t : ByteArray} {o : Oper} {b : Bool} (hb : (s.toList == t.toList) = b) (ho : o.op = .binOp .eql 9 x y 9) (hx : ρ x = .string s) (hy : ρ y = .string t) : (execOp ρ o).run Try.prog w = .ok (.value (.bool b)) w := by
  rw [← hb]; exact run_eqStrO ho hx hy
theorem cells5 {w : World} {g : Nat} {c0 c1 c2 c3 c4 : Value} (h : w.heap[g]? = some (.cells #[c0, c1, c2, c3, c4] 26 (0, 0))) : w.cell? ⟨g, 0, none⟩ = some c0 ∧ w.cell? ⟨g, 1, none⟩ = some c1 ∧ w.cell? ⟨g, 2, none⟩ = some c2 ∧ w.cell? ⟨g, 3, none⟩ = some c3 ∧ w.cell? ⟨g, 4, none⟩ = some c4 :=
  ⟨by rw [cell_of_row _ _ _ _ _ _ h]; rfl, by rw [cell_of_row _ _ _ _ _ _ h]; rfl, by rw [cell_of_row _ _ _ _ _ _ h]; rfl, by rw [cell_of_row _ _ _ _ _ _ h]; rfl, by rw [cell_of_row _ _ _ _ _ _ h]; rfl⟩
/-- What is read is no element. -/
theorem fieldReads3_ge (a : Option Addr) (cap : Nat) (bs : List Nat) (w : World) (hlen : bs.length = 32) (hcap : 32 ≤ cap) (hcap2 : cap ≤ 9223372036854775807) (hd : Dig bs) (hv : View w a bs) (hV : ¬ valD bs < pp) :
    Calls Try.prog 3 #[.slice a 32 cap] w fun e w' => e = .returned (.bool true) ∧ Below w.heap.size w w' := by
  have c1 := fun w1 (hB : Below w.heap.size w w1) => read9 a cap bs w1 hlen hcap hcap2 hd (hv.below hB)
  rw [if_neg hV] at c1
  have c2 := fun w1 (hB : Below w.heap.size w w1) => digits11 a 32 cap bs w1 hlen hcap (by omega) hd (hv.below hB)
  have hvp : valD (digs 32 pp) = pp := by decide
  have c3 := fun w1 b c g (hb : IView w1 b bs) (h : w1.heap[g]? = some (.cells (ints .i64 (digs 32 pp)) 3 (0, 0))) => less10 b 32 c bs (some ⟨g, 0, none⟩) 32 32 (digs 32 pp) w1 hlen (digs_len _ _) (by omega) (by omega) hb (fun _ => ⟨g, 0, rfl, ints_row h⟩) hd (digs_dig _ _)
  rw [hvp, decide_eq_false hV] at c3
  have c5 := fun w1 => equal13 zeroE zeroE w1 zeroE_wf zeroE_wf
  simp only [decide_true] at c5
  rw [elc_zero, z5] at c5
  simp only [elc_zero, z5] at c1
  clear hV hvp hlen hv
  go_enter Try.func3, Try.ntmps3
  go_wp2_with fail
  refine (c1 _ (Below.refl _ _)).mono ?_
  rintro e w1 ⟨rfl, hb1⟩
  have hB1 := hb1.alloc hb1.size (.cells #[.int .u64 0, .int .u64 0, .int .u64 0, .int .u64 0, .int .u64 0] 26)
  have hz1 : (w1.alloc (.cells #[.int .u64 0, .int .u64 0, .int .u64 0, .int .u64 0, .int .u64 0] 26)).heap[w1.heap.size]? = some (.cells z5 26 (0, 0)) := heap_alloc_new _ _
  go_wp2_with fail
  refine (c2 _ hB1).mono ?_
  rintro e w2 ⟨v2, rfl, hb2, hown2⟩
  obtain ⟨a2, k2, rfl, _⟩ := own_slice hown2
  obtain ⟨hiv2, _⟩ := own_iview hown2
  have hB2 := hB1.trans (hb2.mono hB1.size)
  have hz2 := block_below hb2 (lt_of_heap hz1) hz1
  clear hb2 hown2 hz1 hB1 hb1
  go_wp2_with fail
  refine (p12 _).mono ?_
  rintro e w3 ⟨g3, rfl, hR3⟩
  have hB3 := hB2.trans (hR3.1.mono hB2.size)
  have hz3 := block_below hR3.1 (lt_of_heap hz2) hz2
  go_wp2_with fail
  refine (c3 w3 a2 k2 g3 (hiv2.below hR3.1) hR3.2.2).mono ?_
  rintro e w4 ⟨rfl, rfl⟩
  clear hz2 hiv2 hR3 hB2 c1 c2 c3
  obtain ⟨k0, k1, k2', k3, k4⟩ := cells5 hz3
  go_wp2_with fail
  refine (c5 _).mono ?_
  rintro e w5 ⟨rfl, hb5⟩
  have hB5 := hB3.trans (hb5.mono hB3.size)
  clear hb5 hB3 hz3
  go_wp2_with fail
  refine (lives14 _).mono ?_
  rintro e w6 ⟨rfl, hb6⟩
  have hB6 := hB5.trans (hb6.mono hB5.size)
  clear hb6 hB5
  go_wp2
  go_ret
  exact ⟨rfl, hB6⟩
/-- What is read is an element. -/
theorem fieldReads3_lt (a : Option Addr) (cap : Nat) (bs : List Nat) (w : World) (hlen : bs.length = 32) (hcap : 32 ≤ cap) (hcap2 : cap ≤ 9223372036854775807) (hd : Dig bs) (hv : View w a bs) (hV : valD bs < pp) :
    Calls Try.prog 3 #[.slice a 32 cap] w fun e w' => e = .returned (.bool true) ∧ Below w.heap.size w w' := by
  have c1 := fun w1 (hB : Below w.heap.size w w1) => read9 a cap bs w1 hlen hcap hcap2 hd (hv.below hB)
  rw [if_pos hV] at c1
  have c2 := fun w1 (hB : Below w.heap.size w w1) => digits11 a 32 cap bs w1 hlen hcap (by omega) hd (hv.below hB)
  have hvp : valD (digs 32 pp) = pp := by decide
  have c3 := fun w1 b c g (hb : IView w1 b bs) (h : w1.heap[g]? = some (.cells (ints .i64 (digs 32 pp)) 3 (0, 0))) => less10 b 32 c bs (some ⟨g, 0, none⟩) 32 32 (digs 32 pp) w1 hlen (digs_len _ _) (by omega) (by omega) hb (fun _ => ⟨g, 0, rfl, ints_row h⟩) hd (digs_dig _ _)
  rw [hvp, decide_eq_true hV] at c3
  have c5 := fun w1 => bytes15 (splitE (valD bs)) w1 (splitE_wf _)
  have hbs : digs 32 ((splitE (valD bs)).val % pp) = bs := (read_cond hlen hd).2 hV
  rw [hbs] at c5
  have hstr := fun w1 (hB : Below w.heap.size w w1) => toString_view (cap := cap) hlen (hv.below hB)
  obtain ⟨s, hs⟩ : ∃ s, s = splitE (valD bs) := ⟨_, rfl⟩
  rw [← hs] at c1 c5
  obtain ⟨s0, s1, s2, s3, s4⟩ := s
  simp only [elc] at c1 c5
  have HL : Hid (bs.length = 32) := hlen
  clear hV hvp hlen hv hs hbs
  go_enter Try.func3, Try.ntmps3
  go_wp2_with fail
  refine (c1 _ (Below.refl _ _)).mono ?_
  rintro e w1 ⟨rfl, hb1⟩
  have hB1 := hb1.alloc hb1.size (.cells #[.int .u64 (s0 : Int), .int .u64 (s1 : Int), .int .u64 (s2 : Int), .int .u64 (s3 : Int), .int .u64 (s4 : Int)] 26)
  have hz1 : (w1.alloc (.cells #[.int .u64 (s0 : Int), .int .u64 (s1 : Int), .int .u64 (s2 : Int), .int .u64 (s3 : Int), .int .u64 (s4 : Int)] 26)).heap[w1.heap.size]? = some (.cells #[.int .u64 (s0 : Int), .int .u64 (s1 : Int), .int .u64 (s2 : Int), .int .u64 (s3 : Int), .int .u64 (s4 : Int)] 26 (0, 0)) := heap_alloc_new _ _
  go_wp2_with fail
  refine (c2 _ hB1).mono ?_
  rintro e w2 ⟨v2, rfl, hb2, hown2⟩
  obtain ⟨a2, k2, rfl, _⟩ := own_slice hown2
  obtain ⟨hiv2, _⟩ := own_iview hown2
  have hB2 := hB1.trans (hb2.mono hB1.size)
  have hz2 := block_below hb2 (lt_of_heap hz1) hz1
  clear hb2 hown2 hz1 hB1 hb1
  go_wp2_with fail
  refine (p12 _).mono ?_
  rintro e w3 ⟨g3, rfl, hR3⟩
  have hB3 := hB2.trans (hR3.1.mono hB2.size)
  have hz3 := block_below hR3.1 (lt_of_heap hz2) hz2
  go_wp2_with fail
  refine (c3 w3 a2 k2 g3 (hiv2.below hR3.1) hR3.2.2).mono ?_
  rintro e w4 ⟨rfl, rfl⟩
  clear hz2 hiv2 hR3 hB2 c1 c2 c3
  go_wp2_with fail
  generalize w1.heap.size = ge at hz3 ⊢
  obtain ⟨ev, hev⟩ : ∃ e, e = (#[.int .u64 (s0 : Int), .int .u64 (s1 : Int), .int .u64 (s2 : Int), .int .u64 (s3 : Int), .int .u64 (s4 : Int)] : Array Value) := ⟨_, rfl⟩
  have hesz : ev.size = 5 := by rw [hev]; rfl
  rw [← hev] at hz3 c5
  have hS0 : Below w.heap.size w w4.drew ∧ w4.drew.heap[ge]? = some (.cells ev 26 (0, 0)) := ⟨hB3.drew, hz3⟩
  clear hev hB3 hz3
  refine wp_region_held (S := fun w' => Below w.heap.size w w' ∧ w'.heap[ge]? = some (.cells ev 26 (0, 0))) (by kernel_rfl) ?_
  show wpAnyH _ _ _ _ _ 14 (Array.replicate 14 false) _ w4.drew
  refine take_at (i := 0) (some 37) _ rfl rfl (by kernel_rfl) (by kernel_rfl) (by kernel_rfl) (fun _ _ _ h => h) (yields_runG (v := .int .i64 0) (by kernel_rfl) fun w' hw' => run_move (.tmp 4) rfl w') hS0 ?_
  simp only [Act.put, List.setIfInBounds_toArray, List.set_cons_succ, List.set_cons_zero]
  refine take_at (i := 1) (some 38) _ rfl rfl (by kernel_rfl) (by kernel_rfl) (by kernel_rfl) (fun _ _ _ h => h) (yields_runG (v := .bool true) (by kernel_rfl) fun w' hw' => by kernel_rfl) hS0 ?_
  simp only [Act.put, List.setIfInBounds_toArray, List.set_cons_succ, List.set_cons_zero]
  refine take_at (i := 2) (some 39) _ rfl rfl (by kernel_rfl) (by kernel_rfl) (by kernel_rfl) (fun _ _ _ h => h) (yields_runG (v := .bool true) (by kernel_rfl) fun w' hw' => run_move (.tmp 38) rfl w') hS0 ?_
  simp only [Act.put, List.setIfInBounds_toArray, List.set_cons_succ, List.set_cons_zero]
  refine take_at (i := 3) (some 40) _ rfl rfl (by kernel_rfl) (by kernel_rfl) (by kernel_rfl) (fun _ _ _ h => h) (yields_runG (v := .agg ev) (by kernel_rfl) fun w' hw' => run_loadRow 26 (.tmp 3) rfl _ rfl 26 ev (0, 0) _ hw'.2 Try.underlying26 rfl (by rw [hesz]; exact info26)) hS0 ?_
  simp only [Act.put, List.setIfInBounds_toArray, List.set_cons_succ, List.set_cons_zero]
  refine take_at (i := 6) (some 43) _ rfl rfl (by kernel_rfl) (by kernel_rfl) (by kernel_rfl) (fun _ _ _ h => h) (yields_runG (v := .slice a 32 cap) (by kernel_rfl) fun w' hw' => run_move (.tmp 0) rfl w') hS0 ?_
  simp only [Act.put, List.setIfInBounds_toArray, List.set_cons_succ, List.set_cons_zero]
  refine take_at (i := 7) (some 44) _ rfl rfl (by kernel_rfl) (by kernel_rfl) (by kernel_rfl) (fun _ _ _ h => h) (yields_runG (v := .string (strOf bs)) (by kernel_rfl) fun w' hw' => run_convertO (hstr w' hw'.1) rfl) hS0 ?_
  simp only [Act.put, List.setIfInBounds_toArray, List.set_cons_succ, List.set_cons_zero]
  refine one_at (i := 4) (by kernel_rfl) ?_
  refine call_atG (some 41) rfl (by kernel_rfl) rfl 15 #[.agg ev] (R := fun v w' => ∃ g, v = .slice (some ⟨g, 0, none⟩) 32 32 ∧ Below w4.drew.heap.size w4.drew w' ∧ w'.heap[g]? = some (.cells (ints .u8 bs) 5 (0, 0))) (by kernel_rfl) ((c5 w4.drew).mono fun e w' ⟨g, h1, _, h2, h3⟩ => ⟨_, h1, g, rfl, h2, h3⟩) ?_
  rintro v5 w5 ⟨g5, rfl, hb5, hg5⟩
  have hS1 : Below w.heap.size w w5 ∧ w5.heap[ge]? = some (.cells ev 26 (0, 0)) := ⟨hS0.1.trans (hb5.mono hS0.1.size), block_below hb5 (lt_of_heap hS0.2) hS0.2⟩
  clear hb5 hS0 c5 hstr
  refine ⟨hS1, ?_⟩
  simp only [Act.put, List.setIfInBounds_toArray, List.set_cons_succ, List.set_cons_zero]
  refine one_at (i := 5) (by kernel_rfl) ?_
  refine run_atG (some 42) (.string (strOf bs)) rfl (by kernel_rfl) rfl (run_convertO (toString_view (cap := 32) HL.out (fun _ => ⟨g5, 0, rfl, bytes_row hg5⟩)) rfl) ?_
  refine ⟨hS1, ?_⟩
  simp only [Act.put, List.setIfInBounds_toArray, List.set_cons_succ, List.set_cons_zero]
  have hse : ((strOf bs).toList == (strOf bs).toList) = true := by simp
  refine one_at (i := 8) (by kernel_rfl) ?_
  refine run_atG (some 45) (.bool true) rfl (by kernel_rfl) rfl (run_eqStrB (x := .tmp 42) (y := .tmp 44) hse rfl rfl rfl) ?_
  refine ⟨hS1, ?_⟩
  simp only [Act.put, List.setIfInBounds_toArray, List.set_cons_succ, List.set_cons_zero]
  refine one_at (i := 9) (by kernel_rfl) ?_
  refine run_atG (some 46) (.bool true) rfl (by kernel_rfl) rfl (by kernel_rfl) ?_
  refine ⟨hS1, ?_⟩
  simp only [Act.put, List.setIfInBounds_toArray, List.set_cons_succ, List.set_cons_zero]
  refine one_at (i := 10) (by kernel_rfl) ?_
  refine run_atG (some 47) (.bool true) rfl (by kernel_rfl) rfl (run_move (.tmp 46) rfl _) ?_
  refine ⟨hS1, ?_⟩
  simp only [Act.put, List.setIfInBounds_toArray, List.set_cons_succ, List.set_cons_zero]
  refine one_at (i := 11) (by kernel_rfl) ?_
  refine call_atG (some 48) rfl (by kernel_rfl) rfl 14 #[] (R := fun v w' => v = .bool true ∧ Below w5.heap.size w5 w') (by kernel_rfl) ((lives14 w5).mono fun e w' ⟨h1, h2⟩ => ⟨_, h1, rfl, h2⟩) ?_
  rintro v6 w6 ⟨rfl, hb6⟩
  have hS2 : Below w.heap.size w w6 ∧ w6.heap[ge]? = some (.cells ev 26 (0, 0)) := ⟨hS1.1.trans (hb6.mono hS1.1.size), block_below hb6 (lt_of_heap hS1.2) hS1.2⟩
  clear hb6 hS1 hg5
  refine ⟨hS2, ?_⟩
  simp only [Act.put, List.setIfInBounds_toArray, List.set_cons_succ, List.set_cons_zero]
  refine one_at (i := 12) (by kernel_rfl) ?_
  refine run_atG (some 49) (.bool true) rfl (by kernel_rfl) rfl (by kernel_rfl) ?_
  refine ⟨hS2, ?_⟩
  simp only [Act.put, List.setIfInBounds_toArray, List.set_cons_succ, List.set_cons_zero]
  refine one_at (i := 13) (by kernel_rfl) ?_
  refine run_atG (some 2) (.bool true) rfl (by kernel_rfl) rfl (run_assignO (.tmp 49) rfl _) ?_
  simp only [Act.put, List.setIfInBounds_toArray, List.set_cons_succ, List.set_cons_zero]
  refine ⟨hS2, wpAnyH_done (by kernel_rfl) ?_ _⟩
  have hSf := hS2.1
  clear hS2
  go_wp2
  go_ret
  exact ⟨rfl, hSf⟩
theorem fieldReads3 (a : Option Addr) (len cap : Nat) (bs : List Nat) (w : World) (hlen : bs.length = len) (hcap : len ≤ cap) (hcap2 : cap ≤ 9223372036854775807) (hd : Dig bs) (hv : View w a bs) :
    Calls Try.prog 3 #[.slice a len cap] w fun e w' => e = .returned (.bool true) ∧ Below w.heap.size w w' := by
  by_cases h32 : len = 32
  · subst h32
    by_cases hV : valD bs < pp
    · exact fieldReads3_lt a cap bs w hlen hcap hcap2 hd hv hV
    · exact fieldReads3_ge a cap bs w hlen hcap hcap2 hd hv hV
  · exact fieldReads3_no a len cap (min len 40) bs w (by omega) (by omega) hcap
end Go.Proofs.Ytghmcaliahjdhaa
