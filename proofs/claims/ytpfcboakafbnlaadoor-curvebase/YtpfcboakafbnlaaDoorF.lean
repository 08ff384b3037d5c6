/-
  The walks of Equal, Odd, Int.
-/
import Derived.Test.YtpfcboakafbnlaaDoorF0
set_option linter.unusedVariables false
namespace Go.Proofs.YtpfcboakafbnlaaDoor
open Go.RowKit Go.Sort Go.BigFrame
set_option maxRecDepth 100000
set_option maxHeartbeats 4000000
theorem ret_bool {a b : Bool} (h : a = b) : Ending.returned (.bool a) = .returned (.bool b) := by rw [h]
theorem run_assignO {P : Program} {ρ : Operand → Value} {o : Oper} (x : Operand) (ho : o.op = .assign x) (w : World) : (execOp ρ o).run P w = .ok (.value (ρ x)) w := by
  unfold execOp
  rw [ho]
  rfl
theorem run_eqE {ρ : Operand → Value} {o : Oper} {x y : Operand} {w : World} (s t : E5) (hs : s.wf) (ht : t.wf) (ho : o.op = .binOp .eql 27 x y 27) (hx : ρ x = .agg (elc s)) (hy : ρ y = .agg (elc t)) :
    (execOp ρ o).run Tryd.prog w = .ok (.value (.bool (decide (s.list = t.list)))) w := by
  have h := run_eq24 s t hs ht w
  unfold elc at h
  simp only [execOp, ho, hx, hy]
  simp [go_sem, elc, h]
  by_cases h' : s.list = t.list <;> simp [h']
theorem leastE_wf (a : E5) : (leastE a).wf := splitE_wf _
theorem split_inj {u v : Nat} (hu : u < pp) (hv : v < pp) (h : (splitE u).list = (splitE v).list) : u = v := by
  have h2 : (splitE u).val = (splitE v).val := by
    simp only [E5.list, List.cons.injEq, and_true] at h
    unfold E5.val
    omega
  have := pp_lt
  rw [splitE_val, splitE_val, Nat.mod_eq_of_lt (by omega), Nat.mod_eq_of_lt (by omega)] at h2
  exact h2
theorem least_same (a b : E5) : decide ((leastE a).list = (leastE b).list) = decide (a.val % pp = b.val % pp) := by
  rw [decide_eq_decide]
  constructor
  · exact split_inj (Nat.mod_lt _ pp_pos) (Nat.mod_lt _ pp_pos)
  · intro h; unfold leastE; rw [h]
theorem equal13 (a b : E5) (w : World) (ha : a.wf) (hb : b.wf) : Calls Tryd.prog 52 #[.agg (elc a), .agg (elc b)] w fun e w' => e = .returned (.bool (decide (a.val % pp = b.val % pp))) ∧ Below w.heap.size w w' := by
  rw [← least_same]
  have ca := fun w1 => least36 a w1 ha
  have cb := fun w1 => least36 b w1 hb
  have hla := leastE_wf a
  have hlb := leastE_wf b
  obtain ⟨la, hla'⟩ : ∃ l, l = leastE a := ⟨_, rfl⟩
  obtain ⟨lb, hlb'⟩ : ∃ l, l = leastE b := ⟨_, rfl⟩
  rw [← hla'] at ca hla ⊢
  rw [← hlb'] at cb hlb ⊢
  clear hla' hlb'
  have hq := @run_eqE
  obtain ⟨r, hr⟩ : ∃ r, r = decide (la.list = lb.list) := ⟨_, rfl⟩
  have hq := fun ρ o x y w => run_eqE (ρ := ρ) (o := o) (x := x) (y := y) (w := w) la lb hla hlb
  rw [← hr] at hq ⊢
  clear hr
  have h0 : ((w.alloc (.cells (elc a) 27)).alloc (.cells (elc b) 27)).heap[w.heap.size]? = some (.cells (elc a) 27 (0, 0)) := heap2_0 _ _ _
  have h1 : ((w.alloc (.cells (elc a) 27)).alloc (.cells (elc b) 27)).heap[w.heap.size + 1]? = some (.cells (elc b) 27 (0, 0)) := heap_alloc2_new _ _ _
  have hbel : Below w.heap.size w ((w.alloc (.cells (elc a) 27)).alloc (.cells (elc b) 27)) := below2 _ _ _
  have hsa : (elc a).size = 5 := rfl
  have hsb : (elc b).size = 5 := rfl
  obtain ⟨va, hva⟩ : ∃ l, l = elc a := ⟨_, rfl⟩
  obtain ⟨vb, hvb⟩ : ∃ l, l = elc b := ⟨_, rfl⟩
  rw [← hva] at ca hsa
  rw [← hvb] at cb hsb
  rw [← hva, ← hvb] at h0 h1 hbel ⊢
  clear hva hvb
  go_enter Tryd.func52, Tryd.ntmps52
  go_wp2_with fail
  generalize ((w.alloc (.cells va 27)).alloc (.cells vb 27)) = u at h0 h1 hbel ⊢
  refine wp_region_quiet_below (by kernel_rfl) (by kernel_rfl) ?_
  show wpQuiet _ _ (Cls u) (fun a' => ∀ w', Cls u w' → _) _ _
  refine wpQuiet_load_row (some 5) rfl rfl 27 (.tmp 2) rfl _ rfl 27 va (0, 0) _ (fun _ hw => hw.heap h0) Tryd.underlying27 rfl (by rw [hsa]; exact info26) ?_
  simp only [Act.put, List.setIfInBounds_toArray, List.set_cons_succ, List.set_cons_zero]
  refine wpQuiet_call (some 6) (.agg (elc la)) 59 #[.agg va] rfl rfl (fun _ => by kernel_rfl) (fun w1 hw => cls_call hw (ca w1)) ?_
  simp only [Act.put, List.setIfInBounds_toArray, List.set_cons_succ, List.set_cons_zero]
  refine wpQuiet_load_row (some 7) rfl rfl 27 (.tmp 3) rfl _ rfl 27 vb (0, 0) _ (fun _ hw => hw.heap h1) Tryd.underlying27 rfl (by rw [hsb]; exact info26) ?_
  simp only [Act.put, List.setIfInBounds_toArray, List.set_cons_succ, List.set_cons_zero]
  refine wpQuiet_call (some 8) (.agg (elc lb)) 59 #[.agg vb] rfl rfl (fun _ => by kernel_rfl) (fun w1 hw => cls_call hw (cb w1)) ?_
  simp only [Act.put, List.setIfInBounds_toArray, List.set_cons_succ, List.set_cons_zero]
  refine wpQuiet_run (some 9) (.bool r) rfl rfl (fun w1 _ => hq _ _ (.tmp 6) (.tmp 8) w1 rfl rfl rfl) ?_
  simp only [Act.put, List.setIfInBounds_toArray, List.set_cons_succ, List.set_cons_zero]
  refine wpQuiet_run (some 4) (.bool r) rfl rfl (fun w1 _ => run_assignO (.tmp 9) rfl _) ?_
  simp only [Act.put, List.setIfInBounds_toArray, List.set_cons_succ, List.set_cons_zero]
  refine wpQuiet_nil ?_
  intro w1 hw
  go_wp2
  go_ret
  exact ⟨rfl, hbel.trans (hw.below.mono hbel.size)⟩
theorem field26 (s0 s1 s2 s3 s4 : Nat) (w : World) : (Instr.field 27 (.agg #[.int .u64 (s0 : Int), .int .u64 (s1 : Int), .int .u64 (s2 : Int), .int .u64 (s3 : Int), .int .u64 (s4 : Int)]) 0).run Tryd.prog w = .ok (.agg #[.int .u64 (s0 : Int), .int .u64 (s1 : Int), .int .u64 (s2 : Int), .int .u64 (s3 : Int), .int .u64 (s4 : Int)]) w := by kernel_rfl
theorem odd27' (x0 x1 x2 x3 x4 s0 s1 s2 s3 s4 : Nat) (w : World) (hle : ∀ w1, Calls Tryd.prog 59 #[.agg #[.int .u64 (x0 : Int), .int .u64 (x1 : Int), .int .u64 (x2 : Int), .int .u64 (x3 : Int), .int .u64 (x4 : Int)]] w1 fun e w' => e = .returned (.agg #[.int .u64 (s0 : Int), .int .u64 (s1 : Int), .int .u64 (s2 : Int), .int .u64 (s3 : Int), .int .u64 (s4 : Int)]) ∧ Below w1.heap.size w1 w') (h0 : s0 < 2251799813685248) :
    Calls Tryd.prog 32 #[.agg #[.int .u64 (x0 : Int), .int .u64 (x1 : Int), .int .u64 (x2 : Int), .int .u64 (x3 : Int), .int .u64 (x4 : Int)]] w fun e w' => e = .returned (.bool (decide (s0 % 2 = 1))) ∧ Below w.heap.size w w' := by
  have hix := idx24 s0 s1 s2 s3 s4 0 (by decide)
  have hfi := field26 s0 s1 s2 s3 s4
  have ha : bits .and .u64 (s0 : Int) 1 = ((s0 % 2 : Nat) : Int) := by
    have := bits_and_u64_nat s0 1 (by omega) (by decide)
    rw [Nat.and_one_is_mod] at this
    exact this
  simp only [List.getD_cons_zero, Int.natCast_zero] at hix
  go_enter Tryd.func32, Tryd.ntmps32
  go_wp2_with fail
  refine (hle _).mono ?_
  rintro e w1 ⟨rfl, hb1⟩
  have hb : Below w.heap.size w w1 := (below1 _ _).trans (hb1.mono (by simp))
  clear hb1 hle
  go_wp2
  go_ret
  refine ⟨ret_bool (b := decide (s0 % 2 = 1)) ?_, hb⟩
  rw [Bool.eq_iff_iff]
  simp
  omega
theorem odd27 (a : E5) (w : World) (ha : a.wf) : Calls Tryd.prog 32 #[.agg (elc a)] w fun e w' => e = .returned (.bool (decide (a.val % pp % 2 = 1))) ∧ Below w.heap.size w w' := by
  have h := odd27' a.a0 a.a1 a.a2 a.a3 a.a4 _ _ _ _ _ w (fun w1 => least36 a w1 ha) (Nat.mod_lt _ (by decide))
  have e : (leastE a).a0 % 2 = a.val % pp % 2 := by
    unfold leastE splitE
    simp only
    omega
  rw [← e]
  exact h
def wordE (n : Nat) : E5 := ⟨n % 2251799813685248, n / 2251799813685248, 0, 0, 0⟩
theorem wordE_wf {n : Nat} (h : n < 18446744073709551616) : (wordE n).wf := by unfold wordE E5.wf; simp only; omega
theorem wordE_val (n : Nat) : (wordE n).val = n := by unfold wordE E5.val; simp only; omega
theorem zeroE_wf : zeroE.wf := by unfold zeroE E5.wf; simp
theorem int17n (n : Nat) (w : World) (h0 : 0 < n) (h : n ≤ 9223372036854775808) :
    Calls Tryd.prog 53 #[.int .i64 (-(n : Int))] w fun e w' => e = .returned (.agg (elc (subE zeroE (wordE n)))) ∧ Below w.heap.size w w' := by
  have hneg : IntKind.u64.wrap (-IntKind.u64.wrap (-(n : Int))) = (n : Int) := by rw [wrapm, wrapm]; omega
  have hc := fun w1 => ofWord37 n w1 (by omega)
  have hs := fun w1 => sub20 zeroE (wordE n) w1 zeroE_wf (wordE_wf (by omega))
  rw [elc_zero, z5] at hs
  change ∀ w1, Calls Tryd.prog 71 _ w1 fun e w' => e = .returned (.agg (elc (wordE n))) ∧ _ at hc
  obtain ⟨rv, hrv⟩ : ∃ r, r = elc (subE zeroE (wordE n)) := ⟨_, rfl⟩
  have hrl : rv.size = 5 := by rw [hrv]; rfl
  have hr1 : rv.all (·.oneCell') = true := by rw [hrv]; exact elc_one _
  rw [← hrv] at hs ⊢
  clear hrv
  go_enter Tryd.func53, Tryd.ntmps53
  go_wp2_with fail
  refine (hc _).mono ?_
  rintro e w1 ⟨rfl, hb1⟩
  go_wp2_with fail
  refine (hs _).mono ?_
  rintro e w2 ⟨rfl, hb2⟩
  have hb3 := hb1.trans (hb2.mono hb1.size)
  have hb : Below w.heap.size w w2 := (below1 _ _).trans (hb3.mono (by simp))
  have hz : w2.heap[w.heap.size]? = some (.cells z5 27 (0, 0)) := block_below hb3 (by simp) (heap_alloc_new _ _)
  clear hb1 hb2 hb3 hc hs
  go_wp2_with (refine wpList_store_row rfl 27 (.tmp 2) (.tmp 10) rfl _ rv rfl rfl 27 _ hz (by rw [hrl]; exact info26) (by rw [hrl]; rfl) hr1 ?_)
  refine bodyPost_ret (v := .agg rv) ?_ rfl ⟨rfl, setRow_below hb (by omega) _⟩
  exact results_cell_row Tryd.results53 _ _ _ 27 rv (0, 0) _ rfl (setRow_heap _ _ _ _ _ _ hz) Tryd.underlying27 rfl (by rw [hrl]; exact info26)
theorem int17p (n : Nat) (w : World) (h : n ≤ 9223372036854775807) :
    Calls Tryd.prog 53 #[.int .i64 (n : Int)] w fun e w' => e = .returned (.agg (elc (wordE n))) ∧ Below w.heap.size w w' := by
  have hc := fun w1 => ofWord37 n w1 (by omega)
  change ∀ w1, Calls Tryd.prog 71 _ w1 fun e w' => e = .returned (.agg (elc (wordE n))) ∧ _ at hc
  obtain ⟨rv, hrv⟩ : ∃ r, r = elc (wordE n) := ⟨_, rfl⟩
  have hrl : rv.size = 5 := by rw [hrv]; rfl
  have hr1 : rv.all (·.oneCell') = true := by rw [hrv]; exact elc_one _
  rw [← hrv] at hc ⊢
  clear hrv
  go_enter Tryd.func53, Tryd.ntmps53
  go_wp2_with fail
  refine (hc _).mono ?_
  rintro e w1 ⟨rfl, hb1⟩
  have hb : Below w.heap.size w w1 := (below1 _ _).trans (hb1.mono (by simp))
  have hz : w1.heap[w.heap.size]? = some (.cells z5 27 (0, 0)) := block_below hb1 (by simp) (heap_alloc_new _ _)
  clear hb1 hc
  go_wp2_with (refine wpList_store_row rfl 27 (.tmp 2) (.tmp 13) rfl _ rv rfl rfl 27 _ hz (by rw [hrl]; exact info26) (by rw [hrl]; rfl) hr1 ?_)
  refine bodyPost_ret (v := .agg rv) ?_ rfl ⟨rfl, setRow_below hb (by omega) _⟩
  exact results_cell_row Tryd.results53 _ _ _ 27 rv (0, 0) _ rfl (setRow_heap _ _ _ _ _ _ hz) Tryd.underlying27 rfl (by rw [hrl]; exact info26)
def intE (n : Int) : E5 := if n < 0 then subE zeroE (wordE n.natAbs) else wordE n.natAbs
theorem intE_wf {n : Int} (h0 : -9223372036854775808 ≤ n) (h1 : n ≤ 9223372036854775807) : (intE n).wf := by
  unfold intE
  split
  · exact subE_wf zeroE_wf (wordE_wf (by omega))
  · exact wordE_wf (by omega)
theorem int17 (n : Int) (w : World) (h0 : -9223372036854775808 ≤ n) (h1 : n ≤ 9223372036854775807) :
    Calls Tryd.prog 53 #[.int .i64 n] w fun e w' => e = .returned (.agg (elc (intE n))) ∧ Below w.heap.size w w' := by
  unfold intE
  split
  · have := int17n n.natAbs w (by omega) (by omega)
    rwa [show -(n.natAbs : Int) = n by omega] at this
  · have := int17p n.natAbs w (by omega)
    rwa [show (n.natAbs : Int) = n by omega] at this
/-- The number of an int's element. -/
theorem intE_mod {n : Int} (h0 : -9223372036854775808 ≤ n) : ((intE n).val % pp : Nat) = n % (pp : Int) := by
  unfold intE
  split
  · have h := subE_mod (a := zeroE) (b := wordE n.natAbs) (wordE_wf (by omega))
    rw [wordE_val, show zeroE.val = 0 from rfl, Nat.zero_mod] at h
    obtain ⟨V, hV⟩ : ∃ V, V = (subE zeroE (wordE n.natAbs)).val := ⟨_, rfl⟩
    rw [← hV] at h ⊢
    have hp : pp = 57896044618658097711785492504343953926634992332820282019728792003956564819949 := rfl
    rw [hp] at h ⊢
    omega
  · rw [wordE_val]
    have hp : pp = 57896044618658097711785492504343953926634992332820282019728792003956564819949 := rfl
    rw [hp]
    omega
end Go.Proofs.YtpfcboakafbnlaaDoor
