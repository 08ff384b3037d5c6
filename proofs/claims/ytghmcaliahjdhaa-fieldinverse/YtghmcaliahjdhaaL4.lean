/-
  The walk of the law FieldRing.
-/
import Derived.Test.YtghmcaliahjdhaaL3
set_option linter.unusedVariables false
namespace Go.Proofs.Ytghmcaliahjdhaa
open Go.RowKit Go.Sort Go.BigFrame
set_option maxRecDepth 100000
set_option maxHeartbeats 2000000
/-- The same modulo p. -/
def R (a b : Int) : Prop := ∃ k : Int, a = b + (pp : Int) * k
theorem R.refl (a : Int) : R a a := ⟨0, by rw [Int.mul_zero, Int.add_zero]⟩
theorem R.trans {a b c : Int} (h : R a b) (h' : R b c) : R a c := by
  obtain ⟨k, rfl⟩ := h
  obtain ⟨l, rfl⟩ := h'
  exact ⟨k + l, by rw [Int.mul_add]; omega⟩
theorem R.symm {a b : Int} (h : R a b) : R b a := by
  obtain ⟨k, rfl⟩ := h
  exact ⟨-k, by rw [Int.mul_neg]; omega⟩
theorem R.add {a b c d : Int} (h : R a b) (h' : R c d) : R (a + c) (b + d) := by
  obtain ⟨k, rfl⟩ := h
  obtain ⟨l, rfl⟩ := h'
  exact ⟨k + l, by rw [Int.mul_add]; omega⟩
theorem R.sub {a b c d : Int} (h : R a b) (h' : R c d) : R (a - c) (b - d) := by
  obtain ⟨k, rfl⟩ := h
  obtain ⟨l, rfl⟩ := h'
  exact ⟨k - l, by rw [Int.mul_sub]; omega⟩
theorem R.mul {a b c d : Int} (h : R a b) (h' : R c d) : R (a * c) (b * d) := by
  obtain ⟨k, rfl⟩ := h
  obtain ⟨l, rfl⟩ := h'
  obtain ⟨p, hp⟩ : ∃ p : Int, p = (pp : Int) := ⟨_, rfl⟩
  rw [← hp]
  exact ⟨k * d + b * l + p * k * l, by rw [← hp]; grind⟩
theorem R_of {a b : Nat} (h : a % pp = b % pp) : R a b := by
  have h1 := Nat.mod_add_div a pp
  have h2 := Nat.mod_add_div b pp
  refine ⟨(a / pp : Nat) - (b / pp : Nat), ?_⟩
  rw [Int.mul_sub]
  have e1 : (a : Int) = ((a % pp : Nat) : Int) + (pp : Int) * ((a / pp : Nat) : Int) := by rw [← Int.natCast_mul, ← Int.natCast_add, h1]
  have e2 : (b : Int) = ((b % pp : Nat) : Int) + (pp : Int) * ((b / pp : Nat) : Int) := by rw [← Int.natCast_mul, ← Int.natCast_add, h2]
  rw [h] at e1
  omega
theorem of_R {a b : Nat} (h : R a b) : a % pp = b % pp := by
  obtain ⟨k, hk⟩ := h
  have : ((a % pp : Nat) : Int) = ((b % pp : Nat) : Int) := by
    rw [Int.natCast_emod, Int.natCast_emod, hk, Int.add_mul_emod_self_left]
  omega
theorem RA (a b : E5) : R (addE a b).val (a.val + b.val) := by
  have := R_of (addE_mod a b)
  rwa [Int.natCast_add] at this
theorem RM (a b : E5) : R (mulE a b).val (a.val * b.val) := by
  have := R_of (mulE_mod a b)
  rwa [Int.natCast_mul] at this
theorem RS (a : E5) {b : E5} (hb : b.wf) : R (subE a b).val (a.val - b.val) := by
  have h := R_of (subE_mod (a := a) hb)
  rw [Int.natCast_add] at h
  have := h.sub (R.refl (b.val : Int))
  rwa [Int.add_sub_cancel] at this
theorem equal13T (a b : E5) (w : World) (ha : a.wf) (hb : b.wf) (h : a.val % pp = b.val % pp) : Calls Try.prog 13 #[.agg (elc a), .agg (elc b)] w fun e w' => e = .returned (.bool true) ∧ Below w.heap.size w w' := by
  have := equal13 a b w ha hb
  rw [decide_eq_true h] at this
  exact this
theorem ring1 (x y z : E5) : (mulE (addE x y) z).val % pp = (addE (mulE x z) (mulE y z)).val % pp := by
  refine of_R (((RM _ _).trans ((RA x y).mul (R.refl _))).trans ?_)
  have h := (RA (mulE x z) (mulE y z)).trans ((RM x z).add (RM y z))
  rw [Int.add_mul]
  exact h.symm
theorem ring2 (x y z : E5) : (mulE (mulE x y) z).val % pp = (mulE x (mulE y z)).val % pp := by
  refine of_R (((RM _ _).trans ((RM x y).mul (R.refl _))).trans ?_)
  have h := (RM x (mulE y z)).trans ((R.refl _).mul (RM y z))
  rw [Int.mul_assoc]
  exact h.symm
theorem ring3 (x y : E5) : (mulE x y).val % pp = (mulE y x).val % pp := by
  refine of_R ((RM x y).trans ?_)
  rw [Int.mul_comm]
  exact (RM y x).symm
theorem ring4 (x y z : E5) : (addE (addE x y) z).val % pp = (addE x (addE y z)).val % pp := by
  refine of_R (((RA _ _).trans ((RA x y).add (R.refl _))).trans ?_)
  have h := (RA x (addE y z)).trans ((R.refl _).add (RA y z))
  rw [Int.add_assoc]
  exact h.symm
theorem ring5 (x : E5) {y : E5} (hy : y.wf) : (addE (subE x y) y).val % pp = x.val % pp := by
  refine of_R (((RA _ _).trans ((RS x hy).add (R.refl _))).trans ?_)
  rw [Int.sub_add_cancel]
  exact R.refl _
theorem ring6 {x y : E5} (hx : x.wf) (hy : y.wf) : (mulE (subE x y) (addE x y)).val % pp = (subE (mulE x x) (mulE y y)).val % pp := by
  refine of_R (((RM _ _).trans ((RS x hy).mul (RA x y))).trans ?_)
  have h := (RS (mulE x x) (mulE_wf hy hy)).trans ((RM x x).sub (RM y y))
  have e : ((x.val : Int) - y.val) * (x.val + y.val) = x.val * x.val - y.val * y.val := by grind
  rw [e]
  exact h.symm
theorem fieldRing6 (a : Option Addr) (la ca : Nat) (za : List Nat) (b : Option Addr) (lb cb : Nat) (zb : List Nat) (c : Option Addr) (lc cc : Nat) (zc : List Nat) (w : World) (hza : za.length = la) (hca : la ≤ ca) (hma : ca ≤ 9223372036854775807) (hda : Dig za) (hva : View w a za) (hzb : zb.length = lb) (hcb : lb ≤ cb) (hmb : cb ≤ 9223372036854775807) (hdb : Dig zb) (hvb : View w b zb) (hzc : zc.length = lc) (hcc : lc ≤ cc) (hmc : cc ≤ 9223372036854775807) (hdc : Dig zc) (hvc : View w c zc) :
    Calls Try.prog 6 #[.slice a la ca, .slice b lb cb, .slice c lc cc] w fun e w' => e = .returned (.bool true) ∧ Below w.heap.size w w' := by
  have o1 := of19 a la ca za w hza hca hma hda hva
  have o2 := fun w1 (hB : Below w.heap.size w w1) => of19 b lb cb zb w1 hzb hcb hmb hdb (hvb.below hB)
  have o3 := fun w1 (hB : Below w.heap.size w w1) => of19 c lc cc zc w1 hzc hcc hmc hdc (hvc.below hB)
  obtain ⟨x, hx⟩ : ∃ z, z = splitE (valD (za.take 31)) := ⟨_, rfl⟩
  obtain ⟨y, hy⟩ : ∃ z, z = splitE (valD (zb.take 31)) := ⟨_, rfl⟩
  obtain ⟨z, hz⟩ : ∃ z, z = splitE (valD (zc.take 31)) := ⟨_, rfl⟩
  have hxw : x.wf := by rw [hx]; exact splitE_wf _
  have hyw : y.wf := by rw [hy]; exact splitE_wf _
  have hzw : z.wf := by rw [hz]; exact splitE_wf _
  rw [← hx] at o1
  rw [← hy] at o2
  rw [← hz] at o3
  clear hx hy hz hza hzb hzc hva hvb hvc hda hdb hdc
  go_enter Try.func6, Try.ntmps6
  go_wp2_with fail
  refine (o1).mono ?_
  rintro e p1 ⟨v1, rfl, hb1, hrow, _⟩
  obtain ⟨ad1, cd1, rfl, _, _, _⟩ := hrow
  rw [digs_len]
  have hal : (p1.alloc (.cells #[.int .u64 0, .int .u64 0, .int .u64 0, .int .u64 0, .int .u64 0] 26)).heap[p1.heap.size]? = some (.cells #[.int .u64 0, .int .u64 0, .int .u64 0, .int .u64 0, .int .u64 0] 26 (0, 0)) := heap_alloc_new _ _
  go_wp2_with (refine wpList_store_row rfl 26 (.tmp 7) (.tmp 20) rfl _ (elc x) rfl rfl 26 _ hal info26 rfl (elc_one _) ?_)
  have h7 : ((p1.alloc (.cells #[.int .u64 0, .int .u64 0, .int .u64 0, .int .u64 0, .int .u64 0] 26)).setRow p1.heap.size (elc x)).heap[p1.heap.size]? = some (.cells (elc x) 26 (0, 0)) := setRow_heap _ _ _ _ _ _ hal
  have hBn : Below p1.heap.size p1 ((p1.alloc (.cells #[.int .u64 0, .int .u64 0, .int .u64 0, .int .u64 0, .int .u64 0] 26)).setRow p1.heap.size (elc x)) := setRow_below (below1 _ _) (Nat.le_refl _) _
  have hB1 := hb1.trans (hBn.mono hb1.size)
  generalize ((p1.alloc (.cells #[.int .u64 0, .int .u64 0, .int .u64 0, .int .u64 0, .int .u64 0] 26)).setRow p1.heap.size (elc x)) = u1 at h7 hB1  ⊢
  generalize p1.heap.size = g7 at h7 ⊢
  clear hal hBn hb1
  refine (o2 _ hB1).mono ?_
  rintro e p2 ⟨v2, rfl, hb2, hrow, _⟩
  obtain ⟨ad2, cd2, rfl, _, _, _⟩ := hrow
  rw [digs_len]
  have hal : (p2.alloc (.cells #[.int .u64 0, .int .u64 0, .int .u64 0, .int .u64 0, .int .u64 0] 26)).heap[p2.heap.size]? = some (.cells #[.int .u64 0, .int .u64 0, .int .u64 0, .int .u64 0, .int .u64 0] 26 (0, 0)) := heap_alloc_new _ _
  go_wp2_with (refine wpList_store_row rfl 26 (.tmp 9) (.tmp 25) rfl _ (elc y) rfl rfl 26 _ hal info26 rfl (elc_one _) ?_)
  have h9 : ((p2.alloc (.cells #[.int .u64 0, .int .u64 0, .int .u64 0, .int .u64 0, .int .u64 0] 26)).setRow p2.heap.size (elc y)).heap[p2.heap.size]? = some (.cells (elc y) 26 (0, 0)) := setRow_heap _ _ _ _ _ _ hal
  have hBn : Below p2.heap.size p2 ((p2.alloc (.cells #[.int .u64 0, .int .u64 0, .int .u64 0, .int .u64 0, .int .u64 0] 26)).setRow p2.heap.size (elc y)) := setRow_below (below1 _ _) (Nat.le_refl _) _
  have hBm := hB1.trans (hb2.mono hB1.size)
  have hB2 := hBm.trans (hBn.mono hBm.size)
  clear hBm
  have h7n := block_below hb2 (lt_of_heap h7) h7
  have h7m := block_below hBn (lt_of_heap h7n) h7n
  clear h7 h7n
  have h7 := h7m
  clear h7m
  generalize ((p2.alloc (.cells #[.int .u64 0, .int .u64 0, .int .u64 0, .int .u64 0, .int .u64 0] 26)).setRow p2.heap.size (elc y)) = u2 at h9 hB2 h7 ⊢
  generalize p2.heap.size = g9 at h9 ⊢
  clear hal hBn hb2 hB1
  refine (o3 _ hB2).mono ?_
  rintro e p3 ⟨v3, rfl, hb3, hrow, _⟩
  obtain ⟨ad3, cd3, rfl, _, _, _⟩ := hrow
  rw [digs_len]
  have hal : (p3.alloc (.cells #[.int .u64 0, .int .u64 0, .int .u64 0, .int .u64 0, .int .u64 0] 26)).heap[p3.heap.size]? = some (.cells #[.int .u64 0, .int .u64 0, .int .u64 0, .int .u64 0, .int .u64 0] 26 (0, 0)) := heap_alloc_new _ _
  go_wp2_with (refine wpList_store_row rfl 26 (.tmp 11) (.tmp 30) rfl _ (elc z) rfl rfl 26 _ hal info26 rfl (elc_one _) ?_)
  have h11 : ((p3.alloc (.cells #[.int .u64 0, .int .u64 0, .int .u64 0, .int .u64 0, .int .u64 0] 26)).setRow p3.heap.size (elc z)).heap[p3.heap.size]? = some (.cells (elc z) 26 (0, 0)) := setRow_heap _ _ _ _ _ _ hal
  have hBn : Below p3.heap.size p3 ((p3.alloc (.cells #[.int .u64 0, .int .u64 0, .int .u64 0, .int .u64 0, .int .u64 0] 26)).setRow p3.heap.size (elc z)) := setRow_below (below1 _ _) (Nat.le_refl _) _
  have hBm := hB2.trans (hb3.mono hB2.size)
  have hB3 := hBm.trans (hBn.mono hBm.size)
  clear hBm
  have h7n := block_below hb3 (lt_of_heap h7) h7
  have h7m := block_below hBn (lt_of_heap h7n) h7n
  clear h7 h7n
  have h7 := h7m
  clear h7m
  have h9n := block_below hb3 (lt_of_heap h9) h9
  have h9m := block_below hBn (lt_of_heap h9n) h9n
  clear h9 h9n
  have h9 := h9m
  clear h9m
  generalize ((p3.alloc (.cells #[.int .u64 0, .int .u64 0, .int .u64 0, .int .u64 0, .int .u64 0] 26)).setRow p3.heap.size (elc z)) = u3 at h11 hB3 h7 h9 ⊢
  generalize p3.heap.size = g11 at h11 ⊢
  clear hal hBn hb3 hB2
  have hBu3 := hB3
  clear hB3
  refine wp_region_quiet_below (by kernel_rfl) (by kernel_rfl) ?_
  show wpQuiet _ _ (Cls u3) (fun a' => ∀ w', Cls u3 w' → _) _ _
  refine wpQuiet_load_row (some 32) rfl (by kernel_rfl) 26 (.tmp 7) rfl _ rfl 26 (elc x) (0, 0) _ (fun _ hw => hw.heap h7) Try.underlying26 rfl info26 ?_
  simp only [Act.put, List.setIfInBounds_toArray, List.set_cons_succ, List.set_cons_zero]
  refine wpQuiet_load_row (some 33) rfl (by kernel_rfl) 26 (.tmp 9) rfl _ rfl 26 (elc y) (0, 0) _ (fun _ hw => hw.heap h9) Try.underlying26 rfl info26 ?_
  simp only [Act.put, List.setIfInBounds_toArray, List.set_cons_succ, List.set_cons_zero]
  refine wpQuiet_call (some 34) (.agg (elc (addE x y))) 22 #[.agg (elc x), .agg (elc y)] rfl (by kernel_rfl) (fun _ => by kernel_rfl) (fun w1 hw => cls_call hw (add22 x y w1 hxw hyw)) ?_
  simp only [Act.put, List.setIfInBounds_toArray, List.set_cons_succ, List.set_cons_zero]
  refine wpQuiet_load_row (some 35) rfl (by kernel_rfl) 26 (.tmp 11) rfl _ rfl 26 (elc z) (0, 0) _ (fun _ hw => hw.heap h11) Try.underlying26 rfl info26 ?_
  simp only [Act.put, List.setIfInBounds_toArray, List.set_cons_succ, List.set_cons_zero]
  refine wpQuiet_call (some 36) (.agg (elc (mulE (addE x y) z))) 24 #[.agg (elc (addE x y)), .agg (elc z)] rfl (by kernel_rfl) (fun _ => by kernel_rfl) (fun w1 hw => cls_call hw (mul24 (addE x y) z w1 (addE_wf hxw hyw) hzw)) ?_
  simp only [Act.put, List.setIfInBounds_toArray, List.set_cons_succ, List.set_cons_zero]
  refine wpQuiet_load_row (some 37) rfl (by kernel_rfl) 26 (.tmp 7) rfl _ rfl 26 (elc x) (0, 0) _ (fun _ hw => hw.heap h7) Try.underlying26 rfl info26 ?_
  simp only [Act.put, List.setIfInBounds_toArray, List.set_cons_succ, List.set_cons_zero]
  refine wpQuiet_load_row (some 38) rfl (by kernel_rfl) 26 (.tmp 11) rfl _ rfl 26 (elc z) (0, 0) _ (fun _ hw => hw.heap h11) Try.underlying26 rfl info26 ?_
  simp only [Act.put, List.setIfInBounds_toArray, List.set_cons_succ, List.set_cons_zero]
  refine wpQuiet_call (some 39) (.agg (elc (mulE x z))) 24 #[.agg (elc x), .agg (elc z)] rfl (by kernel_rfl) (fun _ => by kernel_rfl) (fun w1 hw => cls_call hw (mul24 x z w1 hxw hzw)) ?_
  simp only [Act.put, List.setIfInBounds_toArray, List.set_cons_succ, List.set_cons_zero]
  refine wpQuiet_load_row (some 40) rfl (by kernel_rfl) 26 (.tmp 9) rfl _ rfl 26 (elc y) (0, 0) _ (fun _ hw => hw.heap h9) Try.underlying26 rfl info26 ?_
  simp only [Act.put, List.setIfInBounds_toArray, List.set_cons_succ, List.set_cons_zero]
  refine wpQuiet_load_row (some 41) rfl (by kernel_rfl) 26 (.tmp 11) rfl _ rfl 26 (elc z) (0, 0) _ (fun _ hw => hw.heap h11) Try.underlying26 rfl info26 ?_
  simp only [Act.put, List.setIfInBounds_toArray, List.set_cons_succ, List.set_cons_zero]
  refine wpQuiet_call (some 42) (.agg (elc (mulE y z))) 24 #[.agg (elc y), .agg (elc z)] rfl (by kernel_rfl) (fun _ => by kernel_rfl) (fun w1 hw => cls_call hw (mul24 y z w1 hyw hzw)) ?_
  simp only [Act.put, List.setIfInBounds_toArray, List.set_cons_succ, List.set_cons_zero]
  refine wpQuiet_call (some 43) (.agg (elc (addE (mulE x z) (mulE y z)))) 22 #[.agg (elc (mulE x z)), .agg (elc (mulE y z))] rfl (by kernel_rfl) (fun _ => by kernel_rfl) (fun w1 hw => cls_call hw (add22 (mulE x z) (mulE y z) w1 (mulE_wf hxw hzw) (mulE_wf hyw hzw))) ?_
  simp only [Act.put, List.setIfInBounds_toArray, List.set_cons_succ, List.set_cons_zero]
  refine wpQuiet_call (some 44) (.bool true) 13 #[.agg (elc (mulE (addE x y) z)), .agg (elc (addE (mulE x z) (mulE y z)))] rfl (by kernel_rfl) (fun _ => by kernel_rfl) (fun w1 hw => cls_call hw (equal13T (mulE (addE x y) z) (addE (mulE x z) (mulE y z)) w1 (mulE_wf (addE_wf hxw hyw) hzw) (addE_wf (mulE_wf hxw hzw) (mulE_wf hyw hzw)) (ring1 x y z))) ?_
  simp only [Act.put, List.setIfInBounds_toArray, List.set_cons_succ, List.set_cons_zero]
  refine wpQuiet_run (some 13) (.bool true) rfl (by kernel_rfl) (fun w1 _ => run_assignO (.tmp 44) rfl w1) ?_
  simp only [Act.put, List.setIfInBounds_toArray, List.set_cons_succ, List.set_cons_zero]
  refine wpQuiet_nil ?_
  intro u4 hw
  have hBu4 := hBu3.trans (hw.below.mono hBu3.size)
  have h7n := hw.heap h7
  have h9n := hw.heap h9
  have h11n := hw.heap h11
  clear hw h7 h9 h11 hBu3
  have h7 := h7n
  have h9 := h9n
  have h11 := h11n
  clear h7n h9n h11n
  go_wp2_with fail
  refine wp_region_quiet_below (by kernel_rfl) (by kernel_rfl) ?_
  show wpQuiet _ _ (Cls u4) (fun a' => ∀ w', Cls u4 w' → _) _ _
  refine wpQuiet_load_row (some 45) rfl (by kernel_rfl) 26 (.tmp 7) rfl _ rfl 26 (elc x) (0, 0) _ (fun _ hw => hw.heap h7) Try.underlying26 rfl info26 ?_
  simp only [Act.put, List.setIfInBounds_toArray, List.set_cons_succ, List.set_cons_zero]
  refine wpQuiet_load_row (some 46) rfl (by kernel_rfl) 26 (.tmp 9) rfl _ rfl 26 (elc y) (0, 0) _ (fun _ hw => hw.heap h9) Try.underlying26 rfl info26 ?_
  simp only [Act.put, List.setIfInBounds_toArray, List.set_cons_succ, List.set_cons_zero]
  refine wpQuiet_call (some 47) (.agg (elc (mulE x y))) 24 #[.agg (elc x), .agg (elc y)] rfl (by kernel_rfl) (fun _ => by kernel_rfl) (fun w1 hw => cls_call hw (mul24 x y w1 hxw hyw)) ?_
  simp only [Act.put, List.setIfInBounds_toArray, List.set_cons_succ, List.set_cons_zero]
  refine wpQuiet_load_row (some 48) rfl (by kernel_rfl) 26 (.tmp 11) rfl _ rfl 26 (elc z) (0, 0) _ (fun _ hw => hw.heap h11) Try.underlying26 rfl info26 ?_
  simp only [Act.put, List.setIfInBounds_toArray, List.set_cons_succ, List.set_cons_zero]
  refine wpQuiet_call (some 49) (.agg (elc (mulE (mulE x y) z))) 24 #[.agg (elc (mulE x y)), .agg (elc z)] rfl (by kernel_rfl) (fun _ => by kernel_rfl) (fun w1 hw => cls_call hw (mul24 (mulE x y) z w1 (mulE_wf hxw hyw) hzw)) ?_
  simp only [Act.put, List.setIfInBounds_toArray, List.set_cons_succ, List.set_cons_zero]
  refine wpQuiet_load_row (some 50) rfl (by kernel_rfl) 26 (.tmp 7) rfl _ rfl 26 (elc x) (0, 0) _ (fun _ hw => hw.heap h7) Try.underlying26 rfl info26 ?_
  simp only [Act.put, List.setIfInBounds_toArray, List.set_cons_succ, List.set_cons_zero]
  refine wpQuiet_load_row (some 51) rfl (by kernel_rfl) 26 (.tmp 9) rfl _ rfl 26 (elc y) (0, 0) _ (fun _ hw => hw.heap h9) Try.underlying26 rfl info26 ?_
  simp only [Act.put, List.setIfInBounds_toArray, List.set_cons_succ, List.set_cons_zero]
  refine wpQuiet_load_row (some 52) rfl (by kernel_rfl) 26 (.tmp 11) rfl _ rfl 26 (elc z) (0, 0) _ (fun _ hw => hw.heap h11) Try.underlying26 rfl info26 ?_
  simp only [Act.put, List.setIfInBounds_toArray, List.set_cons_succ, List.set_cons_zero]
  refine wpQuiet_call (some 53) (.agg (elc (mulE y z))) 24 #[.agg (elc y), .agg (elc z)] rfl (by kernel_rfl) (fun _ => by kernel_rfl) (fun w1 hw => cls_call hw (mul24 y z w1 hyw hzw)) ?_
  simp only [Act.put, List.setIfInBounds_toArray, List.set_cons_succ, List.set_cons_zero]
  refine wpQuiet_call (some 54) (.agg (elc (mulE x (mulE y z)))) 24 #[.agg (elc x), .agg (elc (mulE y z))] rfl (by kernel_rfl) (fun _ => by kernel_rfl) (fun w1 hw => cls_call hw (mul24 x (mulE y z) w1 hxw (mulE_wf hyw hzw))) ?_
  simp only [Act.put, List.setIfInBounds_toArray, List.set_cons_succ, List.set_cons_zero]
  refine wpQuiet_call (some 55) (.bool true) 13 #[.agg (elc (mulE (mulE x y) z)), .agg (elc (mulE x (mulE y z)))] rfl (by kernel_rfl) (fun _ => by kernel_rfl) (fun w1 hw => cls_call hw (equal13T (mulE (mulE x y) z) (mulE x (mulE y z)) w1 (mulE_wf (mulE_wf hxw hyw) hzw) (mulE_wf hxw (mulE_wf hyw hzw)) (ring2 x y z))) ?_
  simp only [Act.put, List.setIfInBounds_toArray, List.set_cons_succ, List.set_cons_zero]
  refine wpQuiet_run (some 56) (.bool true) rfl (by kernel_rfl) (fun w1 _ => run_move (.tmp 55) rfl w1) ?_
  simp only [Act.put, List.setIfInBounds_toArray, List.set_cons_succ, List.set_cons_zero]
  refine wpQuiet_load_row (some 57) rfl (by kernel_rfl) 26 (.tmp 7) rfl _ rfl 26 (elc x) (0, 0) _ (fun _ hw => hw.heap h7) Try.underlying26 rfl info26 ?_
  simp only [Act.put, List.setIfInBounds_toArray, List.set_cons_succ, List.set_cons_zero]
  refine wpQuiet_load_row (some 58) rfl (by kernel_rfl) 26 (.tmp 9) rfl _ rfl 26 (elc y) (0, 0) _ (fun _ hw => hw.heap h9) Try.underlying26 rfl info26 ?_
  simp only [Act.put, List.setIfInBounds_toArray, List.set_cons_succ, List.set_cons_zero]
  refine wpQuiet_call (some 59) (.agg (elc (mulE x y))) 24 #[.agg (elc x), .agg (elc y)] rfl (by kernel_rfl) (fun _ => by kernel_rfl) (fun w1 hw => cls_call hw (mul24 x y w1 hxw hyw)) ?_
  simp only [Act.put, List.setIfInBounds_toArray, List.set_cons_succ, List.set_cons_zero]
  refine wpQuiet_load_row (some 60) rfl (by kernel_rfl) 26 (.tmp 9) rfl _ rfl 26 (elc y) (0, 0) _ (fun _ hw => hw.heap h9) Try.underlying26 rfl info26 ?_
  simp only [Act.put, List.setIfInBounds_toArray, List.set_cons_succ, List.set_cons_zero]
  refine wpQuiet_load_row (some 61) rfl (by kernel_rfl) 26 (.tmp 7) rfl _ rfl 26 (elc x) (0, 0) _ (fun _ hw => hw.heap h7) Try.underlying26 rfl info26 ?_
  simp only [Act.put, List.setIfInBounds_toArray, List.set_cons_succ, List.set_cons_zero]
  refine wpQuiet_call (some 62) (.agg (elc (mulE y x))) 24 #[.agg (elc y), .agg (elc x)] rfl (by kernel_rfl) (fun _ => by kernel_rfl) (fun w1 hw => cls_call hw (mul24 y x w1 hyw hxw)) ?_
  simp only [Act.put, List.setIfInBounds_toArray, List.set_cons_succ, List.set_cons_zero]
  refine wpQuiet_call (some 63) (.bool true) 13 #[.agg (elc (mulE x y)), .agg (elc (mulE y x))] rfl (by kernel_rfl) (fun _ => by kernel_rfl) (fun w1 hw => cls_call hw (equal13T (mulE x y) (mulE y x) w1 (mulE_wf hxw hyw) (mulE_wf hyw hxw) (ring3 x y))) ?_
  simp only [Act.put, List.setIfInBounds_toArray, List.set_cons_succ, List.set_cons_zero]
  refine wpQuiet_run (some 64) (.bool true) rfl (by kernel_rfl) (fun _ _ => by kernel_rfl) ?_
  simp only [Act.put, List.setIfInBounds_toArray, List.set_cons_succ, List.set_cons_zero]
  refine wpQuiet_run (some 14) (.bool true) rfl (by kernel_rfl) (fun w1 _ => run_assignO (.tmp 64) rfl w1) ?_
  simp only [Act.put, List.setIfInBounds_toArray, List.set_cons_succ, List.set_cons_zero]
  refine wpQuiet_nil ?_
  intro u5 hw
  have hBu5 := hBu4.trans (hw.below.mono hBu4.size)
  have h7n := hw.heap h7
  have h9n := hw.heap h9
  have h11n := hw.heap h11
  clear hw h7 h9 h11 hBu4
  have h7 := h7n
  have h9 := h9n
  have h11 := h11n
  clear h7n h9n h11n
  go_wp2_with fail
  refine wp_region_quiet_below (by kernel_rfl) (by kernel_rfl) ?_
  show wpQuiet _ _ (Cls u5) (fun a' => ∀ w', Cls u5 w' → _) _ _
  refine wpQuiet_load_row (some 65) rfl (by kernel_rfl) 26 (.tmp 7) rfl _ rfl 26 (elc x) (0, 0) _ (fun _ hw => hw.heap h7) Try.underlying26 rfl info26 ?_
  simp only [Act.put, List.setIfInBounds_toArray, List.set_cons_succ, List.set_cons_zero]
  refine wpQuiet_load_row (some 66) rfl (by kernel_rfl) 26 (.tmp 9) rfl _ rfl 26 (elc y) (0, 0) _ (fun _ hw => hw.heap h9) Try.underlying26 rfl info26 ?_
  simp only [Act.put, List.setIfInBounds_toArray, List.set_cons_succ, List.set_cons_zero]
  refine wpQuiet_call (some 67) (.agg (elc (addE x y))) 22 #[.agg (elc x), .agg (elc y)] rfl (by kernel_rfl) (fun _ => by kernel_rfl) (fun w1 hw => cls_call hw (add22 x y w1 hxw hyw)) ?_
  simp only [Act.put, List.setIfInBounds_toArray, List.set_cons_succ, List.set_cons_zero]
  refine wpQuiet_load_row (some 68) rfl (by kernel_rfl) 26 (.tmp 11) rfl _ rfl 26 (elc z) (0, 0) _ (fun _ hw => hw.heap h11) Try.underlying26 rfl info26 ?_
  simp only [Act.put, List.setIfInBounds_toArray, List.set_cons_succ, List.set_cons_zero]
  refine wpQuiet_call (some 69) (.agg (elc (addE (addE x y) z))) 22 #[.agg (elc (addE x y)), .agg (elc z)] rfl (by kernel_rfl) (fun _ => by kernel_rfl) (fun w1 hw => cls_call hw (add22 (addE x y) z w1 (addE_wf hxw hyw) hzw)) ?_
  simp only [Act.put, List.setIfInBounds_toArray, List.set_cons_succ, List.set_cons_zero]
  refine wpQuiet_load_row (some 70) rfl (by kernel_rfl) 26 (.tmp 7) rfl _ rfl 26 (elc x) (0, 0) _ (fun _ hw => hw.heap h7) Try.underlying26 rfl info26 ?_
  simp only [Act.put, List.setIfInBounds_toArray, List.set_cons_succ, List.set_cons_zero]
  refine wpQuiet_load_row (some 71) rfl (by kernel_rfl) 26 (.tmp 9) rfl _ rfl 26 (elc y) (0, 0) _ (fun _ hw => hw.heap h9) Try.underlying26 rfl info26 ?_
  simp only [Act.put, List.setIfInBounds_toArray, List.set_cons_succ, List.set_cons_zero]
  refine wpQuiet_load_row (some 72) rfl (by kernel_rfl) 26 (.tmp 11) rfl _ rfl 26 (elc z) (0, 0) _ (fun _ hw => hw.heap h11) Try.underlying26 rfl info26 ?_
  simp only [Act.put, List.setIfInBounds_toArray, List.set_cons_succ, List.set_cons_zero]
  refine wpQuiet_call (some 73) (.agg (elc (addE y z))) 22 #[.agg (elc y), .agg (elc z)] rfl (by kernel_rfl) (fun _ => by kernel_rfl) (fun w1 hw => cls_call hw (add22 y z w1 hyw hzw)) ?_
  simp only [Act.put, List.setIfInBounds_toArray, List.set_cons_succ, List.set_cons_zero]
  refine wpQuiet_call (some 74) (.agg (elc (addE x (addE y z)))) 22 #[.agg (elc x), .agg (elc (addE y z))] rfl (by kernel_rfl) (fun _ => by kernel_rfl) (fun w1 hw => cls_call hw (add22 x (addE y z) w1 hxw (addE_wf hyw hzw))) ?_
  simp only [Act.put, List.setIfInBounds_toArray, List.set_cons_succ, List.set_cons_zero]
  refine wpQuiet_call (some 75) (.bool true) 13 #[.agg (elc (addE (addE x y) z)), .agg (elc (addE x (addE y z)))] rfl (by kernel_rfl) (fun _ => by kernel_rfl) (fun w1 hw => cls_call hw (equal13T (addE (addE x y) z) (addE x (addE y z)) w1 (addE_wf (addE_wf hxw hyw) hzw) (addE_wf hxw (addE_wf hyw hzw)) (ring4 x y z))) ?_
  simp only [Act.put, List.setIfInBounds_toArray, List.set_cons_succ, List.set_cons_zero]
  refine wpQuiet_run (some 76) (.bool true) rfl (by kernel_rfl) (fun w1 _ => run_move (.tmp 75) rfl w1) ?_
  simp only [Act.put, List.setIfInBounds_toArray, List.set_cons_succ, List.set_cons_zero]
  refine wpQuiet_load_row (some 77) rfl (by kernel_rfl) 26 (.tmp 7) rfl _ rfl 26 (elc x) (0, 0) _ (fun _ hw => hw.heap h7) Try.underlying26 rfl info26 ?_
  simp only [Act.put, List.setIfInBounds_toArray, List.set_cons_succ, List.set_cons_zero]
  refine wpQuiet_load_row (some 78) rfl (by kernel_rfl) 26 (.tmp 9) rfl _ rfl 26 (elc y) (0, 0) _ (fun _ hw => hw.heap h9) Try.underlying26 rfl info26 ?_
  simp only [Act.put, List.setIfInBounds_toArray, List.set_cons_succ, List.set_cons_zero]
  refine wpQuiet_call (some 79) (.agg (elc (subE x y))) 20 #[.agg (elc x), .agg (elc y)] rfl (by kernel_rfl) (fun _ => by kernel_rfl) (fun w1 hw => cls_call hw (sub20 x y w1 hxw hyw)) ?_
  simp only [Act.put, List.setIfInBounds_toArray, List.set_cons_succ, List.set_cons_zero]
  refine wpQuiet_load_row (some 80) rfl (by kernel_rfl) 26 (.tmp 9) rfl _ rfl 26 (elc y) (0, 0) _ (fun _ hw => hw.heap h9) Try.underlying26 rfl info26 ?_
  simp only [Act.put, List.setIfInBounds_toArray, List.set_cons_succ, List.set_cons_zero]
  refine wpQuiet_call (some 81) (.agg (elc (addE (subE x y) y))) 22 #[.agg (elc (subE x y)), .agg (elc y)] rfl (by kernel_rfl) (fun _ => by kernel_rfl) (fun w1 hw => cls_call hw (add22 (subE x y) y w1 (subE_wf hxw hyw) hyw)) ?_
  simp only [Act.put, List.setIfInBounds_toArray, List.set_cons_succ, List.set_cons_zero]
  refine wpQuiet_load_row (some 82) rfl (by kernel_rfl) 26 (.tmp 7) rfl _ rfl 26 (elc x) (0, 0) _ (fun _ hw => hw.heap h7) Try.underlying26 rfl info26 ?_
  simp only [Act.put, List.setIfInBounds_toArray, List.set_cons_succ, List.set_cons_zero]
  refine wpQuiet_call (some 83) (.bool true) 13 #[.agg (elc (addE (subE x y) y)), .agg (elc x)] rfl (by kernel_rfl) (fun _ => by kernel_rfl) (fun w1 hw => cls_call hw (equal13T (addE (subE x y) y) x w1 (addE_wf (subE_wf hxw hyw) hyw) hxw (ring5 x hyw))) ?_
  simp only [Act.put, List.setIfInBounds_toArray, List.set_cons_succ, List.set_cons_zero]
  refine wpQuiet_run (some 84) (.bool true) rfl (by kernel_rfl) (fun _ _ => by kernel_rfl) ?_
  simp only [Act.put, List.setIfInBounds_toArray, List.set_cons_succ, List.set_cons_zero]
  refine wpQuiet_run (some 15) (.bool true) rfl (by kernel_rfl) (fun w1 _ => run_assignO (.tmp 84) rfl w1) ?_
  simp only [Act.put, List.setIfInBounds_toArray, List.set_cons_succ, List.set_cons_zero]
  refine wpQuiet_nil ?_
  intro u6 hw
  have hBu6 := hBu5.trans (hw.below.mono hBu5.size)
  have h7n := hw.heap h7
  have h9n := hw.heap h9
  have h11n := hw.heap h11
  clear hw h7 h9 h11 hBu5
  have h7 := h7n
  have h9 := h9n
  have h11 := h11n
  clear h7n h9n h11n
  go_wp2_with fail
  refine wp_region_quiet_below (by kernel_rfl) (by kernel_rfl) ?_
  show wpQuiet _ _ (Cls u6) (fun a' => ∀ w', Cls u6 w' → _) _ _
  refine wpQuiet_load_row (some 85) rfl (by kernel_rfl) 26 (.tmp 7) rfl _ rfl 26 (elc x) (0, 0) _ (fun _ hw => hw.heap h7) Try.underlying26 rfl info26 ?_
  simp only [Act.put, List.setIfInBounds_toArray, List.set_cons_succ, List.set_cons_zero]
  refine wpQuiet_load_row (some 86) rfl (by kernel_rfl) 26 (.tmp 9) rfl _ rfl 26 (elc y) (0, 0) _ (fun _ hw => hw.heap h9) Try.underlying26 rfl info26 ?_
  simp only [Act.put, List.setIfInBounds_toArray, List.set_cons_succ, List.set_cons_zero]
  refine wpQuiet_call (some 87) (.agg (elc (subE x y))) 20 #[.agg (elc x), .agg (elc y)] rfl (by kernel_rfl) (fun _ => by kernel_rfl) (fun w1 hw => cls_call hw (sub20 x y w1 hxw hyw)) ?_
  simp only [Act.put, List.setIfInBounds_toArray, List.set_cons_succ, List.set_cons_zero]
  refine wpQuiet_load_row (some 88) rfl (by kernel_rfl) 26 (.tmp 7) rfl _ rfl 26 (elc x) (0, 0) _ (fun _ hw => hw.heap h7) Try.underlying26 rfl info26 ?_
  simp only [Act.put, List.setIfInBounds_toArray, List.set_cons_succ, List.set_cons_zero]
  refine wpQuiet_load_row (some 89) rfl (by kernel_rfl) 26 (.tmp 9) rfl _ rfl 26 (elc y) (0, 0) _ (fun _ hw => hw.heap h9) Try.underlying26 rfl info26 ?_
  simp only [Act.put, List.setIfInBounds_toArray, List.set_cons_succ, List.set_cons_zero]
  refine wpQuiet_call (some 90) (.agg (elc (addE x y))) 22 #[.agg (elc x), .agg (elc y)] rfl (by kernel_rfl) (fun _ => by kernel_rfl) (fun w1 hw => cls_call hw (add22 x y w1 hxw hyw)) ?_
  simp only [Act.put, List.setIfInBounds_toArray, List.set_cons_succ, List.set_cons_zero]
  refine wpQuiet_call (some 91) (.agg (elc (mulE (subE x y) (addE x y)))) 24 #[.agg (elc (subE x y)), .agg (elc (addE x y))] rfl (by kernel_rfl) (fun _ => by kernel_rfl) (fun w1 hw => cls_call hw (mul24 (subE x y) (addE x y) w1 (subE_wf hxw hyw) (addE_wf hxw hyw))) ?_
  simp only [Act.put, List.setIfInBounds_toArray, List.set_cons_succ, List.set_cons_zero]
  refine wpQuiet_load_row (some 92) rfl (by kernel_rfl) 26 (.tmp 7) rfl _ rfl 26 (elc x) (0, 0) _ (fun _ hw => hw.heap h7) Try.underlying26 rfl info26 ?_
  simp only [Act.put, List.setIfInBounds_toArray, List.set_cons_succ, List.set_cons_zero]
  refine wpQuiet_load_row (some 93) rfl (by kernel_rfl) 26 (.tmp 7) rfl _ rfl 26 (elc x) (0, 0) _ (fun _ hw => hw.heap h7) Try.underlying26 rfl info26 ?_
  simp only [Act.put, List.setIfInBounds_toArray, List.set_cons_succ, List.set_cons_zero]
  refine wpQuiet_call (some 94) (.agg (elc (mulE x x))) 24 #[.agg (elc x), .agg (elc x)] rfl (by kernel_rfl) (fun _ => by kernel_rfl) (fun w1 hw => cls_call hw (mul24 x x w1 hxw hxw)) ?_
  simp only [Act.put, List.setIfInBounds_toArray, List.set_cons_succ, List.set_cons_zero]
  refine wpQuiet_load_row (some 95) rfl (by kernel_rfl) 26 (.tmp 9) rfl _ rfl 26 (elc y) (0, 0) _ (fun _ hw => hw.heap h9) Try.underlying26 rfl info26 ?_
  simp only [Act.put, List.setIfInBounds_toArray, List.set_cons_succ, List.set_cons_zero]
  refine wpQuiet_load_row (some 96) rfl (by kernel_rfl) 26 (.tmp 9) rfl _ rfl 26 (elc y) (0, 0) _ (fun _ hw => hw.heap h9) Try.underlying26 rfl info26 ?_
  simp only [Act.put, List.setIfInBounds_toArray, List.set_cons_succ, List.set_cons_zero]
  refine wpQuiet_call (some 97) (.agg (elc (mulE y y))) 24 #[.agg (elc y), .agg (elc y)] rfl (by kernel_rfl) (fun _ => by kernel_rfl) (fun w1 hw => cls_call hw (mul24 y y w1 hyw hyw)) ?_
  simp only [Act.put, List.setIfInBounds_toArray, List.set_cons_succ, List.set_cons_zero]
  refine wpQuiet_call (some 98) (.agg (elc (subE (mulE x x) (mulE y y)))) 20 #[.agg (elc (mulE x x)), .agg (elc (mulE y y))] rfl (by kernel_rfl) (fun _ => by kernel_rfl) (fun w1 hw => cls_call hw (sub20 (mulE x x) (mulE y y) w1 (mulE_wf hxw hxw) (mulE_wf hyw hyw))) ?_
  simp only [Act.put, List.setIfInBounds_toArray, List.set_cons_succ, List.set_cons_zero]
  refine wpQuiet_call (some 99) (.bool true) 13 #[.agg (elc (mulE (subE x y) (addE x y))), .agg (elc (subE (mulE x x) (mulE y y)))] rfl (by kernel_rfl) (fun _ => by kernel_rfl) (fun w1 hw => cls_call hw (equal13T (mulE (subE x y) (addE x y)) (subE (mulE x x) (mulE y y)) w1 (mulE_wf (subE_wf hxw hyw) (addE_wf hxw hyw)) (subE_wf (mulE_wf hxw hxw) (mulE_wf hyw hyw)) (ring6 hxw hyw))) ?_
  simp only [Act.put, List.setIfInBounds_toArray, List.set_cons_succ, List.set_cons_zero]
  refine wpQuiet_run (some 16) (.bool true) rfl (by kernel_rfl) (fun w1 _ => run_assignO (.tmp 99) rfl w1) ?_
  simp only [Act.put, List.setIfInBounds_toArray, List.set_cons_succ, List.set_cons_zero]
  refine wpQuiet_nil ?_
  intro u7 hw
  have hBu7 := hBu6.trans (hw.below.mono hBu6.size)
  have h7n := hw.heap h7
  have h9n := hw.heap h9
  have h11n := hw.heap h11
  clear hw h7 h9 h11 hBu6
  have h7 := h7n
  have h9 := h9n
  have h11 := h11n
  clear h7n h9n h11n
  go_wp2_with fail
  refine (lives14 _).mono ?_
  rintro e p9 ⟨rfl, hb9⟩
  have Hf : Hid (Below w.heap.size w p9) := hBu7.trans (hb9.mono hBu7.size)
  clear hb9 hBu7 h7 h9 h11
  go_wp2
  go_ret
  exact ⟨rfl, Hf.out⟩
end Go.Proofs.Ytghmcaliahjdhaa
