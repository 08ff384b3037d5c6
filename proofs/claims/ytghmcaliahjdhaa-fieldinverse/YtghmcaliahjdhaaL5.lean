/-
  The walk of the law FieldInverse.
-/
import Derived.Test.YtghmcaliahjdhaaL4
set_option linter.unusedVariables false
namespace Go.Proofs.Ytghmcaliahjdhaa
open Go.RowKit Go.Sort Go.BigFrame
set_option maxRecDepth 100000
set_option maxHeartbeats 2000000
theorem fieldInverse7 (a : Option Addr) (la ca : Nat) (za : List Nat) (w : World) (hza : za.length = la) (hca : la ≤ ca) (hma : ca ≤ 9223372036854775807) (hda : Dig za) (hva : View w a za) :
    Calls Try.prog 7 #[.slice a la ca] w fun e w' => e = .returned (.bool true) ∧ Below w.heap.size w w' := by
  have o1 := of19 a la ca za w hza hca hma hda hva
  obtain ⟨X, hX⟩ : ∃ X, X = valD (za.take 31) := ⟨_, rfl⟩
  have hX31 : X < 256 ^ 31 := by rw [hX]; exact valD_take_lt hda 31
  rw [← hX] at o1
  obtain ⟨x, hx⟩ : ∃ z, z = splitE X := ⟨_, rfl⟩
  have hxw : x.wf := by rw [hx]; exact splitE_wf _
  have HX : Hid (x.val % pp = X) := by show _ = _; rw [hx, split_mod hX31]
  have hX32 : X < 256 ^ 32 := Nat.lt_trans hX31 (by decide)
  rw [← hx] at o1
  clear hX hza hva hda hx hX31
  have cI := fun w1 => inv28 x w1 hxw
  have cR := fun b c w1 (h : IView w1 b (digs 32 X)) => inv29 b c (digs 32 X) w1 (digs_len _ _) h (digs_dig _ _)
  rw [valD_digs_lt hX32] at cR
  obtain ⟨E, hE⟩ : ∃ E, E = 57896044618658097711785492504343953926634992332820282019728792003956564819947 := ⟨_, rfl⟩
  rw [← hE] at cI cR
  have HE : Hid (E + 1 = pp - 1) := by show _ = _; rw [hE]; decide
  clear hE
  have cZ := fun (e : E5) w1 (he : e.wf) => equal13 e zeroE w1 he zeroE_wf
  rw [show zeroE.val % pp = 0 from rfl] at cZ
  simp only [elc_zero, z5] at cZ
  go_enter Try.func7, Try.ntmps7
  go_wp2_with fail
  refine o1.mono ?_
  rintro e p1 ⟨v1, rfl, hb1, hrow, _⟩
  obtain ⟨ad, cd, rfl, _, _, hdv⟩ := hrow
  rw [digs_len]
  have hal : (p1.alloc (.cells #[.int .u64 0, .int .u64 0, .int .u64 0, .int .u64 0, .int .u64 0] 26)).heap[p1.heap.size]? = some (.cells #[.int .u64 0, .int .u64 0, .int .u64 0, .int .u64 0, .int .u64 0] 26 (0, 0)) := heap_alloc_new _ _
  have h3 : ((p1.alloc (.cells #[.int .u64 0, .int .u64 0, .int .u64 0, .int .u64 0, .int .u64 0] 26)).setRow p1.heap.size (elc x)).heap[p1.heap.size]? = some (.cells (elc x) 26 (0, 0)) := setRow_heap _ _ _ _ _ _ hal
  have hBn : Below p1.heap.size p1 ((p1.alloc (.cells #[.int .u64 0, .int .u64 0, .int .u64 0, .int .u64 0, .int .u64 0] 26)).setRow p1.heap.size (elc x)) := setRow_below (below1 _ _) (Nat.le_refl _) _
  have hdv1 := hdv.below hBn
  have hB1 := hb1.trans (hBn.mono hb1.size)
  go_wp2_with (first
    | (refine wpList_store_row rfl 26 (.tmp 3) (.tmp 10) rfl _ (elc x) rfl rfl 26 _ hal info26 rfl (elc_one _) ?_)
    | (refine wpList_load_row rfl 26 (.tmp 3) rfl _ rfl 26 (elc x) (0, 0) _ h3 Try.underlying26 rfl info26 ?_))
  generalize ((p1.alloc (.cells #[.int .u64 0, .int .u64 0, .int .u64 0, .int .u64 0, .int .u64 0] 26)).setRow p1.heap.size (elc x)) = u1 at h3 hdv1 hB1 ⊢
  generalize p1.heap.size = g3 at h3 ⊢
  clear hal hBn hb1 hdv o1
  refine (cI _).mono ?_
  rintro e p2 ⟨i, hiw, hie, rfl, hb2⟩
  have HI : Hid (i.val % pp = x.val ^ E % pp) := hie
  have h32 := block_below hb2 (lt_of_heap h3) h3
  have hdv2 := hdv1.below hb2
  have hB2 := hB1.trans (hb2.mono hB1.size)
  clear hb2 h3 hdv1 hB1 hie cI
  have hal : (p2.alloc (.cells #[.int .u64 0, .int .u64 0, .int .u64 0, .int .u64 0, .int .u64 0] 26)).heap[p2.heap.size]? = some (.cells #[.int .u64 0, .int .u64 0, .int .u64 0, .int .u64 0, .int .u64 0] 26 (0, 0)) := heap_alloc_new _ _
  have h5 : ((p2.alloc (.cells #[.int .u64 0, .int .u64 0, .int .u64 0, .int .u64 0, .int .u64 0] 26)).setRow p2.heap.size (elc i)).heap[p2.heap.size]? = some (.cells (elc i) 26 (0, 0)) := setRow_heap _ _ _ _ _ _ hal
  have hBn : Below p2.heap.size p2 ((p2.alloc (.cells #[.int .u64 0, .int .u64 0, .int .u64 0, .int .u64 0, .int .u64 0] 26)).setRow p2.heap.size (elc i)) := setRow_below (below1 _ _) (Nat.le_refl _) _
  have h33 := block_below hBn (lt_of_heap h32) h32
  have hdv3 := hdv2.below hBn
  have hB3 := hB2.trans (hBn.mono hB2.size)
  go_wp2_with (first
    | (refine wpList_store_row rfl 26 (.tmp 5) (.tmp 13) rfl _ (elc i) rfl rfl 26 _ hal info26 rfl (elc_one _) ?_)
    | (refine wpList_load_row rfl 26 (.tmp 3) rfl _ rfl 26 (elc x) (0, 0) _ h33 Try.underlying26 rfl info26 ?_))
  generalize ((p2.alloc (.cells #[.int .u64 0, .int .u64 0, .int .u64 0, .int .u64 0, .int .u64 0] 26)).setRow p2.heap.size (elc i)) = u2 at h33 h5 hdv3 hB3 ⊢
  generalize p2.heap.size = g5 at h5 ⊢
  clear hal hBn h32 hdv2 hB2
  have cx := cZ x u2 hxw
  rw [HX.out] at cx
  refine cx.mono ?_
  rintro e p3 ⟨rfl, hb3⟩
  have h34 := block_below hb3 (lt_of_heap h33) h33
  have h54 := block_below hb3 (lt_of_heap h5) h5
  have hdv4 := hdv3.below hb3
  have hB4 := hB3.trans (hb3.mono hB3.size)
  clear hb3 cx h33 h5 hdv3 hB3
  by_cases hX0 : X = 0
  · have hE0 : E ≠ 0 := fun h => by
      have := HE.out
      rw [h] at this
      exact absurd this (by decide)
    have hi0 : i.val % pp = 0 := by
      rw [HI.out, Nat.pow_mod, HX.out, hX0, Nat.zero_pow (Nat.pos_of_ne_zero hE0)]
      rfl
    have ci := fun w1 => cZ i w1 hiw
    rw [hi0] at ci
    simp only [decide_true] at ci
    rw [decide_eq_true hX0]
    clear hi0 hX0 cZ cR hE0
    go_wp2_with (refine wpList_load_row rfl 26 (.tmp 5) rfl _ rfl 26 (elc i) (0, 0) _ h54 Try.underlying26 rfl info26 ?_)
    refine (ci _).mono ?_
    rintro e p4 ⟨rfl, hb4⟩
    have hB5 := hB4.trans (hb4.mono hB4.size)
    clear hb4 hB4 ci hdv4 h34 h54
    go_wp2_with fail
    refine (lives14 _).mono ?_
    rintro e p5 ⟨rfl, hb5⟩
    have hB6 := hB5.trans (hb5.mono hB5.size)
    clear hb5 hB5
    go_wp2
    go_ret
    exact ⟨rfl, hB6⟩
  · rw [decide_eq_false hX0]
    have hone : (mulE x i).val % pp = (intE 1).val % pp := by
      rw [mulE_mod, Nat.mul_mod, HI.out, ← Nat.mul_mod, int1_val]
      exact pp_inv HE.out (by rw [HX.out]; exact hX0)
    have hlike : i.val % pp = X ^ E % pp := by rw [HI.out, Nat.pow_mod, HX.out]
    have cL := fun w1 g (h : w1.heap[g]? = some (.cells (ints .i64 (digs 32 (X ^ E % pp))) 3 (0, 0))) => like16T i g _ w1 hiw h hlike
    have cM := fun w1 => mul24 x i w1 hxw hiw
    have c1 := fun w1 => int17 1 w1 (by decide) (by decide)
    have cQ := fun w1 => equal13T (mulE x i) (intE 1) w1 (mulE_wf hxw hiw) (intE_wf (by decide) (by decide)) hone
    obtain ⟨mi, hmi⟩ : ∃ m, m = elc (mulE x i) := ⟨_, rfl⟩
    obtain ⟨e1, he1⟩ : ∃ m, m = elc (intE 1) := ⟨_, rfl⟩
    rw [← hmi] at cM cQ
    rw [← he1] at c1 cQ
    clear hmi he1 hone hlike hX0 cZ
    go_wp2_with fail
    have hS0 : Below p3.heap.size p3 p3.drew := (Below.refl _ _).drew
    refine wp_region_held (S := fun w' => Below p3.heap.size p3 w') (by kernel_rfl) ?_
    show wpAnyH _ _ _ _ _ 5 (Array.replicate 5 false) _ p3.drew
    refine take_at (i := 0) (some 23) _ rfl rfl (by kernel_rfl) (by kernel_rfl) (by kernel_rfl) (fun _ _ _ h => h) (yields_load_row rfl 26 (.tmp 5) rfl _ rfl 26 (elc i) (0, 0) _ (fun _ h => block_below h (lt_of_heap h54) h54) Try.underlying26 rfl info26) hS0 ?_
    simp only [Act.put, List.setIfInBounds_toArray, List.set_cons_succ, List.set_cons_zero]
    refine take_at (i := 1) (some 24) _ rfl rfl (by kernel_rfl) (by kernel_rfl) (by kernel_rfl) (fun _ _ _ h => h) (yields_move rfl (.tmp 4) rfl) hS0 ?_
    simp only [Act.put, List.setIfInBounds_toArray, List.set_cons_succ, List.set_cons_zero]
    refine one_at (i := 2) (by kernel_rfl) ?_
    refine call_at (some 25) rfl rfl rfl 29 #[.slice ad 32 cd] (R := fun v w' => ∃ g, v = .slice (some ⟨g, 0, none⟩) 32 32 ∧ RelR p3.drew w' g (digs 32 (X ^ E % pp))) (by kernel_rfl) ((cR ad cd p3.drew (hdv4.below hS0)).mono fun e w' ⟨g, h1, h2⟩ => ⟨_, h1, g, rfl, h2⟩) ?_
    rintro v4 w4 ⟨g4, rfl, hR4⟩
    have hS1 : Below p3.heap.size p3 w4 := hS0.trans (hR4.1.mono hS0.size)
    refine ⟨hS1, ?_⟩
    simp only [Act.put, List.setIfInBounds_toArray, List.set_cons_succ, List.set_cons_zero]
    refine one_at (i := 3) (by kernel_rfl) ?_
    refine call_at (some 26) rfl rfl rfl 16 #[.agg (elc i), .slice (some ⟨g4, 0, none⟩) 32 32] (R := fun v w' => v = .bool true ∧ Below w4.heap.size w4 w') (by kernel_rfl) ((cL w4 g4 hR4.2.2).mono fun e w' ⟨h1, h2⟩ => ⟨_, h1, rfl, h2⟩) ?_
    rintro v5 w5 ⟨rfl, hb5⟩
    have hS2 : Below p3.heap.size p3 w5 := hS1.trans (hb5.mono hS1.size)
    clear hb5 hS1 hR4 hS0 cR cL
    refine ⟨hS2, ?_⟩
    simp only [Act.put, List.setIfInBounds_toArray, List.set_cons_succ, List.set_cons_zero]
    refine one_at (i := 4) (by kernel_rfl) ?_
    refine run_at (some 6) (.bool true) rfl rfl rfl (run_assignO (.tmp 26) rfl _) ?_
    simp only [Act.put, List.setIfInBounds_toArray, List.set_cons_succ, List.set_cons_zero]
    refine ⟨hS2, wpAnyH_done (by kernel_rfl) ?_ _⟩
    have h35 := block_below hS2 (lt_of_heap h34) h34
    have h55 := block_below hS2 (lt_of_heap h54) h54
    have hB5 := hB4.trans (hS2.mono hB4.size)
    clear hS2 h34 h54 hB4 hdv4
    obtain ⟨k30, k31, k32, k33, k34⟩ := cells5 h35
    obtain ⟨k50, k51, k52, k53, k54⟩ := cells5 h55
    go_wp2_with fail
    refine (cM _).mono ?_
    rintro e w6 ⟨rfl, hb6⟩
    have hB6 := hB5.trans (hb6.mono hB5.size)
    clear hb6 hB5 cM k30 k31 k32 k33 k34 k50 k51 k52 k53 k54 h35 h55
    go_wp2_with fail
    refine (c1 _).mono ?_
    rintro e w7 ⟨rfl, hb7⟩
    have hB7 := hB6.trans (hb7.mono hB6.size)
    clear hb7 hB6 c1
    go_wp2_with fail
    refine (cQ _).mono ?_
    rintro e w8 ⟨rfl, hb8⟩
    have hB8 := hB7.trans (hb8.mono hB7.size)
    clear hb8 hB7 cQ
    go_wp2_with fail
    refine (lives14 _).mono ?_
    rintro e w9 ⟨rfl, hb9⟩
    have hB9 := hB8.trans (hb9.mono hB8.size)
    clear hb9 hB8
    go_wp2
    go_ret
    exact ⟨rfl, hB9⟩
end Go.Proofs.Ytghmcaliahjdhaa
