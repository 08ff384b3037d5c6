/-
  The reference: Inv, Same; the law's like and of.
-/
import Derived.Test.YtpfcboakafbnlaaDoorR8
set_option linter.unusedVariables false
namespace Go.Proofs.YtpfcboakafbnlaaDoor
open Go.RowKit Go.Sort Go.BigFrame
set_option maxRecDepth 100000
set_option maxHeartbeats 2000000
theorem inv29 (a : Option Addr) (ca : Nat) (x : List Nat) (w : World) (hx : x.length = 32) (ha : IView w a x) (dx : Dig x) :
    Calls Tryd.prog 50 #[.slice a 32 ca] w fun e w' => ∃ g, e = .returned (.slice (some ⟨g, 0, none⟩) 32 32) ∧ RelR w w' g (digs 32 (valD x ^ 57896044618658097711785492504343953926634992332820282019728792003956564819947 % pp)) := by
  have hvp : valD (digs 32 pp) = pp := by decide
  have hd2 : Dig [2] := by
    intro j
    match j with
    | 0 => decide
    | j + 1 => simp
  have cM := fun w1 g g2 (h : w1.heap[g]? = some (.cells (ints .i64 (digs 32 pp)) 3 (0, 0))) (h2 : w1.heap[g2]? = some (.cells (ints .i64 [2]) 3 (0, 0))) => minus40 (some ⟨g, 0, none⟩) 32 32 (digs 32 pp) (some ⟨g2, 0, none⟩) 1 1 [2] w1 (digs_len _ _) rfl (by omega) (by omega) (fun _ => ⟨g, 0, rfl, ints_row h⟩) (fun _ => ⟨g2, 0, rfl, ints_row h2⟩) (digs_dig _ _) hd2 (by omega) (by show _ ≤ _; decide)
  have hval : valD (digs 32 pp) - valD [2] = 57896044618658097711785492504343953926634992332820282019728792003956564819947 := by rw [hvp]; decide
  rw [hval] at cM
  obtain ⟨X, hX⟩ : ∃ X, X = 57896044618658097711785492504343953926634992332820282019728792003956564819947 := ⟨_, rfl⟩
  have hvX : valD (digs 32 X) = X := valD_digs_lt (by rw [hX]; decide)
  rw [← hX] at cM ⊢
  clear hX hval hvp
  have cP := fun w1 g (hB : Below w.heap.size w w1) (h : w1.heap[g]? = some (.cells (ints .i64 (digs 32 X)) 3 (0, 0))) => pow33 a ca x (some ⟨g, 0, none⟩) 32 32 (digs 32 X) w1 hx (digs_len _ _) (by omega) (ha.below hB) (fun _ => ⟨g, 0, rfl, ints_row h⟩) dx (digs_dig _ _)
  rw [hvX] at cP
  clear hvX ha hx
  go_enter Tryd.func50, Tryd.ntmps50
  go_wp2_with fail
  refine (p12 _).mono ?_
  rintro e w1 ⟨g1, rfl, hR1⟩
  have h2 : (w1.alloc (.cells #[.int .i64 2] 3)).heap[w1.heap.size]? = some (.cells (ints .i64 [2]) 3 (0, 0)) := heap_alloc_new _ _
  have h1 : (w1.alloc (.cells #[.int .i64 2] 3)).heap[g1]? = some (.cells (ints .i64 (digs 32 pp)) 3 (0, 0)) := (heap_alloc_old _ _ (lt_of_heap hR1.2.2)).trans hR1.2.2
  have hB1 : Below w.heap.size w (w1.alloc (.cells #[.int .i64 2] 3)) := hR1.1.alloc hR1.1.size _
  go_wp2_with fail
  refine (cM _ g1 w1.heap.size h1 h2).mono ?_
  rintro e w2 ⟨g2, rfl, hR2⟩
  have hB2 := hB1.trans (hR2.1.mono hB1.size)
  go_wp2_with fail
  refine (cP w2 g2 hB2 hR2.2.2).mono ?_
  rintro e w3 ⟨g3, rfl, hR3⟩
  go_wp2
  go_ret
  exact ⟨g3, rfl, hB2.trans (hR3.1.mono hB2.size), Nat.le_trans hB2.size hR3.2.1, hR3.2.2⟩
theorem run_eqStrO {ρ : Operand → Value} {x y : Operand} {w : World} {s t : ByteArray} {o : Oper} (ho : o.op = .binOp .eql 9 x y 9) (hx : ρ x = .string s) (hy : ρ y = .string t) : (execOp ρ o).run Tryd.prog w = .ok (.value (.bool (s.toList == t.toList))) w := by
  simp [execOp, ho, hx, hy, go_sem]
theorem same26 (a : Option Addr) (la ca : Nat) (x : List Nat) (b : Option Addr) (lb cb : Nat) (y : List Nat) (w : World) (hx : x.length = la) (hy : y.length = lb) (hla : la ≤ 5000) (hlb : lb ≤ 5000)
    (ha : IView w a x) (hb : IView w b y) (dx : Dig x) (dy : Dig y) :
    Calls Tryd.prog 46 #[.slice a la ca, .slice b lb cb] w fun r w' => r = .returned (.bool (decide (digs 32 (valD x) = digs 32 (valD y)))) ∧ Below w.heap.size w w' := by
  have c1 := fun w1 (hB : Below w.heap.size w w1) => bytes31 a la ca x w1 hx (by omega) dx (ha.below hB)
  have c2 := fun w1 (hB : Below w.heap.size w w1) => bytes31 b lb cb y w1 hy (by omega) dy (hb.below hB)
  obtain ⟨A, hA⟩ : ∃ A, A = digs 32 (valD x) := ⟨_, rfl⟩
  obtain ⟨D, hD⟩ : ∃ D, D = digs 32 (valD y) := ⟨_, rfl⟩
  have hAd : Dig A := by rw [hA]; exact digs_dig _ _
  have hDd : Dig D := by rw [hD]; exact digs_dig _ _
  have hE := strOf_eq hAd hDd
  rw [← hA, ← hD]
  rw [← hA] at c1
  rw [← hD] at c2
  obtain ⟨r, hr⟩ : ∃ r, r = decide (A = D) := ⟨_, rfl⟩
  rw [← hr] at hE ⊢
  have HE : Hid (((strOf A).toList == (strOf D).toList) = r) := hE
  clear hr hE hA hD ha hb hx hy
  go_enter Tryd.func46, Tryd.ntmps46
  go_wp2_with fail
  have hS0 : Below w.heap.size w w.drew := (Below.refl _ _).drew
  refine wp_region_held (S := fun w' => Below w.heap.size w w') (by kernel_rfl) ?_
  show wpAnyH _ _ _ _ _ 8 (Array.replicate 8 false) _ w.drew
  refine take_at (i := 0) (some 5) _ rfl rfl (by kernel_rfl) (by kernel_rfl) (by kernel_rfl) (fun _ _ _ h => h) (yields_move rfl (.tmp 0) rfl) hS0 ?_
  simp only [Act.put, List.setIfInBounds_toArray, List.set_cons_succ, List.set_cons_zero]
  refine take_at (i := 3) (some 8) _ rfl rfl (by kernel_rfl) (by kernel_rfl) (by kernel_rfl) (fun _ _ _ h => h) (yields_move rfl (.tmp 1) rfl) hS0 ?_
  simp only [Act.put, List.setIfInBounds_toArray, List.set_cons_succ, List.set_cons_zero]
  refine one_at (i := 1) (by kernel_rfl) ?_
  refine call_at (some 6) rfl rfl rfl 21 #[.slice a la ca] (R := fun v w' => ∃ b c, v = .slice b 32 c ∧ Below w.drew.heap.size w.drew w' ∧ View w' b A ∧ A.length = 32) (by kernel_rfl) ((c1 w.drew hS0).mono fun e w' ⟨v, h1, h2, h3⟩ => by
    obtain ⟨b, c, rfl, _⟩ := own_slice h3
    exact ⟨_, h1, b, c, rfl, h2, (own_bview h3).1, (own_bview h3).2⟩) ?_
  rintro v1 w1 ⟨b1, k1, rfl, hb1, hv1, hl1⟩
  have hS1 : Below w.heap.size w w1 := hS0.trans (hb1.mono hS0.size)
  clear hb1 hS0 c1
  refine ⟨hS1, ?_⟩
  simp only [Act.put, List.setIfInBounds_toArray, List.set_cons_succ, List.set_cons_zero]
  refine strengthen (S' := fun w' => Below w.heap.size w w' ∧ View w' b1 A) (fun _ h => h.1) _ _ _ _ ?_
  have hS2 : Below w.heap.size w w1 ∧ View w1 b1 A := ⟨hS1, hv1⟩
  refine take_at (i := 2) (some 7) _ rfl rfl (by kernel_rfl) (by kernel_rfl) (by kernel_rfl) (fun _ _ _ h => h) (yields_run (v := .string (strOf A)) rfl fun w' hw' => run_convertO (toString_view (cap := k1) hl1 hw'.2) rfl) hS2 ?_
  simp only [Act.put, List.setIfInBounds_toArray, List.set_cons_succ, List.set_cons_zero]
  refine one_at (i := 4) (by kernel_rfl) ?_
  refine call_at (some 9) rfl rfl rfl 21 #[.slice b lb cb] (R := fun v w' => ∃ b c, v = .slice b 32 c ∧ Below w1.heap.size w1 w' ∧ View w' b D ∧ D.length = 32) (by kernel_rfl) ((c2 w1 hS1).mono fun e w' ⟨v, h1, h2, h3⟩ => by
    obtain ⟨b, c, rfl, _⟩ := own_slice h3
    exact ⟨_, h1, b, c, rfl, h2, (own_bview h3).1, (own_bview h3).2⟩) ?_
  rintro v2 w2 ⟨b2, k2, rfl, hb2, hv2, hl2⟩
  have hS3 : Below w.heap.size w w2 ∧ View w2 b1 A := ⟨hS1.trans (hb2.mono hS1.size), hv1.below hb2⟩
  clear hb2 hS1 hS2 c2
  refine ⟨hS3, ?_⟩
  simp only [Act.put, List.setIfInBounds_toArray, List.set_cons_succ, List.set_cons_zero]
  refine one_at (i := 5) (by kernel_rfl) ?_
  refine run_at (some 10) (.string (strOf D)) rfl rfl rfl (run_convertO (toString_view (cap := k2) hl2 hv2) rfl) ?_
  refine ⟨hS3, ?_⟩
  simp only [Act.put, List.setIfInBounds_toArray, List.set_cons_succ, List.set_cons_zero]
  refine one_at (i := 6) (by kernel_rfl) ?_
  refine run_at (some 11) (.bool r) rfl rfl rfl ?c6 ?_
  case c6 => rw [← HE.out]; exact run_eqStrO (x := .tmp 7) (y := .tmp 10) rfl rfl rfl
  refine ⟨hS3, ?_⟩
  simp only [Act.put, List.setIfInBounds_toArray, List.set_cons_succ, List.set_cons_zero]
  refine one_at (i := 7) (by kernel_rfl) ?_
  refine run_at (some 4) (.bool r) rfl rfl rfl (run_assignO (.tmp 11) rfl _) ?_
  simp only [Act.put, List.setIfInBounds_toArray, List.set_cons_succ, List.set_cons_zero]
  refine ⟨hS3, wpAnyH_done (by kernel_rfl) ?_ _⟩
  clear hv2 hl2 hv1 hl1
  have hSf := hS3.1
  clear hS3
  go_wp2
  go_ret
  exact ⟨rfl, hSf⟩
end Go.Proofs.YtpfcboakafbnlaaDoor
