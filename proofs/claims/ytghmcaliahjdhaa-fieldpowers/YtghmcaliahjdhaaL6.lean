/-
  The walk of the law FieldPowers.
-/
import Derived.Test.YtghmcaliahjdhaaL5
set_option linter.unusedVariables false
namespace Go.Proofs.Ytghmcaliahjdhaa
open Go.RowKit Go.Sort Go.BigFrame
set_option maxRecDepth 100000
set_option maxHeartbeats 4000000
theorem fieldPowers8m (a : Option Addr) (la ca : Nat) (za : List Nat) (b : Option Addr) (lb cb n1 : Nat) (zm : List Nat) (c : Option Addr) (lc cc n2 : Nat) (zn : List Nat) (w : World) (hza : za.length = la) (hca : la ≤ ca) (hma : ca ≤ 9223372036854775807) (hda : Dig za) (hva : View w a za)
    (hn1 : (3 < lb ∧ n1 = 3) ∨ (lb ≤ 3 ∧ n1 = lb)) (hzb : zm.length = n1) (hcb : lb ≤ cb) (hmb : cb ≤ 9223372036854775807) (hdb : Dig zm) (hvb : View w b zm) (hn2 : (3 < lc ∧ n2 = 3) ∨ (lc ≤ 3 ∧ n2 = lc)) (hzc : zn.length = n2) (hcc : lc ≤ cc) (hmc : cc ≤ 9223372036854775807) (hdc : Dig zn) (hvc : View w c zn) :
    Calls Try.prog 8 #[.slice a la ca, .slice b lb cb, .slice c lc cc] w fun e w' => e = .returned (.bool true) ∧ Below w.heap.size w w' := by
  have o1 := of19 a la ca za w hza hca hma hda hva
  obtain ⟨X, hX⟩ : ∃ X, X = valD (za.take 31) := ⟨_, rfl⟩
  have hX31 : X < 256 ^ 31 := by rw [hX]; exact valD_take_lt hda 31
  rw [← hX] at o1
  obtain ⟨x, hx⟩ : ∃ z, z = splitE X := ⟨_, rfl⟩
  have hxw : x.wf := by rw [hx]; exact splitE_wf _
  have HX : Hid (x.val % pp = X) := by show _ = _; rw [hx, split_mod hX31]
  have hX32 : X < 256 ^ 32 := Nat.lt_trans hX31 (by decide)
  rw [← hx] at o1
  clear hX hza hva hda hx hX31
  have hn13 : n1 ≤ 3 := by omega
  have hn23 : n2 ≤ 3 := by omega
  have cPm := fun w1 (hB : Below w.heap.size w w1) => pow30 x b n1 cb zm w1 hxw hzb (by omega) hmb (by omega) hdb (hvb.below hB)
  have cPn := fun w1 (hB : Below w.heap.size w w1) => pow30 x c n2 cc zn w1 hxw hzc (by omega) hmc (by omega) hdc (hvc.below hB)
  have cDm := fun w1 (hB : Below w.heap.size w w1) => digits11 b n1 cb zm w1 hzb (by omega) (by omega) hdb (hvb.below hB)
  have cDn := fun w1 (hB : Below w.heap.size w w1) => digits11 c n2 cc zn w1 hzc (by omega) (by omega) hdc (hvc.below hB)
  have cPl := fun w1 a1 c1 a2 c2 (h1 : IView w1 a1 zm) (h2 : IView w1 a2 zn) => plus32 a1 n1 c1 zm a2 n2 c2 zn w1 hzb hzc (by omega) (by omega) h1 h2 hdb hdc
  have cRp := fun w1 a1 c1 a2 c2 (h1 : IView w1 a1 (digs 32 X)) (h2 : IView w1 a2 zm) => pow33 a1 c1 (digs 32 X) a2 n1 c2 zm w1 (digs_len _ _) hzb (by omega) h1 h2 (digs_dig _ _) hdb
  rw [valD_digs_lt hX32] at cRp
  have hM : valD zm < 256 ^ 3 := by have := valD_lt hdb; rw [hzb] at this; exact Nat.lt_of_lt_of_le this (Nat.pow_le_pow_right (by decide) hn13)
  have hN : valD zn < 256 ^ 3 := by have := valD_lt hdc; rw [hzc] at this; exact Nat.lt_of_lt_of_le this (Nat.pow_le_pow_right (by decide) hn23)
  obtain ⟨Mv, hMv⟩ : ∃ M, M = valD zm := ⟨_, rfl⟩
  obtain ⟨Nv, hNv⟩ : ∃ N, N = valD zn := ⟨_, rfl⟩
  have hsum : Mv + Nv < 256 ^ (max n1 n2 + 1) := by
    have h1 := valD_lt hdb
    have h2 := valD_lt hdc
    rw [hzb, ← hMv] at h1
    rw [hzc, ← hNv] at h2
    have h3 : 256 ^ n1 ≤ 256 ^ max n1 n2 := Nat.pow_le_pow_right (by decide) (by omega)
    have h4 : 256 ^ n2 ≤ 256 ^ max n1 n2 := Nat.pow_le_pow_right (by decide) (by omega)
    rw [Nat.pow_succ]
    omega
  rw [← hMv] at cPm cRp cPl hM
  rw [← hNv] at cPn cPl hN
  obtain ⟨Kn, hKn⟩ : ∃ k, k = max n1 n2 + 1 := ⟨_, rfl⟩
  have hK4 : Kn ≤ 4 := by omega
  rw [← hKn] at cPl hsum
  obtain ⟨Sv, hSv⟩ : ∃ s, s = Mv + Nv := ⟨_, rfl⟩
  have HS : Hid (Sv = Mv + Nv) := hSv
  have hS32 : Sv < 256 ^ 32 := by have e : (256 : Nat) ^ 3 = 16777216 := by decide
                                  rw [e] at hM hN
                                  exact Nat.lt_trans (show Sv < 33554432 by omega) (by decide)
  rw [← hSv] at cPl hsum
  have vS := valD_digs_lt hsum
  have cBy := fun w1 g (h : w1.heap[g]? = some (.cells (ints .i64 (digs Kn Sv)) 3 (0, 0))) => bytes31 (some ⟨g, 0, none⟩) Kn Kn (digs Kn Sv) w1 (digs_len _ _) (by omega) (digs_dig _ _) (fun _ => ⟨g, 0, rfl, ints_row h⟩)
  rw [vS] at cBy
  have v32 := valD_digs_lt hS32
  have cPs := fun w1 a1 c1 (hc : 32 ≤ c1) (hc2 : c1 ≤ 9223372036854775807) (h : View w1 a1 (digs 32 Sv)) => pow30 x a1 32 c1 (digs 32 Sv) w1 hxw (digs_len _ _) hc hc2 (by omega) (digs_dig _ _) h
  rw [v32] at cPs
  have HZM : Hid (zm.length = n1) := hzb
  clear hMv hNv hKn hSv vS v32 hsum hM hN hS32 hzb hzc hvb hvc hdb hdc
  rcases hn1 with ⟨hn1, rfl⟩ | ⟨hn1, rfl⟩
  all_goals rcases hn2 with ⟨hn2, rfl⟩ | ⟨hn2, rfl⟩
  all_goals
    go_enter Try.func8, Try.ntmps8
    go_wp2_with fail
    refine o1.mono ?_
    rintro e p1 ⟨v1, rfl, hb1, hrow, _⟩
    obtain ⟨ad, cd, rfl, _, _, hdv⟩ := hrow
    rw [digs_len]
    have hal : (p1.alloc (.cells #[.int .u64 0, .int .u64 0, .int .u64 0, .int .u64 0, .int .u64 0] 26)).heap[p1.heap.size]? = some (.cells #[.int .u64 0, .int .u64 0, .int .u64 0, .int .u64 0, .int .u64 0] 26 (0, 0)) := heap_alloc_new _ _
    have h7 : ((p1.alloc (.cells #[.int .u64 0, .int .u64 0, .int .u64 0, .int .u64 0, .int .u64 0] 26)).setRow p1.heap.size (elc x)).heap[p1.heap.size]? = some (.cells (elc x) 26 (0, 0)) := setRow_heap _ _ _ _ _ _ hal
    have hBn : Below p1.heap.size p1 ((p1.alloc (.cells #[.int .u64 0, .int .u64 0, .int .u64 0, .int .u64 0, .int .u64 0] 26)).setRow p1.heap.size (elc x)) := setRow_below (below1 _ _) (Nat.le_refl _) _
    have hdv1 := hdv.below hBn
    have hB1 := hb1.trans (hBn.mono hb1.size)
    go_wp2_with (first
      | (refine wpList_store_row rfl 26 (.tmp 7) (.tmp 16) rfl _ (elc x) rfl rfl 26 _ hal info26 rfl (elc_one _) ?_)
      | (refine wpList_load_row rfl 26 (.tmp 7) rfl _ rfl 26 (elc x) (0, 0) _ h7 Try.underlying26 rfl info26 ?_))
    generalize ((p1.alloc (.cells #[.int .u64 0, .int .u64 0, .int .u64 0, .int .u64 0, .int .u64 0] 26)).setRow p1.heap.size (elc x)) = u1 at h7 hdv1 hB1 ⊢
    generalize p1.heap.size = g7 at h7 ⊢
    clear hal hBn hb1 hdv o1
    refine (cPm _ hB1).mono ?_
    rintro e p2 ⟨p, hpw, hpe, rfl, hb2⟩
    have HP : Hid (p.val % pp = x.val ^ Mv % pp) := hpe
    have h72 := block_below hb2 (lt_of_heap h7) h7
    have hdv2 := hdv1.below hb2
    have hB2 := hB1.trans (hb2.mono hB1.size)
    clear hb2 h7 hdv1 hB1 hpe cPm
    have hal : (p2.alloc (.cells #[.int .u64 0, .int .u64 0, .int .u64 0, .int .u64 0, .int .u64 0] 26)).heap[p2.heap.size]? = some (.cells #[.int .u64 0, .int .u64 0, .int .u64 0, .int .u64 0, .int .u64 0] 26 (0, 0)) := heap_alloc_new _ _
    have h9 : ((p2.alloc (.cells #[.int .u64 0, .int .u64 0, .int .u64 0, .int .u64 0, .int .u64 0] 26)).setRow p2.heap.size (elc p)).heap[p2.heap.size]? = some (.cells (elc p) 26 (0, 0)) := setRow_heap _ _ _ _ _ _ hal
    have hBn : Below p2.heap.size p2 ((p2.alloc (.cells #[.int .u64 0, .int .u64 0, .int .u64 0, .int .u64 0, .int .u64 0] 26)).setRow p2.heap.size (elc p)) := setRow_below (below1 _ _) (Nat.le_refl _) _
    have h73 := block_below hBn (lt_of_heap h72) h72
    have hdv3 := hdv2.below hBn
    have hB3 := hB2.trans (hBn.mono hB2.size)
    go_wp2_with (first
      | (refine wpList_store_row rfl 26 (.tmp 9) (.tmp 30) rfl _ (elc p) rfl rfl 26 _ hal info26 rfl (elc_one _) ?_)
      | (refine wpList_load_row rfl 26 (.tmp 7) rfl _ rfl 26 (elc x) (0, 0) _ h73 Try.underlying26 rfl info26 ?_))
    generalize ((p2.alloc (.cells #[.int .u64 0, .int .u64 0, .int .u64 0, .int .u64 0, .int .u64 0] 26)).setRow p2.heap.size (elc p)) = u2 at h73 h9 hdv3 hB3 ⊢
    generalize p2.heap.size = g9 at h9 ⊢
    clear hal hBn h72 hdv2 hB2
    refine (cPn _ hB3).mono ?_
    rintro e p3 ⟨q, hqw, hqe, rfl, hb3⟩
    have HQ : Hid (q.val % pp = x.val ^ Nv % pp) := hqe
    have h74 := block_below hb3 (lt_of_heap h73) h73
    have h94 := block_below hb3 (lt_of_heap h9) h9
    have hdv4 := hdv3.below hb3
    have hB4 := hB3.trans (hb3.mono hB3.size)
    clear hb3 h73 h9 hdv3 hB3 hqe cPn
    have hal : (p3.alloc (.cells #[.int .u64 0, .int .u64 0, .int .u64 0, .int .u64 0, .int .u64 0] 26)).heap[p3.heap.size]? = some (.cells #[.int .u64 0, .int .u64 0, .int .u64 0, .int .u64 0, .int .u64 0] 26 (0, 0)) := heap_alloc_new _ _
    have h10 : ((p3.alloc (.cells #[.int .u64 0, .int .u64 0, .int .u64 0, .int .u64 0, .int .u64 0] 26)).setRow p3.heap.size (elc q)).heap[p3.heap.size]? = some (.cells (elc q) 26 (0, 0)) := setRow_heap _ _ _ _ _ _ hal
    have hBn : Below p3.heap.size p3 ((p3.alloc (.cells #[.int .u64 0, .int .u64 0, .int .u64 0, .int .u64 0, .int .u64 0] 26)).setRow p3.heap.size (elc q)) := setRow_below (below1 _ _) (Nat.le_refl _) _
    have h75 := block_below hBn (lt_of_heap h74) h74
    have h95 := block_below hBn (lt_of_heap h94) h94
    have hdv5 := hdv4.below hBn
    have hB5 := hB4.trans (hBn.mono hB4.size)
    go_wp2_with (refine wpList_store_row rfl 26 (.tmp 10) (.tmp 33) rfl _ (elc q) rfl rfl 26 _ hal info26 rfl (elc_one _) ?_)
    generalize ((p3.alloc (.cells #[.int .u64 0, .int .u64 0, .int .u64 0, .int .u64 0, .int .u64 0] 26)).setRow p3.heap.size (elc q)) = u3 at h75 h95 h10 hdv5 hB5 ⊢
    generalize p3.heap.size = g10 at h10 ⊢
    clear hal hBn h74 h94 hdv4 hB4
    refine (cDm _ hB5).mono ?_
    rintro e p4 ⟨v4, rfl, hb4, hown4⟩
    obtain ⟨a4, k4, rfl, _⟩ := own_slice hown4
    obtain ⟨hiv4, _⟩ := own_iview hown4
    have hB6 := hB5.trans (hb4.mono hB5.size)
    go_wp2_with fail
    refine (cDn _ hB6).mono ?_
    rintro e p5 ⟨v5, rfl, hb5, hown5⟩
    obtain ⟨a5, k5, rfl, _⟩ := own_slice hown5
    obtain ⟨hiv5, _⟩ := own_iview hown5
    have hiv45 := hiv4.below hb5
    go_wp2_with fail
    refine (cPl p5 a4 k4 a5 k5 hiv45 hiv5).mono ?_
    rintro e p6 ⟨g6, rfl, hR6⟩
    go_wp2_with fail
    refine (cBy p6 g6 hR6.2.2).mono ?_
    rintro e p8 ⟨v8, rfl, hb8, hown8⟩
    obtain ⟨a8, k8, rfl, hk8, hk8'⟩ := own_slice hown8
    obtain ⟨hbv8, _⟩ := own_bview hown8
    have hU1 := hb4.trans (hb5.mono hb4.size)
    have hU2 := hU1.trans (hR6.1.mono hU1.size)
    have hU := hU2.trans (hb8.mono hU2.size)
    have h76 := block_below hU (lt_of_heap h75) h75
    have h96 := block_below hU (lt_of_heap h95) h95
    have h106 := block_below hU (lt_of_heap h10) h10
    have hdv6 := hdv5.below hU
    have hB8 := hB5.trans (hU.mono hB5.size)
    clear hU1 hU2 hU hb4 hb5 hR6 hb8 hown4 hown5 hown8 hiv4 hiv5 hiv45 hB6 hB5 h75 h95 h10 hdv5 cDn cPl cBy
    have hlike : p.val % pp = X ^ Mv % pp := by rw [HP.out, Nat.pow_mod, HX.out]
    have cL := fun w1 g (h : w1.heap[g]? = some (.cells (ints .i64 (digs 32 (X ^ Mv % pp))) 3 (0, 0))) => like16T p g _ w1 hpw h hlike
    clear hlike
    go_wp2_with fail
    have hS0 : Below p8.heap.size p8 p8.drew := (Below.refl _ _).drew
    refine wp_region_held (S := fun w' => Below p8.heap.size p8 w') (by kernel_rfl) ?_
    show wpAnyH _ _ _ _ _ 7 (Array.replicate 7 false) _ p8.drew
    refine take_at (i := 0) (some 40) _ rfl rfl (by kernel_rfl) (by kernel_rfl) (by kernel_rfl) (fun _ _ _ h => h) (yields_load_row rfl 26 (.tmp 9) rfl _ rfl 26 (elc p) (0, 0) _ (fun _ h => block_below h (lt_of_heap h96) h96) Try.underlying26 rfl info26) hS0 ?_
    simp only [Act.put, List.setIfInBounds_toArray, List.set_cons_succ, List.set_cons_zero]
    refine take_at (i := 1) (some 41) _ rfl rfl (by kernel_rfl) (by kernel_rfl) (by kernel_rfl) (fun _ _ _ h => h) (yields_move rfl (.tmp 8) rfl) hS0 ?_
    simp only [Act.put, List.setIfInBounds_toArray, List.set_cons_succ, List.set_cons_zero]
    refine take_at (i := 2) (some 42) _ rfl rfl (by kernel_rfl) (by kernel_rfl) (by kernel_rfl) (fun _ _ _ h => h) (yields_move rfl (.tmp 1) rfl) hS0 ?_
    simp only [Act.put, List.setIfInBounds_toArray, List.set_cons_succ, List.set_cons_zero]
    have hBd := hB8.trans (hS0.mono hB8.size)
    refine one_at (i := 3) (by kernel_rfl) ?_
    refine call_at (some 43) rfl rfl rfl 11 _ (R := fun v w' => ∃ a c, v = .slice a zm.length c ∧ Below p8.drew.heap.size p8.drew w' ∧ IView w' a zm) (by kernel_rfl) ((cDm p8.drew hBd).mono fun e w' ⟨v, h1, h2, h3⟩ => by
      obtain ⟨b, c, rfl, _⟩ := own_slice h3
      exact ⟨_, h1, b, c, by rw [(own_iview h3).2], h2, (own_iview h3).1⟩) ?_
    rintro v9 w9 ⟨a9, c9, rfl, hb9, hiv9⟩
    have hS1 : Below p8.heap.size p8 w9 := hS0.trans (hb9.mono hS0.size)
    refine ⟨hS1, ?_⟩
    simp only [Act.put, List.setIfInBounds_toArray, List.set_cons_succ, List.set_cons_zero]
    refine one_at (i := 4) (by kernel_rfl) ?_
    have cRq := cRp w9 ad cd a9 c9 (hdv6.below hS1) hiv9
    rw [← HZM.out] at cRq
    refine call_at (some 44) rfl rfl rfl 33 _ (R := fun v w' => ∃ g, v = .slice (some ⟨g, 0, none⟩) 32 32 ∧ RelR w9 w' g (digs 32 (X ^ Mv % pp))) (by kernel_rfl) (cRq.mono fun e w' ⟨g, h1, h2⟩ => ⟨_, h1, g, rfl, h2⟩) ?_
    rintro v11 w11 ⟨g11, rfl, hR11⟩
    have hS2 : Below p8.heap.size p8 w11 := hS1.trans (hR11.1.mono hS1.size)
    refine ⟨hS2, ?_⟩
    simp only [Act.put, List.setIfInBounds_toArray, List.set_cons_succ, List.set_cons_zero]
    refine one_at (i := 5) (by kernel_rfl) ?_
    refine call_at (some 45) rfl rfl rfl 16 _ (R := fun v w' => v = .bool true ∧ Below w11.heap.size w11 w') (by kernel_rfl) ((cL w11 g11 hR11.2.2).mono fun e w' ⟨h1, h2⟩ => ⟨_, h1, rfl, h2⟩) ?_
    rintro v12 w12 ⟨rfl, hb12⟩
    have hS3 : Below p8.heap.size p8 w12 := hS2.trans (hb12.mono hS2.size)
    clear hb9 hiv9 hS0 hS1 cRq hR11 hS2 hb12 hBd cDm cRp cL
    refine ⟨hS3, ?_⟩
    simp only [Act.put, List.setIfInBounds_toArray, List.set_cons_succ, List.set_cons_zero]
    refine one_at (i := 6) (by kernel_rfl) ?_
    refine run_at (some 12) (.bool true) rfl rfl rfl (run_assignO (.tmp 45) rfl _) ?_
    simp only [Act.put, List.setIfInBounds_toArray, List.set_cons_succ, List.set_cons_zero]
    refine ⟨hS3, wpAnyH_done (by kernel_rfl) ?_ _⟩
    have h77 := block_below hS3 (lt_of_heap h76) h76
    have h97 := block_below hS3 (lt_of_heap h96) h96
    have h107 := block_below hS3 (lt_of_heap h106) h106
    have hbv9 := hbv8.below hS3
    have hB9 := hB8.trans (hS3.mono hB8.size)
    clear hS3 h76 h96 h106 hbv8 hB8 hdv6
    have cM := fun w1 => mul24 p q w1 hpw hqw
    have cQ := fun (r : E5) w1 (hr : r.wf) (hre : r.val % pp = x.val ^ Sv % pp) => equal13T (mulE p q) r w1 (mulE_wf hpw hqw) hr (by rw [mulE_mod, Nat.mul_mod, HP.out, HQ.out, ← Nat.mul_mod, ← Nat.pow_add, ← HS.out, hre])
    obtain ⟨pq, hpq⟩ : ∃ z, z = elc (mulE p q) := ⟨_, rfl⟩
    rw [← hpq] at cM cQ
    clear hpq
    go_wp2_with fail
    have hS0 : Below w12.heap.size w12 w12.drew := (Below.refl _ _).drew
    refine wp_region_held (S := fun w' => Below w12.heap.size w12 w') (by kernel_rfl) ?_
    show wpAnyH _ _ _ _ _ 14 (Array.replicate 14 false) _ w12.drew
    refine take_at (i := 0) (some 46) _ rfl rfl (by kernel_rfl) (by kernel_rfl) (by kernel_rfl) (fun _ _ _ h => h) (yields_runG (v := .bool true) (by kernel_rfl) fun w' hw' => run_move (.tmp 12) rfl w') hS0 ?_
    simp only [Act.put, List.setIfInBounds_toArray, List.set_cons_succ, List.set_cons_zero]
    refine take_at (i := 1) (some 47) _ rfl rfl (by kernel_rfl) (by kernel_rfl) (by kernel_rfl) (fun _ _ _ h => h) (yields_runG (v := .bool true) (by kernel_rfl) fun w' hw' => run_move (.tmp 46) rfl w') hS0 ?_
    simp only [Act.put, List.setIfInBounds_toArray, List.set_cons_succ, List.set_cons_zero]
    refine take_at (i := 2) (some 48) _ rfl rfl (by kernel_rfl) (by kernel_rfl) (by kernel_rfl) (fun _ _ _ h => h) (yields_runG (v := .agg (elc p)) (by kernel_rfl) fun w' hw' => run_loadRow 26 (.tmp 9) rfl _ rfl 26 (elc p) (0, 0) _ (block_below hw' (lt_of_heap h97) h97) Try.underlying26 rfl info26) hS0 ?_
    simp only [Act.put, List.setIfInBounds_toArray, List.set_cons_succ, List.set_cons_zero]
    refine take_at (i := 3) (some 49) _ rfl rfl (by kernel_rfl) (by kernel_rfl) (by kernel_rfl) (fun _ _ _ h => h) (yields_runG (v := .agg (elc q)) (by kernel_rfl) fun w' hw' => run_loadRow 26 (.tmp 10) rfl _ rfl 26 (elc q) (0, 0) _ (block_below hw' (lt_of_heap h107) h107) Try.underlying26 rfl info26) hS0 ?_
    simp only [Act.put, List.setIfInBounds_toArray, List.set_cons_succ, List.set_cons_zero]
    refine take_at (i := 5) (some 51) _ rfl rfl (by kernel_rfl) (by kernel_rfl) (by kernel_rfl) (fun _ _ _ h => h) (yields_runG (v := .agg (elc x)) (by kernel_rfl) fun w' hw' => run_loadRow 26 (.tmp 7) rfl _ rfl 26 (elc x) (0, 0) _ (block_below hw' (lt_of_heap h77) h77) Try.underlying26 rfl info26) hS0 ?_
    simp only [Act.put, List.setIfInBounds_toArray, List.set_cons_succ, List.set_cons_zero]
    refine take_at (i := 6) (some 52) _ rfl rfl (by kernel_rfl) (by kernel_rfl) (by kernel_rfl) (fun _ _ _ h => h) (yields_runG (v := .slice a8 32 k8) (by kernel_rfl) fun w' hw' => run_move (.tmp 11) rfl w') hS0 ?_
    simp only [Act.put, List.setIfInBounds_toArray, List.set_cons_succ, List.set_cons_zero]
    refine one_at (i := 4) (by kernel_rfl) ?_
    refine call_atG (some 50) rfl (by kernel_rfl) rfl 24 _ (R := fun v w' => v = .agg pq ∧ Below w12.drew.heap.size w12.drew w') (by kernel_rfl) ((cM w12.drew).mono fun e w' ⟨h1, h2⟩ => ⟨_, h1, rfl, h2⟩) ?_
    rintro v13 w13 ⟨rfl, hb13⟩
    have hS1 : Below w12.heap.size w12 w13 := hS0.trans (hb13.mono hS0.size)
    refine ⟨hS1, ?_⟩
    simp only [Act.put, List.setIfInBounds_toArray, List.set_cons_succ, List.set_cons_zero]
    refine one_at (i := 7) (by kernel_rfl) ?_
    refine call_atG (some 53) rfl (by kernel_rfl) rfl 30 _ (R := fun v w' => ∃ r : E5, r.wf ∧ r.val % pp = x.val ^ Sv % pp ∧ v = .agg (elc r) ∧ Below w13.heap.size w13 w') (by kernel_rfl) ((cPs w13 a8 k8 hk8 hk8' (hbv9.below hS1)).mono fun e w' ⟨r, h1, h2, h3, h4⟩ => ⟨_, h3, r, h1, h2, rfl, h4⟩) ?_
    rintro v14 w14 ⟨r, hrw, hre, rfl, hb14⟩
    have hS2 : Below w12.heap.size w12 w14 := hS1.trans (hb14.mono hS1.size)
    refine ⟨hS2, ?_⟩
    simp only [Act.put, List.setIfInBounds_toArray, List.set_cons_succ, List.set_cons_zero]
    refine one_at (i := 8) (by kernel_rfl) ?_
    refine call_atG (some 54) rfl (by kernel_rfl) rfl 13 _ (R := fun v w' => v = .bool true ∧ Below w14.heap.size w14 w') (by kernel_rfl) ((cQ r w14 hrw hre).mono fun e w' ⟨h1, h2⟩ => ⟨_, h1, rfl, h2⟩) ?_
    rintro v15 w15 ⟨rfl, hb15⟩
    have hS3 : Below w12.heap.size w12 w15 := hS2.trans (hb15.mono hS2.size)
    clear hb13 hb14 hb15 hS1 hS2 hS0 hre
    refine ⟨hS3, ?_⟩
    simp only [Act.put, List.setIfInBounds_toArray, List.set_cons_succ, List.set_cons_zero]
    refine one_at (i := 9) (by kernel_rfl) ?_
    refine run_atG (some 55) (.bool true) rfl (by kernel_rfl) rfl (by kernel_rfl) ?_
    refine ⟨hS3, ?_⟩
    simp only [Act.put, List.setIfInBounds_toArray, List.set_cons_succ, List.set_cons_zero]
    refine one_at (i := 10) (by kernel_rfl) ?_
    refine run_atG (some 56) (.bool true) rfl (by kernel_rfl) rfl (run_move (.tmp 55) rfl _) ?_
    refine ⟨hS3, ?_⟩
    simp only [Act.put, List.setIfInBounds_toArray, List.set_cons_succ, List.set_cons_zero]
    refine one_at (i := 11) (by kernel_rfl) ?_
    refine call_atG (some 57) rfl (by kernel_rfl) rfl 14 #[] (R := fun v w' => v = .bool true ∧ Below w15.heap.size w15 w') (by kernel_rfl) ((lives14 w15).mono fun e w' ⟨h1, h2⟩ => ⟨_, h1, rfl, h2⟩) ?_
    rintro v16 w16 ⟨rfl, hb16⟩
    have hS4 : Below w12.heap.size w12 w16 := hS3.trans (hb16.mono hS3.size)
    refine ⟨hS4, ?_⟩
    simp only [Act.put, List.setIfInBounds_toArray, List.set_cons_succ, List.set_cons_zero]
    refine one_at (i := 12) (by kernel_rfl) ?_
    refine run_atG (some 58) (.bool true) rfl (by kernel_rfl) rfl (by kernel_rfl) ?_
    refine ⟨hS4, ?_⟩
    simp only [Act.put, List.setIfInBounds_toArray, List.set_cons_succ, List.set_cons_zero]
    refine one_at (i := 13) (by kernel_rfl) ?_
    refine run_atG (some 6) (.bool true) rfl (by kernel_rfl) rfl (run_assignO (.tmp 58) rfl _) ?_
    simp only [Act.put, List.setIfInBounds_toArray, List.set_cons_succ, List.set_cons_zero]
    refine ⟨hS4, wpAnyH_done (by kernel_rfl) ?_ _⟩
    have Hf : Hid (Below w.heap.size w w16) := hB9.trans (hS4.mono hB9.size)
    clear hb16 hS3 hS4 hB9 h77 h97 h107 hbv9 cM cQ cPs
    go_wp2
    go_ret
    exact ⟨rfl, Hf.out⟩
theorem fieldPowers8 (a : Option Addr) (la ca : Nat) (za : List Nat) (b : Option Addr) (lb cb : Nat) (zm : List Nat) (c : Option Addr) (lc cc : Nat) (zn : List Nat) (w : World) (hza : za.length = la) (hca : la ≤ ca) (hma : ca ≤ 9223372036854775807) (hda : Dig za) (hva : View w a za)
    (hzb : zm.length = lb) (hcb : lb ≤ cb) (hmb : cb ≤ 9223372036854775807) (hdb : Dig zm) (hvb : View w b zm) (hzc : zn.length = lc) (hcc : lc ≤ cc) (hmc : cc ≤ 9223372036854775807) (hdc : Dig zn) (hvc : View w c zn) :
    Calls Try.prog 8 #[.slice a la ca, .slice b lb cb, .slice c lc cc] w fun e w' => e = .returned (.bool true) ∧ Below w.heap.size w w' :=
  fieldPowers8m a la ca za b lb cb (min lb 3) (zm.take 3) c lc cc (min lc 3) (zn.take 3) w hza hca hma hda hva (by omega) (by rw [List.length_take, hzb]; omega) hcb hmb (hdb.take 3) (hvb.take 3) (by omega) (by rw [List.length_take, hzc]; omega) hcc hmc (hdc.take 3) (hvc.take 3)
end Go.Proofs.Ytghmcaliahjdhaa
