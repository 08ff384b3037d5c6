/-
  The walks of ScalarReduces and ScalarMuls.
-/
import Derived.Test.YtoehjkebfpoigaaDoorL1
set_option linter.unusedVariables false
namespace Go.Proofs.YtoehjkebfpoigaaDoor
open Go.RowKit Go.Sort Go.BigFrame
set_option maxRecDepth 100000
set_option maxHeartbeats 2000000
theorem scalarReduces3 (a : Option Addr) (len cap : Nat) (bs : List Nat) (w : World) (hlen : bs.length = len) (hd : Dig bs) (hcap : len ≤ cap) (hcap2 : cap ≤ 9223372036854775807) (hv0 : View w a bs) (hT : Tab w) :
    Calls Tryd.prog 3 #[.slice a len cap] w fun e w' => e = .returned (.bool true) ∧ Below w.heap.size w w' := by
  have cF := few8 a len cap bs 70 w hlen hcap hcap2 (by omega)
  have hm := min_take (most := 70) hlen
  have hv := hv0.take 70
  have hd70 := hd.take 70
  have hmc : min len 70 ≤ cap := by omega
  have hm70 : min len 70 ≤ 70 := by omega
  obtain ⟨ds, hds⟩ : ∃ l, l = bs.take 70 := ⟨_, rfl⟩
  obtain ⟨m, hme⟩ : ∃ m, m = min len 70 := ⟨_, rfl⟩
  rw [← hds] at hm hv hd70
  rw [← hme] at hm hmc hm70 cF
  simp only [Int.cast_ofNat_Int] at cF
  obtain ⟨R, hR⟩ : ∃ R, R = valD (ds.take 64) % LL := ⟨_, rfl⟩
  have c1 : ∀ w1, View w1 a ds → Tab w1 → Calls Tryd.prog 9 #[.slice a m cap] w1 fun e w' => ∃ v, e = .returned v ∧ Ref32 w1 w' v R := fun w1 h1 h2 => by
    rw [hR]; exact (reduce9 a m cap ds w1 hm hmc hcap2 hd70 h1 h2).mono fun e w' ⟨v, h3, h4⟩ => ⟨v, h3, h4.ref⟩
  have c2 : ∀ w1, View w1 a ds → Calls Tryd.prog 10 #[.slice a m cap] w1 fun e w' => ∃ v, e = .returned v ∧ Ref32 w1 w' v R := fun w1 h1 => by
    rw [hR]; exact refReduce10 a m cap ds w1 hm hmc hcap2 hd70 h1
  have c3 : ∀ w1, Tab w1 → Calls Tryd.prog 11 #[] w1 fun e w' => ∃ v, e = .returned v ∧ (v = .bool true ∧ Below w1.heap.size w1 w') := fun w1 ht => (lives11 w1 ht).mono fun e w' ⟨h1, h2⟩ => ⟨_, h1, rfl, h2⟩
  clear hR hds hme hm hd hd70 hv0 hlen
  go_enter Tryd.func3, Tryd.ntmps3
  go_wp2_with fail
  refine cF.mono ?_
  rintro e w1 ⟨rfl, rfl⟩
  clear cF
  have hB : Below w.heap.size w w := Below.refl _ _
  go_wp2_with fail
  have hS0 : Below w.heap.size w w.drew := (Below.refl _ _).drew
  refine wp_region_held (S := fun w' => Below w.heap.size w w') (by kernel_rfl) ?_
  show wpAnyH _ _ _ _ _ 11 (Array.replicate 11 false) _ w.drew
  refine take_at (i := 0) (some 5) _ rfl rfl (by kernel_rfl) (by kernel_rfl) (by kernel_rfl) (fun _ _ _ h => h) (yields_runG (v := .slice a m cap) (by kernel_rfl) fun w' hw' => BigFrame.run_move (.tmp 0) rfl w') hS0 ?_
  simp only [Act.put, List.setIfInBounds_toArray, List.set_cons_succ, List.set_cons_zero]
  refine take_at (i := 3) (some 8) _ rfl rfl (by kernel_rfl) (by kernel_rfl) (by kernel_rfl) (fun _ _ _ h => h) (yields_runG (v := .slice a m cap) (by kernel_rfl) fun w' hw' => BigFrame.run_move (.tmp 0) rfl w') hS0 ?_
  simp only [Act.put, List.setIfInBounds_toArray, List.set_cons_succ, List.set_cons_zero]
  refine one_at (i := 1) (by kernel_rfl) ?_
  refine call_atG (some 6) rfl (by kernel_rfl) rfl 9 #[.slice a m cap] (R := fun v w' => Ref32 w.drew w' v R) (by kernel_rfl) (c1 w.drew (hv.below hS0) (hT.below hS0)) ?_
  rintro v1 w1 ⟨a6, k6, rfl, _, _, hb6, hv6⟩
  have hb1' : Below w.heap.size w w1 := hS0.trans (hb6.mono hS0.size)
  have hB1 : Below w.heap.size w w1 := hB.trans (hb1'.mono hB.size)
  have hv_1 := hv.below hb1'
  have hT_1 := hT.below hb1'
  refine ⟨hb1', ?_⟩
  refine strengthen (S' := fun w' => Below w1.heap.size w1 w') (fun _ h => hb1'.trans (h.mono hb1'.size)) _ _ _ _ ?_
  have hS1 : Below w1.heap.size w1 w1 := Below.refl _ _
  clear hS0 hv hT
  simp only [Act.put, List.setIfInBounds_toArray, List.set_cons_succ, List.set_cons_zero]
  refine take_at (i := 2) (some 7) _ rfl rfl (by kernel_rfl) (by kernel_rfl) (by kernel_rfl) (fun _ _ _ h => h) (yields_runG (v := .string (strOf (digs 32 R))) (by kernel_rfl) fun w' hw' => run_convertO (toString_view (cap := k6) (digs_len _ _) (hv6.below hw')) rfl) hS1 ?_
  simp only [Act.put, List.setIfInBounds_toArray, List.set_cons_succ, List.set_cons_zero]
  refine one_at (i := 4) (by kernel_rfl) ?_
  refine call_atG (some 9) rfl (by kernel_rfl) rfl 10 #[.slice a m cap] (R := fun v w' => Ref32 w1 w' v R) (by kernel_rfl) (c2 w1 (hv_1.below hS1)) ?_
  rintro v2 w2 ⟨a9, k9, rfl, _, _, hb9, hv9⟩
  have hb2' : Below w1.heap.size w1 w2 := hS1.trans (hb9.mono hS1.size)
  have hB2 : Below w.heap.size w w2 := hB1.trans (hb2'.mono hB1.size)
  have hv_2 := hv_1.below hb2'
  have hT_2 := hT_1.below hb2'
  have hv6_2 := hv6.below hb2'
  refine ⟨hb2', ?_⟩
  refine strengthen (S' := fun w' => Below w2.heap.size w2 w') (fun _ h => hb2'.trans (h.mono hb2'.size)) _ _ _ _ ?_
  have hS2 : Below w2.heap.size w2 w2 := Below.refl _ _
  clear hS1 hv_1 hT_1 hv6
  simp only [Act.put, List.setIfInBounds_toArray, List.set_cons_succ, List.set_cons_zero]
  refine take_at (i := 5) (some 10) _ rfl rfl (by kernel_rfl) (by kernel_rfl) (by kernel_rfl) (fun _ _ _ h => h) (yields_runG (v := .string (strOf (digs 32 R))) (by kernel_rfl) fun w' hw' => run_convertO (toString_view (cap := k9) (digs_len _ _) (hv9.below hw')) rfl) hS2 ?_
  simp only [Act.put, List.setIfInBounds_toArray, List.set_cons_succ, List.set_cons_zero]
  refine one_at (i := 6) (by kernel_rfl) ?_
  refine run_atG (some 11) (.bool true) rfl (by kernel_rfl) rfl (run_eqStrB (x := .tmp 7) (y := .tmp 10) (str_refl _) rfl rfl rfl) ?_
  refine ⟨hS2, ?_⟩
  simp only [Act.put, List.setIfInBounds_toArray, List.set_cons_succ, List.set_cons_zero]
  refine one_at (i := 7) (by kernel_rfl) ?_
  refine run_atG (some 12) (.bool true) rfl (by kernel_rfl) rfl (BigFrame.run_move (.tmp 11) rfl _) ?_
  refine ⟨hS2, ?_⟩
  simp only [Act.put, List.setIfInBounds_toArray, List.set_cons_succ, List.set_cons_zero]
  refine one_at (i := 8) (by kernel_rfl) ?_
  refine call_atG (some 13) rfl (by kernel_rfl) rfl 11 #[] (R := fun v w' => v = .bool true ∧ Below w2.heap.size w2 w') (by kernel_rfl) (c3 w2 (hT_2.below hS2)) ?_
  rintro v3 w3 ⟨rfl, hb13⟩
  have hb3' : Below w2.heap.size w2 w3 := hS2.trans (hb13.mono hS2.size)
  have hB3 : Below w.heap.size w w3 := hB2.trans (hb3'.mono hB2.size)
  have hv_3 := hv_2.below hb3'
  have hT_3 := hT_2.below hb3'
  have hv6_3 := hv6_2.below hb3'
  have hv9_3 := hv9.below hb3'
  refine ⟨hb3', ?_⟩
  refine strengthen (S' := fun w' => Below w3.heap.size w3 w') (fun _ h => hb3'.trans (h.mono hb3'.size)) _ _ _ _ ?_
  have hS3 : Below w3.heap.size w3 w3 := Below.refl _ _
  clear hS2 hv_2 hT_2 hv6_2 hv9
  simp only [Act.put, List.setIfInBounds_toArray, List.set_cons_succ, List.set_cons_zero]
  refine one_at (i := 9) (by kernel_rfl) ?_
  refine run_atG (some 14) (.bool true) rfl (by kernel_rfl) rfl (by kernel_rfl) ?_
  refine ⟨hS3, ?_⟩
  simp only [Act.put, List.setIfInBounds_toArray, List.set_cons_succ, List.set_cons_zero]
  refine one_at (i := 10) (by kernel_rfl) ?_
  refine run_atG (some 2) (.bool true) rfl (by kernel_rfl) rfl (run_assignO (.tmp 14) rfl _) ?_
  simp only [Act.put, List.setIfInBounds_toArray, List.set_cons_succ, List.set_cons_zero]
  refine ⟨hS3, wpAnyH_done (by kernel_rfl) ?_ _⟩
  have hfin := hB3
  clear hv_3 hT_3 hv6_3 hv9_3 hS3
  go_wp2
  go_ret
  exact ⟨rfl, hfin⟩
theorem scalarMuls4 (a : Option Addr) (la0 ca : Nat) (x0 : List Nat) (b : Option Addr) (lb0 cb : Nat) (y0 : List Nat) (c : Option Addr) (lc0 cc : Nat) (z0 : List Nat) (w : World) (hla0 : x0.length = la0) (hlb0 : y0.length = lb0) (hlc0 : z0.length = lc0) (dx0 : Dig x0) (dy0 : Dig y0) (dz0 : Dig z0) (hca0 : la0 ≤ ca) (hcb0 : lb0 ≤ cb) (hcc0 : lc0 ≤ cc) (hca2 : ca ≤ 9223372036854775807) (hcb2 : cb ≤ 9223372036854775807) (hcc2 : cc ≤ 9223372036854775807) (hx0 : View w a x0) (hy0 : View w b y0) (hz0 : View w c z0) (hT : Tab w) :
    Calls Tryd.prog 4 #[.slice a la0 ca, .slice b lb0 cb, .slice c lc0 cc] w fun e w' => e = .returned (.bool true) ∧ Below w.heap.size w w' := by
  have cFx := few8 a la0 ca x0 36 w hla0 hca0 hca2 (by omega)
  have hla := min_take (most := 36) hla0
  have hx := hx0.take 36
  have dx := dx0.take 36
  have hca : min la0 36 ≤ ca := by omega
  have lan : min la0 36 ≤ 36 := by omega
  obtain ⟨x, hxe⟩ : ∃ l, l = x0.take 36 := ⟨_, rfl⟩
  obtain ⟨la, hlae⟩ : ∃ m, m = min la0 36 := ⟨_, rfl⟩
  rw [← hxe] at hla hx dx
  rw [← hlae] at hla hca lan cFx
  simp only [Int.cast_ofNat_Int] at cFx
  clear hxe hlae hx0 dx0 hla0 hca0
  have cFy := few8 b lb0 cb y0 36 w hlb0 hcb0 hcb2 (by omega)
  have hlb := min_take (most := 36) hlb0
  have hy := hy0.take 36
  have dy := dy0.take 36
  have hcb : min lb0 36 ≤ cb := by omega
  have lbn : min lb0 36 ≤ 36 := by omega
  obtain ⟨y, hye⟩ : ∃ l, l = y0.take 36 := ⟨_, rfl⟩
  obtain ⟨lb, hlbe⟩ : ∃ m, m = min lb0 36 := ⟨_, rfl⟩
  rw [← hye] at hlb hy dy
  rw [← hlbe] at hlb hcb lbn cFy
  simp only [Int.cast_ofNat_Int] at cFy
  clear hye hlbe hy0 dy0 hlb0 hcb0
  have cFz := few8 c lc0 cc z0 36 w hlc0 hcc0 hcc2 (by omega)
  have hlc := min_take (most := 36) hlc0
  have hz := hz0.take 36
  have dz := dz0.take 36
  have hcc : min lc0 36 ≤ cc := by omega
  have lcn : min lc0 36 ≤ 36 := by omega
  obtain ⟨z, hze⟩ : ∃ l, l = z0.take 36 := ⟨_, rfl⟩
  obtain ⟨lc, hlce⟩ : ∃ m, m = min lc0 36 := ⟨_, rfl⟩
  rw [← hze] at hlc hz dz
  rw [← hlce] at hlc hcc lcn cFz
  simp only [Int.cast_ofNat_Int] at cFz
  clear hze hlce hz0 dz0 hlc0 hcc0
  obtain ⟨R, hR⟩ : ∃ R, R = (valD (x.take 32) * valD (y.take 32) + valD (z.take 32)) % LL := ⟨_, rfl⟩
  have c1 : ∀ w1, View w1 a x → View w1 b y → View w1 c z → Tab w1 → Calls Tryd.prog 12 #[.slice a la ca, .slice b lb cb, .slice c lc cc] w1 fun e w' => ∃ v, e = .returned v ∧ Ref32 w1 w' v R := fun w1 h1 h2 h3 h4 => by
    rw [hR]; exact (mulAdd12 a la ca x b lb cb y c lc cc z w1 hla hlb hlc hca hca2 hcb hcb2 hcc hcc2 dx dy dz h1 h2 h3 h4).mono fun e w' ⟨v, h5, h6⟩ => ⟨v, h5, h6.ref⟩
  have c2 : ∀ w1, View w1 a x → View w1 b y → View w1 c z → Calls Tryd.prog 13 #[.slice a la ca, .slice b lb cb, .slice c lc cc] w1 fun e w' => ∃ v, e = .returned v ∧ Ref32 w1 w' v R := fun w1 h1 h2 h3 => by
    rw [hR]; exact refMulAdd13 a la ca x b lb cb y c lc cc z w1 hla hlb hlc hca hca2 hcb hcb2 hcc hcc2 dx dy dz h1 h2 h3
  have c3 : ∀ w1, Tab w1 → Calls Tryd.prog 11 #[] w1 fun e w' => ∃ v, e = .returned v ∧ (v = .bool true ∧ Below w1.heap.size w1 w') := fun w1 ht => (lives11 w1 ht).mono fun e w' ⟨h1, h2⟩ => ⟨_, h1, rfl, h2⟩
  clear hR hla hlb hlc dx dy dz
  go_enter Tryd.func4, Tryd.ntmps4
  go_wp2_with fail
  refine cFx.mono ?_
  rintro e w1 ⟨rfl, rfl⟩
  go_wp2_with fail
  refine cFy.mono ?_
  rintro e w1 ⟨rfl, rfl⟩
  go_wp2_with fail
  refine cFz.mono ?_
  rintro e w1 ⟨rfl, rfl⟩
  clear cFx cFy cFz
  have hB : Below w.heap.size w w := Below.refl _ _
  go_wp2_with fail
  have hS0 : Below w.heap.size w w.drew := (Below.refl _ _).drew
  refine wp_region_held (S := fun w' => Below w.heap.size w w') (by kernel_rfl) ?_
  show wpAnyH _ _ _ _ _ 15 (Array.replicate 15 false) _ w.drew
  refine take_at (i := 0) (some 13) _ rfl rfl (by kernel_rfl) (by kernel_rfl) (by kernel_rfl) (fun _ _ _ h => h) (yields_runG (v := .slice a la ca) (by kernel_rfl) fun w' hw' => BigFrame.run_move (.tmp 0) rfl w') hS0 ?_
  simp only [Act.put, List.setIfInBounds_toArray, List.set_cons_succ, List.set_cons_zero]
  refine take_at (i := 1) (some 14) _ rfl rfl (by kernel_rfl) (by kernel_rfl) (by kernel_rfl) (fun _ _ _ h => h) (yields_runG (v := .slice b lb cb) (by kernel_rfl) fun w' hw' => BigFrame.run_move (.tmp 1) rfl w') hS0 ?_
  simp only [Act.put, List.setIfInBounds_toArray, List.set_cons_succ, List.set_cons_zero]
  refine take_at (i := 2) (some 15) _ rfl rfl (by kernel_rfl) (by kernel_rfl) (by kernel_rfl) (fun _ _ _ h => h) (yields_runG (v := .slice c lc cc) (by kernel_rfl) fun w' hw' => BigFrame.run_move (.tmp 2) rfl w') hS0 ?_
  simp only [Act.put, List.setIfInBounds_toArray, List.set_cons_succ, List.set_cons_zero]
  refine take_at (i := 5) (some 18) _ rfl rfl (by kernel_rfl) (by kernel_rfl) (by kernel_rfl) (fun _ _ _ h => h) (yields_runG (v := .slice a la ca) (by kernel_rfl) fun w' hw' => BigFrame.run_move (.tmp 0) rfl w') hS0 ?_
  simp only [Act.put, List.setIfInBounds_toArray, List.set_cons_succ, List.set_cons_zero]
  refine take_at (i := 6) (some 19) _ rfl rfl (by kernel_rfl) (by kernel_rfl) (by kernel_rfl) (fun _ _ _ h => h) (yields_runG (v := .slice b lb cb) (by kernel_rfl) fun w' hw' => BigFrame.run_move (.tmp 1) rfl w') hS0 ?_
  simp only [Act.put, List.setIfInBounds_toArray, List.set_cons_succ, List.set_cons_zero]
  refine take_at (i := 7) (some 20) _ rfl rfl (by kernel_rfl) (by kernel_rfl) (by kernel_rfl) (fun _ _ _ h => h) (yields_runG (v := .slice c lc cc) (by kernel_rfl) fun w' hw' => BigFrame.run_move (.tmp 2) rfl w') hS0 ?_
  simp only [Act.put, List.setIfInBounds_toArray, List.set_cons_succ, List.set_cons_zero]
  refine one_at (i := 3) (by kernel_rfl) ?_
  refine call_atG (some 16) rfl (by kernel_rfl) rfl 12 #[.slice a la ca, .slice b lb cb, .slice c lc cc] (R := fun v w' => Ref32 w.drew w' v R) (by kernel_rfl) (c1 w.drew (hx.below hS0) (hy.below hS0) (hz.below hS0) (hT.below hS0)) ?_
  rintro v1 w1 ⟨a16, k16, rfl, _, _, hb16, hv16⟩
  have hb1' : Below w.heap.size w w1 := hS0.trans (hb16.mono hS0.size)
  have hB1 : Below w.heap.size w w1 := hB.trans (hb1'.mono hB.size)
  have hx_1 := hx.below hb1'
  have hy_1 := hy.below hb1'
  have hz_1 := hz.below hb1'
  have hT_1 := hT.below hb1'
  refine ⟨hb1', ?_⟩
  refine strengthen (S' := fun w' => Below w1.heap.size w1 w') (fun _ h => hb1'.trans (h.mono hb1'.size)) _ _ _ _ ?_
  have hS1 : Below w1.heap.size w1 w1 := Below.refl _ _
  clear hS0 hx hy hz hT
  simp only [Act.put, List.setIfInBounds_toArray, List.set_cons_succ, List.set_cons_zero]
  refine take_at (i := 4) (some 17) _ rfl rfl (by kernel_rfl) (by kernel_rfl) (by kernel_rfl) (fun _ _ _ h => h) (yields_runG (v := .string (strOf (digs 32 R))) (by kernel_rfl) fun w' hw' => run_convertO (toString_view (cap := k16) (digs_len _ _) (hv16.below hw')) rfl) hS1 ?_
  simp only [Act.put, List.setIfInBounds_toArray, List.set_cons_succ, List.set_cons_zero]
  refine one_at (i := 8) (by kernel_rfl) ?_
  refine call_atG (some 21) rfl (by kernel_rfl) rfl 13 #[.slice a la ca, .slice b lb cb, .slice c lc cc] (R := fun v w' => Ref32 w1 w' v R) (by kernel_rfl) (c2 w1 (hx_1.below hS1) (hy_1.below hS1) (hz_1.below hS1)) ?_
  rintro v2 w2 ⟨a21, k21, rfl, _, _, hb21, hv21⟩
  have hb2' : Below w1.heap.size w1 w2 := hS1.trans (hb21.mono hS1.size)
  have hB2 : Below w.heap.size w w2 := hB1.trans (hb2'.mono hB1.size)
  have hx_2 := hx_1.below hb2'
  have hy_2 := hy_1.below hb2'
  have hz_2 := hz_1.below hb2'
  have hT_2 := hT_1.below hb2'
  have hv16_2 := hv16.below hb2'
  refine ⟨hb2', ?_⟩
  refine strengthen (S' := fun w' => Below w2.heap.size w2 w') (fun _ h => hb2'.trans (h.mono hb2'.size)) _ _ _ _ ?_
  have hS2 : Below w2.heap.size w2 w2 := Below.refl _ _
  clear hS1 hx_1 hy_1 hz_1 hT_1 hv16
  simp only [Act.put, List.setIfInBounds_toArray, List.set_cons_succ, List.set_cons_zero]
  refine take_at (i := 9) (some 22) _ rfl rfl (by kernel_rfl) (by kernel_rfl) (by kernel_rfl) (fun _ _ _ h => h) (yields_runG (v := .string (strOf (digs 32 R))) (by kernel_rfl) fun w' hw' => run_convertO (toString_view (cap := k21) (digs_len _ _) (hv21.below hw')) rfl) hS2 ?_
  simp only [Act.put, List.setIfInBounds_toArray, List.set_cons_succ, List.set_cons_zero]
  refine one_at (i := 10) (by kernel_rfl) ?_
  refine run_atG (some 23) (.bool true) rfl (by kernel_rfl) rfl (run_eqStrB (x := .tmp 17) (y := .tmp 22) (str_refl _) rfl rfl rfl) ?_
  refine ⟨hS2, ?_⟩
  simp only [Act.put, List.setIfInBounds_toArray, List.set_cons_succ, List.set_cons_zero]
  refine one_at (i := 11) (by kernel_rfl) ?_
  refine run_atG (some 24) (.bool true) rfl (by kernel_rfl) rfl (BigFrame.run_move (.tmp 23) rfl _) ?_
  refine ⟨hS2, ?_⟩
  simp only [Act.put, List.setIfInBounds_toArray, List.set_cons_succ, List.set_cons_zero]
  refine one_at (i := 12) (by kernel_rfl) ?_
  refine call_atG (some 25) rfl (by kernel_rfl) rfl 11 #[] (R := fun v w' => v = .bool true ∧ Below w2.heap.size w2 w') (by kernel_rfl) (c3 w2 (hT_2.below hS2)) ?_
  rintro v3 w3 ⟨rfl, hb25⟩
  have hb3' : Below w2.heap.size w2 w3 := hS2.trans (hb25.mono hS2.size)
  have hB3 : Below w.heap.size w w3 := hB2.trans (hb3'.mono hB2.size)
  have hx_3 := hx_2.below hb3'
  have hy_3 := hy_2.below hb3'
  have hz_3 := hz_2.below hb3'
  have hT_3 := hT_2.below hb3'
  have hv16_3 := hv16_2.below hb3'
  have hv21_3 := hv21.below hb3'
  refine ⟨hb3', ?_⟩
  refine strengthen (S' := fun w' => Below w3.heap.size w3 w') (fun _ h => hb3'.trans (h.mono hb3'.size)) _ _ _ _ ?_
  have hS3 : Below w3.heap.size w3 w3 := Below.refl _ _
  clear hS2 hx_2 hy_2 hz_2 hT_2 hv16_2 hv21
  simp only [Act.put, List.setIfInBounds_toArray, List.set_cons_succ, List.set_cons_zero]
  refine one_at (i := 13) (by kernel_rfl) ?_
  refine run_atG (some 26) (.bool true) rfl (by kernel_rfl) rfl (by kernel_rfl) ?_
  refine ⟨hS3, ?_⟩
  simp only [Act.put, List.setIfInBounds_toArray, List.set_cons_succ, List.set_cons_zero]
  refine one_at (i := 14) (by kernel_rfl) ?_
  refine run_atG (some 6) (.bool true) rfl (by kernel_rfl) rfl (run_assignO (.tmp 26) rfl _) ?_
  simp only [Act.put, List.setIfInBounds_toArray, List.set_cons_succ, List.set_cons_zero]
  refine ⟨hS3, wpAnyH_done (by kernel_rfl) ?_ _⟩
  have hfin := hB3
  clear hx_3 hy_3 hz_3 hT_3 hv16_3 hv21_3 hS3
  go_wp2
  go_ret
  exact ⟨rfl, hfin⟩
end Go.Proofs.YtoehjkebfpoigaaDoor
