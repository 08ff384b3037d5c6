/-
  The walk of the reference's block, at words of 64 bits. The walk of the reference's Sum, at words of 32 bits. The walk of the reference's Sum, at words of 64 bits. The walk of the reference's Of, at words of 32 bits. The walk of the reference's Of, at words of 64 bits. The reference's two sums, and the laws Sha256, Sha512. The walks of the reference's Secret, Public. The reference: Mod.
-/
import Derived.Test.YtabgihjffjlfiaaGreatDoorC8
import Derived.Deep.RegionHeld3
import Derived.Deep.AppendLies
import Derived.Deep.DrawnRows
import Derived.Handy
import Derived.Test.YtabgihjffjlfiaaGreatDoorC1
import Derived.Test.YtabgihjffjlfiaaGreatDoorC6
import Derived.Test.YtabgihjffjlfiaaGreatDoorC7
set_option linter.unusedVariables false
namespace Go.Proofs.YtabgihjffjlfiaaGreatDoor
namespace SR
open Go.RowKit Go.Sort Go.BigFrame
set_option maxRecDepth 100000
set_option maxHeartbeats 2000000
attribute [local go_sem ↓] Go.wp_at_zero Go.wp_at_succ
theorem block64 (gA cA gB cB gC cC gD cD gK cK : Nat) (vF : Value) (gs cs : Nat) (st : List Nat) (gb ob cb : Nat) (bs kk : List Nat) (w : World)
  (hst : st.length = 8) (hsl : ∀ j, st.getD j 0 < 18446744073709551616) (hcs : ∀ i, i < 8 → w.cell? ⟨gs, i, none⟩ = some (.int .u64 ((st.getD i 0 : Nat) : Int)))
  (hbl : bs.length = 128) (hb256 : ∀ j, bs.getD j 0 < 256) (hcb : 128 ≤ cb) (hc : BytesAt w gb ob bs)
  (kA : Row3 w gA 28 34 39) (kB : Row3 w gB 14 18 41) (kC : Row3 w gC 1 8 7) (kD : Row3 w gD 19 61 6)
  (hkk : ∀ i, i < 80 → w.cell? ⟨gK, i, none⟩ = some (.int .u64 ((kk.getD i 0 : Nat) : Int))) (hkb : ∀ j, kk.getD j 0 < 18446744073709551616) :
  Calls Tryz.prog 107 #[.agg #[.int .i64 64, .int .i64 80, .slice (some ⟨gA, 0, none⟩) 3 cA, .slice (some ⟨gB, 0, none⟩) 3 cB, .slice (some ⟨gC, 0, none⟩) 3 cC, .slice (some ⟨gD, 0, none⟩) 3 cD, .slice (some ⟨gK, 0, none⟩) 80 cK, vF], .slice (some ⟨gs, 0, none⟩) 8 cs, .slice (some ⟨gb, ob, none⟩) 128 cb] w fun e w' => ∃ v, e = .returned v ∧ ∃ base, w.heap.size ≤ base ∧ Below w.heap.size w w' ∧ w'.ownsRow base 55 1 v 8 (uv (List.zipWith (fun x y => (x + y) % 2 ^ 64) st (Rr sh64 kk (spr sh64 bs) (ofL st) 80).list)) := by
 have hlen : Hid (bs.length = 128) := hbl
 have hgbB : gb < w.heap.size := block_lt_of_cell (hc 0 (by omega))
 clear hbl
 have h39i : (Tryz.prog.info? 55).map (fun i => (i.zero, i.size, i.bytes)) = some (some (.int .u64 0), 1, 8) := by kernel_rfl
 obtain ⟨i0, hi, hz0, hz1, hz2⟩ := info_parts h39i
 obtain ⟨PW, hPW⟩ : ∃ x, x = P1 sh64 bs 128 := ⟨_, rfl⟩
 have hPl : PW.length = 80 := by rw [hPW]; exact P1_len _ _ _
 have hPw : ∀ t, t < 16 → PW.getD t 0 = wv 8 bs t 8 := fun t ht => by
  rw [hPW, P1_wv sh64 8 (by decide) rfl bs hb256 128 (by decide) t (by omega), show min (128 - t * 8) 8 = 8 by omega]
 have hPb : ∀ j, PW.getD j 0 < 18446744073709551616 := by rw [hPW]; exact P1_lt sh64 (by decide) bs hb256 _
 have HPW : Hid (PW = P1 sh64 bs 128) := hPW
 have HPl : Hid (PW.length = 80) := hPl
 clear hPW hPl
 obtain ⟨ql, hql⟩ : ∃ x, x = List.zipWith (fun x y => (x + y) % 2 ^ 64) st (Rr sh64 kk (spr sh64 bs) (ofL st) 80).list := ⟨_, rfl⟩
 have hqll : ql.length = 8 := by rw [hql, List.length_zipWith, hst]; rfl
 rw [← hql]
 have HQL : Hid (ql.length = 8) := hqll
 have HQD : Hid (ql = List.zipWith (fun x y => (x + y) % 2 ^ 64) st (Rr sh64 kk (spr sh64 bs) (ofL st) 80).list) := hql
 clear hql hqll
 have hR0 : RelB w #[.int .i64 64, .int .i64 80, .slice (some ⟨gA, 0, none⟩) 3 cA, .slice (some ⟨gB, 0, none⟩) 3 cB, .slice (some ⟨gC, 0, none⟩) 3 cC, .slice (some ⟨gD, 0, none⟩) 3 cD, .slice (some ⟨gK, 0, none⟩) 80 cK, vF] (w.alloc (.cells #[.int .i64 64, .int .i64 80, .slice (some ⟨gA, 0, none⟩) 3 cA, .slice (some ⟨gB, 0, none⟩) 3 cB, .slice (some ⟨gC, 0, none⟩) 3 cC, .slice (some ⟨gD, 0, none⟩) 3 cD, .slice (some ⟨gK, 0, none⟩) 80 cK, vF] 102)) := ⟨below1 _ _, heap_alloc_new _ _⟩
 go_enter Tryz.func107, Tryz.ntmps107
 go_wp2_with fail
 go_loopw [8, 7] (fun i v7 wr => ∃ t : Nat, t ≤ 16 ∧ i = .int .i64 (t : Int) ∧ RelB w #[.int .i64 64, .int .i64 80, .slice (some ⟨gA, 0, none⟩) 3 cA, .slice (some ⟨gB, 0, none⟩) 3 cB, .slice (some ⟨gC, 0, none⟩) 3 cC, .slice (some ⟨gD, 0, none⟩) 3 cD, .slice (some ⟨gK, 0, none⟩) 80 cK, vF] wr ∧ wr.ownsRow (w.heap.size + 1) 55 1 v7 t (uv (PW.take t))) (fun i _ _ => 16 - (intOf i).toNat)
 case atStart => exact ⟨0, by omega, rfl, hR0, World.ownsRow_nil _ _ _ _⟩
 case round =>
  obtain ⟨t, ht, rfl, hR, hown⟩ := hrel
  clear hR0
  have c0 := row_at hR.2 0 (.int .i64 64) rfl
  by_cases hlt : t < 16
  ·go_wp2_with fail
   go_loop [10, 9] (fun i v => ∃ k : Nat, k ≤ 8 ∧ i = .int .i64 (k : Int) ∧ v = .int .u64 ((wv 8 bs t k : Nat) : Int)) (fun i _ => 8 - (intOf i).toNat)
   case atStart => exact ⟨0, by omega, rfl, rfl⟩
   case round =>
    obtain ⟨k, hk, rfl, rfl⟩ := hrel
    by_cases hlt2 : k < 8
    ·have hwl : wv 8 bs t k < 72057594037927936 := Nat.lt_of_lt_of_le (wv_lt 8 bs hb256 t k) (Nat.pow_le_pow_right (show 0 < 256 by decide) (show k ≤ 7 by omega))
     have hbb := hb256 (t * 8 + k)
     have HW : Hid (wv 8 bs t (k + 1) = wv 8 bs t k * 256 + bs.getD (t * 8 + k) 0) := rfl
     obtain ⟨y, hy⟩ : ∃ y, y = wv 8 bs t k := ⟨_, rfl⟩
     obtain ⟨Hbv, hbv⟩ : ∃ y, y = bs.getD (t * 8 + k) 0 := ⟨_, rfl⟩
     have c1 : wr.cell? ⟨gb, ob + (t * 64 / 8 + k), none⟩ = some (.int .u8 (Hbv : Int)) := by
      rw [hbv, show t * 64 / 8 + k = t * 8 + k by omega]
      exact (hR.1.cell (p := ⟨gb, _, none⟩) hgbB).trans (hc _ (by rw [hlen.out]; omega))
     rw [← hy, ← hbv] at HW
     rw [← hy] at hwl ⊢
     rw [← hbv] at hbb
     clear hy hbv
     go_wp2_with fail
     go_round
     case rel => exact ⟨k + 1, by omega, by go_num, by rw [HW.out]; go_num⟩
     case measure => simp [intOf]; omega
    ·obtain rfl : k = 8 := by omega
     obtain ⟨y, hy⟩ : ∃ y, y = wv 8 bs t 8 := ⟨_, rfl⟩
     rw [← hy]
     have HY : Hid (PW.getD t 0 = y) := by rw [hy]; exact hPw t hlt
     clear hy
     have hsz := hR.1.size
     have hwB : w.heap.size + 1 ≤ wr.heap.size := lt_of_heap hR.2
     go_wp2_with (at_builtin; refine wpList_append_own _ rfl (.tmp 47) (.tmp 49) 100 rfl (w.heap.size + 1) 55 i0 (.int .u64 0) 1 8 Tryz.underlying100 hi hz0 hz1 hz2 rfl (by decide) _ _ _ rfl (hown.alloc _) ⟨wr.heap.size, 0, none⟩ 1 1 [.int .u64 (y : Int)] rfl rfl (Hnews_one _ _ _) one_word (by unfold maxLen; omega) (by omega) (by simp; omega) ?_; intro v' w1 hown' hgrow _)
     have hlt1 := hown.lt
     have HE : Hid (uv (PW.take t) ++ [.int .u64 (y : Int)] = uv (PW.take (t + 1))) := by
      show uv (PW.take t) ++ [.int .u64 (y : Int)] = uv (PW.take (t + 1))
      rw [take_snoc' (by rw [HPl.out]; omega), HY.out]; simp [uv]
     rw [HE.out] at hown'
     have hRn := hR.grown _ hgrow (fun k hk => by have := (hlt1 k hk).1; omega)
     clear hown hgrow hR c0 hlt1
     go_roundw
     case rel => first | exact ⟨t + 1, by omega, by go_num, hRn, hown'⟩ | ((repeat apply Exists.intro); exact ⟨⟨t + 1, by omega, by go_num, hRn, hown'⟩, rfl⟩)
     case measure => simp [intOf]; omega
  ·obtain rfl : t = 16 := by omega
   obtain ⟨g, cap, rfl, hgb, hgc⟩ := own_form hown (by omega)
   go_wp2_with fail
   go_loopw [11, 7] (fun i v7 wr => ∃ t : Nat, 16 ≤ t ∧ t ≤ 80 ∧ i = .int .i64 (t : Int) ∧ RelB w #[.int .i64 64, .int .i64 80, .slice (some ⟨gA, 0, none⟩) 3 cA, .slice (some ⟨gB, 0, none⟩) 3 cB, .slice (some ⟨gC, 0, none⟩) 3 cC, .slice (some ⟨gD, 0, none⟩) 3 cD, .slice (some ⟨gK, 0, none⟩) 80 cK, vF] wr ∧ ∃ g cap : Nat, v7 = .slice (some ⟨g, 0, none⟩) t cap ∧ wr.ownsRow (w.heap.size + 1) 55 1 (.slice (some ⟨g, 0, none⟩) t cap) t (uv ((P2 sh64 PW (t - 16)).take t))) (fun i _ _ => 80 - (intOf i).toNat)
   case atStart => exact ⟨16, by omega, by omega, rfl, hR, g, cap, rfl, hown⟩
   case round =>
    obtain ⟨t, ht16, ht, rfl, hR, g, cap, rfl, hown⟩ := hrel
    clear c0 hgb hgc
    have c1 := row_at hR.2 1 (.int .i64 80) rfl
    by_cases hlt : t < 80
    ·obtain ⟨ws, hws⟩ : ∃ x, x = P2 sh64 PW (t - 16) := ⟨_, rfl⟩
     rw [← hws] at hown
     have hwl : ws.length = 80 := by rw [hws]; exact P2_len _ _ HPl.out _
     have hwt : ∀ j, ws.getD j 0 < 18446744073709551616 := by rw [hws]; exact P2_lt sh64 _ hPb _
     have HS : Hid (P2 sh64 PW (t + 1 - 16) = put2 sh64 ws t) := by
      rw [hws, show t + 1 - 16 = (t - 16) + 1 by omega]; show put2 _ _ (16 + (t - 16)) = _; rw [show 16 + (t - 16) = t by omega]
     obtain ⟨x2, hx2⟩ : ∃ x, x = ws.getD (t - 2) 0 := ⟨_, rfl⟩
     obtain ⟨x15, hx15⟩ : ∃ x, x = ws.getD (t - 15) 0 := ⟨_, rfl⟩
     obtain ⟨x16, hx16⟩ : ∃ x, x = ws.getD (t - 16) 0 := ⟨_, rfl⟩
     obtain ⟨x7, hx7⟩ : ∃ x, x = ws.getD (t - 7) 0 := ⟨_, rfl⟩
     obtain ⟨s1, hs1⟩ : ∃ x, x = ts 64 x15 1 8 7 := ⟨_, rfl⟩
     obtain ⟨s2, hs2⟩ : ∃ x, x = ts 64 x2 19 61 6 := ⟨_, rfl⟩
     have HT : Hid (put2 sh64 ws t = ws.set t ((x16 + s1 + x7 + s2) % 2 ^ 64)) := by rw [hs1, hs2, hx2, hx15, hx16, hx7]; rfl
     have l2 : x2 < 18446744073709551616 := by rw [hx2]; exact hwt _
     have l15 : x15 < 18446744073709551616 := by rw [hx15]; exact hwt _
     have l16 : x16 < 18446744073709551616 := by rw [hx16]; exact hwt _
     have l7 : x7 < 18446744073709551616 := by rw [hx7]; exact hwt _
     have b1 : s1 < 18446744073709551616 := by rw [hs1]; exact ts_lt (W := 64) l15
     have b2 : s2 < 18446744073709551616 := by rw [hs2]; exact ts_lt (W := 64) l2
     have d2 := own_word hown (t - 2) (by omega) x2 (by rw [hx2]; simp [show t - 2 < t by omega, hwl, show t - 2 < 80 by omega])
     have d15 := own_word hown (t - 15) (by omega) x15 (by rw [hx15]; simp [show t - 15 < t by omega, hwl, show t - 15 < 80 by omega])
     have d16 := own_word hown (t - 16) (by omega) x16 (by rw [hx16]; simp [show t - 16 < t by omega, hwl, show t - 16 < 80 by omega])
     have d7 := own_word hown (t - 7) (by omega) x7 (by rw [hx7]; simp [show t - 7 < t by omega, hwl, show t - 7 < 80 by omega])
     have HWL : Hid (ws.length = 80) := hwl
     have HS1 : Hid (s1 = ts 64 x15 1 8 7) := hs1
     have HS2 : Hid (s2 = ts 64 x2 19 61 6) := hs2
     clear hws hwl hwt hx2 hx15 hx16 hx7 hs1 hs2
     go_wp2_with fail
     clear c1
     obtain ⟨vv, hvv⟩ : ∃ x, x = (x16 + s1 + x7 + s2) % 18446744073709551616 := ⟨_, rfl⟩
     have hsum : IntKind.u64.wrap (IntKind.u64.wrap (IntKind.u64.wrap ((x16 : Int) + (s1 : Int)) + (x7 : Int)) + (s2 : Int)) = (vv : Int) := by rw [hvv]; simp only [IntKind.wrap_u64]; omega
     have bvv : vv < 18446744073709551616 := by rw [hvv]; omega
     have HNW : Hid (vv = (x16 + s1 + x7 + s2) % 2 ^ 64) := by show _ = _; rw [hvv]
     clear hvv
     have rC := (kC.below hR.1)
     have rD := (kD.below hR.1)
     have q2 := cell_regrown d2
     have q15 := cell_regrown d15
     have q16 := cell_regrown d16
     have q7' := cell_regrown d7
     have q0 := cell_regrown (row_at hR.2 0 (.int .i64 64) rfl)
     have q1 := cell_regrown (row_at hR.2 1 (.int .i64 80) rfl)
     have q2 := cell_regrown (row_at hR.2 2 (.slice (some ⟨gA, 0, none⟩) 3 cA) rfl)
     have q3 := cell_regrown (row_at hR.2 3 (.slice (some ⟨gB, 0, none⟩) 3 cB) rfl)
     have q4 := cell_regrown (row_at hR.2 4 (.slice (some ⟨gC, 0, none⟩) 3 cC) rfl)
     have q5 := cell_regrown (row_at hR.2 5 (.slice (some ⟨gD, 0, none⟩) 3 cD) rfl)
     have q6 := cell_regrown (row_at hR.2 6 (.slice (some ⟨gK, 0, none⟩) 80 cK) rfl)
     have q7 := cell_regrown (row_at hR.2 7 vF rfl)
     have cQ1 : ∀ d os, Calls Tryz.prog 117 #[.agg #[.int .i64 64, .int .i64 80, .slice (some ⟨gA, 0, none⟩) 3 cA, .slice (some ⟨gB, 0, none⟩) 3 cB, .slice (some ⟨gC, 0, none⟩) 3 cC, .slice (some ⟨gD, 0, none⟩) 3 cD, .slice (some ⟨gK, 0, none⟩) 80 cK, vF], .int .u64 (x15 : Int), .slice (some ⟨gC, 0, none⟩) 3 cC, .bool true] (grow (redrawn wr d) os) fun e w'' => e = .returned (.int .u64 (s1 : Int)) ∧ ∃ p : Regrown, w'' = grow (redrawn wr p.d) p.os := fun d os => by
      have r := rC.below (below_regrown wr d os)
      rw [HS1.out]; exact Calls.regrown_of (mixed64s _ _ _ _ _ _ x15 gC cC _ _ _ _ l15 (by decide) (by decide) (by decide) r.a r.b r.c)
     have cQ2 : ∀ d os, Calls Tryz.prog 117 #[.agg #[.int .i64 64, .int .i64 80, .slice (some ⟨gA, 0, none⟩) 3 cA, .slice (some ⟨gB, 0, none⟩) 3 cB, .slice (some ⟨gC, 0, none⟩) 3 cC, .slice (some ⟨gD, 0, none⟩) 3 cD, .slice (some ⟨gK, 0, none⟩) 80 cK, vF], .int .u64 (x2 : Int), .slice (some ⟨gD, 0, none⟩) 3 cD, .bool true] (grow (redrawn wr d) os) fun e w'' => e = .returned (.int .u64 (s2 : Int)) ∧ ∃ p : Regrown, w'' = grow (redrawn wr p.d) p.os := fun d os => by
      have r := rD.below (below_regrown wr d os)
      rw [HS2.out]; exact Calls.regrown_of (mixed64s _ _ _ _ _ _ x2 gD cD _ _ _ _ l2 (by decide) (by decide) (by decide) r.a r.b r.c)
     refine wp_region_quiet_below (by kernel_rfl) (by kernel_rfl) ?_
     iterate 13 (go_big_quiet_step (fail))
     go_big_quiet_step (exact cQ1 _ _)
     iterate 15 (go_big_quiet_step (fail))
     go_big_quiet_step (exact cQ2 _ _)
     repeat (go_big_quiet_step (fail))
     refine wpQuiet_nil ?_
     intro w1 hw'
     have hb1 : Below wr.heap.size wr w1 := by obtain ⟨p, rfl⟩ := hw'; exact below_regrown _ _ _
     have hR1 := hR.on hb1
     have hown1 := own_on hown hb1
     clear hw' q0 q1 q2 q3 q4 q5 q6 q7 q15 q16 q7' d2 d15 d16 d7 rC rD cQ1 cQ2 hb1 hR hown
     have q0 := row_at hR1.2 0 (.int .i64 64) rfl
     have q1 := row_at hR1.2 1 (.int .i64 80) rfl
     have q2 := row_at hR1.2 2 (.slice (some ⟨gA, 0, none⟩) 3 cA) rfl
     have q3 := row_at hR1.2 3 (.slice (some ⟨gB, 0, none⟩) 3 cB) rfl
     have q4 := row_at hR1.2 4 (.slice (some ⟨gC, 0, none⟩) 3 cC) rfl
     have q5 := row_at hR1.2 5 (.slice (some ⟨gD, 0, none⟩) 3 cD) rfl
     have q6 := row_at hR1.2 6 (.slice (some ⟨gK, 0, none⟩) 80 cK) rfl
     have q7 := row_at hR1.2 7 vF rfl
     obtain ⟨nw, hnw⟩ : ∃ x, x = (x16 + s1 + x7 + s2) % 2 ^ 64 := ⟨_, rfl⟩
     have hlow : Calls Tryz.prog 118 #[.agg #[.int .i64 64, .int .i64 80, .slice (some ⟨gA, 0, none⟩) 3 cA, .slice (some ⟨gB, 0, none⟩) 3 cB, .slice (some ⟨gC, 0, none⟩) 3 cC, .slice (some ⟨gD, 0, none⟩) 3 cD, .slice (some ⟨gK, 0, none⟩) 80 cK, vF], .int .u64 (vv : Int)] w1 fun e w' => e = .returned (.int .u64 (nw : Int)) ∧ Below w1.heap.size w1 w' := by
      rw [hnw, ← HNW.out]; exact lowH64 (.slice (some ⟨gA, 0, none⟩) 3 cA) (.slice (some ⟨gB, 0, none⟩) 3 cB) (.slice (some ⟨gC, 0, none⟩) 3 cC) (.slice (some ⟨gD, 0, none⟩) 3 cD) (.slice (some ⟨gK, 0, none⟩) 80 cK) vF vv w1 bvv
     rw [← hnw] at HT
     clear hnw HNW hsum
     go_wp2_with fail
     refine hlow.mono ?_
     rintro e w2 ⟨rfl, hb2⟩
     have hR2 := hR1.on hb2
     have hown2 := own_on hown1 hb2
     have hwB : w.heap.size + 1 ≤ w2.heap.size := lt_of_heap hR2.2
     clear hlow hb2 hR1 hown1 q0 q1 q2 q3 q4 q5 q6 q7
     go_wp2_with (at_builtin; refine wpList_append_own _ rfl (.tmp 88) (.tmp 92) 100 rfl (w.heap.size + 1) 55 i0 (.int .u64 0) 1 8 Tryz.underlying100 hi hz0 hz1 hz2 rfl (by decide) _ _ _ rfl (hown2.alloc _) ⟨w2.heap.size, 0, none⟩ 1 1 [.int .u64 (nw : Int)] rfl rfl (Hnews_one _ _ _) one_word (by unfold maxLen; omega) (by omega) (by simp; omega) ?_; intro v' w3 hown' hgrow _)
     have hlt1 := hown2.lt
     have HE : Hid (uv (ws.take t) ++ [.int .u64 (nw : Int)] = uv ((P2 sh64 PW (t + 1 - 16)).take (t + 1))) := by
      show uv (ws.take t) ++ [.int .u64 (nw : Int)] = uv ((P2 sh64 PW (t + 1 - 16)).take (t + 1))
      rw [HS.out, HT.out, take_set (by rw [HWL.out]; omega)]; simp [uv]
     rw [HE.out] at hown'
     have hRn := hR2.grown _ hgrow (fun k hk => by have := (hlt1 k hk).1; omega)
     obtain ⟨g', cap', rfl, _, _⟩ := own_form hown' (by omega)
     clear hown2 hgrow hR2 hlt1
     go_roundw
     case rel => first | exact ⟨t + 1, by omega, by omega, by go_num, hRn, g', cap', rfl, hown'⟩ | ((repeat apply Exists.intro); exact ⟨⟨t + 1, by omega, by omega, by go_num, hRn, g', cap', rfl, hown'⟩, rfl⟩)
     case measure => simp [intOf]; omega
    ·obtain rfl : t = 80 := by omega
     have hSP : P2 sh64 PW (80 - 16) = spr sh64 bs := by rw [HPW.out]; rfl
     rw [hSP] at hown
     clear hSP
     have hrs : ∀ i, i < 8 → wr.cell? ⟨gs, i, none⟩ = some (.int .u64 ((st.getD i 0 : Nat) : Int)) := fun i hi => (hR.1.cell (p := ⟨gs, i, none⟩) (block_lt_of_cell (a := ⟨gs, 0, none⟩) (hcs 0 (by omega)))).trans (hcs i hi)
     have hnews := news_words st hst hrs
     have hwB : w.heap.size + 1 ≤ wr.heap.size := lt_of_heap hR.2
     have huvl : (uv st).length = 8 * 1 := by simp [uv, hst]
     have hrs' : Hid (∀ i, i < 8 → wr.cell? ⟨gs, i, none⟩ = some (.int .u64 ((st.getD i 0 : Nat) : Int))) := hrs
     clear hrs
     go_wp2_with (at_builtin; refine wpList_append_own _ rfl (.tmp 94) (.tmp 95) 100 rfl (w.heap.size + 1) 55 i0 (.int .u64 0) 1 8 Tryz.underlying100 hi hz0 hz1 hz2 rfl (by decide) (.slice none 0 0) 0 [] rfl (World.ownsRow_nil _ _ _ _) ⟨gs, 0, none⟩ 8 cs (uv st) rfl huvl hnews uv_one (by unfold maxLen; omega) (by omega) hwB ?_; intro v' w1 hown' hgrow _)
     clear c1 hnews
     simp only [List.nil_append, Nat.zero_add] at hown'
     obtain ⟨gr, cr, rfl, hgr, hcr⟩ := own_form hown' (by omega)
     have hR1 : RelB w #[.int .i64 64, .int .i64 80, .slice (some ⟨gA, 0, none⟩) 3 cA, .slice (some ⟨gB, 0, none⟩) 3 cB, .slice (some ⟨gC, 0, none⟩) 3 cC, .slice (some ⟨gD, 0, none⟩) 3 cD, .slice (some ⟨gK, 0, none⟩) 80 cK, vF] w1 := ⟨hR.1.grown hgrow hR.1.size (by intro k hk; cases hk), (hgrow.block _ (lt_of_heap hR.2) (by simp [Value.ownBlock])).trans hR.2⟩
     have hwd1 : Words w1 g 80 (spr sh64 bs) := words_of (hown.kept hgrow (.inr (by simp [Value.ownBlock]))) (by rw [spr_len]; omega)
     have hrr1 : Words w1 gr 8 (ofL st).list := by
      have := words_of8 hown' hst
      exact this
     clear hgrow hown' hR hown huvl
     go_loopw [14, 13] (fun i v13 wr => ∃ t : Nat, t ≤ 80 ∧ i = .int .i64 (t : Int) ∧ RelB w #[.int .i64 64, .int .i64 80, .slice (some ⟨gA, 0, none⟩) 3 cA, .slice (some ⟨gB, 0, none⟩) 3 cB, .slice (some ⟨gC, 0, none⟩) 3 cC, .slice (some ⟨gD, 0, none⟩) 3 cD, .slice (some ⟨gK, 0, none⟩) 80 cK, vF] wr ∧ Words wr g 80 (spr sh64 bs) ∧ ∃ gr cr : Nat, ∃ q : S8, v13 = .slice (some ⟨gr, 0, none⟩) 8 cr ∧ q = Rr sh64 kk (spr sh64 bs) (ofL st) t ∧ Words wr gr 8 q.list) (fun i _ _ => 80 - (intOf i).toNat)
     case atStart => exact ⟨0, by omega, rfl, hR1, hwd1, gr, cr, _, rfl, rfl, hrr1⟩
     case round =>
      clear hR1 hwd1 hrr1 hgr hcr
      obtain ⟨t, ht, rfl, hR, hwd, gr, cr, ⟨r0, r1, r2, r3, r4, r5, r6, r7⟩, rfl, hq, hrr⟩ := hrel
      have HQ : Hid ((⟨r0, r1, r2, r3, r4, r5, r6, r7⟩ : S8) = Rr sh64 kk (spr sh64 bs) (ofL st) t) := hq
      clear hq
      have c1 := row_at hR.2 1 (.int .i64 80) rfl
      by_cases hlt : t < 80
      ·obtain ⟨b0, b1, b2, b3, b4, b5, b6, b7⟩ : S8.lt ⟨r0, r1, r2, r3, r4, r5, r6, r7⟩ 18446744073709551616 := by rw [HQ.out]; exact Rr_lt sh64 _ _ _ (ofL_lt st 18446744073709551616 hsl) t
       obtain ⟨kt, hkt⟩ : ∃ x, x = kk.getD t 0 := ⟨_, rfl⟩
       obtain ⟨wt, hwt⟩ : ∃ x, x = (spr sh64 bs).getD t 0 := ⟨_, rfl⟩
       obtain ⟨sB, hsB⟩ : ∃ x, x = tn 64 r4 14 18 41 := ⟨_, rfl⟩
       obtain ⟨sA, hsA⟩ : ∃ x, x = tn 64 r0 28 34 39 := ⟨_, rfl⟩
       obtain ⟨ch, hch⟩ : ∃ x, x = (r4 &&& r5) ^^^ ((2 ^ 64 - 1 - r4) &&& r6) := ⟨_, rfl⟩
       obtain ⟨mj, hmj⟩ : ∃ x, x = (r0 &&& r1) ^^^ (r0 &&& r2) ^^^ (r1 &&& r2) := ⟨_, rfl⟩
       obtain ⟨xx, hxx⟩ : ∃ x, x = (r7 + sB + ch + kt + wt) % 2 ^ 64 := ⟨_, rfl⟩
       obtain ⟨yy, hyy⟩ : ∃ x, x = (sA + mj) % 2 ^ 64 := ⟨_, rfl⟩
       have HB : Hid (Rr sh64 kk (spr sh64 bs) (ofL st) (t + 1) = ⟨(xx + yy) % 2 ^ 64, r0, r1, r2, (r3 + xx) % 2 ^ 64, r4, r5, r6⟩) := by
        show Rr sh64 kk (spr sh64 bs) (ofL st) (t + 1) = _
        rw [Rr, ← HQ.out, hyy, hxx, hsA, hsB, hch, hmj, hkt, hwt]; rfl
       have hbk : kt < 18446744073709551616 := by rw [hkt]; exact hkb t
       have hbw : wt < 18446744073709551616 := by rw [hwt]; exact spr_lt sh64 (by decide) bs hb256 t
       have hbB : sB < 18446744073709551616 := by rw [hsB]; exact tn_lt (W := 64) b4
       have hbA : sA < 18446744073709551616 := by rw [hsA]; exact tn_lt (W := 64) b0
       have hbc : ch < 18446744073709551616 := by rw [hch]; exact Nat.xor_lt_two_pow (n := 64) (Nat.and_lt_two_pow _ b5) (Nat.and_lt_two_pow _ b6)
       have hbm : mj < 18446744073709551616 := by rw [hmj]; exact Nat.xor_lt_two_pow (n := 64) (Nat.xor_lt_two_pow (Nat.and_lt_two_pow _ b1) (Nat.and_lt_two_pow _ b2)) (Nat.and_lt_two_pow _ b2)
       have hbx : xx < 18446744073709551616 := by rw [hxx]; exact Nat.mod_lt _ (by decide)
       have hby : yy < 18446744073709551616 := by rw [hyy]; exact Nat.mod_lt _ (by decide)
       have HX : Hid (xx = (r7 + sB + ch + kt + wt) % 2 ^ 64) := hxx
       have HY : Hid (yy = (sA + mj) % 2 ^ 64) := hyy
       have HSB : Hid (sB = tn 64 r4 14 18 41) := hsB
       have HSA : Hid (sA = tn 64 r0 28 34 39) := hsA
       have HCH : Hid (ch = (r4 &&& r5) ^^^ ((2 ^ 64 - 1 - r4) &&& r6)) := hch
       have HMJ : Hid (mj = (r0 &&& r1) ^^^ (r0 &&& r2) ^^^ (r1 &&& r2)) := hmj
       have dK : wr.cell? ⟨gK, t, none⟩ = some (.int .u64 (kt : Int)) := by rw [hkt]; exact (hR.1.cell (p := ⟨gK, t, none⟩) (block_lt_of_cell (a := ⟨gK, 0, none⟩) (hkk 0 (by omega)))).trans (hkk t hlt)
       have dW : wr.cell? ⟨g, t, none⟩ = some (.int .u64 (wt : Int)) := by rw [hwt]; exact hwd t hlt
       clear hkt hwt hsA hsB hch hmj hxx hyy
       have e4 : _ = some (Value.int .u64 (r4 : Int)) := hrr 4 (by omega)
       have e0 : _ = some (Value.int .u64 (r0 : Int)) := hrr 0 (by omega)
       have q0 := row_at hR.2 0 (.int .i64 64) rfl
       have q1 := row_at hR.2 1 (.int .i64 80) rfl
       have q2 := row_at hR.2 2 (.slice (some ⟨gA, 0, none⟩) 3 cA) rfl
       have q3 := row_at hR.2 3 (.slice (some ⟨gB, 0, none⟩) 3 cB) rfl
       have q4 := row_at hR.2 4 (.slice (some ⟨gC, 0, none⟩) 3 cC) rfl
       have q5 := row_at hR.2 5 (.slice (some ⟨gD, 0, none⟩) 3 cD) rfl
       have q6 := row_at hR.2 6 (.slice (some ⟨gK, 0, none⟩) 80 cK) rfl
       have q7 := row_at hR.2 7 vF rfl
       have hon : Calls Tryz.prog 118 #[.agg #[.int .i64 64, .int .i64 80, .slice (some ⟨gA, 0, none⟩) 3 cA, .slice (some ⟨gB, 0, none⟩) 3 cB, .slice (some ⟨gC, 0, none⟩) 3 cC, .slice (some ⟨gD, 0, none⟩) 3 cD, .slice (some ⟨gK, 0, none⟩) 80 cK, vF], .int .u64 18446744073709551615] wr fun e w' => e = .returned (.int .u64 18446744073709551615) ∧ Below wr.heap.size wr w' := lowH64 (.slice (some ⟨gA, 0, none⟩) 3 cA) (.slice (some ⟨gB, 0, none⟩) 3 cB) (.slice (some ⟨gC, 0, none⟩) 3 cC) (.slice (some ⟨gD, 0, none⟩) 3 cD) (.slice (some ⟨gK, 0, none⟩) 80 cK) vF 18446744073709551615 wr (by omega)
       go_wp2_with fail
       refine hon.mono ?_
       rintro e w1 ⟨rfl, hb1⟩
       have hR1 := hR.on hb1
       have hrr1 := hrr.on hb1
       have hwd1 := hwd.on hb1
       have cK1 := (hb1.cell (p := ⟨gK, t, none⟩) (block_lt_of_cell (a := ⟨gK, t, none⟩) dK)).trans dK
       have cW1 := (hb1.cell (p := ⟨g, t, none⟩) (block_lt_of_cell (a := ⟨g, t, none⟩) dW)).trans dW
       clear hon hb1 hR hrr hwd dK dW e0 e4 q0 q1 q2 q3 q4 q5 q6 q7 c1
       go_wp2_with fail
       obtain ⟨a1, ha1⟩ : ∃ x, x = r4 &&& r5 := ⟨_, rfl⟩
       obtain ⟨a2, ha2⟩ : ∃ x, x = 2 ^ 64 - 1 - r4 := ⟨_, rfl⟩
       obtain ⟨a3, ha3⟩ : ∃ x, x = a2 &&& r6 := ⟨_, rfl⟩
       have ba1 : a1 < 18446744073709551616 := by rw [ha1]; exact Nat.and_lt_two_pow (n := 64) _ b5
       have ba2 : a2 < 18446744073709551616 := by rw [ha2]; omega
       have ba3 : a3 < 18446744073709551616 := by rw [ha3]; exact Nat.and_lt_two_pow (n := 64) _ b6
       have z1 : bits .and .u64 (r4 : Int) (r5 : Int) = (a1 : Int) := by rw [ha1]; exact u64_and_nat _ _ (by omega) (by omega)
       have z2 : bits .xor .u64 18446744073709551615 (r4 : Int) = (a2 : Int) := by rw [ha2]; exact ones64 r4 b4
       have z3 : bits .and .u64 (a2 : Int) (r6 : Int) = (a3 : Int) := by rw [ha3]; exact u64_and_nat _ _ (by omega) (by omega)
       have z4 : bits .xor .u64 (a1 : Int) (a3 : Int) = (ch : Int) := by rw [HCH.out, ← ha2, ← ha1, ← ha3]; exact u64_xor_nat _ _ (by omega) (by omega)
       clear ha1 ha2 ha3
       obtain ⟨v5, hv5⟩ : ∃ x, x = (r7 + sB + ch + kt + wt) % 18446744073709551616 := ⟨_, rfl⟩
       have hs5 : IntKind.u64.wrap (IntKind.u64.wrap (IntKind.u64.wrap (IntKind.u64.wrap ((r7 : Int) + (sB : Int)) + (ch : Int)) + (kt : Int)) + (wt : Int)) = (v5 : Int) := by rw [hv5]; simp only [IntKind.wrap_u64]; omega
       have bv5 : v5 < 18446744073709551616 := by rw [hv5]; omega
       have hlx : Hid (v5 = xx) := by show _ = _; rw [HX.out, hv5]
       clear hv5
       have q0 := cell_regrown (row_at hR1.2 0 (.int .i64 64) rfl)
       have q1 := cell_regrown (row_at hR1.2 1 (.int .i64 80) rfl)
       have q2 := cell_regrown (row_at hR1.2 2 (.slice (some ⟨gA, 0, none⟩) 3 cA) rfl)
       have q3 := cell_regrown (row_at hR1.2 3 (.slice (some ⟨gB, 0, none⟩) 3 cB) rfl)
       have q4 := cell_regrown (row_at hR1.2 4 (.slice (some ⟨gC, 0, none⟩) 3 cC) rfl)
       have q5 := cell_regrown (row_at hR1.2 5 (.slice (some ⟨gD, 0, none⟩) 3 cD) rfl)
       have q6 := cell_regrown (row_at hR1.2 6 (.slice (some ⟨gK, 0, none⟩) 80 cK) rfl)
       have q7 := cell_regrown (row_at hR1.2 7 vF rfl)
       have e5 := cell_regrown (show (_ : World).cell? ⟨gr, 5, none⟩ = some (.int .u64 (r5 : Int)) from hrr1 5 (by omega))
       have e6 := cell_regrown (show (_ : World).cell? ⟨gr, 6, none⟩ = some (.int .u64 (r6 : Int)) from hrr1 6 (by omega))
       have e7 := cell_regrown (show (_ : World).cell? ⟨gr, 7, none⟩ = some (.int .u64 (r7 : Int)) from hrr1 7 (by omega))
       have k1 := cell_regrown cK1
       have k2 := cell_regrown cW1
       have rB := kB.below hR1.1
       have cQ1 : ∀ d os, Calls Tryz.prog 117 #[.agg #[.int .i64 64, .int .i64 80, .slice (some ⟨gA, 0, none⟩) 3 cA, .slice (some ⟨gB, 0, none⟩) 3 cB, .slice (some ⟨gC, 0, none⟩) 3 cC, .slice (some ⟨gD, 0, none⟩) 3 cD, .slice (some ⟨gK, 0, none⟩) 80 cK, vF], .int .u64 (r4 : Int), .slice (some ⟨gB, 0, none⟩) 3 cB, .bool false] (grow (redrawn w1 d) os) fun e w'' => e = .returned (.int .u64 (sB : Int)) ∧ ∃ p : Regrown, w'' = grow (redrawn w1 p.d) p.os := fun d os => by
        have r := rB.below (below_regrown w1 d os)
        rw [HSB.out]; exact Calls.regrown_of (mixed64n _ _ _ _ _ _ r4 gB cB _ _ _ _ b4 (by decide) (by decide) (by decide) r.a r.b r.c)
       have cQ2 : ∀ d os, Calls Tryz.prog 118 #[.agg #[.int .i64 64, .int .i64 80, .slice (some ⟨gA, 0, none⟩) 3 cA, .slice (some ⟨gB, 0, none⟩) 3 cB, .slice (some ⟨gC, 0, none⟩) 3 cC, .slice (some ⟨gD, 0, none⟩) 3 cD, .slice (some ⟨gK, 0, none⟩) 80 cK, vF], .int .u64 (v5 : Int)] (grow (redrawn w1 d) os) fun e w'' => e = .returned (.int .u64 (xx : Int)) ∧ ∃ p : Regrown, w'' = grow (redrawn w1 p.d) p.os := fun d os => by
        rw [← hlx.out]; exact Calls.regrown_of (lowH64 _ _ _ _ _ _ v5 _ bv5)
       refine wp_region_quiet_below (by kernel_rfl) (by kernel_rfl) ?_
       iterate 8 (go_big_quiet_step (fail))
       go_big_quiet_step (exact cQ1 _ _)
       iterate 26 (go_big_quiet_step (fail))
       go_big_quiet_step (exact cQ2 _ _)
       repeat (go_big_quiet_step (fail))
       refine wpQuiet_nil ?_
       intro w2 hw'
       have hb2 : Below w1.heap.size w1 w2 := by obtain ⟨p, rfl⟩ := hw'; exact below_regrown _ _ _
       have hR2 := hR1.on hb2
       have hrr2 := hrr1.on hb2
       have hwd2 := hwd1.on hb2
       clear hw' hb2 hR1 hrr1 hwd1 cK1 cW1 q0 q1 q2 q3 q4 q5 q6 q7 e5 e6 e7 k1 k2 rB cQ1 cQ2 z1 z2 z3 z4 hs5 ba1 ba2 ba3 hlx bv5
       go_wp2_with fail
       obtain ⟨a1, ha1⟩ : ∃ x, x = r0 &&& r1 := ⟨_, rfl⟩
       obtain ⟨a2, ha2⟩ : ∃ x, x = r0 &&& r2 := ⟨_, rfl⟩
       obtain ⟨a3, ha3⟩ : ∃ x, x = a1 ^^^ a2 := ⟨_, rfl⟩
       obtain ⟨a4, ha4⟩ : ∃ x, x = r1 &&& r2 := ⟨_, rfl⟩
       have ba1 : a1 < 18446744073709551616 := by rw [ha1]; exact Nat.and_lt_two_pow (n := 64) _ b1
       have ba2 : a2 < 18446744073709551616 := by rw [ha2]; exact Nat.and_lt_two_pow (n := 64) _ b2
       have ba3 : a3 < 18446744073709551616 := by rw [ha3]; exact Nat.xor_lt_two_pow (n := 64) ba1 ba2
       have ba4 : a4 < 18446744073709551616 := by rw [ha4]; exact Nat.and_lt_two_pow (n := 64) _ b2
       have z1 : bits .and .u64 (r0 : Int) (r1 : Int) = (a1 : Int) := by rw [ha1]; exact u64_and_nat _ _ (by omega) (by omega)
       have z2 : bits .and .u64 (r0 : Int) (r2 : Int) = (a2 : Int) := by rw [ha2]; exact u64_and_nat _ _ (by omega) (by omega)
       have z3 : bits .xor .u64 (a1 : Int) (a2 : Int) = (a3 : Int) := by rw [ha3]; exact u64_xor_nat _ _ (by omega) (by omega)
       have z4 : bits .and .u64 (r1 : Int) (r2 : Int) = (a4 : Int) := by rw [ha4]; exact u64_and_nat _ _ (by omega) (by omega)
       have z5 : bits .xor .u64 (a3 : Int) (a4 : Int) = (mj : Int) := by rw [HMJ.out, ← ha1, ← ha2, ← ha3, ← ha4]; exact u64_xor_nat _ _ (by omega) (by omega)
       clear ha1 ha2 ha3 ha4
       obtain ⟨v2, hv2⟩ : ∃ x, x = (sA + mj) % 18446744073709551616 := ⟨_, rfl⟩
       have hs2 : IntKind.u64.wrap ((sA : Int) + (mj : Int)) = (v2 : Int) := by rw [hv2]; simp only [IntKind.wrap_u64]; omega
       have bv2 : v2 < 18446744073709551616 := by rw [hv2]; omega
       have hlx : Hid (v2 = yy) := by show _ = _; rw [HY.out, hv2]
       clear hv2
       have q0 := cell_regrown (row_at hR2.2 0 (.int .i64 64) rfl)
       have q1 := cell_regrown (row_at hR2.2 1 (.int .i64 80) rfl)
       have q2 := cell_regrown (row_at hR2.2 2 (.slice (some ⟨gA, 0, none⟩) 3 cA) rfl)
       have q3 := cell_regrown (row_at hR2.2 3 (.slice (some ⟨gB, 0, none⟩) 3 cB) rfl)
       have q4 := cell_regrown (row_at hR2.2 4 (.slice (some ⟨gC, 0, none⟩) 3 cC) rfl)
       have q5 := cell_regrown (row_at hR2.2 5 (.slice (some ⟨gD, 0, none⟩) 3 cD) rfl)
       have q6 := cell_regrown (row_at hR2.2 6 (.slice (some ⟨gK, 0, none⟩) 80 cK) rfl)
       have q7 := cell_regrown (row_at hR2.2 7 vF rfl)
       have e1 := cell_regrown (show (_ : World).cell? ⟨gr, 1, none⟩ = some (.int .u64 (r1 : Int)) from hrr2 1 (by omega))
       have e2 := cell_regrown (show (_ : World).cell? ⟨gr, 2, none⟩ = some (.int .u64 (r2 : Int)) from hrr2 2 (by omega))
       have rA := kA.below hR2.1
       have cQ1 : ∀ d os, Calls Tryz.prog 117 #[.agg #[.int .i64 64, .int .i64 80, .slice (some ⟨gA, 0, none⟩) 3 cA, .slice (some ⟨gB, 0, none⟩) 3 cB, .slice (some ⟨gC, 0, none⟩) 3 cC, .slice (some ⟨gD, 0, none⟩) 3 cD, .slice (some ⟨gK, 0, none⟩) 80 cK, vF], .int .u64 (r0 : Int), .slice (some ⟨gA, 0, none⟩) 3 cA, .bool false] (grow (redrawn w2 d) os) fun e w'' => e = .returned (.int .u64 (sA : Int)) ∧ ∃ p : Regrown, w'' = grow (redrawn w2 p.d) p.os := fun d os => by
        have r := rA.below (below_regrown w2 d os)
        rw [HSA.out]; exact Calls.regrown_of (mixed64n _ _ _ _ _ _ r0 gA cA _ _ _ _ b0 (by decide) (by decide) (by decide) r.a r.b r.c)
       have cQ2 : ∀ d os, Calls Tryz.prog 118 #[.agg #[.int .i64 64, .int .i64 80, .slice (some ⟨gA, 0, none⟩) 3 cA, .slice (some ⟨gB, 0, none⟩) 3 cB, .slice (some ⟨gC, 0, none⟩) 3 cC, .slice (some ⟨gD, 0, none⟩) 3 cD, .slice (some ⟨gK, 0, none⟩) 80 cK, vF], .int .u64 (v2 : Int)] (grow (redrawn w2 d) os) fun e w'' => e = .returned (.int .u64 (yy : Int)) ∧ ∃ p : Regrown, w'' = grow (redrawn w2 p.d) p.os := fun d os => by
        rw [← hlx.out]; exact Calls.regrown_of (lowH64 _ _ _ _ _ _ v2 _ bv2)
       refine wp_region_quiet_below (by kernel_rfl) (by kernel_rfl) ?_
       iterate 5 (go_big_quiet_step (fail))
       go_big_quiet_step (exact cQ1 _ _)
       iterate 20 (go_big_quiet_step (fail))
       go_big_quiet_step (exact cQ2 _ _)
       repeat (go_big_quiet_step (fail))
       refine wpQuiet_nil ?_
       intro w3 hw'
       have hb3 : Below w2.heap.size w2 w3 := by obtain ⟨p, rfl⟩ := hw'; exact below_regrown _ _ _
       have hR3 := hR2.on hb3
       have hrr3 := hrr2.on hb3
       have hwd3 := hwd2.on hb3
       clear hw' hb3 hR2 hrr2 hwd2 q0 q1 q2 q3 q4 q5 q6 q7 e1 e2 rA cQ1 cQ2 z1 z2 z3 z4 z5 hs2 ba1 ba2 ba3 ba4 hlx bv2
       obtain ⟨nx, hnx⟩ : ∃ x, x = (xx + yy) % 18446744073709551616 := ⟨_, rfl⟩
       obtain ⟨ne, hne⟩ : ∃ x, x = (r3 + xx) % 18446744073709551616 := ⟨_, rfl⟩
       have hsx : IntKind.u64.wrap ((xx : Int) + (yy : Int)) = (nx : Int) := by rw [hnx]; simp only [IntKind.wrap_u64]; omega
       have hse : IntKind.u64.wrap ((r3 : Int) + (xx : Int)) = (ne : Int) := by rw [hne]; simp only [IntKind.wrap_u64]; omega
       have bnx : nx < 18446744073709551616 := by rw [hnx]; omega
       have bne : ne < 18446744073709551616 := by rw [hne]; omega
       have hwx : IntKind.u64.wrap (nx : Int) = (nx : Int) := by rw [IntKind.wrap_u64]; omega
       have hwe : IntKind.u64.wrap (ne : Int) = (ne : Int) := by rw [IntKind.wrap_u64]; omega
       have HNX : Hid (nx = (xx + yy) % 2 ^ 64) := by show _ = _; rw [hnx]
       have HNE : Hid (ne = (r3 + xx) % 2 ^ 64) := by show _ = _; rw [hne]
       clear hnx hne
       have hall : ∀ w', Below w3.heap.size w3 w' → Below w3.heap.size w3 w' ∧ w'.cell? ⟨w.heap.size, 0, none⟩ = some (.int .i64 64) ∧ w'.cell? ⟨w.heap.size, 1, none⟩ = some (.int .i64 80) ∧ w'.cell? ⟨w.heap.size, 2, none⟩ = some (.slice (some ⟨gA, 0, none⟩) 3 cA) ∧ w'.cell? ⟨w.heap.size, 3, none⟩ = some (.slice (some ⟨gB, 0, none⟩) 3 cB) ∧ w'.cell? ⟨w.heap.size, 4, none⟩ = some (.slice (some ⟨gC, 0, none⟩) 3 cC) ∧ w'.cell? ⟨w.heap.size, 5, none⟩ = some (.slice (some ⟨gD, 0, none⟩) 3 cD) ∧ w'.cell? ⟨w.heap.size, 6, none⟩ = some (.slice (some ⟨gK, 0, none⟩) 80 cK) ∧ w'.cell? ⟨w.heap.size, 7, none⟩ = some vF ∧ w'.cell? ⟨gr, 1, none⟩ = some (.int .u64 (r1 : Int)) ∧ w'.cell? ⟨gr, 2, none⟩ = some (.int .u64 (r2 : Int)) ∧ w'.cell? ⟨gr, 3, none⟩ = some (.int .u64 (r3 : Int)) ∧ w'.cell? ⟨gr, 5, none⟩ = some (.int .u64 (r5 : Int)) ∧ w'.cell? ⟨gr, 6, none⟩ = some (.int .u64 (r6 : Int)) := fun w' hb =>
        have hRx := hR3.on hb
        have hrx := hrr3.on hb
        ⟨hb, row_at hRx.2 0 _ rfl, row_at hRx.2 1 _ rfl, row_at hRx.2 2 _ rfl, row_at hRx.2 3 _ rfl, row_at hRx.2 4 _ rfl, row_at hRx.2 5 _ rfl, row_at hRx.2 6 _ rfl, row_at hRx.2 7 _ rfl, hrx 1 (by omega), hrx 2 (by omega), hrx 3 (by omega), hrx 5 (by omega), hrx 6 (by omega)⟩
       go_wp2_with fail
       go_region_held3 (fun w' => Below w3.heap.size w3 w' ∧ w'.cell? ⟨w.heap.size, 0, none⟩ = some (.int .i64 64) ∧ w'.cell? ⟨w.heap.size, 1, none⟩ = some (.int .i64 80) ∧ w'.cell? ⟨w.heap.size, 2, none⟩ = some (.slice (some ⟨gA, 0, none⟩) 3 cA) ∧ w'.cell? ⟨w.heap.size, 3, none⟩ = some (.slice (some ⟨gB, 0, none⟩) 3 cB) ∧ w'.cell? ⟨w.heap.size, 4, none⟩ = some (.slice (some ⟨gC, 0, none⟩) 3 cC) ∧ w'.cell? ⟨w.heap.size, 5, none⟩ = some (.slice (some ⟨gD, 0, none⟩) 3 cD) ∧ w'.cell? ⟨w.heap.size, 6, none⟩ = some (.slice (some ⟨gK, 0, none⟩) 80 cK) ∧ w'.cell? ⟨w.heap.size, 7, none⟩ = some vF ∧ w'.cell? ⟨gr, 1, none⟩ = some (.int .u64 (r1 : Int)) ∧ w'.cell? ⟨gr, 2, none⟩ = some (.int .u64 (r2 : Int)) ∧ w'.cell? ⟨gr, 3, none⟩ = some (.int .u64 (r3 : Int)) ∧ w'.cell? ⟨gr, 5, none⟩ = some (.int .u64 (r5 : Int)) ∧ w'.cell? ⟨gr, 6, none⟩ = some (.int .u64 (r6 : Int)))
        (first | exact hall _ hc1 | exact hall _ (hc1.alloc hc1.size _) | exact hall _ (Below.refl _ _).drew)
        (first | (go_at_call 118; refine (lowH64 _ _ _ _ _ _ _ _ ?_).mono ?_; assumption; rintro e w' ⟨rfl, hbq⟩; have hc1 : Below w3.heap.size w3 w' := by first | exact ((Below.refl _ _).drew.trans hbq) | exact hc1.trans (hbq.mono hc1.size)))
       go_wp2_with fail
       have hRn := hR3.on (hc1.alloc hc1.size (.cells (ints .u64 [nx, r0, r1, r2, ne, r4, r5, r6]) 55))
       have hwn := hwd3.on (hc1.alloc hc1.size (.cells (ints .u64 [nx, r0, r1, r2, ne, r4, r5, r6]) 55))
       have hrn := words_alloc w' [nx, r0, r1, r2, ne, r4, r5, r6] rfl
       have HBn : Hid ((⟨nx, r0, r1, r2, ne, r4, r5, r6⟩ : S8) = Rr sh64 kk (spr sh64 bs) (ofL st) (t + 1)) := by
        show _ = _
        rw [HB.out, HNX.out, HNE.out]
       go_roundw
       case rel => first | exact ⟨t + 1, by omega, by go_num, hRn, hwn, w'.heap.size, 8, ⟨_, _, _, _, _, _, _, _⟩, rfl, HBn.out, hrn⟩ | ((repeat apply Exists.intro); exact ⟨⟨t + 1, by omega, by go_num, hRn, hwn, w'.heap.size, 8, ⟨_, _, _, _, _, _, _, _⟩, rfl, HBn.out, hrn⟩, rfl⟩)
       case measure => simp [intOf]; omega
      ·obtain rfl : t = 80 := by omega
       go_wp2_with fail
       clear c1 hwd
       have hqle : ∀ k, k < 8 → ql.getD k 0 = (st.getD k 0 + [r0, r1, r2, r3, r4, r5, r6, r7].getD k 0) % 2 ^ 64 := fun k hk => by
        rw [HQD.out, ← HQ.out]; exact zip8 st hst _ _ _ _ _ _ _ _ _ k hk
       have HQE : Hid (∀ k, k < 8 → ql.getD k 0 = (st.getD k 0 + [r0, r1, r2, r3, r4, r5, r6, r7].getD k 0) % 2 ^ 64) := hqle
       clear hqle
       obtain ⟨b0, b1, b2, b3, b4, b5, b6, b7⟩ : S8.lt ⟨r0, r1, r2, r3, r4, r5, r6, r7⟩ 18446744073709551616 := by rw [HQ.out]; exact Rr_lt sh64 _ _ _ (ofL_lt st 18446744073709551616 hsl) 80
       obtain ⟨BB, hBB⟩ : ∃ x, x = wr.heap.size := ⟨_, rfl⟩
       have hgrB : gr < BB := by rw [hBB]; exact block_lt_of_cell (hrr 0 (by omega))
       have hwBB : w.heap.size < BB := by rw [hBB]; exact lt_of_heap hR.2
       have hgsB : gs < BB := Nat.lt_trans (block_lt_of_cell (a := ⟨gs, 0, none⟩) (hcs 0 (by omega))) hwBB
       have hBsz : BB ≤ wr.heap.size := Nat.le_of_eq hBB
       clear hBB
       go_loopw [21, 20] (fun i v20 wr => ∃ k : Nat, k ≤ 8 ∧ i = .int .i64 (k : Int) ∧ RelB w #[.int .i64 64, .int .i64 80, .slice (some ⟨gA, 0, none⟩) 3 cA, .slice (some ⟨gB, 0, none⟩) 3 cB, .slice (some ⟨gC, 0, none⟩) 3 cC, .slice (some ⟨gD, 0, none⟩) 3 cD, .slice (some ⟨gK, 0, none⟩) 80 cK, vF] wr ∧ Words wr gr 8 [r0, r1, r2, r3, r4, r5, r6, r7] ∧ BB ≤ wr.heap.size ∧ wr.ownsRow BB 55 1 v20 k (uv (ql.take k))) (fun i _ _ => 8 - (intOf i).toNat)
       case atStart => exact ⟨0, by omega, rfl, hR, hrr, hBsz, World.ownsRow_nil _ _ _ _⟩
       case round =>
        clear hR hrr hBsz
        obtain ⟨k, hk, rfl, hR, hrr, hBsz, hown⟩ := hrel
        by_cases hlt : k < 8
        ·obtain ⟨rk, hrk⟩ : ∃ x, x = [r0, r1, r2, r3, r4, r5, r6, r7].getD k 0 := ⟨_, rfl⟩
         obtain ⟨sk, hsk⟩ : ∃ x, x = st.getD k 0 := ⟨_, rfl⟩
         have brk : rk < 18446744073709551616 := by rw [hrk]; exact list8_lt b0 b1 b2 b3 b4 b5 b6 b7 k
         have bsk : sk < 18446744073709551616 := by rw [hsk]; exact hsl k
         have d1 : wr.cell? ⟨gr, k, none⟩ = some (.int .u64 (rk : Int)) := by rw [hrk]; exact hrr k hlt
         have d2 : wr.cell? ⟨gs, k, none⟩ = some (.int .u64 (sk : Int)) := by rw [hsk]; exact (hR.1.cell (p := ⟨gs, k, none⟩) (block_lt_of_cell (a := ⟨gs, 0, none⟩) (hcs 0 (by omega)))).trans (hcs k hlt)
         obtain ⟨nx, hnx⟩ : ∃ x, x = (rk + sk) % 18446744073709551616 := ⟨_, rfl⟩
         have hsx : IntKind.u64.wrap ((rk : Int) + (sk : Int)) = (nx : Int) := by rw [hnx]; simp only [IntKind.wrap_u64]; omega
         have bnx : nx < 18446744073709551616 := by rw [hnx]; omega
         have hwx : IntKind.u64.wrap (nx : Int) = (nx : Int) := by rw [IntKind.wrap_u64]; omega
         have HNX : Hid (nx = ql.getD k 0) := by show _ = _; rw [HQE.out k hlt, hnx, hrk, hsk, Nat.add_comm (st.getD k 0)]
         clear hnx hrk hsk
         have HE : Hid (uv (ql.take k) ++ [.int .u64 ((nx : Nat) : Int)] = uv (ql.take (k + 1))) := by
          show uv (ql.take k) ++ [.int .u64 ((nx : Nat) : Int)] = uv (ql.take (k + 1))
          rw [take_snoc' (by rw [HQL.out]; omega), HNX.out]; simp [uv]
         have hall : ∀ w', Below BB wr w' → Below BB wr w' ∧ w'.cell? ⟨w.heap.size, 0, none⟩ = some (.int .i64 64) ∧ w'.cell? ⟨w.heap.size, 1, none⟩ = some (.int .i64 80) ∧ w'.cell? ⟨w.heap.size, 2, none⟩ = some (.slice (some ⟨gA, 0, none⟩) 3 cA) ∧ w'.cell? ⟨w.heap.size, 3, none⟩ = some (.slice (some ⟨gB, 0, none⟩) 3 cB) ∧ w'.cell? ⟨w.heap.size, 4, none⟩ = some (.slice (some ⟨gC, 0, none⟩) 3 cC) ∧ w'.cell? ⟨w.heap.size, 5, none⟩ = some (.slice (some ⟨gD, 0, none⟩) 3 cD) ∧ w'.cell? ⟨w.heap.size, 6, none⟩ = some (.slice (some ⟨gK, 0, none⟩) 80 cK) ∧ w'.cell? ⟨w.heap.size, 7, none⟩ = some vF ∧ w'.cell? ⟨gr, k, none⟩ = some (.int .u64 (rk : Int)) ∧ w'.cell? ⟨gs, k, none⟩ = some (.int .u64 (sk : Int)) := fun w' hb =>
          have hRx := hR.onB hwBB hb
          ⟨hb, row_at hRx.2 0 _ rfl, row_at hRx.2 1 _ rfl, row_at hRx.2 2 _ rfl, row_at hRx.2 3 _ rfl, row_at hRx.2 4 _ rfl, row_at hRx.2 5 _ rfl, row_at hRx.2 6 _ rfl, row_at hRx.2 7 _ rfl, (hb.cell (p := ⟨gr, k, none⟩) hgrB).trans d1, (hb.cell (p := ⟨gs, k, none⟩) hgsB).trans d2⟩
         have hlt1 := hown.lt
         go_wp2_with fail
         go_region_held3 (fun w' => Below BB wr w' ∧ w'.cell? ⟨w.heap.size, 0, none⟩ = some (.int .i64 64) ∧ w'.cell? ⟨w.heap.size, 1, none⟩ = some (.int .i64 80) ∧ w'.cell? ⟨w.heap.size, 2, none⟩ = some (.slice (some ⟨gA, 0, none⟩) 3 cA) ∧ w'.cell? ⟨w.heap.size, 3, none⟩ = some (.slice (some ⟨gB, 0, none⟩) 3 cB) ∧ w'.cell? ⟨w.heap.size, 4, none⟩ = some (.slice (some ⟨gC, 0, none⟩) 3 cC) ∧ w'.cell? ⟨w.heap.size, 5, none⟩ = some (.slice (some ⟨gD, 0, none⟩) 3 cD) ∧ w'.cell? ⟨w.heap.size, 6, none⟩ = some (.slice (some ⟨gK, 0, none⟩) 80 cK) ∧ w'.cell? ⟨w.heap.size, 7, none⟩ = some vF ∧ w'.cell? ⟨gr, k, none⟩ = some (.int .u64 (rk : Int)) ∧ w'.cell? ⟨gs, k, none⟩ = some (.int .u64 (sk : Int)))
          (first | exact hall _ hca | exact hall _ (hc1.alloc hcB _) | exact hall _ hc1 | exact hall _ (Below.refl _ _).drew)
          (first
           | (go_at_call 118; refine (lowH64 _ _ _ _ _ _ _ _ ?_).mono ?_; assumption; rintro e w' ⟨rfl, hbq⟩; have hcq : Below wr.heap.size wr w' := ((Below.refl _ _).drew.trans hbq); have hc1 : Below BB wr w' := hcq.mono hBsz; have hcB : BB ≤ w'.heap.size := Nat.le_trans hBsz hcq.size; have hownc := own_onV hown hcq)
           | (refine step_append_lies _ (by rfl) (.tmp 205) (.tmp 217) 100 (by rfl) BB 55 i0 (.int .u64 0) 1 8 Tryz.underlying100 hi hz0 hz1 hz2 rfl (by decide) _ _ _ (by rfl) (hownc.alloc _) ⟨w'.heap.size, 0, none⟩ 1 1 [.int .u64 ((nx : Nat) : Int)] (by rfl) rfl (Hnews_one _ _ _) one_word (by omega) (by unfold maxLen; omega) (by omega) (by simp; omega) _ rfl ?_; intro ga ca wa howna hgrowa hata hlta; have hca : Below BB wr wa := (hc1.alloc hcB _).grown hgrowa (by simp; omega) (fun k hk => (hlt1 k hk).1)))
         go_wp2_with fail
         rw [HE.out] at howna
         have hRn := hR.onB hwBB hca
         have hrn := hrr.onB hgrB hca
         have hBn := Nat.le_trans hBsz hca.size
         go_roundw
         case rel => first | exact ⟨k + 1, by omega, by go_num, hRn, hrn, hBn, howna⟩ | ((repeat apply Exists.intro); exact ⟨⟨k + 1, by omega, by go_num, hRn, hrn, hBn, howna⟩, rfl⟩)
         case measure => simp [intOf]; omega
        ·obtain rfl : k = 8 := by omega
         have hfin : uv (ql.take 8) = uv ql := by rw [← HQL.out, List.take_length]
         rw [hfin] at hown
         go_wp2_with fail
         go_ret
         exact ⟨_, rfl, BB, Nat.le_of_lt hwBB, hR.1, hown⟩
end SR
end Go.Proofs.YtabgihjffjlfiaaGreatDoor
set_option linter.unusedVariables false
namespace Go.Proofs.YtabgihjffjlfiaaGreatDoor
namespace SR
open Go.RowKit Go.Sort Go.BigFrame
set_option maxRecDepth 100000
set_option maxHeartbeats 4000000
attribute [local go_sem ↓] Go.wp_at_zero Go.wp_at_succ
def blksR (s : Sh) (kk st bs : List Nat) : Nat → List Nat
 | 0 => st
 | k + 1 => List.zipWith (fun x y => (x + y) % 2 ^ s.W) (blksR s kk st bs k) (Rr s kk (spr s ((bs.drop (2 * s.W * k)).take (2 * s.W))) (ofL (blksR s kk st bs k)) s.n).list
theorem blksR_blks (s : Sh) (kk ks st bs : List Nat) (h : ∀ t, t < s.n → kk.getD t 0 = ks.getD t 0 >>> (64 - s.W)) : ∀ k, blksR s kk st bs k = blks s ks st bs k
 | 0 => rfl
 | k + 1 => by rw [blksR, blks, blksR_blks s kk ks st bs h k, Rr_R s kk ks _ _ s.n h s.n (Nat.le_refl _)]; rfl
theorem own_onT {w w1 : World} {B n t : Nat} {v : Value} {xs : List Value} (h : w.ownsRow B t 1 v n xs) (hb : Below w.heap.size w w1) : w1.ownsRow B t 1 v n xs := by
 refine h.kept (row := none) ⟨hb.os, hb.tape, hb.output, hb.size, fun k hk _ => hb.block k hk⟩ ?_
 cases h : v.ownBlock with
 | none => exact .inl rfl
 | some x => exact .inr (by simp)
theorem news_row {w : World} {g t : Nat} {l : List Nat} (h : w.heap[g]? = some (.cells (ints .u8 l) t (0, 0))) : ∀ (j : Nat) u, (Hbv l)[j]? = some u → w.cell? ((⟨g, 0, none⟩ : Addr).add j) = some u := by
 intro j u hj
 have hj' : j < l.length := by
  by_cases h : j < l.length
  ·exact h
  ·rw [List.getElem?_eq_none (by simp [Hbv]; omega)] at hj; cases hj
 rw [Addr.add_mid, Nat.zero_add, cell_ints h j hj', ← hj]
 simp [Hbv, hj']
theorem all_getD {l : List Nat} {M : Nat} (hM : 0 < M) (h : ∀ x ∈ l, x < M) (j : Nat) : l.getD j 0 < M := by
 rw [List.getD_eq_getElem?_getD]
 cases e : l[j]? with
 | none => exact hM
 | some x => exact h x (List.mem_of_getElem? e)
theorem getD_all {l : List Nat} {M : Nat} (h : ∀ j, l.getD j 0 < M) : ∀ x ∈ l, x < M := fun x hx => by
 obtain ⟨j, hj, rfl⟩ := List.mem_iff_getElem.1 hx
 have := h j
 rwa [List.getD_eq_getElem?_getD, List.getElem?_eq_getElem hj] at this
theorem be_all (n : Nat) : ∀ x, ∀ y ∈ be x n, y < 256 := by
 induction n with
 | zero => intro x y hy; cases hy
 | succ n ih =>
  intro x y hy
  rcases List.mem_append.1 hy with h | h
  ·exact ih _ y h
  ·rw [List.mem_singleton.1 h]; exact Nat.mod_lt _ (by decide)
theorem padd_lt (s : Sh) (bs : List Nat) (h : ∀ j, bs.getD j 0 < 256) : ∀ j, (padd s bs).getD j 0 < 256 :=
 all_getD (by decide) fun x hx => by
  rcases List.mem_append.1 hx with hx | hx
  ·rcases List.mem_append.1 hx with hx | hx
   ·exact getD_all h x hx
   ·rcases List.mem_cons.1 hx with rfl | hx
    ·decide
    ·rw [List.eq_of_mem_replicate hx]; decide
  ·exact be_all _ _ x hx
theorem blksR_len (s : Sh) (kk st bs : List Nat) (h : st.length = 8) : ∀ k, (blksR s kk st bs k).length = 8
 | 0 => h
 | k + 1 => by rw [blksR, List.length_zipWith, blksR_len s kk st bs h k]; rfl
theorem blksR_lt (s : Sh) (kk st bs : List Nat) (h : ∀ j, st.getD j 0 < 2 ^ s.W) : ∀ k j, (blksR s kk st bs k).getD j 0 < 2 ^ s.W
 | 0, j => h j
 | k + 1, j => by
  have hp := Nat.two_pow_pos s.W
  simp only [blksR, List.getD_eq_getElem?_getD, List.getElem?_zipWith]
  split
  ·simp; exact Nat.mod_lt _ hp
  ·simp; omega
theorem news_own {w : World} {B g n c : Nat} {l : List Nat} (h : w.ownsRow B 5 1 (.slice (some ⟨g, 0, none⟩) n c) n (Hbv l)) : ∀ (j : Nat) u, (Hbv l)[j]? = some u → w.cell? ((⟨g, 0, none⟩ : Addr).add j) = some u := by
 intro j u hj
 have hl : (Hbv l).length = n * 1 := h.1
 have hj' : j < n * 1 := by
  by_cases h : j < n * 1
  ·exact h
  ·rw [List.getElem?_eq_none (by omega)] at hj; cases hj
 rw [Addr.add_mid, Nat.zero_add, h.cellAt j hj', hj]
theorem below_set (B : Nat) (w : World) (g j : Nat) (v : Value) (h : B ≤ g) : Below B w (w.setCell ⟨g, j, none⟩ v) := (Below.refl B w).setCell h v
theorem size_setCell' (w : World) (q : Addr) (v : Value) : (w.setCell q v).heap.size = w.heap.size := by simp [World.setCell]
theorem set_front (b : Nat) (v : Nat) (t : List Nat) : (Hbv (List.replicate (b + 1) 0 ++ t)).set b (.int .u8 (v : Int)) = Hbv (List.replicate b 0 ++ v :: t) := by
 rw [List.replicate_succ', List.append_assoc]
 simp [Hbv, List.set_append_right]
def lenV : Value → Nat
 | .slice _ n _ => n
 | _ => 0
def digQ64 (kk hf bs : List Nat) : List Nat := stB 64 (blksR sh64 kk hf (padd sh64 bs) ((padd sh64 bs).length / 128)) 8
end SR
end Go.Proofs.YtabgihjffjlfiaaGreatDoor
set_option linter.unusedVariables false
namespace Go.Proofs.YtabgihjffjlfiaaGreatDoor
namespace SR
open Go.RowKit Go.Sort Go.BigFrame
set_option maxRecDepth 100000
set_option maxHeartbeats 4000000
attribute [local go_sem ↓] Go.wp_at_zero Go.wp_at_succ
theorem refsum64 (gA cA gB cB gC cC gD cD gK cK gF cF : Nat) (ad : Option Addr) (L cap : Nat) (bs kk hf : List Nat) (w : World)
  (hlen : bs.length = L) (hb256 : ∀ j, bs.getD j 0 < 256) (hL : L ≤ 100000000000000) (hv : View w ad bs)
  (kA : Row3 w gA 28 34 39) (kB : Row3 w gB 14 18 41) (kC : Row3 w gC 1 8 7) (kD : Row3 w gD 19 61 6)
  (hkk : Words w gK 80 kk) (hkb : ∀ j, kk.getD j 0 < 18446744073709551616) (hff : Words w gF 8 hf) (hfl : hf.length = 8) (hfb : ∀ j, hf.getD j 0 < 18446744073709551616) :
  Calls Tryz.prog 83 #[.agg #[.int .i64 64, .int .i64 80, .slice (some ⟨gA, 0, none⟩) 3 cA, .slice (some ⟨gB, 0, none⟩) 3 cB, .slice (some ⟨gC, 0, none⟩) 3 cC, .slice (some ⟨gD, 0, none⟩) 3 cD, .slice (some ⟨gK, 0, none⟩) 80 cK, .slice (some ⟨gF, 0, none⟩) 8 cF], .slice ad L cap] w fun e w' => ∃ v, e = .returned v ∧ ∃ base, w.heap.size ≤ base ∧ Below w.heap.size w w' ∧ w'.ownsRow base 5 1 v 64 (Hbv (digQ64 kk hf bs)) := by
 have h5i : (Tryz.prog.info? 5).map (fun i => (i.zero, i.size, i.bytes)) = some (some (.int .u8 0), 1, 1) := by kernel_rfl
 obtain ⟨i0, hi0, hz0, hz1, hz2⟩ := info_parts h5i
 have h39i : (Tryz.prog.info? 55).map (fun i => (i.zero, i.size, i.bytes)) = some (some (.int .u64 0), 1, 8) := by kernel_rfl
 obtain ⟨j0, hj0, hy0, hy1, hy2⟩ := info_parts h39i
 obtain ⟨Z, hZ⟩ : ∃ x, x = zeros sh64 L := ⟨_, rfl⟩
 have hZ' : Z = (128 - (L + 1 + 16) % 128) % 128 := hZ
 have HZ : Hid (Z = zeros sh64 L) := hZ
 have hz1' : (L + 1 + Z + 16) % 128 = 0 := by omega
 have hz2' : ∀ z, z < Z → (L + 1 + z + 16) % 128 ≠ 0 := fun z hz => by omega
 have hZ8 : Z < 128 := by omega
 have HZ2 : Hid (∀ z, z < Z → (L + 1 + z + 16) % 128 ≠ 0) := hz2'
 clear hZ hZ' hz2'
 have hR0 : RelB w (#[.int .i64 64, .int .i64 80, .slice (some ⟨gA, 0, none⟩) 3 cA, .slice (some ⟨gB, 0, none⟩) 3 cB, .slice (some ⟨gC, 0, none⟩) 3 cC, .slice (some ⟨gD, 0, none⟩) 3 cD, .slice (some ⟨gK, 0, none⟩) 80 cK, .slice (some ⟨gF, 0, none⟩) 8 cF]) (w.alloc (.cells (#[.int .i64 64, .int .i64 80, .slice (some ⟨gA, 0, none⟩) 3 cA, .slice (some ⟨gB, 0, none⟩) 3 cB, .slice (some ⟨gC, 0, none⟩) 3 cC, .slice (some ⟨gD, 0, none⟩) 3 cD, .slice (some ⟨gK, 0, none⟩) 80 cK, .slice (some ⟨gF, 0, none⟩) 8 cF]) 102)) := ⟨below1 _ _, heap_alloc_new _ _⟩
 have hv0 := hv.below (below1 w (.cells (#[.int .i64 64, .int .i64 80, .slice (some ⟨gA, 0, none⟩) 3 cA, .slice (some ⟨gB, 0, none⟩) 3 cB, .slice (some ⟨gC, 0, none⟩) 3 cC, .slice (some ⟨gD, 0, none⟩) 3 cD, .slice (some ⟨gK, 0, none⟩) 80 cK, .slice (some ⟨gF, 0, none⟩) 8 cF]) 102))
 have HLEN : Hid (bs.length = L) := hlen
 clear hlen hv
 go_enter Tryz.func83, Tryz.ntmps83
 go_wp2_with (first
  | (at_builtin; refine wpList_append_data _ rfl (.tmp 15) (.tmp 16) rfl rfl ad L cap bs rfl HLEN.out hv0 (w.heap.size + 1) (by simp) hL ?_; intro v1 w1 hown hgrow; obtain ⟨a1, c1, rfl⟩ := own_slice hown; have hR1 : RelB w (#[.int .i64 64, .int .i64 80, .slice (some ⟨gA, 0, none⟩) 3 cA, .slice (some ⟨gB, 0, none⟩) 3 cB, .slice (some ⟨gC, 0, none⟩) 3 cC, .slice (some ⟨gD, 0, none⟩) 3 cD, .slice (some ⟨gK, 0, none⟩) 80 cK, .slice (some ⟨gF, 0, none⟩) 8 cF]) w1 := ⟨hR0.1.grown hgrow hR0.1.size (by intro k hk; cases hk), (hgrow.block _ (lt_of_heap hR0.2) (by simp)).trans hR0.2⟩; clear hR0 hv0 hgrow; have hsz1 : w.heap.size + 1 ≤ w1.heap.size := lt_of_heap hR1.2)
  | (at_builtin; refine wpList_append_own _ rfl (.tmp 18) (.tmp 19) 22 rfl (w.heap.size + 1) 5 i0 (.int .u8 0) 1 1 Tryz.underlying22 hi0 hz0 hz1 hz2 rfl (by decide) _ _ _ rfl (hown.alloc _) ⟨w1.heap.size, 0, none⟩ 1 1 [.int .u8 128] rfl rfl (Hnews_one _ _ _) Hone_byte (by unfold maxLen; omega) (by omega) (by simp; omega) ?_; intro v2 w2 hown2 hgrow _; obtain ⟨a2, c2, rfl⟩ := own_slice hown2; have hlt1 := hown.lt; have hR2 := hR1.grown _ hgrow (fun k hk => by have := (hlt1 k hk).1; omega); have x0 := row_at hR2.2 0 (.int .i64 64) rfl))
 have HE : Hid (Hbv bs ++ [.int .u8 128] = Hbv (bs ++ 128 :: List.replicate 0 0)) := by
  show Hbv bs ++ [.int .u8 128] = Hbv (bs ++ 128 :: List.replicate 0 0)
  simp [Hbv]
 rw [HE.out] at hown2
 clear hown hgrow hlt1 hR1 HE
 clear x0
 go_loopw [5] (fun v5 wr => ∃ z : Nat, z ≤ Z ∧ ∃ a c, v5 = .slice a (L + 1 + z) c ∧ RelB w (#[.int .i64 64, .int .i64 80, .slice (some ⟨gA, 0, none⟩) 3 cA, .slice (some ⟨gB, 0, none⟩) 3 cB, .slice (some ⟨gC, 0, none⟩) 3 cC, .slice (some ⟨gD, 0, none⟩) 3 cD, .slice (some ⟨gK, 0, none⟩) 80 cK, .slice (some ⟨gF, 0, none⟩) 8 cF]) wr ∧ wr.ownsRow (w.heap.size + 1) 5 1 (.slice a (L + 1 + z) c) (L + 1 + z) (Hbv (bs ++ 128 :: List.replicate z 0))) (fun v _ => L + 1 + Z - lenV v)
 case atStart => exact ⟨0, by omega, _, _, rfl, hR2, hown2⟩
 case round =>
  clear hR2 hown2
  obtain ⟨z, hz, a, ca, rfl, hR, hown⟩ := hrel
  have x0 := row_at hR.2 0 (.int .i64 64) rfl
  by_cases hlt : z < Z
  ·have hne := HZ2.out z hlt
   have hsz : w.heap.size + 1 ≤ wr.heap.size := lt_of_heap hR.2
   go_wp2_with (at_builtin; refine wpList_append_own _ rfl (.tmp 33) (.tmp 34) 22 rfl (w.heap.size + 1) 5 i0 (.int .u8 0) 1 1 Tryz.underlying22 hi0 hz0 hz1 hz2 rfl (by decide) _ _ _ rfl (hown.alloc _) ⟨wr.heap.size, 0, none⟩ 1 1 [.int .u8 0] rfl rfl (Hnews_one _ _ _) Hone_byte (by unfold maxLen; omega) (by omega) (by simp; omega) ?_; intro v' w1 hown' hgrow _)
   have hlt1 := hown.lt
   have HE : Hid (Hbv (bs ++ 128 :: List.replicate z 0) ++ [.int .u8 0] = Hbv (bs ++ 128 :: List.replicate (z + 1) 0)) := by
    show Hbv (bs ++ 128 :: List.replicate z 0) ++ [.int .u8 0] = Hbv (bs ++ 128 :: List.replicate (z + 1) 0)
    rw [List.replicate_succ']; simp [Hbv]
   rw [HE.out] at hown'
   have hRn := hR.grown _ hgrow (fun k hk => by have := (hlt1 k hk).1; omega)
   obtain ⟨a', c', rfl⟩ := own_slice hown'
   clear hown hgrow hR hlt1 x0 hne
   go_roundw
   case rel => first | exact ⟨z + 1, by omega, _, _, rfl, hRn, hown'⟩ | ((repeat apply Exists.intro); exact ⟨⟨z + 1, by omega, _, _, rfl, hRn, hown'⟩, rfl⟩)
   case measure => simp [lenV]; omega
  ·obtain rfl : z = Z := by omega
   obtain ⟨ga, _, hae, hgaB, hgac⟩ := own_formT hown (by omega)
   cases hae
   obtain ⟨hga1, hga2⟩ := hown.lt ga rfl
   obtain ⟨X, hX⟩ : ∃ x, x = bs ++ 128 :: List.replicate z 0 := ⟨_, rfl⟩
   rw [← hX] at hown
   obtain ⟨BL, hBL⟩ : ∃ x, x = wr.heap.size := ⟨_, rfl⟩
   have hgaL : ga < BL := by rw [hBL]; exact hga2
   have hwBL : w.heap.size < BL := by rw [hBL]; exact lt_of_heap hR.2
   have hszL : BL ≤ wr.heap.size := Nat.le_of_eq hBL
   have HX : Hid (X = bs ++ 128 :: List.replicate z 0) := hX
   clear hBL hX hga2 hgac hlt hz
   go_wp2_with fail
   have HZ1 : Hid ((L + 1 + z + 16) % 128 = 0) := hz1'
   have hbf : (((L : Int) + 1 + (z : Int) + 16) % 128 != 0) = false := by
    have := HZ1.out
    have e : ((L : Int) + 1 + (z : Int) + 16) % 128 = 0 := by omega
    rw [e]; rfl
   rw [hbf]
   clear x0 hz1' hbf
   go_loopw [9, 8] (fun v9 v8 wr => ∃ i : Nat, i ≤ 16 ∧ v9 = .int .i64 (i : Int) ∧ RelB w (#[.int .i64 64, .int .i64 80, .slice (some ⟨gA, 0, none⟩) 3 cA, .slice (some ⟨gB, 0, none⟩) 3 cB, .slice (some ⟨gC, 0, none⟩) 3 cC, .slice (some ⟨gD, 0, none⟩) 3 cD, .slice (some ⟨gK, 0, none⟩) 80 cK, .slice (some ⟨gF, 0, none⟩) 8 cF]) wr ∧ BL ≤ wr.heap.size ∧ wr.ownsRow (w.heap.size + 1) 5 1 (.slice (some ⟨ga, 0, none⟩) (L + 1 + z) ca) (L + 1 + z) (Hbv X) ∧ ∃ a c, v8 = .slice a i c ∧ wr.ownsRow BL 5 1 (.slice a i c) i (Hbv (List.replicate i 0))) (fun i _ _ => 16 - (intOf i).toNat)
   case atStart => exact ⟨0, by omega, rfl, hR, hszL, hown, none, 0, rfl, World.ownsRow_nil _ _ _ _⟩
   case round =>
    clear hR hown hszL
    obtain ⟨i, hi, rfl, hR, hszL, hall, a, cl, rfl, hown⟩ := hrel
    by_cases hlt : i < 16
    ·go_wp2_with (at_builtin; refine wpList_append_own _ rfl (.tmp 44) (.tmp 45) 22 rfl BL 5 i0 (.int .u8 0) 1 1 Tryz.underlying22 hi0 hz0 hz1 hz2 rfl (by decide) _ _ _ rfl (hown.alloc _) ⟨wr.heap.size, 0, none⟩ 1 1 [.int .u8 0] rfl rfl (Hnews_one _ _ _) Hone_byte (by unfold maxLen; omega) (by omega) (by simp; omega) ?_; intro v' w1 hown' hgrow _; obtain ⟨a', c', rfl⟩ := own_slice hown')
     have hlt1 := hown.lt
     have HE : Hid (Hbv (List.replicate i 0) ++ [.int .u8 0] = Hbv (List.replicate (i + 1) 0)) := by
      show Hbv (List.replicate i 0) ++ [.int .u8 0] = Hbv (List.replicate (i + 1) 0)
      rw [List.replicate_succ']; simp [Hbv]
     rw [HE.out] at hown'
     have hRn := hR.grown _ hgrow (fun k hk => by have := (hlt1 k hk).1; omega)
     have hall' := (hall.alloc (.cells #[.int .u8 0] 5)).kept hgrow (.inr (fun e => by have := (hlt1 ga e.symm).1; omega))
     have hszn : BL ≤ w1.heap.size := Nat.le_trans (Nat.le_trans hszL (by simp)) hgrow.size
     clear hown hgrow hR hlt1 hall
     go_roundw
     case rel => first | exact ⟨i + 1, by omega, by go_num, hRn, hszn, hall', _, _, rfl, hown'⟩ | ((repeat apply Exists.intro); exact ⟨⟨i + 1, by omega, by go_num, hRn, hszn, hall', _, _, rfl, hown'⟩, rfl⟩)
     case measure => simp [intOf]; omega
    ·obtain rfl : i = 16 := by omega
     obtain ⟨gl, _, hae, hglB, _⟩ := own_formT hown (by omega)
     cases hae
     go_wp2_with fail
     go_loopw [10, 7] (fun v10 v7 wr => ∃ m nk : Nat, m ≤ 16 ∧ v10 = .int .i64 ((m : Int) - 1) ∧ v7 = .int .i64 (nk : Int) ∧ nk = 8 * L / 256 ^ (16 - m) ∧ RelB w (#[.int .i64 64, .int .i64 80, .slice (some ⟨gA, 0, none⟩) 3 cA, .slice (some ⟨gB, 0, none⟩) 3 cB, .slice (some ⟨gC, 0, none⟩) 3 cC, .slice (some ⟨gD, 0, none⟩) 3 cD, .slice (some ⟨gK, 0, none⟩) 80 cK, .slice (some ⟨gF, 0, none⟩) 8 cF]) wr ∧ BL ≤ wr.heap.size ∧ wr.ownsRow (w.heap.size + 1) 5 1 (.slice (some ⟨ga, 0, none⟩) (L + 1 + z) ca) (L + 1 + z) (Hbv X) ∧ wr.ownsRow BL 5 1 (.slice (some ⟨gl, 0, none⟩) 16 cl) 16 (Hbv (List.replicate m 0 ++ be (8 * L) (16 - m)))) (fun i _ _ => (intOf i + 1).toNat)
     case atStart => exact ⟨16, 8 * L, by omega, rfl, by go_num, by simp, hR, hszL, hall, by simpa [be] using hown⟩
     case round =>
      clear hR hszL hall hown
      obtain ⟨m, nk, hm, rfl, rfl, hnk, hR, hszL, hall, hown⟩ := hrel
      have HNK : Hid (nk = 8 * L / 256 ^ (16 - m)) := hnk
      have hnb : nk ≤ 8 * L := by rw [hnk]; exact Nat.div_le_self _ _
      clear hnk
      by_cases hlt : 0 < m
      ·obtain ⟨b, rfl⟩ : ∃ b, m = b + 1 := ⟨m - 1, by omega⟩
       have e0 : ((b + 1 : Nat) : Int) - 1 = (b : Int) := by omega
       rw [e0]
       clear e0
       have kx : wr.cell? ⟨gl, b, none⟩ = some (.int .u8 0) := by
        rw [hown.cellAt b (by omega)]; simp only [Hbv, List.map_append, List.map_replicate]; rw [List.getElem?_append_left (by simp)]; simp
       have fx := hown.frozenAt b
       obtain ⟨hst, hgst⟩ := hown.stored b (.int .u8 ((nk % 256 : Nat) : Int))
       have HE : Hid ((Hbv (List.replicate (b + 1) 0 ++ be (8 * L) (16 - (b + 1)))).set b (.int .u8 ((nk % 256 : Nat) : Int)) = Hbv (List.replicate b 0 ++ be (8 * L) (16 - b))) := by
        show (Hbv (List.replicate (b + 1) 0 ++ be (8 * L) (16 - (b + 1)))).set b (.int .u8 ((nk % 256 : Nat) : Int)) = Hbv (List.replicate b 0 ++ be (8 * L) (16 - b))
        rw [show 16 - b = (16 - (b + 1)) + 1 by omega, be_front, Nat.shiftRight_eq_div_pow, show 2 ^ (8 * (16 - (b + 1))) = 256 ^ (16 - (b + 1)) from Nat.pow_mul 2 8 _, ← HNK.out]
        exact set_front b _ _
       rw [HE.out] at hst
       have hRn := hR.onB hwBL (below_set BL wr gl b (.int .u8 ((nk % 256 : Nat) : Int)) hglB)
       have halln := hall.kept hgst (.inr (fun e => by simp only [Value.ownBlock] at e; injection e with e; omega))
       have hszn : BL ≤ (wr.setCell ⟨gl, b, none⟩ (.int .u8 ((nk % 256 : Nat) : Int))).heap.size := by rw [size_setCell']; exact hszL
       have HN2 : Hid (nk / 256 = 8 * L / 256 ^ (16 - b)) := by
        show nk / 256 = 8 * L / 256 ^ (16 - b)
        rw [HNK.out, Nat.div_div_eq_div_mul, ← Nat.pow_succ, show (16 - (b + 1)).succ = 16 - b by omega]
       clear hown hgst hR hall
       go_wp2_with fail
       go_roundw
       case rel => first | exact ⟨b, nk / 256, by omega, by go_num, by go_num, HN2.out, hRn, hszn, halln, hst⟩ | ((repeat apply Exists.intro); exact ⟨⟨b, nk / 256, by omega, by go_num, by go_num, HN2.out, hRn, hszn, halln, hst⟩, rfl⟩)
       case measure => simp [intOf]
      ·obtain rfl : m = 0 := by omega
       rw [show ((0 : Nat) : Int) - 1 = -1 from rfl]
       rw [List.replicate_zero, List.nil_append] at hown
       have hgl2 := (hown.lt gl rfl).2
       obtain ⟨pd, hpd⟩ : ∃ x, x = padd sh64 bs := ⟨_, rfl⟩
       have hpe : X ++ be (8 * L) 16 = pd := by rw [hpd, HX.out, padd, HLEN.out, ← HZ.out]; rfl
       have HPE : Hid (Hbv X ++ Hbv (be (8 * L) 16) = Hbv pd) := by
        show Hbv X ++ Hbv (be (8 * L) 16) = Hbv pd
        rw [← hpe]; simp [Hbv]
       have hpl : pd.length = L + 1 + z + 16 := by rw [← hpe, HX.out]; simp [be_len]; have := HLEN.out; omega
       have HPL : Hid (pd.length = L + 1 + z + 16) := hpl
       have HPD : Hid (pd = padd sh64 bs) := hpd
       clear hpe hpl hpd
       have hszw : w.heap.size + 1 ≤ wr.heap.size := lt_of_heap hR.2
       have hnl := news_own hown
       go_wp2_with (first
        | (at_builtin; refine wpList_append_own _ rfl (.tmp 61) (.tmp 62) 22 rfl (w.heap.size + 1) 5 i0 (.int .u8 0) 1 1 Tryz.underlying22 hi0 hz0 hz1 hz2 rfl (by decide) _ _ _ rfl hall ⟨gl, 0, none⟩ 16 cl (Hbv (be (8 * L) 16)) rfl (by simp [Hbv, be_len]) hnl bv_one (by unfold maxLen; omega) (by omega) hszw ?_; intro v3 w3 hown3 hgrow3 _; obtain ⟨a3, c3, rfl⟩ := own_slice hown3; have hR3 : RelB w (#[.int .i64 64, .int .i64 80, .slice (some ⟨gA, 0, none⟩) 3 cA, .slice (some ⟨gB, 0, none⟩) 3 cB, .slice (some ⟨gC, 0, none⟩) 3 cC, .slice (some ⟨gD, 0, none⟩) 3 cD, .slice (some ⟨gK, 0, none⟩) 80 cK, .slice (some ⟨gF, 0, none⟩) 8 cF]) w3 := ⟨hR.1.grown hgrow3 hR.1.size (fun k hk => by have := (hall.lt k hk).1; omega), (hgrow3.block _ (lt_of_heap hR.2) (fun e => by have := (hall.lt _ e.symm).1; omega)).trans hR.2⟩; have x7 := row_at hR3.2 7 (.slice (some ⟨gF, 0, none⟩) 8 cF) rfl; have hf3 : Words w3 gF 8 hf := hff.on hR3.1; have hnf := news_words hf hfl hf3)
        | (at_builtin; refine wpList_append_own _ rfl (.tmp 64) (.tmp 66) 100 rfl w3.heap.size 55 j0 (.int .u64 0) 1 8 Tryz.underlying100 hj0 hy0 hy1 hy2 rfl (by decide) (.slice none 0 0) 0 [] rfl (World.ownsRow_nil _ _ _ _) ⟨gF, 0, none⟩ 8 cF (uv hf) rfl (by simp [uv, hfl]) hnf uv_one (by unfold maxLen; omega) (by omega) (Nat.le_refl _) ?_; intro v4 w4 hown4 hgrow4 _; obtain ⟨a4, c4, rfl⟩ := own_slice hown4))
       simp only [List.nil_append, Nat.zero_add] at hown4
       rw [HPE.out] at hown3
       obtain ⟨g3, _, hae, hg3B, hnc3⟩ := own_formT hown3 (by omega)
       cases hae
       have hall4 := hown3.kept hgrow4 (.inr (by simp [Value.ownBlock]))
       have hg3l := (hall4.lt g3 rfl).2
       have hbA : BytesAt w4 g3 0 pd := fun i hi => by
        have hi2 : i < pd.length := hi
        rw [Nat.zero_add, hall4.cellAt i (by rw [← HPL.out]; omega)]; simp [Hbv, hi2]
       have hR4 : RelB w (#[.int .i64 64, .int .i64 80, .slice (some ⟨gA, 0, none⟩) 3 cA, .slice (some ⟨gB, 0, none⟩) 3 cB, .slice (some ⟨gC, 0, none⟩) 3 cC, .slice (some ⟨gD, 0, none⟩) 3 cD, .slice (some ⟨gK, 0, none⟩) 80 cK, .slice (some ⟨gF, 0, none⟩) 8 cF]) w4 := ⟨hR3.1.grown hgrow4 hR3.1.size (by intro k hk; cases hk), (hgrow4.block _ (lt_of_heap hR3.2) (by simp [Value.ownBlock])).trans hR3.2⟩
       obtain ⟨gs, _, hae, _, _⟩ := own_formT hown4 (by omega)
       cases hae
       have hs4 : Words w4 gs 8 hf := fun j hj => own_word hown4 j hj _ (by simp [show j < hf.length by omega])
       obtain ⟨NB, hNB⟩ : ∃ x, x = pd.length / 128 := ⟨_, rfl⟩
       have hNL : L + 1 + z + 16 = 128 * NB := by have := HZ1.out; have := HPL.out; omega
       have hp256 : ∀ j, pd.getD j 0 < 256 := by rw [HPD.out]; exact padd_lt sh64 bs hb256
       have HNB : Hid (NB = pd.length / 128) := hNB
       have HNL : Hid (L + 1 + z + 16 = 128 * NB) := hNL
       clear hNL hNB hown3 hown4 hgrow3 hgrow4 hall hall4 hR hR3 hnl hnf x7 hf3 hown hszL
       go_loopw [12, 11] (fun v12 v11 wr => ∃ k : Nat, k ≤ NB ∧ v12 = .int .i64 ((128 * k : Nat) : Int) ∧ RelB w (#[.int .i64 64, .int .i64 80, .slice (some ⟨gA, 0, none⟩) 3 cA, .slice (some ⟨gB, 0, none⟩) 3 cB, .slice (some ⟨gC, 0, none⟩) 3 cC, .slice (some ⟨gD, 0, none⟩) 3 cD, .slice (some ⟨gK, 0, none⟩) 80 cK, .slice (some ⟨gF, 0, none⟩) 8 cF]) wr ∧ BytesAt wr g3 0 pd ∧ ∃ gs cs, v11 = .slice (some ⟨gs, 0, none⟩) 8 cs ∧ Words wr gs 8 (blksR sh64 kk hf pd k)) (fun i _ _ => 128 * NB - (intOf i).toNat)
       case atStart => exact ⟨0, by omega, rfl, hR4, hbA, gs, _, rfl, hs4⟩
       case round =>
        clear hR4 hbA hs4
        obtain ⟨k, hk, rfl, hR, hbA, gs, cs, rfl, hws⟩ := hrel
        have x0 := row_at hR.2 0 (.int .i64 64) rfl
        by_cases hlt : k < NB
        ·have hat : 128 * k + 128 ≤ L + 1 + z + 16 := by rw [HNL.out]; omega
         obtain ⟨t, ht⟩ : ∃ x, x = 128 * k := ⟨_, rfl⟩
         rw [← ht] at hat
         have hgsw := block_lt_of_cell (a := ⟨gs, 0, none⟩) (hws 0 (by omega))
         have hblk : ∀ w', Below wr.heap.size wr w' → ∀ cb, 128 ≤ cb → Calls Tryz.prog 107 #[.agg (#[.int .i64 64, .int .i64 80, .slice (some ⟨gA, 0, none⟩) 3 cA, .slice (some ⟨gB, 0, none⟩) 3 cB, .slice (some ⟨gC, 0, none⟩) 3 cC, .slice (some ⟨gD, 0, none⟩) 3 cD, .slice (some ⟨gK, 0, none⟩) 80 cK, .slice (some ⟨gF, 0, none⟩) 8 cF]), .slice (some ⟨gs, 0, none⟩) 8 cs, .slice (some ⟨g3, t, none⟩) 128 cb] w' fun e w'' => ∃ v, e = .returned v ∧ ∃ base, w'.heap.size ≤ base ∧ Below w'.heap.size w' w'' ∧ w''.ownsRow base 55 1 v 8 (uv (blksR sh64 kk hf pd (k + 1))) := fun w' hb cb hcb => by
          have hRx := hR.on hb
          have hbx : BytesAt w' g3 t ((pd.drop t).take 128) := by
           have := sub_bytes (hbA.below hb (block_lt_of_cell (hbA 0 (by have := HPL.out; omega)))) t 128 (by rw [HPL.out]; exact hat)
           rwa [Nat.zero_add] at this
          have := block64 gA cA gB cB gC cC gD cD gK cK (.slice (some ⟨gF, 0, none⟩) 8 cF) gs cs (blksR sh64 kk hf pd k) g3 t cb ((pd.drop t).take 128) kk w' (blksR_len _ _ _ _ hfl k) (blksR_lt sh64 kk hf pd hfb k) ((hws.on hb)) (by rw [List.length_take, List.length_drop, HPL.out]; omega) (sub_lt pd t 128 hp256) hcb hbx (kA.below hRx.1) (kB.below hRx.1) (kC.below hRx.1) (kD.below hRx.1) (hkk.on hRx.1) hkb
          rw [ht] at this ⊢
          exact this
         have i1 : IntKind.i64.wrap ((t : Int) + 128) = (t : Int) + 128 := by simp [IntKind.wrap, IntKind.bits, IntKind.signed]; omega
         have i2 : (0 : Int) ≤ (t : Int) + 128 := by omega
         have i3 : (t : Int) + 128 ≤ (c3 : Int) := by omega
         have i4 : ¬ c3 = t := by omega
         have i5 : t ≤ ((t : Int) + 128).toNat := by omega
         have i6 : ((t : Int) + 128).toNat - t = 128 := by omega
         have hboxs : ∀ w', Below wr.heap.size wr w' → Below wr.heap.size wr w' ∧ w'.cell? ⟨w.heap.size, 0, none⟩ = some (.int .i64 64) ∧ w'.cell? ⟨w.heap.size, 1, none⟩ = some (.int .i64 80) ∧ w'.cell? ⟨w.heap.size, 2, none⟩ = some (.slice (some ⟨gA, 0, none⟩) 3 cA) ∧ w'.cell? ⟨w.heap.size, 3, none⟩ = some (.slice (some ⟨gB, 0, none⟩) 3 cB) ∧ w'.cell? ⟨w.heap.size, 4, none⟩ = some (.slice (some ⟨gC, 0, none⟩) 3 cC) ∧ w'.cell? ⟨w.heap.size, 5, none⟩ = some (.slice (some ⟨gD, 0, none⟩) 3 cD) ∧ w'.cell? ⟨w.heap.size, 6, none⟩ = some (.slice (some ⟨gK, 0, none⟩) 80 cK) ∧ w'.cell? ⟨w.heap.size, 7, none⟩ = some (.slice (some ⟨gF, 0, none⟩) 8 cF) := fun w' hb =>
          have hRx := hR.on hb
          ⟨hb, row_at hRx.2 0 _ rfl, row_at hRx.2 1 _ rfl, row_at hRx.2 2 _ rfl, row_at hRx.2 3 _ rfl, row_at hRx.2 4 _ rfl, row_at hRx.2 5 _ rfl, row_at hRx.2 6 _ rfl, row_at hRx.2 7 _ rfl⟩
         rw [← ht]
         have htl : t < L + 1 + z + 16 := by omega
         have HT : Hid (t = 128 * k) := ht
         clear ht
         go_wp2_with fail
         obtain ⟨_, u0, u1, u2, u3, u4, u5, u6, u7⟩ := hboxs wr (Below.refl _ _)
         obtain ⟨_, y0, y1, y2, y3, y4, y5, y6, y7⟩ := hboxs wr.drew (Below.refl _ _).drew
         have i7 : IntKind.i64.wrap ((t : Int) + IntKind.i64.wrap 128) = (t : Int) + 128 := by simp [IntKind.wrap, IntKind.bits, IntKind.signed]; omega
         have i8 : IntKind.i64.wrap 128 = 128 := by rfl
         refine wp_region_still_tail 10 (by kernel_rfl) (by kernel_rfl) ?_
         simp only [List.take_succ_cons, List.take_zero, List.drop_succ_cons, List.drop_zero]
         show wpStill _ _ wr.drew (fun a' => wpList _ _ _ _ a' wr.drew) _ _
         iterate 10 still_step
         refine wpStill_nil ?_
         go_wp2_with fail
         refine (hblk _ (Below.refl _ _).drew _ (by omega)).mono ?_
         rintro e w' ⟨v, rfl, base, hbs, hbq, hownq⟩
         obtain ⟨gq, cq, rfl, hgq, _⟩ := own_form hownq (by omega)
         have hc1 : Below wr.heap.size wr w' := (Below.refl _ _).drew.trans hbq
         clear u0 u1 u2 u3 u4 u5 u6 u7 y0 y1 y2 y3 y4 y5 y6 y7 i7 i8
         have hRn := hR.on hc1
         have x0n := row_at hRn.2 0 (.int .i64 64) rfl
         have hwn : Words w' gq 8 (blksR sh64 kk hf pd (k + 1)) := fun j hj => own_word hownq j hj _ (by simp [show j < (blksR sh64 kk hf pd (k + 1)).length by rw [blksR_len _ _ _ _ hfl]; exact hj])
         have hbn := hbA.below hc1 (block_lt_of_cell (hbA 0 (by have := HPL.out; omega)))
         have hen : ((128 * (k + 1) : Nat) : Int) = (t : Int) + 128 := by have := HT.out; omega
         clear hboxs hblk hR hws hbA x0 hownq i1 i2 i3 i4 i5 i6
         go_wp2_with fail
         go_roundw
         case rel => first | exact ⟨k + 1, by omega, by rw [hen], hRn, hbn, gq, cq, rfl, hwn⟩ | ((repeat apply Exists.intro); exact ⟨⟨k + 1, by omega, by rw [hen], hRn, hbn, gq, cq, rfl, hwn⟩, rfl⟩)
         case measure => simp [intOf]; omega
        ·obtain rfl : k = NB := by omega
         have hge : L + 1 + z + 16 ≤ 128 * k := Nat.le_of_eq HNL.out
         go_wp2_with fail
         clear x0 hbA hge
         obtain ⟨sv, hsv⟩ : ∃ x, x = blksR sh64 kk hf pd k := ⟨_, rfl⟩
         rw [← hsv] at hws
         have hsb : ∀ j, sv.getD j 0 < 18446744073709551616 := by rw [hsv]; exact blksR_lt sh64 kk hf pd hfb k
         have HSV : Hid (sv = blksR sh64 kk hf pd k) := hsv
         clear hsv
         obtain ⟨BB, hBB⟩ : ∃ x, x = wr.heap.size := ⟨_, rfl⟩
         have hgsB : gs < BB := by rw [hBB]; exact block_lt_of_cell (hws 0 (by omega))
         have hwBB : w.heap.size < BB := by rw [hBB]; exact lt_of_heap hR.2
         have hBsz : BB ≤ wr.heap.size := Nat.le_of_eq hBB
         clear hBB
         go_loopw [14, 13] (fun v14 v13 wr => ∃ i : Nat, i ≤ 8 ∧ v14 = .int .i64 (i : Int) ∧ RelB w (#[.int .i64 64, .int .i64 80, .slice (some ⟨gA, 0, none⟩) 3 cA, .slice (some ⟨gB, 0, none⟩) 3 cB, .slice (some ⟨gC, 0, none⟩) 3 cC, .slice (some ⟨gD, 0, none⟩) 3 cD, .slice (some ⟨gK, 0, none⟩) 80 cK, .slice (some ⟨gF, 0, none⟩) 8 cF]) wr ∧ Words wr gs 8 sv ∧ BB ≤ wr.heap.size ∧ ∃ a c, v13 = .slice a (8 * i) c ∧ wr.ownsRow BB 5 1 (.slice a (8 * i) c) (8 * i) (Hbv (stB 64 sv i))) (fun i _ _ => 8 - (intOf i).toNat)
         case atStart => exact ⟨0, by omega, rfl, hR, hws, hBsz, none, 0, rfl, World.ownsRow_nil _ _ _ _⟩
         case round =>
          clear hR hws hBsz
          obtain ⟨i, hi, rfl, hR, hws, hBsz, a, c, rfl, hown⟩ := hrel
          by_cases hlt : i < 8
          ·obtain ⟨x, hx⟩ : ∃ x, x = sv.getD i 0 := ⟨_, rfl⟩
           have bx : x < 18446744073709551616 := by have := hsb i; omega
           have d1 : wr.cell? ⟨gs, i, none⟩ = some (.int .u64 (x : Int)) := by rw [hx]; exact hws i hlt
           have HE : Hid (Hbv (stB 64 sv i) ++ Hbv (wb 64 x 8) = Hbv (stB 64 sv (i + 1))) := by
            show Hbv (stB 64 sv i) ++ Hbv (wb 64 x 8) = Hbv (stB 64 sv (i + 1))
            rw [hx, stB]; simp [Hbv]
           have hall : ∀ w', Below BB wr w' → Below BB wr w' ∧ w'.cell? ⟨w.heap.size, 0, none⟩ = some (.int .i64 64) ∧ w'.cell? ⟨w.heap.size, 1, none⟩ = some (.int .i64 80) ∧ w'.cell? ⟨w.heap.size, 2, none⟩ = some (.slice (some ⟨gA, 0, none⟩) 3 cA) ∧ w'.cell? ⟨w.heap.size, 3, none⟩ = some (.slice (some ⟨gB, 0, none⟩) 3 cB) ∧ w'.cell? ⟨w.heap.size, 4, none⟩ = some (.slice (some ⟨gC, 0, none⟩) 3 cC) ∧ w'.cell? ⟨w.heap.size, 5, none⟩ = some (.slice (some ⟨gD, 0, none⟩) 3 cD) ∧ w'.cell? ⟨w.heap.size, 6, none⟩ = some (.slice (some ⟨gK, 0, none⟩) 80 cK) ∧ w'.cell? ⟨w.heap.size, 7, none⟩ = some (.slice (some ⟨gF, 0, none⟩) 8 cF) ∧ w'.cell? ⟨gs, i, none⟩ = some (.int .u64 (x : Int)) := fun w' hb =>
            have hRx := hR.onB hwBB hb
            ⟨hb, row_at hRx.2 0 _ rfl, row_at hRx.2 1 _ rfl, row_at hRx.2 2 _ rfl, row_at hRx.2 3 _ rfl, row_at hRx.2 4 _ rfl, row_at hRx.2 5 _ rfl, row_at hRx.2 6 _ rfl, row_at hRx.2 7 _ rfl, (hb.cell (p := ⟨gs, i, none⟩) hgsB).trans d1⟩
           have hlt1 := hown.lt
           clear hx
           go_wp2_with fail
           go_region_held3 (fun w' => Below BB wr w' ∧ w'.cell? ⟨w.heap.size, 0, none⟩ = some (.int .i64 64) ∧ w'.cell? ⟨w.heap.size, 1, none⟩ = some (.int .i64 80) ∧ w'.cell? ⟨w.heap.size, 2, none⟩ = some (.slice (some ⟨gA, 0, none⟩) 3 cA) ∧ w'.cell? ⟨w.heap.size, 3, none⟩ = some (.slice (some ⟨gB, 0, none⟩) 3 cB) ∧ w'.cell? ⟨w.heap.size, 4, none⟩ = some (.slice (some ⟨gC, 0, none⟩) 3 cC) ∧ w'.cell? ⟨w.heap.size, 5, none⟩ = some (.slice (some ⟨gD, 0, none⟩) 3 cD) ∧ w'.cell? ⟨w.heap.size, 6, none⟩ = some (.slice (some ⟨gK, 0, none⟩) 80 cK) ∧ w'.cell? ⟨w.heap.size, 7, none⟩ = some (.slice (some ⟨gF, 0, none⟩) 8 cF) ∧ w'.cell? ⟨gs, i, none⟩ = some (.int .u64 (x : Int)))
            (first | exact hall _ hca | exact hall _ hc1 | exact hall _ (Below.refl _ _).drew)
            (first
             | (go_at_call 108; refine (bytesH64 _ _ _ _ _ _ _ _ ?_).mono ?_; assumption; rintro e w' ⟨_, rfl, gq, rfl, hbq, hgq, hrow⟩; have hcq : Below wr.heap.size wr w' := ((Below.refl _ _).drew.trans hbq); have hc1 : Below BB wr w' := hcq.mono hBsz; have hcB : BB ≤ w'.heap.size := Nat.le_trans hBsz hcq.size; have hownc := own_onT hown hcq; have hnw := news_row hrow)
             | (refine step_append_lies _ (by rfl) (.tmp 92) (.tmp 98) 22 (by rfl) BB 5 i0 (.int .u8 0) 1 1 Tryz.underlying22 hi0 hz0 hz1 hz2 rfl (by decide) _ _ _ (by rfl) hownc ⟨gq, 0, none⟩ 8 8 (Hbv (wb 64 x 8)) (by rfl) (by rfl) hnw bv_one (by omega) (by unfold maxLen; omega) (by omega) hcB _ rfl ?_; intro ga' ca' wa howna hgrowa hata hlta; have hca : Below BB wr wa := hc1.grown hgrowa hcB (fun k hk => (hlt1 k hk).1)))
           go_wp2_with fail
           rw [HE.out] at howna
           have hRn := hR.onB hwBB hca
           have hwn := hws.onB hgsB hca
           have hBn := Nat.le_trans hBsz hca.size
           go_roundw
           case rel => first | exact ⟨i + 1, by omega, by go_num, hRn, hwn, hBn, _, _, rfl, howna⟩ | ((repeat apply Exists.intro); exact ⟨⟨i + 1, by omega, by go_num, hRn, hwn, hBn, _, _, rfl, howna⟩, rfl⟩)
           case measure => simp [intOf]; omega
          ·obtain rfl : i = 8 := by omega
           have hq : stB 64 sv 8 = digQ64 kk hf bs := by rw [HSV.out, HNB.out, HPD.out]; rfl
           rw [hq] at hown
           go_wp2_with fail
           go_ret
           exact ⟨_, rfl, BB, Nat.le_of_lt hwBB, hR.1, hown⟩
end SR
end Go.Proofs.YtabgihjffjlfiaaGreatDoor
set_option linter.unusedVariables false
namespace Go.Proofs.YtabgihjffjlfiaaGreatDoor
namespace SR
open Go.RowKit Go.Sort Go.BigFrame
set_option maxRecDepth 100000
set_option maxHeartbeats 4000000
attribute [local go_sem ↓] Go.wp_at_zero Go.wp_at_succ
theorem heap_new' (w : World) (o : Obj) (k : Nat) (h : k = w.heap.size) : (w.alloc o).heap[k]? = some o := by rw [h]; exact heap_alloc_new _ _
theorem field37_6 {ρ : Operand → Value} {o : Oper} {x : Operand} {P : Nat} {w : World} (ho : o.op = .fieldAddr 102 x 6) (hx : ρ x = .pointer (some ⟨P, 0, none⟩)) : (execOp ρ o).run Tryz.prog w = .ok (.value (.pointer (some ⟨P, 6, none⟩))) w := by
 simp [execOp, ho, hx, go_sem]
theorem field37_7 {ρ : Operand → Value} {o : Oper} {x : Operand} {P : Nat} {w : World} (ho : o.op = .fieldAddr 102 x 7) (hx : ρ x = .pointer (some ⟨P, 0, none⟩)) : (execOp ρ o).run Tryz.prog w = .ok (.value (.pointer (some ⟨P, 7, none⟩))) w := by
 simp [execOp, ho, hx, go_sem]
theorem load35 {ρ : Operand → Value} {o : Oper} {x : Operand} {p : Addr} {w : World} {v : Value} (ho : o.op = .load 100 x) (hx : ρ x = .pointer (some p)) (hc : w.cell? p = some v) : (execOp ρ o).run Tryz.prog w = .ok (.value v) w := by
 simp [execOp, ho, hx, hc, go_sem]
theorem load3 {ρ : Operand → Value} {o : Oper} {x : Operand} {p : Addr} {w : World} {v : Value} (ho : o.op = .load 3 x) (hx : ρ x = .pointer (some p)) (hc : w.cell? p = some v) : (execOp ρ o).run Tryz.prog w = .ok (.value v) w := by
 simp [execOp, ho, hx, hc, go_sem]
theorem index34 {ρ : Operand → Value} {o : Oper} {x y : Operand} {g i cp : Nat} {w : World} (ho : o.op = .indexAddr 43 x y) (hx : ρ x = .slice (some ⟨g, 0, none⟩) 80 cp) (hy : ρ y = .int .i64 (i : Int)) (hi : i < 80) : (execOp ρ o).run Tryz.prog w = .ok (.value (.pointer (some ⟨g, i, none⟩))) w := by
 have h1 : (i : Int) < 80 := by omega
 have h2 : (0 : Int) ≤ (i : Int) := by omega
 simp [execOp, ho, hx, hy, h1, h2, go_sem]
theorem build35 {ρ : Operand → Value} {o : Oper} {x : Operand} {k : Int} {w : World} (ho : o.op = .buildSlice 100 1 #[(0, x)]) (hx : ρ x = .int .u64 k) : (execOp ρ o).run Tryz.prog w = .ok (.value (.slice (some ⟨w.heap.size, 0, none⟩) 1 1)) (w.alloc (.cells #[.int .u64 k] 55)) := by
 simp [execOp, ho, hx, go_sem]
theorem store35 {ρ : Operand → Value} {o : Oper} {x y : Operand} {p : Addr} {a : Option Addr} {n c : Nat} {v : Value} {w : World} (ho : o.op = .store 100 x y) (hx : ρ x = .pointer (some p)) (hy : ρ y = .slice a n c) (hc : w.cell? p = some v) (hf : w.frozen? p = false) : (execOp ρ o).run Tryz.prog w = .ok .skip (w.setCell p (.slice a n c)) := by
 simp [execOp, ho, hx, hy, hc, hf, go_sem]
structure Far (w : World) (B P gA gB gC gD gp : Nat) : Prop where
 wp : w.heap.size < P
 pb : P < B
 a : gA < B
 b : gB < B
 c : gC < B
 d : gD < B
 pp : gp < B
 na : gA ≠ P
 nb : gB ≠ P
 nc : gC ≠ P
 nd : gD ≠ P
 npp : gp ≠ P
 xa : gA ≠ w.heap.size
 xb : gB ≠ w.heap.size
 xc : gC ≠ w.heap.size
 xd : gD ≠ w.heap.size
theorem Far.mono {w : World} {B B' P gA gB gC gD gp : Nat} (h : Far w B P gA gB gC gD gp) (hB : B ≤ B') : Far w B' P gA gB gC gD gp :=
 ⟨h.wp, Nat.lt_of_lt_of_le h.pb hB, Nat.lt_of_lt_of_le h.a hB, Nat.lt_of_lt_of_le h.b hB, Nat.lt_of_lt_of_le h.c hB, Nat.lt_of_lt_of_le h.d hB, Nat.lt_of_lt_of_le h.pp hB, h.na, h.nb, h.nc, h.nd, h.npp, h.xa, h.xb, h.xc, h.xd⟩
theorem Row3.onB {w w' : World} {g a b c B : Nat} (h : Row3 w g a b c) (hg : g < B) (hb : Below B w w') : Row3 w' g a b c :=
 ⟨(hb.cell (p := ⟨g, 0, none⟩) hg).trans h.a, (hb.cell (p := ⟨g, 1, none⟩) hg).trans h.b, (hb.cell (p := ⟨g, 2, none⟩) hg).trans h.c⟩
theorem cell_setCell_ne (w : World) (p : Addr) (q : Addr) (v : Value) (h : p.block ≠ q.block) : (w.setCell q v).cell? p = w.cell? p := World.cell?_of_block (Below.heap_setCell w q v p.block h)
theorem size_setCell (w : World) (q : Addr) (v : Value) : (w.setCell q v).heap.size = w.heap.size := by simp [World.setCell]
theorem Row3.set {w : World} {g a b c P : Nat} (h : Row3 w g a b c) (hg : g ≠ P) (j : Nat) (v : Value) : Row3 (w.setCell ⟨P, j, none⟩ v) g a b c :=
 ⟨by rw [cell_setCell_ne _ _ _ _ hg]; exact h.a, by rw [cell_setCell_ne _ _ _ _ hg]; exact h.b, by rw [cell_setCell_ne _ _ _ _ hg]; exact h.c⟩
theorem words_set {w : World} {g n P : Nat} {l : List Nat} (h : Words w g n l) (hg : g ≠ P) (j : Nat) (v : Value) : Words (w.setCell ⟨P, j, none⟩ v) g n l :=
 fun i hi => by rw [cell_setCell_ne _ _ _ _ hg]; exact h i hi
theorem row3_of {w : World} {g a b c : Nat} (h : w.heap[g]? = some (.cells #[.int .i64 (a : Int), .int .i64 (b : Int), .int .i64 (c : Int)] 3 (0, 0))) : Row3 w g a b c :=
 ⟨row_at h 0 _ rfl, row_at h 1 _ rfl, row_at h 2 _ rfl⟩
theorem own_set {w : World} {B n P : Nat} {v : Value} {xs : List Value} (h : w.ownsRow B 55 1 v n xs) (hP : P < B) (j : Nat) (u : Value) : (w.setCell ⟨P, j, none⟩ u).ownsRow B 55 1 v n xs := by
 refine h.kept (row := some P) ⟨rfl, rfl, rfl, by rw [size_setCell]; exact Nat.le_refl _, fun k hk hne => heap_setCell_other _ _ _ _ (fun e => hne (by rw [e]))⟩ ?_
 cases hv : v.ownBlock with
 | none => exact .inl rfl
 | some x => exact .inr (fun e => by have := (h.lt x hv).1; injection e with e; omega)
end SR
end Go.Proofs.YtabgihjffjlfiaaGreatDoor
set_option linter.unusedVariables false
namespace Go.Proofs.YtabgihjffjlfiaaGreatDoor
namespace SR
open Go.RowKit Go.Sort Go.BigFrame
set_option maxRecDepth 100000
set_option maxHeartbeats 4000000
attribute [local go_sem ↓] Go.wp_at_zero Go.wp_at_succ
structure RelO64 (w wr : World) (B P gA gB gC gD gp : Nat) (H : Array Value) : Prop where
 bl : Below w.heap.size w wr
 res : wr.heap[w.heap.size]? = some (.cells #[.int .i64 0, .int .i64 0, .slice none 0 0, .slice none 0 0, .slice none 0 0, .slice none 0 0, .slice none 0 0, .slice none 0 0] 102 (0, 0))
 box : wr.heap[P]? = some (.cells H 102 (0, 0))
 rA : Row3 wr gA 28 34 39
 rB : Row3 wr gB 14 18 41
 rC : Row3 wr gC 1 8 7
 rD : Row3 wr gD 19 61 6
 pr : Ints wr gp 80 PT
 sz : B ≤ wr.heap.size
theorem RelO64.on {w wr w1 : World} {B P gA gB gC gD gp : Nat} {H : Array Value} (h : RelO64 w wr B P gA gB gC gD gp H) (f : Far w B P gA gB gC gD gp) (hb : Below B wr w1) : RelO64 w w1 B P gA gB gC gD gp H :=
 ⟨h.bl.trans (hb.mono (by have := f.wp; have := f.pb; omega)), (hb.block _ (by have := f.wp; have := f.pb; omega)).trans h.res, (hb.block _ f.pb).trans h.box, h.rA.onB f.a hb, h.rB.onB f.b hb, h.rC.onB f.c hb, h.rD.onB f.d hb, fun j hj => (hb.cell (p := ⟨gp, j, none⟩) f.pp).trans (h.pr j hj), Nat.le_trans h.sz hb.size⟩
theorem RelO64.store {w wr : World} {B P gA gB gC gD gp : Nat} {H : Array Value} (h : RelO64 w wr B P gA gB gC gD gp H) (f : Far w B P gA gB gC gD gp) (j : Nat) (v : Value) : RelO64 w (wr.setCell ⟨P, j, none⟩ v) B P gA gB gC gD gp (H.setIfInBounds j v) :=
 ⟨h.bl.setCell (Nat.le_of_lt f.wp) _, by rw [heap_setCell_other _ _ _ _ (by have := f.wp; simp; omega)]; exact h.res, heap_setCell_same _ _ _ _ _ _ h.box, h.rA.set f.na j v, h.rB.set f.nb j v, h.rC.set f.nc j v, h.rD.set f.nd j v, fun i hi => by rw [cell_setCell_ne _ _ _ _ f.npp]; exact h.pr i hi, by rw [size_setCell]; exact h.sz⟩
theorem RelO64.base {w wr : World} {B B' P gA gB gC gD gp : Nat} {H : Array Value} (h : RelO64 w wr B P gA gB gC gD gp H) (hB : B' ≤ wr.heap.size) : RelO64 w wr B' P gA gB gC gD gp H :=
 ⟨h.bl, h.res, h.box, h.rA, h.rB, h.rC, h.rD, h.pr, hB⟩
theorem tow64 (w : World) : ∀ W0, W0 = ((((((w.alloc (.cells #[.int .i64 0, .int .i64 0, .slice none 0 0, .slice none 0 0, .slice none 0 0, .slice none 0 0, .slice none 0 0, .slice none 0 0] 102)).alloc (.cells #[.int .i64 28, .int .i64 34, .int .i64 39] 3)).alloc (.cells #[.int .i64 14, .int .i64 18, .int .i64 41] 3)).alloc (.cells #[.int .i64 1, .int .i64 8, .int .i64 7] 3)).alloc (.cells #[.int .i64 19, .int .i64 61, .int .i64 6] 3)).alloc (.cells #[.int .i64 64, .int .i64 80, .slice (some ⟨w.heap.size + 1, 0, none⟩) 3 3, .slice (some ⟨w.heap.size + 1 + 1, 0, none⟩) 3 3, .slice (some ⟨w.heap.size + 1 + 1 + 1, 0, none⟩) 3 3, .slice (some ⟨w.heap.size + 1 + 1 + 1 + 1, 0, none⟩) 3 3, .slice none 0 0, .slice none 0 0] 102)) → W0.heap.size = w.heap.size + 6 ∧ Below w.heap.size w W0 ∧ W0.heap[w.heap.size]? = some (.cells #[.int .i64 0, .int .i64 0, .slice none 0 0, .slice none 0 0, .slice none 0 0, .slice none 0 0, .slice none 0 0, .slice none 0 0] 102) ∧ W0.heap[w.heap.size + 1 + 1 + 1 + 1 + 1]? = some (.cells #[.int .i64 64, .int .i64 80, .slice (some ⟨w.heap.size + 1, 0, none⟩) 3 3, .slice (some ⟨w.heap.size + 1 + 1, 0, none⟩) 3 3, .slice (some ⟨w.heap.size + 1 + 1 + 1, 0, none⟩) 3 3, .slice (some ⟨w.heap.size + 1 + 1 + 1 + 1, 0, none⟩) 3 3, .slice none 0 0, .slice none 0 0] 102) ∧ W0.heap[w.heap.size + 1]? = some (.cells #[.int .i64 28, .int .i64 34, .int .i64 39] 3) ∧ W0.heap[w.heap.size + 1 + 1]? = some (.cells #[.int .i64 14, .int .i64 18, .int .i64 41] 3) ∧ W0.heap[w.heap.size + 1 + 1 + 1]? = some (.cells #[.int .i64 1, .int .i64 8, .int .i64 7] 3) ∧ W0.heap[w.heap.size + 1 + 1 + 1 + 1]? = some (.cells #[.int .i64 19, .int .i64 61, .int .i64 6] 3) := fun W0 h => by
 subst h
 refine ⟨by simp only [size_alloc], (((((((Below.refl _ _).alloc (by first | exact Nat.le_refl _ | (simp only [size_alloc]; omega)) _).alloc (by first | exact Nat.le_refl _ | (simp only [size_alloc]; omega)) _).alloc (by first | exact Nat.le_refl _ | (simp only [size_alloc]; omega)) _).alloc (by first | exact Nat.le_refl _ | (simp only [size_alloc]; omega)) _).alloc (by first | exact Nat.le_refl _ | (simp only [size_alloc]; omega)) _).alloc (by first | exact Nat.le_refl _ | (simp only [size_alloc]; omega)) _), ?_, ?_, ?_, ?_, ?_, ?_⟩ <;> (repeat (first | exact heap_new' _ _ _ (by simp only [size_alloc]; done) | exact heap_new' _ _ _ rfl | rw [heap_alloc_old _ _ (by simp only [size_alloc]; omega)]))
theorem of64 (w : World) : Calls Tryz.prog 82 #[.int .i64 64] w fun e w' => ∃ gA gB gC gD gK cK gF cF, e = .returned (.agg #[.int .i64 64, .int .i64 80, .slice (some ⟨gA, 0, none⟩) 3 3, .slice (some ⟨gB, 0, none⟩) 3 3, .slice (some ⟨gC, 0, none⟩) 3 3, .slice (some ⟨gD, 0, none⟩) 3 3, .slice (some ⟨gK, 0, none⟩) 80 cK, .slice (some ⟨gF, 0, none⟩) 8 cF]) ∧ Below w.heap.size w w' ∧
  Row3 w' gA 28 34 39 ∧ Row3 w' gB 14 18 41 ∧ Row3 w' gC 1 8 7 ∧ Row3 w' gD 19 61 6 ∧ Words w' gK 80 KS ∧ Words w' gF 8 HS := by
 have h39i : (Tryz.prog.info? 55).map (fun i => (i.zero, i.size, i.bytes)) = some (some (.int .u64 0), 1, 8) := by kernel_rfl
 obtain ⟨i0, hi0, hz0, hz1, hz2⟩ := info_parts h39i
 go_enter Tryz.func82, Tryz.ntmps82
 go_wp2_with fail
 refine (primes80 _).mono ?_
 rintro e w1 ⟨v, rfl, hb1, hown⟩
 obtain ⟨hs0, hbw, t0, t5, tA, tB, tC, tD⟩ := tow64 w _ rfl
 rw [hs0] at hown
 obtain ⟨gp, cp, rfl, hgp0, _⟩ := own_formT hown (by omega)
 have hpr : Ints w1 gp 80 PT := fun i hi => by rw [hown.cellAt i (by omega)]; simp [iv, show i < PT.length by rw [PT_len]; exact hi]
 have hgpl := (hown.lt gp rfl).2
 have hB1 : Below w.heap.size w w1 := hbw.trans (hb1.mono (by rw [hs0]; omega))
 have s0 := block_below hb1 (by rw [hs0]; omega) t0
 have s5 := block_below hb1 (by rw [hs0]; omega) t5
 have sA := block_below hb1 (by rw [hs0]; omega) tA
 have sB := block_below hb1 (by rw [hs0]; omega) tB
 have sC := block_below hb1 (by rw [hs0]; omega) tC
 have sD := block_below hb1 (by rw [hs0]; omega) tD
 have hs1 := hb1.size
 rw [hs0] at hs1
 clear hb1 hown t0 t5 tA tB tC tD hbw hs0
 generalize hP : w.heap.size + 1 + 1 + 1 + 1 + 1 = P at *
 generalize hgD : w.heap.size + 1 + 1 + 1 + 1 = gD at *
 generalize hgC : w.heap.size + 1 + 1 + 1 = gC at *
 generalize hgB : w.heap.size + 1 + 1 = gB at *
 generalize hgA : w.heap.size + 1 = gA at *
 obtain ⟨BB, hBB⟩ : ∃ x, x = w1.heap.size := ⟨_, rfl⟩
 have hfar : Far w BB P gA gB gC gD gp := ⟨by omega, by omega, by omega, by omega, by omega, by omega, by omega, by omega, by omega, by omega, by omega, by omega, by omega, by omega, by omega, by omega⟩
 have hR : RelO64 w w1 BB P gA gB gC gD gp (#[.int .i64 64, .int .i64 80, .slice (some ⟨gA, 0, none⟩) 3 3, .slice (some ⟨gB, 0, none⟩) 3 3, .slice (some ⟨gC, 0, none⟩) 3 3, .slice (some ⟨gD, 0, none⟩) 3 3, .slice none 0 0, .slice none 0 0]) := ⟨hB1, s0, s5, row3_of sA, row3_of sB, row3_of sC, row3_of sD, hpr, by omega⟩
 clear hB1 s0 s5 sA sB sC sD hpr hBB hgp0 hgpl hs1 hP hgD hgC hgB hgA
 go_wp2_with fail
 go_loopw [5] (fun v5 wr => ∃ i : Nat, i ≤ 80 ∧ v5 = .int .i64 (i : Int) ∧ ∃ vK, RelO64 w wr BB P gA gB gC gD gp (#[.int .i64 64, .int .i64 80, .slice (some ⟨gA, 0, none⟩) 3 3, .slice (some ⟨gB, 0, none⟩) 3 3, .slice (some ⟨gC, 0, none⟩) 3 3, .slice (some ⟨gD, 0, none⟩) 3 3, vK, (.slice none 0 0)]) ∧ wr.ownsRow BB 55 1 vK i (uv (KS.take i))) (fun i _ => 80 - (intOf i).toNat)
 case atStart => exact ⟨0, by omega, rfl, _, hR, World.ownsRow_nil _ _ _ _⟩
 case round =>
  clear hR
  obtain ⟨i, hi, rfl, vK, hR, hown⟩ := hrel
  have c1 := row_at hR.box 1 (.int .i64 80) rfl
  by_cases hlt : i < 80
  ·obtain ⟨pi, hpi⟩ : ∃ x, x = PT.getD i 0 := ⟨_, rfl⟩
   obtain ⟨xi, hxi⟩ : ∃ x, x = KS.getD i 0 := ⟨_, rfl⟩
   obtain ⟨ki, hki⟩ : ∃ x, x = KS.getD i 0 := ⟨_, rfl⟩
   have hroot : ∀ w, Calls Tryz.prog 106 #[.int .i64 (pi : Int), .int .i64 3] w fun e w' => e = .returned (.int .u64 (xi : Int)) ∧ Below w.heap.size w w' := fun w => by rw [hpi, hxi]; exact root3_at i (by omega) w
   have htop : ∀ w, Calls Tryz.prog 105 #[.agg (#[.int .i64 64, .int .i64 80, .slice (some ⟨gA, 0, none⟩) 3 3, .slice (some ⟨gB, 0, none⟩) 3 3, .slice (some ⟨gC, 0, none⟩) 3 3, .slice (some ⟨gD, 0, none⟩) 3 3, vK, (.slice none 0 0)]), .int .u64 (xi : Int)] w fun e w' => e = .returned (.int .u64 (ki : Int)) ∧ Below w.heap.size w w' := fun w => by
    rw [hki, ← hxi]; exact topH64 _ _ _ _ _ _ xi w (by rw [hxi]; exact KS_lt i)
   have hpc : wr.cell? ⟨gp, i, none⟩ = some (.int .i64 (pi : Int)) := by rw [hpi]; exact hR.pr i (by omega)
   have HE : Hid (uv (KS.take i) ++ [.int .u64 (ki : Int)] = uv (KS.take (i + 1))) := by
    show uv (KS.take i) ++ [.int .u64 (ki : Int)] = uv (KS.take (i + 1))
    rw [take_snoc' (by show i < KS.length; rw [show KS.length = 80 from by kernel_rfl]; omega), ← hki]; simp [uv]
   clear hpi hxi hki
   have hsz : BB ≤ wr.heap.size := hR.sz
   have hbox : ∀ w', Below BB wr w' → w'.heap[P]? = some (.cells (#[.int .i64 64, .int .i64 80, .slice (some ⟨gA, 0, none⟩) 3 3, .slice (some ⟨gB, 0, none⟩) 3 3, .slice (some ⟨gC, 0, none⟩) 3 3, .slice (some ⟨gD, 0, none⟩) 3 3, vK, (.slice none 0 0)]) 102 (0, 0)) := fun w' hb => (hR.on hfar hb).box
   have hpx : ∀ w', Below BB wr w' → w'.cell? ⟨gp, i, none⟩ = some (.int .i64 (pi : Int)) := fun w' hb => (hb.cell (p := ⟨gp, i, none⟩) hfar.pp).trans hpc
   have h37 : (Tryz.prog.info? 102).map (·.size) = some 8 := by kernel_rfl
   have hlt1 := hown.lt
   have hS0 : Below BB wr wr.drew := (Below.refl _ _).drew
   go_wp2_with fail
   refine wp_region_Z (fun w' => Below BB wr w') 12 (by kernel_rfl) ?_
   show wpZ _ _ _ _ _ _ 13 (Array.replicate 13 false) _ wr.drew
   refine takeZ (i := 0) (some 26) _ rfl rfl (by kernel_rfl) (fun _ _ _ h => h) (yields_run (v := .pointer (some ⟨P, 6, none⟩)) rfl fun w' _ => field37_6 (x := .tmp 3) rfl rfl) hS0 ?_
   simp only [Act.put, lA, lS, lZ]
   refine takeZ (i := 1) (some 27) _ rfl rfl (by kernel_rfl) (fun _ _ _ h => h) (yields_run (v := vK) rfl fun w' hb => load35 (x := .tmp 26) rfl rfl (row_at (hbox w' hb) 6 _ rfl)) hS0 ?_
   simp only [Act.put, lA, lS, lZ]
   refine takeZ (i := 2) (some 28) _ rfl rfl (by kernel_rfl) (fun _ _ _ h => h) (yields_load_row rfl 102 (.tmp 3) rfl P rfl 102 (#[.int .i64 64, .int .i64 80, .slice (some ⟨gA, 0, none⟩) 3 3, .slice (some ⟨gB, 0, none⟩) 3 3, .slice (some ⟨gC, 0, none⟩) 3 3, .slice (some ⟨gD, 0, none⟩) 3 3, vK, (.slice none 0 0)]) (0, 0) _ (fun w' hb => hbox w' hb) Tryz.underlying102 rfl h37) hS0 ?_
   simp only [Act.put, lA, lS, lZ]
   refine takeZ (i := 3) (some 29) _ rfl rfl (by kernel_rfl) (fun _ _ _ h => h) (yields_move rfl (.tmp 4) rfl) hS0 ?_
   simp only [Act.put, lA, lS, lZ]
   refine takeZ (i := 4) (some 30) _ rfl rfl (by kernel_rfl) (fun _ _ _ h => h) (yields_move rfl (.tmp 5) rfl) hS0 ?_
   simp only [Act.put, lA, lS, lZ]
   refine takeZ (i := 5) (some 31) _ rfl rfl (by kernel_rfl) (fun _ _ _ h => h) (yields_run (v := .pointer (some ⟨gp, i, none⟩)) rfl fun w' _ => index34 (x := .tmp 29) (y := .tmp 30) (i := i) (cp := cp) rfl rfl rfl (by omega)) hS0 ?_
   simp only [Act.put, lA, lS, lZ]
   refine takeZ (i := 6) (some 32) _ rfl rfl (by kernel_rfl) (fun _ _ _ h => h) (yields_run (v := .int .i64 (pi : Int)) rfl fun w' hb => load3 (x := .tmp 31) rfl rfl (hpx w' hb)) hS0 ?_
   simp only [Act.put, lA, lS, lZ]
   refine oneZ (i := 7) (by kernel_rfl) ?_
   refine call_at (some 33) rfl rfl rfl 106 #[.int .i64 (pi : Int), .int .i64 3] (R := fun v w' => v = .int .u64 (xi : Int) ∧ Below wr.drew.heap.size wr.drew w') (by kernel_rfl) ((hroot _).mono fun e w' h => ⟨_, h.1, rfl, h.2⟩) ?_
   rintro v1 wq ⟨rfl, hbq⟩
   have hc1 : Below wr.heap.size wr wq := (Below.refl _ _).drew.trans hbq
   refine ⟨fun _ => hc1.mono hsz, ?_⟩
   simp only [Act.put, lA, lS, lZ]
   refine oneZ (i := 8) (by kernel_rfl) ?_
   refine call_at (some 34) rfl rfl rfl 105 #[.agg (#[.int .i64 64, .int .i64 80, .slice (some ⟨gA, 0, none⟩) 3 3, .slice (some ⟨gB, 0, none⟩) 3 3, .slice (some ⟨gC, 0, none⟩) 3 3, .slice (some ⟨gD, 0, none⟩) 3 3, vK, (.slice none 0 0)]), .int .u64 (xi : Int)] (R := fun v w' => v = .int .u64 (ki : Int) ∧ Below wq.heap.size wq w') (by kernel_rfl) ((htop _).mono fun e w' h => ⟨_, h.1, rfl, h.2⟩) ?_
   rintro v2 wp ⟨rfl, hbp⟩
   have hc2 : Below wr.heap.size wr wp := hc1.trans (hbp.mono hc1.size)
   have hcB : BB ≤ wp.heap.size := Nat.le_trans hsz hc2.size
   refine ⟨fun _ => hc2.mono hsz, ?_⟩
   simp only [Act.put, lA, lS, lZ]
   have hownc := own_onV hown hc2
   refine oneZ (i := 9) (by kernel_rfl) ?_
   refine new_at (some 35) (.slice (some ⟨wp.heap.size, 0, none⟩) 1 1) (.cells #[.int .u64 (ki : Int)] 55) rfl rfl rfl (build35 (x := .tmp 34) rfl rfl) ?_
   refine ⟨fun _ => (hc2.mono hsz).alloc hcB _, ?_⟩
   simp only [Act.put, lA, lS, lZ]
   refine oneZ (i := 10) (by kernel_rfl) ?_
   refine wpOp_of_wp rfl rfl (wp_append_lies _ (.tmp 27) (.tmp 35) 100 rfl BB 55 i0 (.int .u64 0) 1 8 Tryz.underlying100 hi0 hz0 hz1 hz2 rfl (by decide) vK i _ rfl (hownc.alloc _) ⟨wp.heap.size, 0, none⟩ 1 1 [.int .u64 (ki : Int)] rfl rfl (Hnews_one _ _ _) one_word (by omega) (by unfold maxLen; omega) (by omega) (by simp; omega) _ rfl ?_)
   intro ga ca wa howna hgrowa hata hlta
   have hca : Below BB wr wa := ((hc2.mono hsz).alloc hcB _).grown hgrowa (by simp; omega) (fun k hk => (hlt1 k hk).1)
   refine ⟨fun _ => hca, ?_⟩
   have e10 : ∀ (a : Act) (v : Value), a.put (some 36) v = a.put (some 36) v := fun _ _ => rfl
   show wpZ _ _ _ _ _ _ _ _ (Act.put _ (some 36) _) _
   simp only [Act.put, lA, lS, lZ]
   refine oneZ (i := 11) (by kernel_rfl) ?_
   refine run_at (some 37) (.pointer (some ⟨P, 6, none⟩)) rfl rfl rfl (field37_6 (x := .tmp 3) rfl rfl) ?_
   refine ⟨fun _ => hca, ?_⟩
   simp only [Act.put, lA, lS, lZ]
   have hcx := row_at (hbox wa hca) 6 vK rfl
   have hfx := free_ints (hbox wa hca) 6
   refine oneZ (i := 12) (by kernel_rfl) ?_
   refine store1_at (.slice (some ⟨ga, 0, none⟩) (i + 1) ca) rfl rfl rfl (store35 (x := .tmp 37) (y := .tmp 36) rfl rfl rfl hcx hfx) ?_
   refine ⟨fun h => absurd rfl h, doneZ (by kernel_rfl) ?_ _⟩
   rw [HE.out] at howna
   have hRn := (hR.on hfar hca).store hfar 6 (.slice (some ⟨ga, 0, none⟩) (i + 1) ca)
   have hon := own_set howna hfar.pb 6 (.slice (some ⟨ga, 0, none⟩) (i + 1) ca)
   
   clear hcx hfx hownc hgrowa hata hlta hc1 hc2 hbp hbq hcB hbox hpx hS0 e10
   go_wp2_with fail
   go_roundw
   case rel => first | exact ⟨i + 1, by omega, by go_num, _, hRn, hon⟩ | ((repeat apply Exists.intro); exact ⟨⟨i + 1, by omega, by go_num, _, hRn, hon⟩, rfl⟩)
   case measure => simp [intOf]; omega
  ·obtain rfl : i = 80 := by omega
   obtain ⟨gK, cK, rfl, _, _⟩ := own_form hown (by omega)
   have hKw : Words wr gK 80 KS := words_of hown (by show 80 ≤ KS.length; exact Nat.le_of_eq (by kernel_rfl))
   obtain ⟨hKl, hKu⟩ := hown.lt gK rfl
   obtain ⟨BC, hBC⟩ : ∃ x, x = wr.heap.size := ⟨_, rfl⟩
   have hgKB : gK < BC := by rw [hBC]; exact hKu
   have hgKP : gK ≠ P := by have := hfar.pb; omega
   have hgKW : gK ≠ w.heap.size := by have := hfar.pb; have := hfar.wp; omega
   have hle : BB ≤ BC := by rw [hBC]; exact hR.sz
   have hR := hR.base (Nat.le_of_eq hBC)
   have hfar := hfar.mono hle
   clear hown hKl hKu hBC hle
   go_wp2_with fail
   clear c1
   go_loopw [6] (fun v5 wr => ∃ i : Nat, i ≤ 8 ∧ v5 = .int .i64 (i : Int) ∧ ∃ vK, RelO64 w wr BC P gA gB gC gD gp (#[.int .i64 64, .int .i64 80, .slice (some ⟨gA, 0, none⟩) 3 3, .slice (some ⟨gB, 0, none⟩) 3 3, .slice (some ⟨gC, 0, none⟩) 3 3, .slice (some ⟨gD, 0, none⟩) 3 3, (.slice (some ⟨gK, 0, none⟩) 80 cK), vK]) ∧ Words wr gK 80 KS ∧ wr.ownsRow BC 55 1 vK i (uv (HS.take i))) (fun i _ => 8 - (intOf i).toNat)
   case atStart => exact ⟨0, by omega, rfl, _, hR, hKw, World.ownsRow_nil _ _ _ _⟩
   case round =>
    clear hR hKw
    obtain ⟨i, hi, rfl, vK, hR, hKw, hown⟩ := hrel
    have c1 := row_at hR.box 1 (.int .i64 80) rfl
    by_cases hlt : i < 8
    ·obtain ⟨pi, hpi⟩ : ∃ x, x = PT.getD i 0 := ⟨_, rfl⟩
     obtain ⟨xi, hxi⟩ : ∃ x, x = HS.getD i 0 := ⟨_, rfl⟩
     obtain ⟨ki, hki⟩ : ∃ x, x = HS.getD i 0 := ⟨_, rfl⟩
     have hroot : ∀ w, Calls Tryz.prog 106 #[.int .i64 (pi : Int), .int .i64 2] w fun e w' => e = .returned (.int .u64 (xi : Int)) ∧ Below w.heap.size w w' := fun w => by rw [hpi, hxi]; exact root2_at i (by omega) w
     have htop : ∀ w, Calls Tryz.prog 105 #[.agg (#[.int .i64 64, .int .i64 80, .slice (some ⟨gA, 0, none⟩) 3 3, .slice (some ⟨gB, 0, none⟩) 3 3, .slice (some ⟨gC, 0, none⟩) 3 3, .slice (some ⟨gD, 0, none⟩) 3 3, (.slice (some ⟨gK, 0, none⟩) 80 cK), vK]), .int .u64 (xi : Int)] w fun e w' => e = .returned (.int .u64 (ki : Int)) ∧ Below w.heap.size w w' := fun w => by
      rw [hki, ← hxi]; exact topH64 _ _ _ _ _ _ xi w (by rw [hxi]; exact HS_lt i)
     have hpc : wr.cell? ⟨gp, i, none⟩ = some (.int .i64 (pi : Int)) := by rw [hpi]; exact hR.pr i (by omega)
     have HE : Hid (uv (HS.take i) ++ [.int .u64 (ki : Int)] = uv (HS.take (i + 1))) := by
      show uv (HS.take i) ++ [.int .u64 (ki : Int)] = uv (HS.take (i + 1))
      rw [take_snoc' (by show i < HS.length; rw [show HS.length = 8 from by kernel_rfl]; omega), ← hki]; simp [uv]
     clear hpi hxi hki
     have hsz : BC ≤ wr.heap.size := hR.sz
     have hbox : ∀ w', Below BC wr w' → w'.heap[P]? = some (.cells (#[.int .i64 64, .int .i64 80, .slice (some ⟨gA, 0, none⟩) 3 3, .slice (some ⟨gB, 0, none⟩) 3 3, .slice (some ⟨gC, 0, none⟩) 3 3, .slice (some ⟨gD, 0, none⟩) 3 3, (.slice (some ⟨gK, 0, none⟩) 80 cK), vK]) 102 (0, 0)) := fun w' hb => (hR.on hfar hb).box
     have hpx : ∀ w', Below BC wr w' → w'.cell? ⟨gp, i, none⟩ = some (.int .i64 (pi : Int)) := fun w' hb => (hb.cell (p := ⟨gp, i, none⟩) hfar.pp).trans hpc
     have h37 : (Tryz.prog.info? 102).map (·.size) = some 8 := by kernel_rfl
     have hlt1 := hown.lt
     have hS0 : Below BC wr wr.drew := (Below.refl _ _).drew
     go_wp2_with fail
     refine wp_region_Z (fun w' => Below BC wr w') 12 (by kernel_rfl) ?_
     show wpZ _ _ _ _ _ _ 13 (Array.replicate 13 false) _ wr.drew
     refine takeZ (i := 0) (some 42) _ rfl rfl (by kernel_rfl) (fun _ _ _ h => h) (yields_run (v := .pointer (some ⟨P, 7, none⟩)) rfl fun w' _ => field37_7 (x := .tmp 3) rfl rfl) hS0 ?_
     simp only [Act.put, lA, lS, lZ]
     refine takeZ (i := 1) (some 43) _ rfl rfl (by kernel_rfl) (fun _ _ _ h => h) (yields_run (v := vK) rfl fun w' hb => load35 (x := .tmp 42) rfl rfl (row_at (hbox w' hb) 7 _ rfl)) hS0 ?_
     simp only [Act.put, lA, lS, lZ]
     refine takeZ (i := 2) (some 44) _ rfl rfl (by kernel_rfl) (fun _ _ _ h => h) (yields_load_row rfl 102 (.tmp 3) rfl P rfl 102 (#[.int .i64 64, .int .i64 80, .slice (some ⟨gA, 0, none⟩) 3 3, .slice (some ⟨gB, 0, none⟩) 3 3, .slice (some ⟨gC, 0, none⟩) 3 3, .slice (some ⟨gD, 0, none⟩) 3 3, (.slice (some ⟨gK, 0, none⟩) 80 cK), vK]) (0, 0) _ (fun w' hb => hbox w' hb) Tryz.underlying102 rfl h37) hS0 ?_
     simp only [Act.put, lA, lS, lZ]
     refine takeZ (i := 3) (some 45) _ rfl rfl (by kernel_rfl) (fun _ _ _ h => h) (yields_move rfl (.tmp 4) rfl) hS0 ?_
     simp only [Act.put, lA, lS, lZ]
     refine takeZ (i := 4) (some 46) _ rfl rfl (by kernel_rfl) (fun _ _ _ h => h) (yields_move rfl (.tmp 6) rfl) hS0 ?_
     simp only [Act.put, lA, lS, lZ]
     refine takeZ (i := 5) (some 47) _ rfl rfl (by kernel_rfl) (fun _ _ _ h => h) (yields_run (v := .pointer (some ⟨gp, i, none⟩)) rfl fun w' _ => index34 (x := .tmp 45) (y := .tmp 46) (i := i) (cp := cp) rfl rfl rfl (by omega)) hS0 ?_
     simp only [Act.put, lA, lS, lZ]
     refine takeZ (i := 6) (some 48) _ rfl rfl (by kernel_rfl) (fun _ _ _ h => h) (yields_run (v := .int .i64 (pi : Int)) rfl fun w' hb => load3 (x := .tmp 47) rfl rfl (hpx w' hb)) hS0 ?_
     simp only [Act.put, lA, lS, lZ]
     refine oneZ (i := 7) (by kernel_rfl) ?_
     refine call_at (some 49) rfl rfl rfl 106 #[.int .i64 (pi : Int), .int .i64 2] (R := fun v w' => v = .int .u64 (xi : Int) ∧ Below wr.drew.heap.size wr.drew w') (by kernel_rfl) ((hroot _).mono fun e w' h => ⟨_, h.1, rfl, h.2⟩) ?_
     rintro v1 wq ⟨rfl, hbq⟩
     have hc1 : Below wr.heap.size wr wq := (Below.refl _ _).drew.trans hbq
     refine ⟨fun _ => hc1.mono hsz, ?_⟩
     simp only [Act.put, lA, lS, lZ]
     refine oneZ (i := 8) (by kernel_rfl) ?_
     refine call_at (some 50) rfl rfl rfl 105 #[.agg (#[.int .i64 64, .int .i64 80, .slice (some ⟨gA, 0, none⟩) 3 3, .slice (some ⟨gB, 0, none⟩) 3 3, .slice (some ⟨gC, 0, none⟩) 3 3, .slice (some ⟨gD, 0, none⟩) 3 3, (.slice (some ⟨gK, 0, none⟩) 80 cK), vK]), .int .u64 (xi : Int)] (R := fun v w' => v = .int .u64 (ki : Int) ∧ Below wq.heap.size wq w') (by kernel_rfl) ((htop _).mono fun e w' h => ⟨_, h.1, rfl, h.2⟩) ?_
     rintro v2 wp ⟨rfl, hbp⟩
     have hc2 : Below wr.heap.size wr wp := hc1.trans (hbp.mono hc1.size)
     have hcB : BC ≤ wp.heap.size := Nat.le_trans hsz hc2.size
     refine ⟨fun _ => hc2.mono hsz, ?_⟩
     simp only [Act.put, lA, lS, lZ]
     have hownc := own_onV hown hc2
     refine oneZ (i := 9) (by kernel_rfl) ?_
     refine new_at (some 51) (.slice (some ⟨wp.heap.size, 0, none⟩) 1 1) (.cells #[.int .u64 (ki : Int)] 55) rfl rfl rfl (build35 (x := .tmp 50) rfl rfl) ?_
     refine ⟨fun _ => (hc2.mono hsz).alloc hcB _, ?_⟩
     simp only [Act.put, lA, lS, lZ]
     refine oneZ (i := 10) (by kernel_rfl) ?_
     refine wpOp_of_wp rfl rfl (wp_append_lies _ (.tmp 43) (.tmp 51) 100 rfl BC 55 i0 (.int .u64 0) 1 8 Tryz.underlying100 hi0 hz0 hz1 hz2 rfl (by decide) vK i _ rfl (hownc.alloc _) ⟨wp.heap.size, 0, none⟩ 1 1 [.int .u64 (ki : Int)] rfl rfl (Hnews_one _ _ _) one_word (by omega) (by unfold maxLen; omega) (by omega) (by simp; omega) _ rfl ?_)
     intro ga ca wa howna hgrowa hata hlta
     have hca : Below BC wr wa := ((hc2.mono hsz).alloc hcB _).grown hgrowa (by simp; omega) (fun k hk => (hlt1 k hk).1)
     refine ⟨fun _ => hca, ?_⟩
     have e10 : ∀ (a : Act) (v : Value), a.put (some 52) v = a.put (some 52) v := fun _ _ => rfl
     show wpZ _ _ _ _ _ _ _ _ (Act.put _ (some 52) _) _
     simp only [Act.put, lA, lS, lZ]
     refine oneZ (i := 11) (by kernel_rfl) ?_
     refine run_at (some 53) (.pointer (some ⟨P, 7, none⟩)) rfl rfl rfl (field37_7 (x := .tmp 3) rfl rfl) ?_
     refine ⟨fun _ => hca, ?_⟩
     simp only [Act.put, lA, lS, lZ]
     have hcx := row_at (hbox wa hca) 7 vK rfl
     have hfx := free_ints (hbox wa hca) 7
     refine oneZ (i := 12) (by kernel_rfl) ?_
     refine store1_at (.slice (some ⟨ga, 0, none⟩) (i + 1) ca) rfl rfl rfl (store35 (x := .tmp 53) (y := .tmp 52) rfl rfl rfl hcx hfx) ?_
     refine ⟨fun h => absurd rfl h, doneZ (by kernel_rfl) ?_ _⟩
     rw [HE.out] at howna
     have hRn := (hR.on hfar hca).store hfar 7 (.slice (some ⟨ga, 0, none⟩) (i + 1) ca)
     have hon := own_set howna hfar.pb 7 (.slice (some ⟨ga, 0, none⟩) (i + 1) ca)
     have hKn := words_set (hKw.onB hgKB hca) hgKP 7 (.slice (some ⟨ga, 0, none⟩) (i + 1) ca)
     clear hcx hfx hownc hgrowa hata hlta hc1 hc2 hbp hbq hcB hbox hpx hS0 e10
     go_wp2_with fail
     go_roundw
     case rel => first | exact ⟨i + 1, by omega, by go_num, _, hRn, hKn, hon⟩ | ((repeat apply Exists.intro); exact ⟨⟨i + 1, by omega, by go_num, _, hRn, hKn, hon⟩, rfl⟩)
     case measure => simp [intOf]; omega
    ·obtain rfl : i = 8 := by omega
     obtain ⟨gF, cF, rfl, _, _⟩ := own_form hown (by omega)
     have hFw : Words wr gF 8 HS := words_of hown (by show 8 ≤ HS.length; exact Nat.le_of_eq (by kernel_rfl))
     have hFl := (hown.lt gF rfl).1
     have hwF : gF ≠ w.heap.size := by have := hfar.wp; have := hfar.pb; omega
     clear hown hFl c1
     have bx0 := row_at hR.box 0 _ rfl
     have bx1 := row_at hR.box 1 _ rfl
     have bx2 := row_at hR.box 2 _ rfl
     have bx3 := row_at hR.box 3 _ rfl
     have bx4 := row_at hR.box 4 _ rfl
     have bx5 := row_at hR.box 5 _ rfl
     have bx6 := row_at hR.box 6 _ rfl
     have bx7 := row_at hR.box 7 _ rfl
     have rx0 := row_at hR.res 0 _ rfl
     have rx1 := row_at hR.res 1 _ rfl
     have rx2 := row_at hR.res 2 _ rfl
     have rx3 := row_at hR.res 3 _ rfl
     have rx4 := row_at hR.res 4 _ rfl
     have rx5 := row_at hR.res 5 _ rfl
     have rx6 := row_at hR.res 6 _ rfl
     have rx7 := row_at hR.res 7 _ rfl
     have fx0 := free_ints hR.res 0
     have fx1 := free_ints hR.res 1
     have fx2 := free_ints hR.res 2
     have fx3 := free_ints hR.res 3
     have fx4 := free_ints hR.res 4
     have fx5 := free_ints hR.res 5
     have fx6 := free_ints hR.res 6
     have fx7 := free_ints hR.res 7
     go_wp2_with fail
     obtain ⟨Wf, hWf⟩ : ∃ x, x = ((((((((wr.setCell ⟨w.heap.size, 0, none⟩ (.int .i64 64)).setCell ⟨w.heap.size, 1, none⟩ (.int .i64 80)).setCell ⟨w.heap.size, 2, none⟩ (.slice (some ⟨gA, 0, none⟩) 3 3)).setCell ⟨w.heap.size, 3, none⟩ (.slice (some ⟨gB, 0, none⟩) 3 3)).setCell ⟨w.heap.size, 4, none⟩ (.slice (some ⟨gC, 0, none⟩) 3 3)).setCell ⟨w.heap.size, 5, none⟩ (.slice (some ⟨gD, 0, none⟩) 3 3)).setCell ⟨w.heap.size, 6, none⟩ (.slice (some ⟨gK, 0, none⟩) 80 cK)).setCell ⟨w.heap.size, 7, none⟩ (.slice (some ⟨gF, 0, none⟩) 8 cF)) := ⟨_, rfl⟩
     rw [← hWf]
     have z0 : Below w.heap.size w Wf := by rw [hWf]; exact (Below.setCell (Below.setCell (Below.setCell (Below.setCell (Below.setCell (Below.setCell (Below.setCell (Below.setCell hR.bl (p := ⟨w.heap.size, 0, none⟩) (Nat.le_refl _) (.int .i64 64)) (p := ⟨w.heap.size, 1, none⟩) (Nat.le_refl _) (.int .i64 80)) (p := ⟨w.heap.size, 2, none⟩) (Nat.le_refl _) (.slice (some ⟨gA, 0, none⟩) 3 3)) (p := ⟨w.heap.size, 3, none⟩) (Nat.le_refl _) (.slice (some ⟨gB, 0, none⟩) 3 3)) (p := ⟨w.heap.size, 4, none⟩) (Nat.le_refl _) (.slice (some ⟨gC, 0, none⟩) 3 3)) (p := ⟨w.heap.size, 5, none⟩) (Nat.le_refl _) (.slice (some ⟨gD, 0, none⟩) 3 3)) (p := ⟨w.heap.size, 6, none⟩) (Nat.le_refl _) (.slice (some ⟨gK, 0, none⟩) 80 cK)) (p := ⟨w.heap.size, 7, none⟩) (Nat.le_refl _) (.slice (some ⟨gF, 0, none⟩) 8 cF))
     have z1 : Row3 Wf gA 28 34 39 := by rw [hWf]; exact ((((((((hR.rA.set hfar.xa 0 (.int .i64 64)).set hfar.xa 1 (.int .i64 80)).set hfar.xa 2 (.slice (some ⟨gA, 0, none⟩) 3 3)).set hfar.xa 3 (.slice (some ⟨gB, 0, none⟩) 3 3)).set hfar.xa 4 (.slice (some ⟨gC, 0, none⟩) 3 3)).set hfar.xa 5 (.slice (some ⟨gD, 0, none⟩) 3 3)).set hfar.xa 6 (.slice (some ⟨gK, 0, none⟩) 80 cK)).set hfar.xa 7 (.slice (some ⟨gF, 0, none⟩) 8 cF))
     have z2 : Row3 Wf gB 14 18 41 := by rw [hWf]; exact ((((((((hR.rB.set hfar.xb 0 (.int .i64 64)).set hfar.xb 1 (.int .i64 80)).set hfar.xb 2 (.slice (some ⟨gA, 0, none⟩) 3 3)).set hfar.xb 3 (.slice (some ⟨gB, 0, none⟩) 3 3)).set hfar.xb 4 (.slice (some ⟨gC, 0, none⟩) 3 3)).set hfar.xb 5 (.slice (some ⟨gD, 0, none⟩) 3 3)).set hfar.xb 6 (.slice (some ⟨gK, 0, none⟩) 80 cK)).set hfar.xb 7 (.slice (some ⟨gF, 0, none⟩) 8 cF))
     have z3 : Row3 Wf gC 1 8 7 := by rw [hWf]; exact ((((((((hR.rC.set hfar.xc 0 (.int .i64 64)).set hfar.xc 1 (.int .i64 80)).set hfar.xc 2 (.slice (some ⟨gA, 0, none⟩) 3 3)).set hfar.xc 3 (.slice (some ⟨gB, 0, none⟩) 3 3)).set hfar.xc 4 (.slice (some ⟨gC, 0, none⟩) 3 3)).set hfar.xc 5 (.slice (some ⟨gD, 0, none⟩) 3 3)).set hfar.xc 6 (.slice (some ⟨gK, 0, none⟩) 80 cK)).set hfar.xc 7 (.slice (some ⟨gF, 0, none⟩) 8 cF))
     have z4 : Row3 Wf gD 19 61 6 := by rw [hWf]; exact ((((((((hR.rD.set hfar.xd 0 (.int .i64 64)).set hfar.xd 1 (.int .i64 80)).set hfar.xd 2 (.slice (some ⟨gA, 0, none⟩) 3 3)).set hfar.xd 3 (.slice (some ⟨gB, 0, none⟩) 3 3)).set hfar.xd 4 (.slice (some ⟨gC, 0, none⟩) 3 3)).set hfar.xd 5 (.slice (some ⟨gD, 0, none⟩) 3 3)).set hfar.xd 6 (.slice (some ⟨gK, 0, none⟩) 80 cK)).set hfar.xd 7 (.slice (some ⟨gF, 0, none⟩) 8 cF))
     have z5 : Words Wf gK 80 KS := by rw [hWf]; exact (words_set (words_set (words_set (words_set (words_set (words_set (words_set (words_set hKw hgKW 0 (.int .i64 64)) hgKW 1 (.int .i64 80)) hgKW 2 (.slice (some ⟨gA, 0, none⟩) 3 3)) hgKW 3 (.slice (some ⟨gB, 0, none⟩) 3 3)) hgKW 4 (.slice (some ⟨gC, 0, none⟩) 3 3)) hgKW 5 (.slice (some ⟨gD, 0, none⟩) 3 3)) hgKW 6 (.slice (some ⟨gK, 0, none⟩) 80 cK)) hgKW 7 (.slice (some ⟨gF, 0, none⟩) 8 cF))
     have z6 : Words Wf gF 8 HS := by rw [hWf]; exact (words_set (words_set (words_set (words_set (words_set (words_set (words_set (words_set hFw hwF 0 (.int .i64 64)) hwF 1 (.int .i64 80)) hwF 2 (.slice (some ⟨gA, 0, none⟩) 3 3)) hwF 3 (.slice (some ⟨gB, 0, none⟩) 3 3)) hwF 4 (.slice (some ⟨gC, 0, none⟩) 3 3)) hwF 5 (.slice (some ⟨gD, 0, none⟩) 3 3)) hwF 6 (.slice (some ⟨gK, 0, none⟩) 80 cK)) hwF 7 (.slice (some ⟨gF, 0, none⟩) 8 cF))
     have hfin : Wf.heap[w.heap.size]? = some (.cells (#[.int .i64 64, .int .i64 80, .slice (some ⟨gA, 0, none⟩) 3 3, .slice (some ⟨gB, 0, none⟩) 3 3, .slice (some ⟨gC, 0, none⟩) 3 3, .slice (some ⟨gD, 0, none⟩) 3 3, .slice (some ⟨gK, 0, none⟩) 80 cK, .slice (some ⟨gF, 0, none⟩) 8 cF]) 102 (0, 0)) := by
      rw [hWf]; exact (heap_setCell_same _ _ 7 _ _ (.slice (some ⟨gF, 0, none⟩) 8 cF) (heap_setCell_same _ _ 6 _ _ (.slice (some ⟨gK, 0, none⟩) 80 cK) (heap_setCell_same _ _ 5 _ _ (.slice (some ⟨gD, 0, none⟩) 3 3) (heap_setCell_same _ _ 4 _ _ (.slice (some ⟨gC, 0, none⟩) 3 3) (heap_setCell_same _ _ 3 _ _ (.slice (some ⟨gB, 0, none⟩) 3 3) (heap_setCell_same _ _ 2 _ _ (.slice (some ⟨gA, 0, none⟩) 3 3) (heap_setCell_same _ _ 1 _ _ (.int .i64 80) (heap_setCell_same _ _ 0 _ _ (.int .i64 64) hR.res))))))))
     have y0 := row_at hfin 0 _ rfl
     have y1 := row_at hfin 1 _ rfl
     have y2 := row_at hfin 2 _ rfl
     have y3 := row_at hfin 3 _ rfl
     have y4 := row_at hfin 4 _ rfl
     have y5 := row_at hfin 5 _ rfl
     have y6 := row_at hfin 6 _ rfl
     have y7 := row_at hfin 7 _ rfl
     clear hWf bx0 bx1 bx2 bx3 bx4 bx5 bx6 bx7 rx0 rx1 rx2 rx3 rx4 rx5 rx6 rx7 fx0 fx1 fx2 fx3 fx4 fx5 fx6 fx7
     (try simp only [Exit.inBlock, Exit.then])
     refine bodyPost_ret (by simp [results, Tryz.results82, go_sem, y0, y1, y2, y3, y4, y5, y6, y7]; try rfl) rfl ?_
     exact ⟨gA, gB, gC, gD, gK, cK, gF, cF, rfl, z0, z1, z2, z3, z4, z5, z6⟩
end SR
end Go.Proofs.YtabgihjffjlfiaaGreatDoor
set_option linter.unusedVariables false
namespace Go.Proofs.YtabgihjffjlfiaaGreatDoor
namespace SR
open Go.RowKit Go.Sort Go.BigFrame
set_option maxRecDepth 100000
set_option maxHeartbeats 2000000
theorem KS_b : ∀ j, KS.getD j 0 < 18446744073709551616 := KS_lt
theorem HS_b : ∀ j, HS.getD j 0 < 18446744073709551616 := HS_lt
theorem digQ64_dig (bs : List Nat) (hL : bs.length ≤ 100000000000000) : digQ64 KS HS bs = dig sh64 HS KS bs := by
 have h8 : 8 * bs.length < 256 ^ 8 := by have : (256 : Nat) ^ 8 = 18446744073709551616 := by decide
                                         omega
 rw [← digR_dig sh64 HS KS bs (by decide) h8]
 unfold digQ64 digR
 rw [blksR_blks sh64 KS KS HS _ (fun t ht => by simp [sh64])]
 rfl
theorem rsum512 (ad : Option Addr) (L cap : Nat) (bs : List Nat) (w : World) (hlen : bs.length = L) (hb256 : ∀ j, bs.getD j 0 < 256) (hL : L ≤ 100000000000000) (hv : View w ad bs) :
  Calls Tryz.prog 46 #[.slice ad L cap] w fun e w' => ∃ v, e = .returned v ∧ ∃ base, w.heap.size ≤ base ∧ Below w.heap.size w w' ∧ w'.ownsRow base 5 1 v 64 (Hbv (dig sh64 HS KS bs)) := by
 have hq := digQ64_dig bs (by omega)
 have HLEN : Hid (bs.length = L) := hlen
 clear hlen
 go_enter Tryz.func46, Tryz.ntmps46
 go_wp2_with fail
 refine (of64 _).mono ?_
 rintro e w1 ⟨gA, gB, gC, gD, gK, cK, gF, cF, rfl, hb1, rA, rB, rC, rD, hK, hF⟩
 go_wp2_with fail
 have hbb := fun o => below1 w1 o
 refine (refsum64 gA 3 gB 3 gC 3 gD 3 gK cK gF cF ad L cap bs KS HS _ HLEN.out hb256 hL ((hv.below hb1).below (hbb _)) (rA.below (hbb _)) (rB.below (hbb _)) (rC.below (hbb _)) (rD.below (hbb _)) (hK.on (hbb _)) KS_b (hF.on (hbb _)) (by kernel_rfl) HS_b).mono ?_
 rintro e w2 ⟨v, rfl, base, hbs, hb2, hown⟩
 rw [hq] at hown
 have hbf : Below w.heap.size w w2 := (hb1.alloc hb1.size _).trans (hb2.mono (by have := hb1.size; simp; omega))
 go_wp2
 go_ret
 exact ⟨v, rfl, base, by have := hb1.size; simp at hbs; omega, hbf, hown⟩
end SR
end Go.Proofs.YtabgihjffjlfiaaGreatDoor
set_option linter.unusedVariables false
namespace Go.Proofs.YtabgihjffjlfiaaGreatDoor
open Go.RowKit Go.Sort Go.BigFrame EN
set_option maxRecDepth 100000
set_option maxHeartbeats 4000000
theorem rSum512 {v : Value} {l : List Nat} (w : World) (h : Bts l v w) (hd : Dig l) (hl : l.length ≤ 100000) : Ret 46 #[v] w (OwnC w.heap.size (SH l)) := by
 obtain ⟨a, cap, rfl, h1, h2, hv⟩ := h
 refine (SR.rsum512 a l.length cap l w rfl hd (by omega) hv).mono ?_
 rintro e w' ⟨v, rfl, base, hb, hB, ho⟩
 exact ⟨_, rfl, hB, OwnC.lo (own_C (SH_len l) (by omega) ho) hb⟩
end Go.Proofs.YtabgihjffjlfiaaGreatDoor
set_option linter.unusedVariables false
namespace Go.Proofs.YtabgihjffjlfiaaGreatDoor
namespace EN
open Go.RowKit Go.Sort Go.BigFrame
set_option maxRecDepth 100000
set_option maxHeartbeats 2000000
def dblV (V b j : Nat) : Nat := (2 * (V % 256 ^ j) + b) % 256 ^ j + 256 ^ j * (V / 256 ^ j)
def dblC (V b j : Nat) : Nat := (2 * (V % 256 ^ j) + b) / 256 ^ j
theorem dbl_lo (V b j : Nat) : 2 * (V % 256 ^ (j + 1)) + b = 2 * (V % 256 ^ j) + b + 256 ^ j * (2 * (V / 256 ^ j % 256)) := by
 rw [Nat.pow_succ, Nat.mod_mul, Nat.mul_add, ← Nat.mul_assoc 2, Nat.mul_comm 2 (256 ^ j), Nat.mul_assoc]
 omega
theorem dblC_step (V b j : Nat) : dblC V b (j + 1) = (dblC V b j + 2 * (V / 256 ^ j % 256)) / 256 := by
 unfold dblC
 rw [dbl_lo, Nat.pow_succ, div_step _ _ _ (pos256 j)]
theorem dblV_get {V b j : Nat} (hj : j < 33) : (digs 33 (dblV V b j)).getD j 0 = V / 256 ^ j % 256 := by
 rw [digs_get 33 _ j hj, dblV, Nat.add_mul_div_left _ _ (pos256 j), Nat.div_eq_of_lt (Nat.mod_lt _ (pos256 j)), Nat.zero_add]
theorem dblV_step {V b j : Nat} (hj : j < 33) (hV : V < 256 ^ 32) : (digs 33 (dblV V b j)).set j ((dblC V b j + 2 * (V / 256 ^ j % 256)) % 256) = digs 33 (dblV V b (j + 1)) := by
 have hq := pos256 j
 have hle : 256 ^ j ≤ 256 ^ 32 := Nat.pow_le_pow_right (by decide) (by omega)
 have hlo : (2 * (V % 256 ^ j) + b) % 256 ^ j < 256 ^ j := Nat.mod_lt _ hq
 have hdm := Nat.div_add_mod V (256 ^ j)
 have h1 : dblV V b j < 256 ^ 33 := by
  unfold dblV
  have : (256 : Nat) ^ 33 = 256 * 256 ^ 32 := by decide
  omega
 have hst := mod_step (2 * (V % 256 ^ j) + b) (256 ^ j) (2 * (V / 256 ^ j % 256))
 have hv2 : dblV V b (j + 1) = (2 * (V % 256 ^ j) + b) % 256 ^ j + 256 ^ j * ((dblC V b j + 2 * (V / 256 ^ j % 256)) % 256) + 256 ^ j * (256 * (V / 256 ^ j / 256)) := by
  unfold dblV
  rw [dbl_lo, Nat.pow_succ, hst, Nat.mul_assoc, Nat.div_div_eq_div_mul]
  rfl
 have hs := valD_set (digs 33 (dblV V b j)) j ((dblC V b j + 2 * (V / 256 ^ j % 256)) % 256) (by rw [digs_len]; omega)
 rw [dblV_get hj, valD_digs_lt h1] at hs
 have hmm : 256 ^ j * (V / 256 ^ j) = 256 ^ j * (V / 256 ^ j % 256) + 256 ^ j * (256 * (V / 256 ^ j / 256)) := by
  rw [← Nat.mul_add, Nat.mod_add_div]
 refine digs_of ((digs_dig _ _).set (Nat.mod_lt _ (by decide))) (by rw [List.length_set, digs_len]) ?_
 unfold dblV at hs h1
 rw [hv2]
 unfold dblV
 omega
theorem dblV_zero (V b : Nat) : dblV V b 0 = V := by simp [dblV, Nat.mod_one]
theorem dblC_zero (V b : Nat) : dblC V b 0 = b := by simp [dblC, Nat.mod_one]
theorem dblV_end {V b : Nat} (hV : V < 256 ^ 32) (hb : b < 2) : dblV V b 33 = 2 * V + b := by
 have h3 : (256 : Nat) ^ 33 = 256 * 256 ^ 32 := by decide
 have h1 : V < 256 ^ 33 := by omega
 unfold dblV
 rw [Nat.mod_eq_of_lt h1, Nat.div_eq_of_lt h1, Nat.mul_zero, Nat.add_zero, Nat.mod_eq_of_lt (by omega)]
theorem dblC_le {V b : Nat} (j : Nat) (hb : b < 2) : dblC V b j ≤ 1 := by
 have hq := pos256 j
 have := Nat.mod_lt V hq
 have h2 : 2 * (V % 256 ^ j) + b < 2 * 256 ^ j := by omega
 have := (Nat.div_lt_iff_lt_mul hq).2 h2
 unfold dblC
 omega
def modA (D u k : Nat) : Nat := D * 2 ^ k + u / 2 ^ (8 - k)
theorem modA_step {D u k : Nat} (hk : k < 8) : modA D u (k + 1) = 2 * modA D u k + u / 2 ^ (7 - k) % 2 := by
 unfold modA
 have e1 : 2 ^ (8 - k) = 2 ^ (7 - k) * 2 := by rw [← Nat.pow_succ]; congr 1; omega
 have e2 : 8 - (k + 1) = 7 - k := by omega
 have h := Nat.div_add_mod (u / 2 ^ (7 - k)) 2
 rw [e1, e2, ← Nat.div_div_eq_div_mul, Nat.pow_succ, ← Nat.mul_assoc, Nat.mul_add]
 omega
theorem modA_mod {D u k M : Nat} (hk : k < 8) : (2 * (modA D u k % M) + u / 2 ^ (7 - k) % 2) % M = modA D u (k + 1) % M := by
 rw [modA_step hk, Nat.add_mod, Nat.mul_mod, Nat.mod_mod, ← Nat.mul_mod, ← Nat.add_mod]
def bitOf (k : Nat) : Nat := if k = 8 then 1 else 2 ^ (7 - k)
theorem bit_next {k : Nat} (h : k < 8) : (k = 7 ∧ bitOf k / 2 = 0 ∧ bitOf (k + 1) = 1) ∨ (k ≠ 7 ∧ bitOf k / 2 = bitOf (k + 1) ∧ 0 < bitOf (k + 1)) := by
 by_cases h7 : k = 7
 ·subst h7; exact .inl ⟨rfl, by decide, by decide⟩
 ·refine .inr ⟨h7, ?_, ?_⟩
  ·unfold bitOf
   rw [if_neg (by omega), if_neg (by omega), show 7 - k = (7 - (k + 1)) + 1 by omega, Nat.pow_succ, Nat.mul_div_cancel _ (by decide)]
  ·unfold bitOf
   rw [if_neg (by omega)]
   exact Nat.pow_pos (by decide)
theorem mod23 (a : Option Addr) (la ca : Nat) (x : List Nat) (b : Option Addr) (lb cb : Nat) (y : List Nat) (M : Nat) (w : World) (hx : Hid (x.length = la)) (hy : Hid (y.length = lb)) (hla : la ≤ 10000) (hlb : lb ≤ 33)
  (ha : IView w a x) (hb : IView w b y) (dx : Dig x) (dy : Dig y) (hM : Hid (valD y = M)) (hM0 : 0 < M) (hM1 : Hid (M < 256 ^ 32)) :
  Calls Tryz.prog 57 #[.slice a la ca, .slice b lb cb] w fun e w' => ∃ g, e = .returned (.slice (some ⟨g, 0, none⟩) 32 33) ∧ RelR w w' g (digs 33 (valD x % M)) := by
 have hmk := make31 33 (by omega)
 simp only [Int.cast_ofNat_Int] at hmk
 have hR0 : RelR w (w.alloc (.cells (ints .i64 (digs 33 0)) 3)) w.heap.size (digs 33 (valD (x.drop la) % M)) := by
  rw [List.drop_of_length_le (by rw [hx.out]; exact Nat.le_refl _)]
  exact ⟨below1 _ _, Nat.le_refl _, by rw [show valD [] % M = 0 from Nat.zero_mod _]; exact alloc_row _ _ _⟩
 go_enter Tryz.func57, Tryz.ntmps57
 go_wp2_with fail
 go_loopw [5, 6] (fun v i wr => ∃ j g : Nat, j ≤ la ∧ i = .int .i64 ((j : Int) - 1) ∧ v = .slice (some ⟨g, 0, none⟩) 33 33 ∧ RelR w wr g (digs 33 (valD (x.drop j) % M))) (fun _ i _ => (intOf i + 1).toNat)
 case atStart => exact ⟨la, _, Nat.le_refl _, by go_num, rfl, hR0⟩
 case round =>
  obtain ⟨j, g, hj, rfl, rfl, hR⟩ := hrel
  clear hR0 hmk
  by_cases hj0 : j = 0
  ·subst hj0
   rw [List.drop_zero] at hR
   go_wp2
   go_ret
   exact ⟨g, rfl, hR⟩
  ·obtain ⟨i, rfl⟩ : ∃ i, j = i + 1 := ⟨j - 1, by omega⟩
   have eI : (((i + 1 : Nat) : Int) - 1) = (i : Int) := by omega
   rw [eI]
   clear eI hj0
   obtain ⟨D, hD⟩ : ∃ D, D = valD (x.drop (i + 1)) := ⟨_, rfl⟩
   obtain ⟨u, hu⟩ : ∃ u, u = x.getD i 0 := ⟨_, rfl⟩
   have hul : u < 256 := by rw [hu]; exact dx i
   have HE : Hid (modA D u 8 % M = valD (x.drop i) % M) := by
    show _ = _
    rw [drop_val x i, ← hD, ← hu]
    simp [modA]
    congr 1; omega
   have hA0 : modA D u 0 % M = D % M := by simp [modA]; rw [Nat.div_eq_of_lt hul]; simp
   rw [← hD, ← hA0] at hR
   clear hA0
   obtain ⟨g1, o1, rfl, hc1⟩ := ha (by rw [hx.out]; omega)
   have k1 := hc1 i (by rw [hx.out]; omega)
   rw [← hu] at k1
   have hg1 := block_lt_of_cell k1
   clear hu hD hc1
   go_wp2_with fail
   go_loopw [5, 7, 8] (fun v d kk wr => ∃ k g : Nat, k ≤ 8 ∧ kk = .int .i64 (k : Int) ∧ d = .int .i64 ((bitOf k : Nat) : Int) ∧ v = .slice (some ⟨g, 0, none⟩) 33 33 ∧ RelR w wr g (digs 33 (modA D u k % M))) (fun _ _ kk _ => 8 - (intOf kk).toNat)
   case atStart => exact ⟨0, g, by omega, rfl, rfl, rfl, hR⟩
   case round =>
    obtain ⟨k, g, hk, rfl, rfl, rfl, hR⟩ := hrel
    by_cases hk8 : k < 8
    ·have k2 := (hR.1.cell (p := ⟨g1, o1 + i, none⟩) hg1).trans k1
     obtain ⟨bt, hbt⟩ : ∃ t, t = u / 2 ^ (7 - k) % 2 := ⟨_, rfl⟩
     have hbo : bitOf k = 2 ^ (7 - k) := by unfold bitOf; rw [if_neg (by omega)]
     have hbp : 0 < bitOf k := by rw [hbo]; exact Nat.pow_pos (by decide)
     have hb2 : bt < 2 := by rw [hbt]; omega
     obtain ⟨q, hqe⟩ : ∃ q, q = u / bitOf k := ⟨_, rfl⟩
     have hqi : (u : Int) / ((bitOf k : Nat) : Int) = (q : Int) := by rw [hqe]; simp
     have hql : q ≤ 255 := by rw [hqe]; exact Nat.le_trans (Nat.div_le_self _ _) (by omega)
     have hbi : (q : Int) % 2 = (bt : Int) := by rw [hbt, hqe, ← hbo]; simp
     clear hqe
     have hbk : bitOf k ≤ 128 := by rw [hbo]; exact Nat.le_trans (Nat.pow_le_pow_right (by decide) (by omega : 7 - k ≤ 7)) (by decide)
     have hV : modA D u k % M < 256 ^ 32 := Nat.lt_trans (Nat.mod_lt _ hM0) hM1.out
     have hVM : modA D u k % M < M := Nat.mod_lt _ hM0
     have HS : Hid ((2 * (modA D u k % M) + bt) % M = modA D u (k + 1) % M) := by show _ = _; rw [hbt]; exact modA_mod hk8
     have hbn := bit_next hk8
     obtain ⟨V, hVe⟩ : ∃ V, V = modA D u k % M := ⟨_, rfl⟩
     rw [← hVe] at hR hV hVM HS
     obtain ⟨B, hBe⟩ : ∃ B, B = bitOf k := ⟨_, rfl⟩
     obtain ⟨B2, hB2e⟩ : ∃ B, B = bitOf (k + 1) := ⟨_, rfl⟩
     have HB2 : Hid (B2 = bitOf (k + 1)) := hB2e
     rw [← hBe] at hbn hqi hbp hbk ⊢
     rw [← hB2e] at hbn
     have hR0 : Hid (RelR w wr g (digs 33 (dblV V bt 0))) := by show RelR _ _ _ _; rw [dblV_zero]; exact hR
     have HV : Hid (V < 256 ^ 32) := hV
     have HVM : Hid (V < M) := hVM
     clear hVe hBe hB2e hbt hbo hV hVM hR
     rcases hbn with ⟨h7, hz, rfl⟩ | ⟨h7, hz, hbp2⟩
     all_goals
      have hdv : (B : Int) / 2 = ((B / 2 : Nat) : Int) := by omega
      rw [hz] at hdv
      clear hz h7
      go_wp2_with fail
      go_loopw [10, 11] (fun c i wr => ∃ j : Nat, j ≤ 33 ∧ i = .int .i64 j ∧ c = .int .i64 ((dblC V bt j : Nat) : Int) ∧ RelR w wr g (digs 33 (dblV V bt j))) (fun _ i _ => 33 - (intOf i).toNat)
      case atStart => exact ⟨0, by omega, rfl, by rw [dblC_zero, ← hbi], hR0.out⟩
      case round =>
       obtain ⟨j, hj33, rfl, rfl, hRj⟩ := hrel
       clear hR0 k2 hqi hbi hdv
       by_cases hlt : j < 33
       ·have c1 := hRj.at j (by rw [digs_len]; omega)
        have f1 := hRj.free j
        rw [dblV_get hlt] at c1
        have hcl := dblC_le (V := V) j hb2
        have HC : Hid (dblC V bt (j + 1) = (dblC V bt j + 2 * (V / 256 ^ j % 256)) / 256) := dblC_step V bt j
        have hstp := dblV_step (b := bt) hlt HV.out
        have hdl : V / 256 ^ j % 256 < 256 := Nat.mod_lt _ (by decide)
        obtain ⟨d, hde⟩ : ∃ d, d = V / 256 ^ j % 256 := ⟨_, rfl⟩
        obtain ⟨c, hce⟩ : ∃ c, c = dblC V bt j := ⟨_, rfl⟩
        rw [← hde] at c1 hdl HC hstp
        rw [← hce] at hcl HC hstp ⊢
        have HN : Hid (RelR w (wr.setCell ⟨g, j, none⟩ (.int .i64 (((c + 2 * d) % 256 : Nat) : Int))) g (digs 33 (dblV V bt (j + 1)))) := by
         show RelR _ _ _ _
         rw [← hstp]; exact hRj.set j _
        have ev : (2 * (d : Int) + (c : Int)) = ((c + 2 * d : Nat) : Int) := by omega
        have HEV : Hid (((c + 2 * d) % 256 : Nat) = (2 * d + c) % 256) := by show _ = _; rw [Nat.add_comm]
        have HEC : Hid (((c + 2 * d) / 256 : Nat) = (2 * d + c) / 256) := by show _ = _; rw [Nat.add_comm]
        rw [HEV.out] at HN
        rw [HEC.out] at HC
        clear hstp hde hce hRj ev
        go_wp2
        go_roundw
        case rel => exact ⟨j + 1, by omega, by go_num, by rw [HC.out]; simp, by simpa using HN.out⟩
        case measure => simp [intOf]; omega
       ·obtain rfl : j = 33 := by omega
        rw [dblV_end HV.out hb2] at hRj
        obtain ⟨V2, hV2⟩ : ∃ V2, V2 = 2 * V + bt := ⟨_, rfl⟩
        rw [← hV2] at hRj HS
        have hM32 : (256 : Nat) ^ 33 = 256 * 256 ^ 32 := by decide
        have hV2l : V2 < 256 ^ 33 := by have := HV.out; omega
        have hV2M : V2 < 2 * M := by have := HVM.out; omega
        have hiv : IView wr (some ⟨g, 0, none⟩) (digs 33 V2) := fun _ => ⟨g, 0, rfl, ints_row hRj.2.2⟩
        have hby : IView wr b y := hb.below hRj.1
        have hval : valD (digs 33 V2) = V2 := valD_digs_lt hV2l
        have cL := less10 (some ⟨g, 0, none⟩) 33 33 (digs 33 V2) b lb cb y wr (digs_len _ _) hy (by omega) (by omega) hiv hby (digs_dig _ _) dy
        rw [hval, hM.out] at cL
        have cM := fun (h : M ≤ V2) => minus40 (some ⟨g, 0, none⟩) 33 33 (digs 33 V2) b lb cb y wr (digs_len _ _) hy (by omega) (by omega) hiv hby (digs_dig _ _) dy (by omega) (by show _ ≤ _; rw [hval, hM.out]; exact h)
        rw [hval, hM.out] at cM
        clear hV2 hM32 hiv hby hval
        have HBN : Hid (∀ B', B' = bitOf (k + 1) → Value.int .i64 (B' : Int) = .int .i64 ((bitOf (k + 1) : Nat) : Int)) := fun B' h => by rw [h]
        by_cases hlt2 : V2 < M
        ·have HRR : Hid (RelR w wr g (digs 33 (modA D u (k + 1) % M))) := by
          show RelR _ _ _ _
          rw [← HS.out, Nat.mod_eq_of_lt hlt2]; exact hRj
         rw [decide_eq_true hlt2] at cL
         clear hlt2 hV2l hV2M cM hRj
         go_wp2_with fail
         refine cL.mono ?_
         rintro e w5 ⟨rfl, rfl⟩
         go_wp2
         go_roundw
         case rel => exact ⟨k + 1, g, by omega, by go_num, by rw [← HB2.out]; try rfl, rfl, HRR.out⟩
         case measure => simp [intOf]; omega
        ·have cM := cM (by omega)
         rw [decide_eq_false hlt2] at cL
         have HV2 : Hid (V2 - M = modA D u (k + 1) % M) := by
          show _ = _
          rw [← HS.out, Nat.mod_eq_sub_mod (by omega), Nat.mod_eq_of_lt (by omega)]
         rw [HV2.out] at cM
         clear hlt2 hV2l hV2M
         go_wp2_with fail
         refine cL.mono ?_
         rintro e w5 ⟨rfl, rfl⟩
         go_wp2_with fail
         refine cM.mono ?_
         rintro e w6 ⟨g6, rfl, hR6⟩
         have HRR : Hid (RelR w w6 g6 (digs 33 (modA D u (k + 1) % M))) := ⟨hRj.1.trans (hR6.1.mono hRj.1.size), Nat.le_trans hRj.1.size hR6.2.1, hR6.2.2⟩
         clear hR6 hRj cL cM
         go_wp2
         go_roundw
         case rel => exact ⟨k + 1, g6, by omega, by go_num, by rw [← HB2.out]; try rfl, rfl, HRR.out⟩
         case measure => simp [intOf]; omega
    ·obtain rfl : k = 8 := by omega
     rw [HE.out] at hR
     go_wp2
     go_roundw
     case rel => exact ⟨i, g, by omega, by go_num, rfl, hR⟩
     case measure => simp [intOf]
end EN
end Go.Proofs.YtabgihjffjlfiaaGreatDoor
