/-
  The walk of the reference's block, at words of 64 bits.
-/
import Derived.Test.YtomfnkbghlpkeaaDoorR4
import Derived.Test.YtomfnkbghlpkeaaDoorRM2
import Derived.Deep.RegionHeld3
import Derived.Deep.AppendLies
import Derived.Deep.DrawnRows
set_option linter.unusedVariables false
namespace Go.Proofs.YtomfnkbghlpkeaaDoor
open Go.RowKit Go.Sort Go.BigFrame
set_option maxRecDepth 100000
set_option maxHeartbeats 2000000
attribute [local go_sem ↓] Go.wp_at_zero Go.wp_at_succ

def hB64 (gA cA gB cB gC cC gD cD gK cK : Nat) (vF : Value) : Array Value := #[.int .i64 64, .int .i64 80, .slice (some ⟨gA, 0, none⟩) 3 cA, .slice (some ⟨gB, 0, none⟩) 3 cB, .slice (some ⟨gC, 0, none⟩) 3 cC, .slice (some ⟨gD, 0, none⟩) 3 cD, .slice (some ⟨gK, 0, none⟩) 80 cK, vF]
/-- The first sixteen words. -/
theorem words1_64 : True := trivial
theorem block64 (gA cA gB cB gC cC gD cD gK cK : Nat) (vF : Value) (gs cs : Nat) (st : List Nat) (gb ob cb : Nat) (bs kk : List Nat) (w : World)
    (hst : st.length = 8) (hsl : ∀ j, st.getD j 0 < 18446744073709551616) (hcs : ∀ i, i < 8 → w.cell? ⟨gs, i, none⟩ = some (.int .u64 ((st.getD i 0 : Nat) : Int)))
    (hbl : bs.length = 128) (hb256 : ∀ j, bs.getD j 0 < 256) (hcb : 128 ≤ cb) (hc : BytesAt w gb ob bs)
    (kA : Row3 w gA 28 34 39) (kB : Row3 w gB 14 18 41) (kC : Row3 w gC 1 8 7) (kD : Row3 w gD 19 61 6)
    (hkk : ∀ i, i < 80 → w.cell? ⟨gK, i, none⟩ = some (.int .u64 ((kk.getD i 0 : Nat) : Int))) (hkb : ∀ j, kk.getD j 0 < 18446744073709551616) :
    Calls Tryd.prog 28 #[.agg #[.int .i64 64, .int .i64 80, .slice (some ⟨gA, 0, none⟩) 3 cA, .slice (some ⟨gB, 0, none⟩) 3 cB, .slice (some ⟨gC, 0, none⟩) 3 cC, .slice (some ⟨gD, 0, none⟩) 3 cD, .slice (some ⟨gK, 0, none⟩) 80 cK, vF], .slice (some ⟨gs, 0, none⟩) 8 cs, .slice (some ⟨gb, ob, none⟩) 128 cb] w fun e w' => ∃ v, e = .returned v ∧ ∃ base, w.heap.size ≤ base ∧ Below w.heap.size w w' ∧ w'.ownsRow base 39 1 v 8 (uv (List.zipWith (fun x y => (x + y) % 2 ^ 64) st (Rr sh64 kk (spr sh64 bs) (ofL st) 80).list)) := by
  have hlen : Hid (bs.length = 128) := hbl
  have hgbB : gb < w.heap.size := block_lt_of_cell (hc 0 (by omega))
  clear hbl
  have h39i : (Tryd.prog.info? 39).map (fun i => (i.zero, i.size, i.bytes)) = some (some (.int .u64 0), 1, 8) := by kernel_rfl
  obtain ⟨i0, hi, hz0, hz1, hz2⟩ := info_parts h39i
  obtain ⟨PW, hPW⟩ : ∃ x, x = P1 sh64 bs 128 := ⟨_, rfl⟩
  have hPl : PW.length = 80 := by rw [hPW]; exact P1_len _ _ _
  have hPw : ∀ t, t < 16 → PW.getD t 0 = wv 8 bs t 8 := fun t ht => by
    rw [hPW, P1_wv sh64 8 (by decide) rfl bs hb256 128 (by decide) t (by omega), show min (128 - t * 8) 8 = 8 by omega]
  have hPb : ∀ j, PW.getD j 0 < 18446744073709551616 := by rw [hPW]; exact P1_lt sh64 (by decide) bs hb256 _
  have HPW : Hid (PW = P1 sh64 bs 128) := hPW
  have HPl : Hid (PW.length = 80) := hPl
  clear hPW hPl
  obtain ⟨ql, hql⟩ : ∃ x, x = List.zipWith (fun x y => (x + y) % 2 ^ 64) st (Rr sh64 kk (spr sh64 bs) (ofL st) 80).list := ⟨_, rfl⟩
  have hqll : ql.length = 8 := by rw [hql, List.length_zipWith, hst]; rfl
  rw [← hql]
  have HQL : Hid (ql.length = 8) := hqll
  have HQD : Hid (ql = List.zipWith (fun x y => (x + y) % 2 ^ 64) st (Rr sh64 kk (spr sh64 bs) (ofL st) 80).list) := hql
  clear hql hqll
  have hR0 : RelB w #[.int .i64 64, .int .i64 80, .slice (some ⟨gA, 0, none⟩) 3 cA, .slice (some ⟨gB, 0, none⟩) 3 cB, .slice (some ⟨gC, 0, none⟩) 3 cC, .slice (some ⟨gD, 0, none⟩) 3 cD, .slice (some ⟨gK, 0, none⟩) 80 cK, vF] (w.alloc (.cells #[.int .i64 64, .int .i64 80, .slice (some ⟨gA, 0, none⟩) 3 cA, .slice (some ⟨gB, 0, none⟩) 3 cB, .slice (some ⟨gC, 0, none⟩) 3 cC, .slice (some ⟨gD, 0, none⟩) 3 cD, .slice (some ⟨gK, 0, none⟩) 80 cK, vF] 37)) := ⟨below1 _ _, heap_alloc_new _ _⟩
  go_enter Tryd.func28, Tryd.ntmps28
  go_wp2_with fail
  go_loopw [8, 7] (fun i v7 wr => ∃ t : Nat, t ≤ 16 ∧ i = .int .i64 (t : Int) ∧ RelB w #[.int .i64 64, .int .i64 80, .slice (some ⟨gA, 0, none⟩) 3 cA, .slice (some ⟨gB, 0, none⟩) 3 cB, .slice (some ⟨gC, 0, none⟩) 3 cC, .slice (some ⟨gD, 0, none⟩) 3 cD, .slice (some ⟨gK, 0, none⟩) 80 cK, vF] wr ∧ wr.ownsRow (w.heap.size + 1) 39 1 v7 t (uv (PW.take t))) (fun i _ _ => 16 - (intOf i).toNat)
  case atStart => exact ⟨0, by omega, rfl, hR0, World.ownsRow_nil _ _ _ _⟩
  case round =>
    obtain ⟨t, ht, rfl, hR, hown⟩ := hrel
    clear hR0
    have c0 := row_at hR.2 0 (.int .i64 64) rfl
    by_cases hlt : t < 16
    · go_wp2_with fail
      go_loop [10, 9] (fun i v => ∃ k : Nat, k ≤ 8 ∧ i = .int .i64 (k : Int) ∧ v = .int .u64 ((wv 8 bs t k : Nat) : Int)) (fun i _ => 8 - (intOf i).toNat)
      case atStart => exact ⟨0, by omega, rfl, rfl⟩
      case round =>
        obtain ⟨k, hk, rfl, rfl⟩ := hrel
        by_cases hlt2 : k < 8
        · have hwl : wv 8 bs t k < 72057594037927936 := Nat.lt_of_lt_of_le (wv_lt 8 bs hb256 t k) (Nat.pow_le_pow_right (show 0 < 256 by decide) (show k ≤ 7 by omega))
          have hbb := hb256 (t * 8 + k)
          have HW : Hid (wv 8 bs t (k + 1) = wv 8 bs t k * 256 + bs.getD (t * 8 + k) 0) := rfl
          obtain ⟨y, hy⟩ : ∃ y, y = wv 8 bs t k := ⟨_, rfl⟩
          obtain ⟨bv, hbv⟩ : ∃ y, y = bs.getD (t * 8 + k) 0 := ⟨_, rfl⟩
          have c1 : wr.cell? ⟨gb, ob + (t * 64 / 8 + k), none⟩ = some (.int .u8 (bv : Int)) := by
            rw [hbv, show t * 64 / 8 + k = t * 8 + k by omega]
            exact (hR.1.cell (p := ⟨gb, _, none⟩) hgbB).trans (hc _ (by rw [hlen.out]; omega))
          rw [← hy, ← hbv] at HW
          rw [← hy] at hwl ⊢
          rw [← hbv] at hbb
          clear hy hbv
          go_wp2_with fail
          go_round
          case rel => exact ⟨k + 1, by omega, by go_num, by rw [HW.out]; go_num⟩
          case measure => simp [intOf]; omega
        · obtain rfl : k = 8 := by omega
          obtain ⟨y, hy⟩ : ∃ y, y = wv 8 bs t 8 := ⟨_, rfl⟩
          rw [← hy]
          have HY : Hid (PW.getD t 0 = y) := by rw [hy]; exact hPw t hlt
          clear hy
          have hsz := hR.1.size
          have hwB : w.heap.size + 1 ≤ wr.heap.size := lt_of_heap hR.2
          go_wp2_with (at_builtin; refine wpList_append_own _ rfl (.tmp 47) (.tmp 49) 35 rfl (w.heap.size + 1) 39 i0 (.int .u64 0) 1 8 Tryd.underlying35 hi hz0 hz1 hz2 rfl (by decide) _ _ _ rfl (hown.alloc _) ⟨wr.heap.size, 0, none⟩ 1 1 [.int .u64 (y : Int)] rfl rfl (news_one _ _ _) one_word (by unfold maxLen; omega) (by omega) (by simp; omega) ?_; intro v' w1 hown' hgrow _)
          have hlt1 := hown.lt
          have HE : Hid (uv (PW.take t) ++ [.int .u64 (y : Int)] = uv (PW.take (t + 1))) := by
            show uv (PW.take t) ++ [.int .u64 (y : Int)] = uv (PW.take (t + 1))
            rw [take_snoc' (by rw [HPl.out]; omega), HY.out]; simp [uv]
          rw [HE.out] at hown'
          have hRn := hR.grown _ hgrow (fun k hk => by have := (hlt1 k hk).1; omega)
          clear hown hgrow hR c0 hlt1
          go_roundw
          case rel => first | exact ⟨t + 1, by omega, by go_num, hRn, hown'⟩ | ((repeat apply Exists.intro); exact ⟨⟨t + 1, by omega, by go_num, hRn, hown'⟩, rfl⟩)
          case measure => simp [intOf]; omega
    · obtain rfl : t = 16 := by omega
      obtain ⟨g, cap, rfl, hgb, hgc⟩ := own_form hown (by omega)
      go_wp2_with fail
      go_loopw [11, 7] (fun i v7 wr => ∃ t : Nat, 16 ≤ t ∧ t ≤ 80 ∧ i = .int .i64 (t : Int) ∧ RelB w #[.int .i64 64, .int .i64 80, .slice (some ⟨gA, 0, none⟩) 3 cA, .slice (some ⟨gB, 0, none⟩) 3 cB, .slice (some ⟨gC, 0, none⟩) 3 cC, .slice (some ⟨gD, 0, none⟩) 3 cD, .slice (some ⟨gK, 0, none⟩) 80 cK, vF] wr ∧ ∃ g cap : Nat, v7 = .slice (some ⟨g, 0, none⟩) t cap ∧ wr.ownsRow (w.heap.size + 1) 39 1 (.slice (some ⟨g, 0, none⟩) t cap) t (uv ((P2 sh64 PW (t - 16)).take t))) (fun i _ _ => 80 - (intOf i).toNat)
      case atStart => exact ⟨16, by omega, by omega, rfl, hR, g, cap, rfl, hown⟩
      case round =>
        obtain ⟨t, ht16, ht, rfl, hR, g, cap, rfl, hown⟩ := hrel
        clear c0 hgb hgc
        have c1 := row_at hR.2 1 (.int .i64 80) rfl
        by_cases hlt : t < 80
        · obtain ⟨ws, hws⟩ : ∃ x, x = P2 sh64 PW (t - 16) := ⟨_, rfl⟩
          rw [← hws] at hown
          have hwl : ws.length = 80 := by rw [hws]; exact P2_len _ _ HPl.out _
          have hwt : ∀ j, ws.getD j 0 < 18446744073709551616 := by rw [hws]; exact P2_lt sh64 _ hPb _
          have HS : Hid (P2 sh64 PW (t + 1 - 16) = put2 sh64 ws t) := by
            rw [hws, show t + 1 - 16 = (t - 16) + 1 by omega]; show put2 _ _ (16 + (t - 16)) = _; rw [show 16 + (t - 16) = t by omega]
          obtain ⟨x2, hx2⟩ : ∃ x, x = ws.getD (t - 2) 0 := ⟨_, rfl⟩
          obtain ⟨x15, hx15⟩ : ∃ x, x = ws.getD (t - 15) 0 := ⟨_, rfl⟩
          obtain ⟨x16, hx16⟩ : ∃ x, x = ws.getD (t - 16) 0 := ⟨_, rfl⟩
          obtain ⟨x7, hx7⟩ : ∃ x, x = ws.getD (t - 7) 0 := ⟨_, rfl⟩
          obtain ⟨s1, hs1⟩ : ∃ x, x = ts 64 x15 1 8 7 := ⟨_, rfl⟩
          obtain ⟨s2, hs2⟩ : ∃ x, x = ts 64 x2 19 61 6 := ⟨_, rfl⟩
          have HT : Hid (put2 sh64 ws t = ws.set t ((x16 + s1 + x7 + s2) % 2 ^ 64)) := by rw [hs1, hs2, hx2, hx15, hx16, hx7]; rfl
          have l2 : x2 < 18446744073709551616 := by rw [hx2]; exact hwt _
          have l15 : x15 < 18446744073709551616 := by rw [hx15]; exact hwt _
          have l16 : x16 < 18446744073709551616 := by rw [hx16]; exact hwt _
          have l7 : x7 < 18446744073709551616 := by rw [hx7]; exact hwt _
          have b1 : s1 < 18446744073709551616 := by rw [hs1]; exact ts_lt (W := 64) l15
          have b2 : s2 < 18446744073709551616 := by rw [hs2]; exact ts_lt (W := 64) l2
          have d2 := own_word hown (t - 2) (by omega) x2 (by rw [hx2]; simp [show t - 2 < t by omega, hwl, show t - 2 < 80 by omega])
          have d15 := own_word hown (t - 15) (by omega) x15 (by rw [hx15]; simp [show t - 15 < t by omega, hwl, show t - 15 < 80 by omega])
          have d16 := own_word hown (t - 16) (by omega) x16 (by rw [hx16]; simp [show t - 16 < t by omega, hwl, show t - 16 < 80 by omega])
          have d7 := own_word hown (t - 7) (by omega) x7 (by rw [hx7]; simp [show t - 7 < t by omega, hwl, show t - 7 < 80 by omega])
          have HWL : Hid (ws.length = 80) := hwl
          have HS1 : Hid (s1 = ts 64 x15 1 8 7) := hs1
          have HS2 : Hid (s2 = ts 64 x2 19 61 6) := hs2
          clear hws hwl hwt hx2 hx15 hx16 hx7 hs1 hs2
          go_wp2_with fail
          clear c1
          obtain ⟨vv, hvv⟩ : ∃ x, x = (x16 + s1 + x7 + s2) % 18446744073709551616 := ⟨_, rfl⟩
          have hsum : IntKind.u64.wrap (IntKind.u64.wrap (IntKind.u64.wrap ((x16 : Int) + (s1 : Int)) + (x7 : Int)) + (s2 : Int)) = (vv : Int) := by rw [hvv]; simp only [IntKind.wrap_u64]; omega
          have bvv : vv < 18446744073709551616 := by rw [hvv]; omega
          have HNW : Hid (vv = (x16 + s1 + x7 + s2) % 2 ^ 64) := by show _ = _; rw [hvv]
          clear hvv
          have rC := (kC.below hR.1)
          have rD := (kD.below hR.1)
          have q2 := cell_regrown d2
          have q15 := cell_regrown d15
          have q16 := cell_regrown d16
          have q7' := cell_regrown d7
          have q0 := cell_regrown (row_at hR.2 0 (.int .i64 64) rfl)
          have q1 := cell_regrown (row_at hR.2 1 (.int .i64 80) rfl)
          have q2 := cell_regrown (row_at hR.2 2 (.slice (some ⟨gA, 0, none⟩) 3 cA) rfl)
          have q3 := cell_regrown (row_at hR.2 3 (.slice (some ⟨gB, 0, none⟩) 3 cB) rfl)
          have q4 := cell_regrown (row_at hR.2 4 (.slice (some ⟨gC, 0, none⟩) 3 cC) rfl)
          have q5 := cell_regrown (row_at hR.2 5 (.slice (some ⟨gD, 0, none⟩) 3 cD) rfl)
          have q6 := cell_regrown (row_at hR.2 6 (.slice (some ⟨gK, 0, none⟩) 80 cK) rfl)
          have q7 := cell_regrown (row_at hR.2 7 vF rfl)
          have cQ1 : ∀ d os, Calls Tryd.prog 35 #[.agg #[.int .i64 64, .int .i64 80, .slice (some ⟨gA, 0, none⟩) 3 cA, .slice (some ⟨gB, 0, none⟩) 3 cB, .slice (some ⟨gC, 0, none⟩) 3 cC, .slice (some ⟨gD, 0, none⟩) 3 cD, .slice (some ⟨gK, 0, none⟩) 80 cK, vF], .int .u64 (x15 : Int), .slice (some ⟨gC, 0, none⟩) 3 cC, .bool true] (grow (redrawn wr d) os) fun e w'' => e = .returned (.int .u64 (s1 : Int)) ∧ ∃ p : Regrown, w'' = grow (redrawn wr p.d) p.os := fun d os => by
            have r := rC.below (below_regrown wr d os)
            rw [HS1.out]; exact Calls.regrown_of (mixed64s _ _ _ _ _ _ x15 gC cC _ _ _ _ l15 (by decide) (by decide) (by decide) r.a r.b r.c)
          have cQ2 : ∀ d os, Calls Tryd.prog 35 #[.agg #[.int .i64 64, .int .i64 80, .slice (some ⟨gA, 0, none⟩) 3 cA, .slice (some ⟨gB, 0, none⟩) 3 cB, .slice (some ⟨gC, 0, none⟩) 3 cC, .slice (some ⟨gD, 0, none⟩) 3 cD, .slice (some ⟨gK, 0, none⟩) 80 cK, vF], .int .u64 (x2 : Int), .slice (some ⟨gD, 0, none⟩) 3 cD, .bool true] (grow (redrawn wr d) os) fun e w'' => e = .returned (.int .u64 (s2 : Int)) ∧ ∃ p : Regrown, w'' = grow (redrawn wr p.d) p.os := fun d os => by
            have r := rD.below (below_regrown wr d os)
            rw [HS2.out]; exact Calls.regrown_of (mixed64s _ _ _ _ _ _ x2 gD cD _ _ _ _ l2 (by decide) (by decide) (by decide) r.a r.b r.c)
          refine wp_region_quiet_below (by kernel_rfl) (by kernel_rfl) ?_
          iterate 13 (go_big_quiet_step (fail))
          go_big_quiet_step (exact cQ1 _ _)
          iterate 15 (go_big_quiet_step (fail))
          go_big_quiet_step (exact cQ2 _ _)
          repeat (go_big_quiet_step (fail))
          refine wpQuiet_nil ?_
          intro w1 hw'
          have hb1 : Below wr.heap.size wr w1 := by obtain ⟨p, rfl⟩ := hw'; exact below_regrown _ _ _
          have hR1 := hR.on hb1
          have hown1 := own_on hown hb1
          clear hw' q0 q1 q2 q3 q4 q5 q6 q7 q15 q16 q7' d2 d15 d16 d7 rC rD cQ1 cQ2 hb1 hR hown
          have q0 := row_at hR1.2 0 (.int .i64 64) rfl
          have q1 := row_at hR1.2 1 (.int .i64 80) rfl
          have q2 := row_at hR1.2 2 (.slice (some ⟨gA, 0, none⟩) 3 cA) rfl
          have q3 := row_at hR1.2 3 (.slice (some ⟨gB, 0, none⟩) 3 cB) rfl
          have q4 := row_at hR1.2 4 (.slice (some ⟨gC, 0, none⟩) 3 cC) rfl
          have q5 := row_at hR1.2 5 (.slice (some ⟨gD, 0, none⟩) 3 cD) rfl
          have q6 := row_at hR1.2 6 (.slice (some ⟨gK, 0, none⟩) 80 cK) rfl
          have q7 := row_at hR1.2 7 vF rfl
          obtain ⟨nw, hnw⟩ : ∃ x, x = (x16 + s1 + x7 + s2) % 2 ^ 64 := ⟨_, rfl⟩
          have hlow : Calls Tryd.prog 36 #[.agg #[.int .i64 64, .int .i64 80, .slice (some ⟨gA, 0, none⟩) 3 cA, .slice (some ⟨gB, 0, none⟩) 3 cB, .slice (some ⟨gC, 0, none⟩) 3 cC, .slice (some ⟨gD, 0, none⟩) 3 cD, .slice (some ⟨gK, 0, none⟩) 80 cK, vF], .int .u64 (vv : Int)] w1 fun e w' => e = .returned (.int .u64 (nw : Int)) ∧ Below w1.heap.size w1 w' := by
            rw [hnw, ← HNW.out]; exact lowH64 (.slice (some ⟨gA, 0, none⟩) 3 cA) (.slice (some ⟨gB, 0, none⟩) 3 cB) (.slice (some ⟨gC, 0, none⟩) 3 cC) (.slice (some ⟨gD, 0, none⟩) 3 cD) (.slice (some ⟨gK, 0, none⟩) 80 cK) vF vv w1 bvv
          rw [← hnw] at HT
          clear hnw HNW hsum
          go_wp2_with fail
          refine hlow.mono ?_
          rintro e w2 ⟨rfl, hb2⟩
          have hR2 := hR1.on hb2
          have hown2 := own_on hown1 hb2
          have hwB : w.heap.size + 1 ≤ w2.heap.size := lt_of_heap hR2.2
          clear hlow hb2 hR1 hown1 q0 q1 q2 q3 q4 q5 q6 q7
          go_wp2_with (at_builtin; refine wpList_append_own _ rfl (.tmp 88) (.tmp 92) 35 rfl (w.heap.size + 1) 39 i0 (.int .u64 0) 1 8 Tryd.underlying35 hi hz0 hz1 hz2 rfl (by decide) _ _ _ rfl (hown2.alloc _) ⟨w2.heap.size, 0, none⟩ 1 1 [.int .u64 (nw : Int)] rfl rfl (news_one _ _ _) one_word (by unfold maxLen; omega) (by omega) (by simp; omega) ?_; intro v' w3 hown' hgrow _)
          have hlt1 := hown2.lt
          have HE : Hid (uv (ws.take t) ++ [.int .u64 (nw : Int)] = uv ((P2 sh64 PW (t + 1 - 16)).take (t + 1))) := by
            show uv (ws.take t) ++ [.int .u64 (nw : Int)] = uv ((P2 sh64 PW (t + 1 - 16)).take (t + 1))
            rw [HS.out, HT.out, take_set (by rw [HWL.out]; omega)]; simp [uv]
          rw [HE.out] at hown'
          have hRn := hR2.grown _ hgrow (fun k hk => by have := (hlt1 k hk).1; omega)
          obtain ⟨g', cap', rfl, _, _⟩ := own_form hown' (by omega)
          clear hown2 hgrow hR2 hlt1
          go_roundw
          case rel => first | exact ⟨t + 1, by omega, by omega, by go_num, hRn, g', cap', rfl, hown'⟩ | ((repeat apply Exists.intro); exact ⟨⟨t + 1, by omega, by omega, by go_num, hRn, g', cap', rfl, hown'⟩, rfl⟩)
          case measure => simp [intOf]; omega
        · obtain rfl : t = 80 := by omega
          have hSP : P2 sh64 PW (80 - 16) = spr sh64 bs := by rw [HPW.out]; rfl
          rw [hSP] at hown
          clear hSP
          have hrs : ∀ i, i < 8 → wr.cell? ⟨gs, i, none⟩ = some (.int .u64 ((st.getD i 0 : Nat) : Int)) := fun i hi => (hR.1.cell (p := ⟨gs, i, none⟩) (block_lt_of_cell (a := ⟨gs, 0, none⟩) (hcs 0 (by omega)))).trans (hcs i hi)
          have hnews := news_words st hst hrs
          have hwB : w.heap.size + 1 ≤ wr.heap.size := lt_of_heap hR.2
          have huvl : (uv st).length = 8 * 1 := by simp [uv, hst]
          have hrs' : Hid (∀ i, i < 8 → wr.cell? ⟨gs, i, none⟩ = some (.int .u64 ((st.getD i 0 : Nat) : Int))) := hrs
          clear hrs
          go_wp2_with (at_builtin; refine wpList_append_own _ rfl (.tmp 94) (.tmp 95) 35 rfl (w.heap.size + 1) 39 i0 (.int .u64 0) 1 8 Tryd.underlying35 hi hz0 hz1 hz2 rfl (by decide) (.slice none 0 0) 0 [] rfl (World.ownsRow_nil _ _ _ _) ⟨gs, 0, none⟩ 8 cs (uv st) rfl huvl hnews uv_one (by unfold maxLen; omega) (by omega) hwB ?_; intro v' w1 hown' hgrow _)
          clear c1 hnews
          simp only [List.nil_append, Nat.zero_add] at hown'
          obtain ⟨gr, cr, rfl, hgr, hcr⟩ := own_form hown' (by omega)
          have hR1 : RelB w #[.int .i64 64, .int .i64 80, .slice (some ⟨gA, 0, none⟩) 3 cA, .slice (some ⟨gB, 0, none⟩) 3 cB, .slice (some ⟨gC, 0, none⟩) 3 cC, .slice (some ⟨gD, 0, none⟩) 3 cD, .slice (some ⟨gK, 0, none⟩) 80 cK, vF] w1 := ⟨hR.1.grown hgrow hR.1.size (by intro k hk; cases hk), (hgrow.block _ (lt_of_heap hR.2) (by simp [Value.ownBlock])).trans hR.2⟩
          have hwd1 : Words w1 g 80 (spr sh64 bs) := words_of (hown.kept hgrow (.inr (by simp [Value.ownBlock]))) (by rw [spr_len]; omega)
          have hrr1 : Words w1 gr 8 (ofL st).list := by
            have := words_of8 hown' hst
            exact this
          clear hgrow hown' hR hown huvl
          go_loopw [14, 13] (fun i v13 wr => ∃ t : Nat, t ≤ 80 ∧ i = .int .i64 (t : Int) ∧ RelB w #[.int .i64 64, .int .i64 80, .slice (some ⟨gA, 0, none⟩) 3 cA, .slice (some ⟨gB, 0, none⟩) 3 cB, .slice (some ⟨gC, 0, none⟩) 3 cC, .slice (some ⟨gD, 0, none⟩) 3 cD, .slice (some ⟨gK, 0, none⟩) 80 cK, vF] wr ∧ Words wr g 80 (spr sh64 bs) ∧ ∃ gr cr : Nat, ∃ q : S8, v13 = .slice (some ⟨gr, 0, none⟩) 8 cr ∧ q = Rr sh64 kk (spr sh64 bs) (ofL st) t ∧ Words wr gr 8 q.list) (fun i _ _ => 80 - (intOf i).toNat)
          case atStart => exact ⟨0, by omega, rfl, hR1, hwd1, gr, cr, _, rfl, rfl, hrr1⟩
          case round =>
            clear hR1 hwd1 hrr1 hgr hcr
            obtain ⟨t, ht, rfl, hR, hwd, gr, cr, ⟨r0, r1, r2, r3, r4, r5, r6, r7⟩, rfl, hq, hrr⟩ := hrel
            have HQ : Hid ((⟨r0, r1, r2, r3, r4, r5, r6, r7⟩ : S8) = Rr sh64 kk (spr sh64 bs) (ofL st) t) := hq
            clear hq
            have c1 := row_at hR.2 1 (.int .i64 80) rfl
            by_cases hlt : t < 80
            · obtain ⟨b0, b1, b2, b3, b4, b5, b6, b7⟩ : S8.lt ⟨r0, r1, r2, r3, r4, r5, r6, r7⟩ 18446744073709551616 := by rw [HQ.out]; exact Rr_lt sh64 _ _ _ (ofL_lt st 18446744073709551616 hsl) t
              obtain ⟨kt, hkt⟩ : ∃ x, x = kk.getD t 0 := ⟨_, rfl⟩
              obtain ⟨wt, hwt⟩ : ∃ x, x = (spr sh64 bs).getD t 0 := ⟨_, rfl⟩
              obtain ⟨sB, hsB⟩ : ∃ x, x = tn 64 r4 14 18 41 := ⟨_, rfl⟩
              obtain ⟨sA, hsA⟩ : ∃ x, x = tn 64 r0 28 34 39 := ⟨_, rfl⟩
              obtain ⟨ch, hch⟩ : ∃ x, x = (r4 &&& r5) ^^^ ((2 ^ 64 - 1 - r4) &&& r6) := ⟨_, rfl⟩
              obtain ⟨mj, hmj⟩ : ∃ x, x = (r0 &&& r1) ^^^ (r0 &&& r2) ^^^ (r1 &&& r2) := ⟨_, rfl⟩
              obtain ⟨xx, hxx⟩ : ∃ x, x = (r7 + sB + ch + kt + wt) % 2 ^ 64 := ⟨_, rfl⟩
              obtain ⟨yy, hyy⟩ : ∃ x, x = (sA + mj) % 2 ^ 64 := ⟨_, rfl⟩
              have HB : Hid (Rr sh64 kk (spr sh64 bs) (ofL st) (t + 1) = ⟨(xx + yy) % 2 ^ 64, r0, r1, r2, (r3 + xx) % 2 ^ 64, r4, r5, r6⟩) := by
                show Rr sh64 kk (spr sh64 bs) (ofL st) (t + 1) = _
                rw [Rr, ← HQ.out, hyy, hxx, hsA, hsB, hch, hmj, hkt, hwt]; rfl
              have hbk : kt < 18446744073709551616 := by rw [hkt]; exact hkb t
              have hbw : wt < 18446744073709551616 := by rw [hwt]; exact spr_lt sh64 (by decide) bs hb256 t
              have hbB : sB < 18446744073709551616 := by rw [hsB]; exact tn_lt (W := 64) b4
              have hbA : sA < 18446744073709551616 := by rw [hsA]; exact tn_lt (W := 64) b0
              have hbc : ch < 18446744073709551616 := by rw [hch]; exact Nat.xor_lt_two_pow (n := 64) (Nat.and_lt_two_pow _ b5) (Nat.and_lt_two_pow _ b6)
              have hbm : mj < 18446744073709551616 := by rw [hmj]; exact Nat.xor_lt_two_pow (n := 64) (Nat.xor_lt_two_pow (Nat.and_lt_two_pow _ b1) (Nat.and_lt_two_pow _ b2)) (Nat.and_lt_two_pow _ b2)
              have hbx : xx < 18446744073709551616 := by rw [hxx]; exact Nat.mod_lt _ (by decide)
              have hby : yy < 18446744073709551616 := by rw [hyy]; exact Nat.mod_lt _ (by decide)
              have HX : Hid (xx = (r7 + sB + ch + kt + wt) % 2 ^ 64) := hxx
              have HY : Hid (yy = (sA + mj) % 2 ^ 64) := hyy
              have HSB : Hid (sB = tn 64 r4 14 18 41) := hsB
              have HSA : Hid (sA = tn 64 r0 28 34 39) := hsA
              have HCH : Hid (ch = (r4 &&& r5) ^^^ ((2 ^ 64 - 1 - r4) &&& r6)) := hch
              have HMJ : Hid (mj = (r0 &&& r1) ^^^ (r0 &&& r2) ^^^ (r1 &&& r2)) := hmj
              have dK : wr.cell? ⟨gK, t, none⟩ = some (.int .u64 (kt : Int)) := by rw [hkt]; exact (hR.1.cell (p := ⟨gK, t, none⟩) (block_lt_of_cell (a := ⟨gK, 0, none⟩) (hkk 0 (by omega)))).trans (hkk t hlt)
              have dW : wr.cell? ⟨g, t, none⟩ = some (.int .u64 (wt : Int)) := by rw [hwt]; exact hwd t hlt
              clear hkt hwt hsA hsB hch hmj hxx hyy
              have e4 : _ = some (Value.int .u64 (r4 : Int)) := hrr 4 (by omega)
              have e0 : _ = some (Value.int .u64 (r0 : Int)) := hrr 0 (by omega)
              have q0 := row_at hR.2 0 (.int .i64 64) rfl
              have q1 := row_at hR.2 1 (.int .i64 80) rfl
              have q2 := row_at hR.2 2 (.slice (some ⟨gA, 0, none⟩) 3 cA) rfl
              have q3 := row_at hR.2 3 (.slice (some ⟨gB, 0, none⟩) 3 cB) rfl
              have q4 := row_at hR.2 4 (.slice (some ⟨gC, 0, none⟩) 3 cC) rfl
              have q5 := row_at hR.2 5 (.slice (some ⟨gD, 0, none⟩) 3 cD) rfl
              have q6 := row_at hR.2 6 (.slice (some ⟨gK, 0, none⟩) 80 cK) rfl
              have q7 := row_at hR.2 7 vF rfl
              have hon : Calls Tryd.prog 36 #[.agg #[.int .i64 64, .int .i64 80, .slice (some ⟨gA, 0, none⟩) 3 cA, .slice (some ⟨gB, 0, none⟩) 3 cB, .slice (some ⟨gC, 0, none⟩) 3 cC, .slice (some ⟨gD, 0, none⟩) 3 cD, .slice (some ⟨gK, 0, none⟩) 80 cK, vF], .int .u64 18446744073709551615] wr fun e w' => e = .returned (.int .u64 18446744073709551615) ∧ Below wr.heap.size wr w' := lowH64 (.slice (some ⟨gA, 0, none⟩) 3 cA) (.slice (some ⟨gB, 0, none⟩) 3 cB) (.slice (some ⟨gC, 0, none⟩) 3 cC) (.slice (some ⟨gD, 0, none⟩) 3 cD) (.slice (some ⟨gK, 0, none⟩) 80 cK) vF 18446744073709551615 wr (by omega)
              go_wp2_with fail
              refine hon.mono ?_
              rintro e w1 ⟨rfl, hb1⟩
              have hR1 := hR.on hb1
              have hrr1 := hrr.on hb1
              have hwd1 := hwd.on hb1
              have cK1 := (hb1.cell (p := ⟨gK, t, none⟩) (block_lt_of_cell (a := ⟨gK, t, none⟩) dK)).trans dK
              have cW1 := (hb1.cell (p := ⟨g, t, none⟩) (block_lt_of_cell (a := ⟨g, t, none⟩) dW)).trans dW
              clear hon hb1 hR hrr hwd dK dW e0 e4 q0 q1 q2 q3 q4 q5 q6 q7 c1
              go_wp2_with fail
              obtain ⟨a1, ha1⟩ : ∃ x, x = r4 &&& r5 := ⟨_, rfl⟩
              obtain ⟨a2, ha2⟩ : ∃ x, x = 2 ^ 64 - 1 - r4 := ⟨_, rfl⟩
              obtain ⟨a3, ha3⟩ : ∃ x, x = a2 &&& r6 := ⟨_, rfl⟩
              have ba1 : a1 < 18446744073709551616 := by rw [ha1]; exact Nat.and_lt_two_pow (n := 64) _ b5
              have ba2 : a2 < 18446744073709551616 := by rw [ha2]; omega
              have ba3 : a3 < 18446744073709551616 := by rw [ha3]; exact Nat.and_lt_two_pow (n := 64) _ b6
              have z1 : bits .and .u64 (r4 : Int) (r5 : Int) = (a1 : Int) := by rw [ha1]; exact u64_and_nat _ _ (by omega) (by omega)
              have z2 : bits .xor .u64 18446744073709551615 (r4 : Int) = (a2 : Int) := by rw [ha2]; exact ones64 r4 b4
              have z3 : bits .and .u64 (a2 : Int) (r6 : Int) = (a3 : Int) := by rw [ha3]; exact u64_and_nat _ _ (by omega) (by omega)
              have z4 : bits .xor .u64 (a1 : Int) (a3 : Int) = (ch : Int) := by rw [HCH.out, ← ha2, ← ha1, ← ha3]; exact u64_xor_nat _ _ (by omega) (by omega)
              clear ha1 ha2 ha3
              obtain ⟨v5, hv5⟩ : ∃ x, x = (r7 + sB + ch + kt + wt) % 18446744073709551616 := ⟨_, rfl⟩
              have hs5 : IntKind.u64.wrap (IntKind.u64.wrap (IntKind.u64.wrap (IntKind.u64.wrap ((r7 : Int) + (sB : Int)) + (ch : Int)) + (kt : Int)) + (wt : Int)) = (v5 : Int) := by rw [hv5]; simp only [IntKind.wrap_u64]; omega
              have bv5 : v5 < 18446744073709551616 := by rw [hv5]; omega
              have hlx : Hid (v5 = xx) := by show _ = _; rw [HX.out, hv5]
              clear hv5
              have q0 := cell_regrown (row_at hR1.2 0 (.int .i64 64) rfl)
              have q1 := cell_regrown (row_at hR1.2 1 (.int .i64 80) rfl)
              have q2 := cell_regrown (row_at hR1.2 2 (.slice (some ⟨gA, 0, none⟩) 3 cA) rfl)
              have q3 := cell_regrown (row_at hR1.2 3 (.slice (some ⟨gB, 0, none⟩) 3 cB) rfl)
              have q4 := cell_regrown (row_at hR1.2 4 (.slice (some ⟨gC, 0, none⟩) 3 cC) rfl)
              have q5 := cell_regrown (row_at hR1.2 5 (.slice (some ⟨gD, 0, none⟩) 3 cD) rfl)
              have q6 := cell_regrown (row_at hR1.2 6 (.slice (some ⟨gK, 0, none⟩) 80 cK) rfl)
              have q7 := cell_regrown (row_at hR1.2 7 vF rfl)
              have e5 := cell_regrown (show (_ : World).cell? ⟨gr, 5, none⟩ = some (.int .u64 (r5 : Int)) from hrr1 5 (by omega))
              have e6 := cell_regrown (show (_ : World).cell? ⟨gr, 6, none⟩ = some (.int .u64 (r6 : Int)) from hrr1 6 (by omega))
              have e7 := cell_regrown (show (_ : World).cell? ⟨gr, 7, none⟩ = some (.int .u64 (r7 : Int)) from hrr1 7 (by omega))
              have k1 := cell_regrown cK1
              have k2 := cell_regrown cW1
              have rB := kB.below hR1.1
              have cQ1 : ∀ d os, Calls Tryd.prog 35 #[.agg #[.int .i64 64, .int .i64 80, .slice (some ⟨gA, 0, none⟩) 3 cA, .slice (some ⟨gB, 0, none⟩) 3 cB, .slice (some ⟨gC, 0, none⟩) 3 cC, .slice (some ⟨gD, 0, none⟩) 3 cD, .slice (some ⟨gK, 0, none⟩) 80 cK, vF], .int .u64 (r4 : Int), .slice (some ⟨gB, 0, none⟩) 3 cB, .bool false] (grow (redrawn w1 d) os) fun e w'' => e = .returned (.int .u64 (sB : Int)) ∧ ∃ p : Regrown, w'' = grow (redrawn w1 p.d) p.os := fun d os => by
                have r := rB.below (below_regrown w1 d os)
                rw [HSB.out]; exact Calls.regrown_of (mixed64n _ _ _ _ _ _ r4 gB cB _ _ _ _ b4 (by decide) (by decide) (by decide) r.a r.b r.c)
              have cQ2 : ∀ d os, Calls Tryd.prog 36 #[.agg #[.int .i64 64, .int .i64 80, .slice (some ⟨gA, 0, none⟩) 3 cA, .slice (some ⟨gB, 0, none⟩) 3 cB, .slice (some ⟨gC, 0, none⟩) 3 cC, .slice (some ⟨gD, 0, none⟩) 3 cD, .slice (some ⟨gK, 0, none⟩) 80 cK, vF], .int .u64 (v5 : Int)] (grow (redrawn w1 d) os) fun e w'' => e = .returned (.int .u64 (xx : Int)) ∧ ∃ p : Regrown, w'' = grow (redrawn w1 p.d) p.os := fun d os => by
                rw [← hlx.out]; exact Calls.regrown_of (lowH64 _ _ _ _ _ _ v5 _ bv5)
              refine wp_region_quiet_below (by kernel_rfl) (by kernel_rfl) ?_
              iterate 8 (go_big_quiet_step (fail))
              go_big_quiet_step (exact cQ1 _ _)
              iterate 26 (go_big_quiet_step (fail))
              go_big_quiet_step (exact cQ2 _ _)
              repeat (go_big_quiet_step (fail))
              refine wpQuiet_nil ?_
              intro w2 hw'
              have hb2 : Below w1.heap.size w1 w2 := by obtain ⟨p, rfl⟩ := hw'; exact below_regrown _ _ _
              have hR2 := hR1.on hb2
              have hrr2 := hrr1.on hb2
              have hwd2 := hwd1.on hb2
              clear hw' hb2 hR1 hrr1 hwd1 cK1 cW1 q0 q1 q2 q3 q4 q5 q6 q7 e5 e6 e7 k1 k2 rB cQ1 cQ2 z1 z2 z3 z4 hs5 ba1 ba2 ba3 hlx bv5
              go_wp2_with fail
              obtain ⟨a1, ha1⟩ : ∃ x, x = r0 &&& r1 := ⟨_, rfl⟩
              obtain ⟨a2, ha2⟩ : ∃ x, x = r0 &&& r2 := ⟨_, rfl⟩
              obtain ⟨a3, ha3⟩ : ∃ x, x = a1 ^^^ a2 := ⟨_, rfl⟩
              obtain ⟨a4, ha4⟩ : ∃ x, x = r1 &&& r2 := ⟨_, rfl⟩
              have ba1 : a1 < 18446744073709551616 := by rw [ha1]; exact Nat.and_lt_two_pow (n := 64) _ b1
              have ba2 : a2 < 18446744073709551616 := by rw [ha2]; exact Nat.and_lt_two_pow (n := 64) _ b2
              have ba3 : a3 < 18446744073709551616 := by rw [ha3]; exact Nat.xor_lt_two_pow (n := 64) ba1 ba2
              have ba4 : a4 < 18446744073709551616 := by rw [ha4]; exact Nat.and_lt_two_pow (n := 64) _ b2
              have z1 : bits .and .u64 (r0 : Int) (r1 : Int) = (a1 : Int) := by rw [ha1]; exact u64_and_nat _ _ (by omega) (by omega)
              have z2 : bits .and .u64 (r0 : Int) (r2 : Int) = (a2 : Int) := by rw [ha2]; exact u64_and_nat _ _ (by omega) (by omega)
              have z3 : bits .xor .u64 (a1 : Int) (a2 : Int) = (a3 : Int) := by rw [ha3]; exact u64_xor_nat _ _ (by omega) (by omega)
              have z4 : bits .and .u64 (r1 : Int) (r2 : Int) = (a4 : Int) := by rw [ha4]; exact u64_and_nat _ _ (by omega) (by omega)
              have z5 : bits .xor .u64 (a3 : Int) (a4 : Int) = (mj : Int) := by rw [HMJ.out, ← ha1, ← ha2, ← ha3, ← ha4]; exact u64_xor_nat _ _ (by omega) (by omega)
              clear ha1 ha2 ha3 ha4
              obtain ⟨v2, hv2⟩ : ∃ x, x = (sA + mj) % 18446744073709551616 := ⟨_, rfl⟩
              have hs2 : IntKind.u64.wrap ((sA : Int) + (mj : Int)) = (v2 : Int) := by rw [hv2]; simp only [IntKind.wrap_u64]; omega
              have bv2 : v2 < 18446744073709551616 := by rw [hv2]; omega
              have hlx : Hid (v2 = yy) := by show _ = _; rw [HY.out, hv2]
              clear hv2
              have q0 := cell_regrown (row_at hR2.2 0 (.int .i64 64) rfl)
              have q1 := cell_regrown (row_at hR2.2 1 (.int .i64 80) rfl)
              have q2 := cell_regrown (row_at hR2.2 2 (.slice (some ⟨gA, 0, none⟩) 3 cA) rfl)
              have q3 := cell_regrown (row_at hR2.2 3 (.slice (some ⟨gB, 0, none⟩) 3 cB) rfl)
              have q4 := cell_regrown (row_at hR2.2 4 (.slice (some ⟨gC, 0, none⟩) 3 cC) rfl)
              have q5 := cell_regrown (row_at hR2.2 5 (.slice (some ⟨gD, 0, none⟩) 3 cD) rfl)
              have q6 := cell_regrown (row_at hR2.2 6 (.slice (some ⟨gK, 0, none⟩) 80 cK) rfl)
              have q7 := cell_regrown (row_at hR2.2 7 vF rfl)
              have e1 := cell_regrown (show (_ : World).cell? ⟨gr, 1, none⟩ = some (.int .u64 (r1 : Int)) from hrr2 1 (by omega))
              have e2 := cell_regrown (show (_ : World).cell? ⟨gr, 2, none⟩ = some (.int .u64 (r2 : Int)) from hrr2 2 (by omega))
              have rA := kA.below hR2.1
              have cQ1 : ∀ d os, Calls Tryd.prog 35 #[.agg #[.int .i64 64, .int .i64 80, .slice (some ⟨gA, 0, none⟩) 3 cA, .slice (some ⟨gB, 0, none⟩) 3 cB, .slice (some ⟨gC, 0, none⟩) 3 cC, .slice (some ⟨gD, 0, none⟩) 3 cD, .slice (some ⟨gK, 0, none⟩) 80 cK, vF], .int .u64 (r0 : Int), .slice (some ⟨gA, 0, none⟩) 3 cA, .bool false] (grow (redrawn w2 d) os) fun e w'' => e = .returned (.int .u64 (sA : Int)) ∧ ∃ p : Regrown, w'' = grow (redrawn w2 p.d) p.os := fun d os => by
                have r := rA.below (below_regrown w2 d os)
                rw [HSA.out]; exact Calls.regrown_of (mixed64n _ _ _ _ _ _ r0 gA cA _ _ _ _ b0 (by decide) (by decide) (by decide) r.a r.b r.c)
              have cQ2 : ∀ d os, Calls Tryd.prog 36 #[.agg #[.int .i64 64, .int .i64 80, .slice (some ⟨gA, 0, none⟩) 3 cA, .slice (some ⟨gB, 0, none⟩) 3 cB, .slice (some ⟨gC, 0, none⟩) 3 cC, .slice (some ⟨gD, 0, none⟩) 3 cD, .slice (some ⟨gK, 0, none⟩) 80 cK, vF], .int .u64 (v2 : Int)] (grow (redrawn w2 d) os) fun e w'' => e = .returned (.int .u64 (yy : Int)) ∧ ∃ p : Regrown, w'' = grow (redrawn w2 p.d) p.os := fun d os => by
                rw [← hlx.out]; exact Calls.regrown_of (lowH64 _ _ _ _ _ _ v2 _ bv2)
              refine wp_region_quiet_below (by kernel_rfl) (by kernel_rfl) ?_
              iterate 5 (go_big_quiet_step (fail))
              go_big_quiet_step (exact cQ1 _ _)
              iterate 20 (go_big_quiet_step (fail))
              go_big_quiet_step (exact cQ2 _ _)
              repeat (go_big_quiet_step (fail))
              refine wpQuiet_nil ?_
              intro w3 hw'
              have hb3 : Below w2.heap.size w2 w3 := by obtain ⟨p, rfl⟩ := hw'; exact below_regrown _ _ _
              have hR3 := hR2.on hb3
              have hrr3 := hrr2.on hb3
              have hwd3 := hwd2.on hb3
              clear hw' hb3 hR2 hrr2 hwd2 q0 q1 q2 q3 q4 q5 q6 q7 e1 e2 rA cQ1 cQ2 z1 z2 z3 z4 z5 hs2 ba1 ba2 ba3 ba4 hlx bv2
              obtain ⟨nx, hnx⟩ : ∃ x, x = (xx + yy) % 18446744073709551616 := ⟨_, rfl⟩
              obtain ⟨ne, hne⟩ : ∃ x, x = (r3 + xx) % 18446744073709551616 := ⟨_, rfl⟩
              have hsx : IntKind.u64.wrap ((xx : Int) + (yy : Int)) = (nx : Int) := by rw [hnx]; simp only [IntKind.wrap_u64]; omega
              have hse : IntKind.u64.wrap ((r3 : Int) + (xx : Int)) = (ne : Int) := by rw [hne]; simp only [IntKind.wrap_u64]; omega
              have bnx : nx < 18446744073709551616 := by rw [hnx]; omega
              have bne : ne < 18446744073709551616 := by rw [hne]; omega
              have hwx : IntKind.u64.wrap (nx : Int) = (nx : Int) := by rw [IntKind.wrap_u64]; omega
              have hwe : IntKind.u64.wrap (ne : Int) = (ne : Int) := by rw [IntKind.wrap_u64]; omega
              have HNX : Hid (nx = (xx + yy) % 2 ^ 64) := by show _ = _; rw [hnx]
              have HNE : Hid (ne = (r3 + xx) % 2 ^ 64) := by show _ = _; rw [hne]
              clear hnx hne
              have hall : ∀ w', Below w3.heap.size w3 w' → Below w3.heap.size w3 w' ∧ w'.cell? ⟨w.heap.size, 0, none⟩ = some (.int .i64 64) ∧ w'.cell? ⟨w.heap.size, 1, none⟩ = some (.int .i64 80) ∧ w'.cell? ⟨w.heap.size, 2, none⟩ = some (.slice (some ⟨gA, 0, none⟩) 3 cA) ∧ w'.cell? ⟨w.heap.size, 3, none⟩ = some (.slice (some ⟨gB, 0, none⟩) 3 cB) ∧ w'.cell? ⟨w.heap.size, 4, none⟩ = some (.slice (some ⟨gC, 0, none⟩) 3 cC) ∧ w'.cell? ⟨w.heap.size, 5, none⟩ = some (.slice (some ⟨gD, 0, none⟩) 3 cD) ∧ w'.cell? ⟨w.heap.size, 6, none⟩ = some (.slice (some ⟨gK, 0, none⟩) 80 cK) ∧ w'.cell? ⟨w.heap.size, 7, none⟩ = some vF ∧ w'.cell? ⟨gr, 1, none⟩ = some (.int .u64 (r1 : Int)) ∧ w'.cell? ⟨gr, 2, none⟩ = some (.int .u64 (r2 : Int)) ∧ w'.cell? ⟨gr, 3, none⟩ = some (.int .u64 (r3 : Int)) ∧ w'.cell? ⟨gr, 5, none⟩ = some (.int .u64 (r5 : Int)) ∧ w'.cell? ⟨gr, 6, none⟩ = some (.int .u64 (r6 : Int)) := fun w' hb =>
                have hRx := hR3.on hb
                have hrx := hrr3.on hb
                ⟨hb, row_at hRx.2 0 _ rfl, row_at hRx.2 1 _ rfl, row_at hRx.2 2 _ rfl, row_at hRx.2 3 _ rfl, row_at hRx.2 4 _ rfl, row_at hRx.2 5 _ rfl, row_at hRx.2 6 _ rfl, row_at hRx.2 7 _ rfl, hrx 1 (by omega), hrx 2 (by omega), hrx 3 (by omega), hrx 5 (by omega), hrx 6 (by omega)⟩
              go_wp2_with fail
              go_region_held3 (fun w' => Below w3.heap.size w3 w' ∧ w'.cell? ⟨w.heap.size, 0, none⟩ = some (.int .i64 64) ∧ w'.cell? ⟨w.heap.size, 1, none⟩ = some (.int .i64 80) ∧ w'.cell? ⟨w.heap.size, 2, none⟩ = some (.slice (some ⟨gA, 0, none⟩) 3 cA) ∧ w'.cell? ⟨w.heap.size, 3, none⟩ = some (.slice (some ⟨gB, 0, none⟩) 3 cB) ∧ w'.cell? ⟨w.heap.size, 4, none⟩ = some (.slice (some ⟨gC, 0, none⟩) 3 cC) ∧ w'.cell? ⟨w.heap.size, 5, none⟩ = some (.slice (some ⟨gD, 0, none⟩) 3 cD) ∧ w'.cell? ⟨w.heap.size, 6, none⟩ = some (.slice (some ⟨gK, 0, none⟩) 80 cK) ∧ w'.cell? ⟨w.heap.size, 7, none⟩ = some vF ∧ w'.cell? ⟨gr, 1, none⟩ = some (.int .u64 (r1 : Int)) ∧ w'.cell? ⟨gr, 2, none⟩ = some (.int .u64 (r2 : Int)) ∧ w'.cell? ⟨gr, 3, none⟩ = some (.int .u64 (r3 : Int)) ∧ w'.cell? ⟨gr, 5, none⟩ = some (.int .u64 (r5 : Int)) ∧ w'.cell? ⟨gr, 6, none⟩ = some (.int .u64 (r6 : Int)))
                (first | exact hall _ hc1 | exact hall _ (hc1.alloc hc1.size _) | exact hall _ (Below.refl _ _).drew)
                (first | (go_at_call 36; refine (lowH64 _ _ _ _ _ _ _ _ ?_).mono ?_; assumption; rintro e w' ⟨rfl, hbq⟩; have hc1 : Below w3.heap.size w3 w' := by first | exact ((Below.refl _ _).drew.trans hbq) | exact hc1.trans (hbq.mono hc1.size)))
              go_wp2_with fail
              have hRn := hR3.on (hc1.alloc hc1.size (.cells (ints .u64 [nx, r0, r1, r2, ne, r4, r5, r6]) 39))
              have hwn := hwd3.on (hc1.alloc hc1.size (.cells (ints .u64 [nx, r0, r1, r2, ne, r4, r5, r6]) 39))
              have hrn := words_alloc w' [nx, r0, r1, r2, ne, r4, r5, r6] rfl
              have HBn : Hid ((⟨nx, r0, r1, r2, ne, r4, r5, r6⟩ : S8) = Rr sh64 kk (spr sh64 bs) (ofL st) (t + 1)) := by
                show _ = _
                rw [HB.out, HNX.out, HNE.out]
              go_roundw
              case rel => first | exact ⟨t + 1, by omega, by go_num, hRn, hwn, w'.heap.size, 8, ⟨_, _, _, _, _, _, _, _⟩, rfl, HBn.out, hrn⟩ | ((repeat apply Exists.intro); exact ⟨⟨t + 1, by omega, by go_num, hRn, hwn, w'.heap.size, 8, ⟨_, _, _, _, _, _, _, _⟩, rfl, HBn.out, hrn⟩, rfl⟩)
              case measure => simp [intOf]; omega
            · obtain rfl : t = 80 := by omega
              go_wp2_with fail
              clear c1 hwd
              have hqle : ∀ k, k < 8 → ql.getD k 0 = (st.getD k 0 + [r0, r1, r2, r3, r4, r5, r6, r7].getD k 0) % 2 ^ 64 := fun k hk => by
                rw [HQD.out, ← HQ.out]; exact zip8 st hst _ _ _ _ _ _ _ _ _ k hk
              have HQE : Hid (∀ k, k < 8 → ql.getD k 0 = (st.getD k 0 + [r0, r1, r2, r3, r4, r5, r6, r7].getD k 0) % 2 ^ 64) := hqle
              clear hqle
              obtain ⟨b0, b1, b2, b3, b4, b5, b6, b7⟩ : S8.lt ⟨r0, r1, r2, r3, r4, r5, r6, r7⟩ 18446744073709551616 := by rw [HQ.out]; exact Rr_lt sh64 _ _ _ (ofL_lt st 18446744073709551616 hsl) 80
              obtain ⟨BB, hBB⟩ : ∃ x, x = wr.heap.size := ⟨_, rfl⟩
              have hgrB : gr < BB := by rw [hBB]; exact block_lt_of_cell (hrr 0 (by omega))
              have hwBB : w.heap.size < BB := by rw [hBB]; exact lt_of_heap hR.2
              have hgsB : gs < BB := Nat.lt_trans (block_lt_of_cell (a := ⟨gs, 0, none⟩) (hcs 0 (by omega))) hwBB
              have hBsz : BB ≤ wr.heap.size := Nat.le_of_eq hBB
              clear hBB
              go_loopw [21, 20] (fun i v20 wr => ∃ k : Nat, k ≤ 8 ∧ i = .int .i64 (k : Int) ∧ RelB w #[.int .i64 64, .int .i64 80, .slice (some ⟨gA, 0, none⟩) 3 cA, .slice (some ⟨gB, 0, none⟩) 3 cB, .slice (some ⟨gC, 0, none⟩) 3 cC, .slice (some ⟨gD, 0, none⟩) 3 cD, .slice (some ⟨gK, 0, none⟩) 80 cK, vF] wr ∧ Words wr gr 8 [r0, r1, r2, r3, r4, r5, r6, r7] ∧ BB ≤ wr.heap.size ∧ wr.ownsRow BB 39 1 v20 k (uv (ql.take k))) (fun i _ _ => 8 - (intOf i).toNat)
              case atStart => exact ⟨0, by omega, rfl, hR, hrr, hBsz, World.ownsRow_nil _ _ _ _⟩
              case round =>
                clear hR hrr hBsz
                obtain ⟨k, hk, rfl, hR, hrr, hBsz, hown⟩ := hrel
                by_cases hlt : k < 8
                · obtain ⟨rk, hrk⟩ : ∃ x, x = [r0, r1, r2, r3, r4, r5, r6, r7].getD k 0 := ⟨_, rfl⟩
                  obtain ⟨sk, hsk⟩ : ∃ x, x = st.getD k 0 := ⟨_, rfl⟩
                  have brk : rk < 18446744073709551616 := by rw [hrk]; exact list8_lt b0 b1 b2 b3 b4 b5 b6 b7 k
                  have bsk : sk < 18446744073709551616 := by rw [hsk]; exact hsl k
                  have d1 : wr.cell? ⟨gr, k, none⟩ = some (.int .u64 (rk : Int)) := by rw [hrk]; exact hrr k hlt
                  have d2 : wr.cell? ⟨gs, k, none⟩ = some (.int .u64 (sk : Int)) := by rw [hsk]; exact (hR.1.cell (p := ⟨gs, k, none⟩) (block_lt_of_cell (a := ⟨gs, 0, none⟩) (hcs 0 (by omega)))).trans (hcs k hlt)
                  obtain ⟨nx, hnx⟩ : ∃ x, x = (rk + sk) % 18446744073709551616 := ⟨_, rfl⟩
                  have hsx : IntKind.u64.wrap ((rk : Int) + (sk : Int)) = (nx : Int) := by rw [hnx]; simp only [IntKind.wrap_u64]; omega
                  have bnx : nx < 18446744073709551616 := by rw [hnx]; omega
                  have hwx : IntKind.u64.wrap (nx : Int) = (nx : Int) := by rw [IntKind.wrap_u64]; omega
                  have HNX : Hid (nx = ql.getD k 0) := by show _ = _; rw [HQE.out k hlt, hnx, hrk, hsk, Nat.add_comm (st.getD k 0)]
                  clear hnx hrk hsk
                  have HE : Hid (uv (ql.take k) ++ [.int .u64 ((nx : Nat) : Int)] = uv (ql.take (k + 1))) := by
                    show uv (ql.take k) ++ [.int .u64 ((nx : Nat) : Int)] = uv (ql.take (k + 1))
                    rw [take_snoc' (by rw [HQL.out]; omega), HNX.out]; simp [uv]
                  have hall : ∀ w', Below BB wr w' → Below BB wr w' ∧ w'.cell? ⟨w.heap.size, 0, none⟩ = some (.int .i64 64) ∧ w'.cell? ⟨w.heap.size, 1, none⟩ = some (.int .i64 80) ∧ w'.cell? ⟨w.heap.size, 2, none⟩ = some (.slice (some ⟨gA, 0, none⟩) 3 cA) ∧ w'.cell? ⟨w.heap.size, 3, none⟩ = some (.slice (some ⟨gB, 0, none⟩) 3 cB) ∧ w'.cell? ⟨w.heap.size, 4, none⟩ = some (.slice (some ⟨gC, 0, none⟩) 3 cC) ∧ w'.cell? ⟨w.heap.size, 5, none⟩ = some (.slice (some ⟨gD, 0, none⟩) 3 cD) ∧ w'.cell? ⟨w.heap.size, 6, none⟩ = some (.slice (some ⟨gK, 0, none⟩) 80 cK) ∧ w'.cell? ⟨w.heap.size, 7, none⟩ = some vF ∧ w'.cell? ⟨gr, k, none⟩ = some (.int .u64 (rk : Int)) ∧ w'.cell? ⟨gs, k, none⟩ = some (.int .u64 (sk : Int)) := fun w' hb =>
                    have hRx := hR.onB hwBB hb
                    ⟨hb, row_at hRx.2 0 _ rfl, row_at hRx.2 1 _ rfl, row_at hRx.2 2 _ rfl, row_at hRx.2 3 _ rfl, row_at hRx.2 4 _ rfl, row_at hRx.2 5 _ rfl, row_at hRx.2 6 _ rfl, row_at hRx.2 7 _ rfl, (hb.cell (p := ⟨gr, k, none⟩) hgrB).trans d1, (hb.cell (p := ⟨gs, k, none⟩) hgsB).trans d2⟩
                  have hlt1 := hown.lt
                  go_wp2_with fail
                  go_region_held3 (fun w' => Below BB wr w' ∧ w'.cell? ⟨w.heap.size, 0, none⟩ = some (.int .i64 64) ∧ w'.cell? ⟨w.heap.size, 1, none⟩ = some (.int .i64 80) ∧ w'.cell? ⟨w.heap.size, 2, none⟩ = some (.slice (some ⟨gA, 0, none⟩) 3 cA) ∧ w'.cell? ⟨w.heap.size, 3, none⟩ = some (.slice (some ⟨gB, 0, none⟩) 3 cB) ∧ w'.cell? ⟨w.heap.size, 4, none⟩ = some (.slice (some ⟨gC, 0, none⟩) 3 cC) ∧ w'.cell? ⟨w.heap.size, 5, none⟩ = some (.slice (some ⟨gD, 0, none⟩) 3 cD) ∧ w'.cell? ⟨w.heap.size, 6, none⟩ = some (.slice (some ⟨gK, 0, none⟩) 80 cK) ∧ w'.cell? ⟨w.heap.size, 7, none⟩ = some vF ∧ w'.cell? ⟨gr, k, none⟩ = some (.int .u64 (rk : Int)) ∧ w'.cell? ⟨gs, k, none⟩ = some (.int .u64 (sk : Int)))
                    (first | exact hall _ hca | exact hall _ (hc1.alloc hcB _) | exact hall _ hc1 | exact hall _ (Below.refl _ _).drew)
                    (first
                      | (go_at_call 36; refine (lowH64 _ _ _ _ _ _ _ _ ?_).mono ?_; assumption; rintro e w' ⟨rfl, hbq⟩; have hcq : Below wr.heap.size wr w' := ((Below.refl _ _).drew.trans hbq); have hc1 : Below BB wr w' := hcq.mono hBsz; have hcB : BB ≤ w'.heap.size := Nat.le_trans hBsz hcq.size; have hownc := own_onV hown hcq)
                      | (refine step_append_lies _ (by rfl) (.tmp 205) (.tmp 217) 35 (by rfl) BB 39 i0 (.int .u64 0) 1 8 Tryd.underlying35 hi hz0 hz1 hz2 rfl (by decide) _ _ _ (by rfl) (hownc.alloc _) ⟨w'.heap.size, 0, none⟩ 1 1 [.int .u64 ((nx : Nat) : Int)] (by rfl) rfl (news_one _ _ _) one_word (by omega) (by unfold maxLen; omega) (by omega) (by simp; omega) _ rfl ?_; intro ga ca wa howna hgrowa hata hlta; have hca : Below BB wr wa := (hc1.alloc hcB _).grown hgrowa (by simp; omega) (fun k hk => (hlt1 k hk).1)))
                  go_wp2_with fail
                  rw [HE.out] at howna
                  have hRn := hR.onB hwBB hca
                  have hrn := hrr.onB hgrB hca
                  have hBn := Nat.le_trans hBsz hca.size
                  go_roundw
                  case rel => first | exact ⟨k + 1, by omega, by go_num, hRn, hrn, hBn, howna⟩ | ((repeat apply Exists.intro); exact ⟨⟨k + 1, by omega, by go_num, hRn, hrn, hBn, howna⟩, rfl⟩)
                  case measure => simp [intOf]; omega
                · obtain rfl : k = 8 := by omega
                  have hfin : uv (ql.take 8) = uv ql := by rw [← HQL.out, List.take_length]
                  rw [hfin] at hown
                  go_wp2_with fail
                  go_ret
                  exact ⟨_, rfl, BB, Nat.le_of_lt hwBB, hR.1, hown⟩
end Go.Proofs.YtomfnkbghlpkeaaDoor
