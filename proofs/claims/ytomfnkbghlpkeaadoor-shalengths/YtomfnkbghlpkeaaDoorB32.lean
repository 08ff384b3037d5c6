/-
  The walk of spread, at words of 32 bits.
-/
import Derived.Test.YtomfnkbghlpkeaaDoorA32
set_option linter.unusedVariables false
namespace Go.Proofs.YtomfnkbghlpkeaaDoor
open Go.RowKit Go.Sort Go.BigFrame
def shpA32 : Array Value := #[.int .u64 32, .int .i64 64, .int .u64 2, .int .u64 13, .int .u64 22, .int .u64 6, .int .u64 11, .int .u64 25, .int .u64 7, .int .u64 18, .int .u64 3, .int .u64 17, .int .u64 19, .int .u64 10]
theorem shp_at32 {w : World} {g : Nat} (h : w.heap[g]? = some (.cells shpA32 33 (0, 0))) (j : Nat) (v : Value) (hv : shpA32[j]? = some v) : w.cell? ⟨g, j, none⟩ = some v := by
  rw [cell_of_row w g j _ _ _ h]; exact hv
theorem put1_32 (x b : Nat) (hb : b < 256) : bits BinOp.or IntKind.u32 ((x : Int) * (256 : Int) % (4294967296 : Int)) (b : Int) = (((x <<< 8) % 2 ^ 32 ||| b : Nat) : Int) := by
  have h2 : ((x : Int) * (256 : Int) % (4294967296 : Int)) = (((x <<< 8) % 2 ^ 32 : Nat) : Int) := by rw [Nat.shiftLeft_eq]; omega
  rw [h2]
  exact u32_or_nat _ _ (by omega) (by omega)
theorem put2_32 (a b c d : Nat) : ((a : Int) + (b : Int) + (c : Int) + (d : Int)) % (4294967296 : Int) = (((a + b + c + d) % 2 ^ 32 : Nat) : Int) := by omega
def z80 : List Nat := List.replicate 80 0
def Rel32 (w : World) (wr : World) (ws : List Nat) : Prop :=
  Below w.heap.size w wr ∧ wr.heap[w.heap.size]? = some (.cells shpA32 33 (0, 0)) ∧ wr.heap[w.heap.size + 1]? = some (.cells (ints .u32 z80) 56 (0, 0)) ∧ wr.heap[w.heap.size + 1 + 1]? = some (.cells (ints .u32 ws) 56 (0, 0))
theorem Rel32.start (w : World) (bs : List Nat) : Rel32 w (((w.alloc (.cells shpA32 33)).alloc (.cells (ints .u32 z80) 56)).alloc (.cells (ints .u32 z80) 56)) (P1 sh32 bs 0) :=
  ⟨below3 _ _ _ _, heap3_0 _ _ _ _, heap3_1 _ _ _ _, heap3_2 _ _ _ _⟩
theorem Rel32.store {w wr : World} {ws : List Nat} (h : Rel32 w wr ws) (j v : Nat) : Rel32 w (wr.setCell ⟨w.heap.size + 1 + 1, j, none⟩ (.int .u32 (v : Int))) (ws.set j v) := by
  obtain ⟨h1, h2, h3, h4⟩ := h
  exact ⟨h1.setCell (by simp; omega) _, by rw [heap_setCell_other _ _ _ _ (by simp; omega)]; exact h2, by rw [heap_setCell_other _ _ _ _ (by simp)]; exact h3, set_ints h4 j v⟩
theorem Rel32.drew {w wr : World} {ws : List Nat} (h : Rel32 w wr ws) : Rel32 w wr.drew ws := ⟨h.1.drew, h.2.1, h.2.2.1, h.2.2.2⟩
theorem Rel32.on {w wr w1 : World} {ws : List Nat} (h : Rel32 w wr ws) (hb : Below wr.heap.size wr w1) : Rel32 w w1 ws :=
  ⟨h.1.trans (hb.mono h.1.size), block_below hb (lt_of_heap h.2.1) h.2.1, block_below hb (lt_of_heap h.2.2.1) h.2.2.1, block_below hb (lt_of_heap h.2.2.2) h.2.2.2⟩
set_option maxHeartbeats 1000000 in
theorem spread32 (b off : Nat) (cap : Nat) (bs : List Nat) (w : World) (hlen0 : bs.length = 64) (hb256 : ∀ j, bs.getD j 0 < 256) (hcap : 64 ≤ cap) (hcap2 : cap ≤ maxLen)
    (hc : BytesAt w b off bs) :
    Calls Tryd.prog 38 #[.slice (some ⟨b, off, none⟩) 64 cap, .agg shpA32] w fun e w' => e = .returned (.agg (ints .u32 (spr sh32 bs))) ∧ Below w.heap.size w w' := by
  have hlen : Hid (bs.length = 64) := hlen0
  have hz : ∀ w, (zeroValue 56).run Tryd.prog w = .ok (.agg (ints .u32 z80)) w := fun _ => by kernel_rfl
  have hbB : b < w.heap.size := block_lt_of_cell (hc 0 (by omega))
  clear hlen0
  unfold maxLen at hcap2
  unfold shpA32
  go_enter Tryd.func38, Tryd.ntmps38
  go_wp2
  go_loopw [18] (fun i wr => ∃ k : Nat, k ≤ 64 ∧ i = .int .i64 k ∧ Rel32 w wr (P1 sh32 bs k)) (fun i _ => 64 - (intOf i).toNat)
  case atStart => exact ⟨0, by omega, rfl, Rel32.start w bs⟩
  case round =>
    obtain ⟨k, hk, rfl, hR⟩ := hrel
    by_cases hlt : k < 64
    · obtain ⟨bv, hbv⟩ : ∃ x, x = bs.getD k 0 := ⟨_, rfl⟩
      obtain ⟨wv, hwv⟩ : ∃ x, x = (P1 sh32 bs k).getD (k / 4) 0 := ⟨_, rfl⟩
      have c1 : wr.cell? ⟨b, off + k, none⟩ = some (.int .u8 (bv : Int)) := by rw [hbv]; exact (hR.1.cell (p := ⟨b, off + k, none⟩) hbB).trans (hc k (by rw [hlen.out]; omega))
      have c2 : wr.cell? ⟨w.heap.size + 1 + 1, k / 4, none⟩ = some (.int .u32 (wv : Int)) := by rw [hwv]; exact cell_ints hR.2.2.2 (k / 4) (by rw [P1_len]; omega)
      have f2 := free_ints hR.2.2.2 (k / 4)
      have hbv256 : bv < 256 := by rw [hbv]; exact hb256 k
      have HS : Hid (Rel32 w (wr.setCell ⟨w.heap.size + 1 + 1, k / 4, none⟩ (.int .u32 (((wv <<< 8) % 2 ^ 32 ||| bv : Nat) : Int))) (P1 sh32 bs (k + 1))) := by
        rw [hwv, hbv]; exact hR.store (k / 4) _
      clear hbv hwv hR
      go_wp2
      go_region
      all_goals
        go_wp2
        go_roundw
        case rel => exact ⟨k + 1, by omega, by go_num, by rw [put1_32 _ _ hbv256]; exact (HS.out).drew⟩
        case measure => simp [intOf]; omega
    · obtain rfl : k = 64 := by omega
      go_wp2
      go_loopw [9] (fun i wr => ∃ t : Nat, 16 ≤ t ∧ t ≤ 64 ∧ i = .int .i64 t ∧ Rel32 w wr (P2 sh32 (P1 sh32 bs 64) (t - 16))) (fun i _ => 64 - (intOf i).toNat)
      case atStart => exact ⟨16, by omega, by omega, rfl, hR⟩
      case round =>
        obtain ⟨t, ht16, ht, rfl, hR⟩ := hrel
        have s1 := shp_at32 hR.2.1 1 (.int .i64 64) rfl
        by_cases hlt : t < 64
        · obtain ⟨ws, hws⟩ : ∃ x, x = P2 sh32 (P1 sh32 bs 64) (t - 16) := ⟨_, rfl⟩
          rw [← hws] at hR
          have hwl : ws.length = 80 := by rw [hws]; exact P2_len _ _ (P1_len _ _ _) _
          have hwt : ∀ j, ws.getD j 0 < 4294967296 := by rw [hws]; exact P2_lt sh32 _ (P1_lt sh32 (by decide) bs hb256 _) _
          have HS : Hid (P2 sh32 (P1 sh32 bs 64) (t + 1 - 16) = put2 sh32 ws t) := by
            rw [hws, show t + 1 - 16 = (t - 16) + 1 by omega]; show put2 _ _ (16 + (t - 16)) = _; rw [show 16 + (t - 16) = t by omega]
          obtain ⟨x2, hx2⟩ : ∃ x, x = ws.getD (t - 2) 0 := ⟨_, rfl⟩
          obtain ⟨x15, hx15⟩ : ∃ x, x = ws.getD (t - 15) 0 := ⟨_, rfl⟩
          obtain ⟨x16, hx16⟩ : ∃ x, x = ws.getD (t - 16) 0 := ⟨_, rfl⟩
          obtain ⟨x7, hx7⟩ : ∃ x, x = ws.getD (t - 7) 0 := ⟨_, rfl⟩
          have HT : Hid (put2 sh32 ws t = ws.set t ((x16 + ts 32 x15 7 18 3 + x7 + ts 32 x2 17 19 10) % 2 ^ 32)) := by rw [hx2, hx15, hx16, hx7]; rfl
          have l2 : x2 < 4294967296 := by rw [hx2]; exact hwt _
          have l15 : x15 < 4294967296 := by rw [hx15]; exact hwt _
          have HX2 : Hid (ws.getD (t - 2) 0 = x2) := hx2.symm
          have HX15 : Hid (ws.getD (t - 15) 0 = x15) := hx15.symm
          have HX16 : Hid (ws.getD (t - 16) 0 = x16) := hx16.symm
          have HX7 : Hid (ws.getD (t - 7) 0 = x7) := hx7.symm
          clear hws hwt hx2 hx15 hx16 hx7
          go_wp2_with fail
          have q2 := cell_regrown (w := wr) (a := ⟨w.heap.size + 1 + 1, t - 2, none⟩) (v := .int .u32 (x2 : Int)) (by rw [← HX2.out]; exact cell_ints hR.2.2.2 (t - 2) (by omega))
          have q11 := cell_regrown (shp_at32 hR.2.1 11 (.int .u64 17) rfl)
          have q12 := cell_regrown (shp_at32 hR.2.1 12 (.int .u64 19) rfl)
          have q13 := cell_regrown (shp_at32 hR.2.1 13 (.int .u64 10) rfl)
          have q0 := cell_regrown (shp_at32 hR.2.1 0 (.int .u64 32) rfl)
          have cQ : ∀ d os, Calls Tryd.prog 43 #[.int .u32 (x2 : Int), .agg #[.int .u64 17, .int .u64 19, .int .u64 10], .int .u64 32] (grow (redrawn wr d) os) fun e w'' => e = .returned (.int .u32 (ts 32 x2 17 19 10 : Nat)) ∧ ∃ p : Regrown, w'' = grow (redrawn wr p.d) p.os :=
            fun d os => Calls.regrown_of (turnsShift32 x2 17 19 10 _ l2 (by decide) (by decide) (by decide) (by decide) (by decide) (by decide))
          refine wp_region_quiet_below (by kernel_rfl) (by kernel_rfl) ?_
          repeat (go_big_quiet_step (exact cQ _ _))
          refine wpQuiet_nil ?_
          intro w1 hw'
          have hb1 : Below wr.heap.size wr w1 := by obtain ⟨p, rfl⟩ := hw'; exact below_regrown _ _ _
          have hR1 := hR.on hb1
          clear hw' q2 q11 q12 q13 q0 cQ s1 hR
          go_wp2_with fail
          have q2 := cell_regrown (w := w1) (a := ⟨w.heap.size + 1 + 1, t - 15, none⟩) (v := .int .u32 (x15 : Int)) (by rw [← HX15.out]; exact cell_ints hR1.2.2.2 (t - 15) (by omega))
          have q11 := cell_regrown (shp_at32 hR1.2.1 8 (.int .u64 7) rfl)
          have q12 := cell_regrown (shp_at32 hR1.2.1 9 (.int .u64 18) rfl)
          have q13 := cell_regrown (shp_at32 hR1.2.1 10 (.int .u64 3) rfl)
          have q0 := cell_regrown (shp_at32 hR1.2.1 0 (.int .u64 32) rfl)
          have cQ : ∀ d os, Calls Tryd.prog 43 #[.int .u32 (x15 : Int), .agg #[.int .u64 7, .int .u64 18, .int .u64 3], .int .u64 32] (grow (redrawn w1 d) os) fun e w'' => e = .returned (.int .u32 (ts 32 x15 7 18 3 : Nat)) ∧ ∃ p : Regrown, w'' = grow (redrawn w1 p.d) p.os :=
            fun d os => Calls.regrown_of (turnsShift32 x15 7 18 3 _ l15 (by decide) (by decide) (by decide) (by decide) (by decide) (by decide))
          refine wp_region_quiet_below (by kernel_rfl) (by kernel_rfl) ?_
          repeat (go_big_quiet_step (exact cQ _ _))
          refine wpQuiet_nil ?_
          intro w2 hw'
          have hb2 : Below w1.heap.size w1 w2 := by obtain ⟨p, rfl⟩ := hw'; exact below_regrown _ _ _
          have hR2 := hR1.on hb2
          clear hw' q2 q11 q12 q13 q0 cQ hb1 hR1 hb2
          have c16 : w2.cell? ⟨w.heap.size + 1 + 1, t - 16, none⟩ = some (.int .u32 (x16 : Int)) := by rw [← HX16.out]; exact cell_ints hR2.2.2.2 (t - 16) (by omega)
          have c7 : w2.cell? ⟨w.heap.size + 1 + 1, t - 7, none⟩ = some (.int .u32 (x7 : Int)) := by rw [← HX7.out]; exact cell_ints hR2.2.2.2 (t - 7) (by omega)
          have c0 : ∃ v, w2.cell? ⟨w.heap.size + 1 + 1, t, none⟩ = some v := ⟨_, cell_ints hR2.2.2.2 t (by omega)⟩
          obtain ⟨v0, c0⟩ := c0
          have f2 := free_ints hR2.2.2.2 t
          have HR : Hid (Rel32 w (w2.setCell ⟨w.heap.size + 1 + 1, t, none⟩ (.int .u32 (((x16 + ts 32 x15 7 18 3 + x7 + ts 32 x2 17 19 10) % 2 ^ 32 : Nat) : Int))) (P2 sh32 (P1 sh32 bs 64) (t + 1 - 16))) := by
            rw [HS.out, HT.out]; exact hR2.store t _
          clear hR2
          go_wp2
          go_region
          all_goals
            go_wp2
            go_roundw
            case rel => exact ⟨t + 1, by omega, by omega, by go_num, by rw [put2_32]; exact (HR.out).drew⟩
            case measure => simp [intOf]; omega
        · obtain rfl : t = 64 := by omega
          obtain ⟨ws, hws⟩ : ∃ x, x = ints .u32 (spr sh32 bs) := ⟨_, rfl⟩
          have hwl : ws.size = 80 := by rw [hws, ints_size, spr_len]
          have hw1 : ws.all (·.oneCell') = true := by rw [hws]; exact ints_one _ _
          have h5 : wr.heap[w.heap.size + 1 + 1]? = some (.cells ws 56 (0, 0)) := by rw [hws]; exact hR.2.2.2
          have h4 := hR.2.2.1
          have h80 : (Tryd.prog.info? 56).map (·.size) = some 80 := by kernel_rfl
          have hzl : (ints .u32 z80).size = 80 := by rw [ints_size]; rfl
          go_wp2_with (first
            | (refine wpList_load_row rfl 56 (.tmp 5) rfl _ rfl 56 ws (0, 0) _ h5 Tryd.underlying56 rfl (by rw [hwl]; exact h80) ?_)
            | (refine wpList_store_row rfl 56 (.tmp 4) (.tmp 76) rfl _ ws rfl rfl 56 _ h4 (by rw [hwl]; exact h80) (by rw [hwl]; exact hzl) hw1 ?_))
          refine bodyPost_ret (v := .agg ws) ?_ rfl ⟨by rw [hws], setRow_below hR.1 (by omega) _⟩
          exact results_cell_row Tryd.results38 _ _ _ 56 ws (0, 0) _ rfl (setRow_heap _ _ _ _ _ _ h4) Tryd.underlying56 rfl (by rw [hwl]; exact h80)
end Go.Proofs.YtomfnkbghlpkeaaDoor
