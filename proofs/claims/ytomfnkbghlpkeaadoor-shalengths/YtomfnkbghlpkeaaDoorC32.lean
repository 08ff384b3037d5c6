/-
  The walk of takeBlock, at words of 32 bits.
-/
import Derived.Test.YtomfnkbghlpkeaaDoorB32
set_option linter.unusedVariables false
namespace Go.Proofs.YtomfnkbghlpkeaaDoor
open Go.RowKit Go.Sort Go.BigFrame
theorem ch32 (e f g : Nat) (he : e < 4294967296) (hf : f < 4294967296) (hg : g < 4294967296) :
    bits BinOp.xor IntKind.u32 (bits BinOp.and IntKind.u32 (e : Int) (f : Int)) (bits BinOp.and IntKind.u32 (bits BinOp.xor IntKind.u32 (if IntKind.u32.signed = true then -1 else IntKind.u32.max) (e : Int)) (g : Int)) =
      (((e &&& f) ^^^ ((2 ^ 32 - 1 - e) &&& g) : Nat) : Int) := by
  have h1 : (if IntKind.u32.signed = true then -1 else IntKind.u32.max) = ((2 ^ 32 - 1 : Nat) : Int) := by decide
  rw [h1, u32_xor_nat _ _ (by decide) he, ones_xor 32 e he, u32_and_nat _ _ he hf, u32_and_nat _ _ (by omega) hg, u32_xor_nat _ _ (Nat.and_lt_two_pow (n := 32) _ hf) (Nat.and_lt_two_pow (n := 32) _ hg)]
theorem maj32 (a b c : Nat) (ha : a < 4294967296) (hb : b < 4294967296) (hc : c < 4294967296) :
    bits BinOp.xor IntKind.u32 (bits BinOp.xor IntKind.u32 (bits BinOp.and IntKind.u32 (a : Int) (b : Int)) (bits BinOp.and IntKind.u32 (a : Int) (c : Int))) (bits BinOp.and IntKind.u32 (b : Int) (c : Int)) =
      (((a &&& b) ^^^ (a &&& c) ^^^ (b &&& c) : Nat) : Int) := by
  rw [u32_and_nat _ _ ha hb, u32_and_nat _ _ ha hc, u32_and_nat _ _ hb hc]
  exact xor3_32 _ _ _ (Nat.and_lt_two_pow (n := 32) _ hb) (Nat.and_lt_two_pow (n := 32) _ hc) (Nat.and_lt_two_pow (n := 32) _ hc)
theorem k32 (kt : Nat) : (kt : Int) / (4294967296 : Int) = ((kt >>> 32 : Nat) : Int) := by rw [Nat.shiftRight_eq_div_pow]; omega
theorem sum5_32 (a b c d e : Nat) : ((a : Int) + (b : Int) + (c : Int) + (d : Int) + (e : Int)) % (4294967296 : Int) = (((a + b + c + d + e) % 2 ^ 32 : Nat) : Int) := by omega
theorem sum2_32 (a b : Nat) : ((a : Int) + (b : Int)) % (4294967296 : Int) = (((a + b) % 2 ^ 32 : Nat) : Int) := by omega
/-- The table of the steps' words, as it lies in memory. -/
def TabAt (w : World) (g : Nat) (ks : List Nat) : Prop := ∀ i, i < ks.length → w.cell? ⟨g, i, none⟩ = some (.int .u64 ((ks.getD i 0 : Nat) : Int))
theorem TabAt.below {w w' : World} {g B : Nat} {ks : List Nat} (h : TabAt w g ks) (hb : Below B w w') (hlt : g < B) : TabAt w' g ks :=
  fun i hi => (hb.cell (p := ⟨g, i, none⟩) hlt).trans (h i hi)
def z8_32 : Array Value := #[.int .u32 0, .int .u32 0, .int .u32 0, .int .u32 0, .int .u32 0, .int .u32 0, .int .u32 0, .int .u32 0]
def RelC32 (w : World) (sv : Array Value) (wr : World) : Prop :=
  Below w.heap.size w wr ∧ wr.heap[w.heap.size]? = some (.cells sv 40 (0, 0)) ∧ wr.heap[w.heap.size + 1]? = some (.cells shpA32 33 (0, 0)) ∧ wr.heap[w.heap.size + 1 + 1]? = some (.cells z8_32 40 (0, 0))
theorem RelC32.start (w : World) (sv : Array Value) : RelC32 w sv (((w.alloc (.cells sv 40)).alloc (.cells shpA32 33)).alloc (.cells z8_32 40)) :=
  ⟨below3 _ _ _ _, heap3_0 _ _ _ _, heap3_1 _ _ _ _, heap3_2 _ _ _ _⟩
theorem RelC32.on {w wr w1 : World} {sv : Array Value} (h : RelC32 w sv wr) (hb : Below wr.heap.size wr w1) : RelC32 w sv w1 :=
  ⟨h.1.trans (hb.mono h.1.size), block_below hb (lt_of_heap h.2.1) h.2.1, block_below hb (lt_of_heap h.2.2.1) h.2.2.1, block_below hb (lt_of_heap h.2.2.2) h.2.2.2⟩
theorem RelC32.drewN {w wr : World} {sv : Array Value} (h : RelC32 w sv wr) (n : Nat) : RelC32 w sv (wr.drewN n) := ⟨below_drewN h.1 n, h.2.1, h.2.2.1, h.2.2.2⟩
theorem RelC32.setRow {w wr : World} {sv : Array Value} (h : RelC32 w sv wr) {g : Nat} (hg : w.heap.size + 1 + 1 < g) (cs : Array Value) : RelC32 w sv (wr.setRow g cs) :=
  ⟨setRow_below h.1 (by omega) _, (setRow_other _ _ _ _ (by omega)).trans h.2.1, (setRow_other _ _ _ _ (by omega)).trans h.2.2.1, (setRow_other _ _ _ _ (by omega)).trans h.2.2.2⟩
theorem RelC32.setRow0 {w wr : World} {sv : Array Value} (h : RelC32 w sv wr) (cs : Array Value) : RelC32 w cs (wr.setRow w.heap.size cs) :=
  ⟨setRow_below h.1 (Nat.le_refl _) _, setRow_heap _ _ _ _ _ _ h.2.1, (setRow_other _ _ _ _ (by omega)).trans h.2.2.1, (setRow_other _ _ _ _ (by omega)).trans h.2.2.2⟩
theorem RelC32.store {w wr : World} {l : List Nat} (h : RelC32 w (ints .u32 l) wr) (j v : Nat) : RelC32 w (ints .u32 (l.set j v)) (wr.setCell ⟨w.heap.size, j, none⟩ (.int .u32 (v : Int))) := by
  obtain ⟨h1, h2, h3, h4⟩ := h
  exact ⟨h1.setCell (by simp) _, set_ints h2 j v, by rw [heap_setCell_other _ _ _ _ (by simp)]; exact h3, by rw [heap_setCell_other _ _ _ _ (by simp; omega)]; exact h4⟩
theorem index8_32 (a b c d e f g h k : Nat) (hk : k < 8) (w : World) : (Instr.index 40 (.agg #[.int .u32 (a : Int), .int .u32 (b : Int), .int .u32 (c : Int), .int .u32 (d : Int), .int .u32 (e : Int), .int .u32 (f : Int), .int .u32 (g : Int), .int .u32 (h : Int)]) (.int .i64 (k : Int))).run Tryd.prog w =
    .ok (.int .u32 (([a, b, c, d, e, f, g, h].getD k 0 : Nat) : Int)) w := by
  have h8 : k = 0 ∨ k = 1 ∨ k = 2 ∨ k = 3 ∨ k = 4 ∨ k = 5 ∨ k = 6 ∨ k = 7 := by omega
  rcases h8 with rfl | rfl | rfl | rfl | rfl | rfl | rfl | rfl <;> (show _ = _; kernel_rfl)
set_option maxRecDepth 100000 in
set_option maxHeartbeats 2000000 in
theorem takeBlock32 (st : List Nat) (b off cap : Nat) (bs ks : List Nat) (w : World) (hst : st.length = 8) (hsl : ∀ j, st.getD j 0 < 4294967296) (hlen : bs.length = 64) (hb256 : ∀ j, bs.getD j 0 < 256) (hcap : 64 ≤ cap) (hcap2 : cap ≤ maxLen)
    (hc : BytesAt w b off bs) (hkl : ks.length = 80) (hkb : ∀ j, ks.getD j 0 < 18446744073709551616) (hK : TabAt w 1 ks) :
    Calls Tryd.prog 32 #[.agg (ints .u32 st), .slice (some ⟨b, off, none⟩) 64 cap, .agg shpA32] w fun e w' => e = .returned (.agg (ints .u32 (blk sh32 ks st bs))) ∧ Below w.heap.size w w' := by
  obtain ⟨sv, hsv⟩ : ∃ x, x = ints .u32 st := ⟨_, rfl⟩
  rw [← hsv]
  have HSV : Hid (sv = ints .u32 st) := hsv
  have hsz : sv.size = 8 := by rw [hsv, ints_size, hst]
  clear hsv
  unfold shpA32
  have hzw : ∀ w, (zeroValue 56).run Tryd.prog w = .ok (.agg (ints .u32 z80)) w := fun _ => by kernel_rfl
  have h80 : (Tryd.prog.info? 56).map (·.size) = some 80 := by kernel_rfl
  have hzl : (ints .u32 z80).size = 80 := by rw [ints_size]; rfl
  obtain ⟨wv, hwv⟩ : ∃ x, x = ints .u32 (spr sh32 bs) := ⟨_, rfl⟩
  have HWV : Hid (wv = ints .u32 (spr sh32 bs)) := hwv
  have hwz : wv.size = 80 := by rw [hwv, ints_size, spr_len]
  have hw1 : wv.all (·.oneCell') = true := by rw [hwv]; exact ints_one _ _
  have hbB : b < w.heap.size := block_lt_of_cell (hc 0 (by omega))
  have hS := spread32 b off cap bs (((w.alloc (.cells sv 40)).alloc (.cells shpA32 33)).alloc (.cells z8_32 40)) hlen hb256 hcap hcap2 (hc.below (below3 _ _ _ _) hbB)
  rw [← hwv] at hS
  clear hwv
  go_enter Tryd.func32, Tryd.ntmps32
  go_wp2_with fail
  refine hS.mono ?_
  rintro e w1 ⟨rfl, hb1⟩
  have hR1 := (RelC32.start w sv).on hb1
  have hg0 : w.heap.size + 1 + 1 < w1.heap.size := lt_of_heap hR1.2.2.2
  clear hS hb1
  obtain ⟨g, hg⟩ : ∃ g, g = w1.heap.size := ⟨_, rfl⟩
  have hgn : (w1.alloc (.cells (ints .u32 z80) 56)).heap[w1.heap.size]? = some (.cells (ints .u32 z80) 56 (0, 0)) := heap_alloc_new _ _
  go_wp2_with (refine wpList_store_row rfl 56 (.tmp 7) (.tmp 24) rfl _ wv rfl rfl 56 _ hgn (by rw [hwz]; exact h80) (by rw [hwz]; exact hzl) hw1 ?_)
  simp only [Act.put]
  obtain ⟨w2, hw2⟩ : ∃ x, x = (w1.alloc (.cells (ints .u32 z80) 56)).setRow w1.heap.size wv := ⟨_, rfl⟩
  rw [← hw2]
  have hR2 : RelC32 w sv w2 := by rw [hw2]; exact (hR1.on (below1 _ _)).setRow hg0 _
  have hG2 : w2.heap[g]? = some (.cells (ints .u32 (spr sh32 bs)) 56 (0, 0)) := by rw [hw2, hg, ← HWV.out]; exact setRow_heap _ _ _ _ _ _ hgn
  have hgB : w.heap.size + 1 + 1 < g := by rw [hg]; exact hg0
  rw [← hg]
  clear hw2 hR1 hg0 hgn hg
  obtain ⟨x0, hx0⟩ : ∃ x, x = st.getD 0 0 := ⟨_, rfl⟩
  obtain ⟨x1, hx1⟩ : ∃ x, x = st.getD 1 0 := ⟨_, rfl⟩
  obtain ⟨x2, hx2⟩ : ∃ x, x = st.getD 2 0 := ⟨_, rfl⟩
  obtain ⟨x3, hx3⟩ : ∃ x, x = st.getD 3 0 := ⟨_, rfl⟩
  obtain ⟨x4, hx4⟩ : ∃ x, x = st.getD 4 0 := ⟨_, rfl⟩
  obtain ⟨x5, hx5⟩ : ∃ x, x = st.getD 5 0 := ⟨_, rfl⟩
  obtain ⟨x6, hx6⟩ : ∃ x, x = st.getD 6 0 := ⟨_, rfl⟩
  obtain ⟨x7, hx7⟩ : ∃ x, x = st.getD 7 0 := ⟨_, rfl⟩
  have hq : ofL st = ⟨x0, x1, x2, x3, x4, x5, x6, x7⟩ := by rw [hx0, hx1, hx2, hx3, hx4, hx5, hx6, hx7]; rfl
  have hqlt : S8.lt ⟨x0, x1, x2, x3, x4, x5, x6, x7⟩ 4294967296 := by rw [hx0, hx1, hx2, hx3, hx4, hx5, hx6, hx7]; exact ⟨hsl _, hsl _, hsl _, hsl _, hsl _, hsl _, hsl _, hsl _⟩
  have HQ : Hid (ofL st = ⟨x0, x1, x2, x3, x4, x5, x6, x7⟩) := hq
  have c0 : w2.cell? ⟨w.heap.size, 0, none⟩ = some (.int .u32 (x0 : Int)) := by rw [hx0]; exact cell_ints (HSV.out ▸ hR2.2.1) 0 (by omega)
  have c1 : w2.cell? ⟨w.heap.size, 1, none⟩ = some (.int .u32 (x1 : Int)) := by rw [hx1]; exact cell_ints (HSV.out ▸ hR2.2.1) 1 (by omega)
  have c2 : w2.cell? ⟨w.heap.size, 2, none⟩ = some (.int .u32 (x2 : Int)) := by rw [hx2]; exact cell_ints (HSV.out ▸ hR2.2.1) 2 (by omega)
  have c3 : w2.cell? ⟨w.heap.size, 3, none⟩ = some (.int .u32 (x3 : Int)) := by rw [hx3]; exact cell_ints (HSV.out ▸ hR2.2.1) 3 (by omega)
  have c4 : w2.cell? ⟨w.heap.size, 4, none⟩ = some (.int .u32 (x4 : Int)) := by rw [hx4]; exact cell_ints (HSV.out ▸ hR2.2.1) 4 (by omega)
  have c5 : w2.cell? ⟨w.heap.size, 5, none⟩ = some (.int .u32 (x5 : Int)) := by rw [hx5]; exact cell_ints (HSV.out ▸ hR2.2.1) 5 (by omega)
  have c6 : w2.cell? ⟨w.heap.size, 6, none⟩ = some (.int .u32 (x6 : Int)) := by rw [hx6]; exact cell_ints (HSV.out ▸ hR2.2.1) 6 (by omega)
  have c7 : w2.cell? ⟨w.heap.size, 7, none⟩ = some (.int .u32 (x7 : Int)) := by rw [hx7]; exact cell_ints (HSV.out ▸ hR2.2.1) 7 (by omega)
  clear hq hx0 hx1 hx2 hx3 hx4 hx5 hx6 hx7
  have s1 := shp_at32 hR2.2.2.1 1 (.int .i64 64) rfl
  go_quiet (fail)
  go_wp2_with fail
  go_quiet (fail)
  go_wp2_with fail
  go_loopw [43, 8, 9, 10, 11, 12, 13, 14, 15] (fun i va vb vc vd ve vf vg vh wr => ∃ t : Nat, ∃ q : S8, t ≤ 64 ∧ i = .int .i64 t ∧ q = R sh32 ks (spr sh32 bs) ⟨x0, x1, x2, x3, x4, x5, x6, x7⟩ t ∧ va = .int .u32 q.a ∧ vb = .int .u32 q.b ∧ vc = .int .u32 q.c ∧ vd = .int .u32 q.d ∧
      ve = .int .u32 q.e ∧ vf = .int .u32 q.f ∧ vg = .int .u32 q.g ∧ vh = .int .u32 q.h ∧ RelC32 w sv wr ∧ wr.heap[g]? = some (.cells (ints .u32 (spr sh32 bs)) 56 (0, 0))) (fun i _ _ _ _ _ _ _ _ _ => 64 - (intOf i).toNat)
  case atStart => exact ⟨0, _, by omega, rfl, rfl, rfl, rfl, rfl, rfl, rfl, rfl, rfl, rfl, hR2.drewN _, hG2⟩
  case round =>
    obtain ⟨t, ⟨qa, qb, qc, qd, qe, qf, qg, qh⟩, ht, rfl, hq, rfl, rfl, rfl, rfl, rfl, rfl, rfl, rfl, hR, hG⟩ := hrel
    have HQT : Hid ((⟨qa, qb, qc, qd, qe, qf, qg, qh⟩ : S8) = R sh32 ks (spr sh32 bs) ⟨x0, x1, x2, x3, x4, x5, x6, x7⟩ t) := hq
    clear hq
    by_cases hlt : t < 64
    · obtain ⟨kt, hkt⟩ : ∃ x, x = ks.getD t 0 := ⟨_, rfl⟩
      obtain ⟨wt, hwt⟩ : ∃ x, x = (spr sh32 bs).getD t 0 := ⟨_, rfl⟩
      have cK : wr.cell? ⟨1, t, none⟩ = some (.int .u64 (kt : Int)) := by rw [hkt]; exact hK.below hR.1 (block_lt_of_cell (hK 0 (by omega))) t (by omega)
      have cW : wr.cell? ⟨g, t, none⟩ = some (.int .u32 (wt : Int)) := by rw [hwt]; exact cell_ints hG t (by rw [spr_len]; omega)
      have z0 := shp_at32 hR.2.2.1 0 (.int .u64 32) rfl
      have bk : kt < 18446744073709551616 := by rw [hkt]; exact hkb _
      have bw : wt < 4294967296 := by rw [hwt]; exact spr_lt sh32 (by decide) bs hb256 t
      have HB : Hid ((R sh32 ks (spr sh32 bs) ⟨x0, x1, x2, x3, x4, x5, x6, x7⟩ (t + 1)) = rnd sh32 (kt >>> 32) wt ⟨qa, qb, qc, qd, qe, qf, qg, qh⟩) := by rw [hkt, hwt, HQT.out]; rfl
      obtain ⟨ba, bb, bc, bd, be, bf, bg, bh⟩ : S8.lt ⟨qa, qb, qc, qd, qe, qf, qg, qh⟩ 4294967296 := by rw [HQT.out]; exact R_lt sh32 ks _ _ hqlt t
      clear hkt hwt
      go_wp2_with fail
      go_quiet (fail)
      go_wp2_with fail
      have hb0 : Below wr.heap.size wr (wr.drewN nq) := below_drewN (Below.refl _ _) _
      have hR0 := hR.on hb0
      have hG0 : (wr.drewN nq).heap[g]? = some (.cells (ints .u32 (spr sh32 bs)) 56 (0, 0)) := hG
      have q0 := cell_regrown (shp_at32 hR0.2.2.1 0 (.int .u64 32) rfl)
      have q1 := cell_regrown (shp_at32 hR0.2.2.1 5 (.int .u64 6) rfl)
      have q2 := cell_regrown (shp_at32 hR0.2.2.1 6 (.int .u64 11) rfl)
      have q3 := cell_regrown (shp_at32 hR0.2.2.1 7 (.int .u64 25) rfl)
      have q4 := cell_regrown (w := wr.drewN nq) (a := ⟨g, t, none⟩) (v := .int .u32 (wt : Int)) cW
      have cQ : ∀ d os, Calls Tryd.prog 39 #[.int .u32 (qe : Int), .agg #[.int .u64 6, .int .u64 11, .int .u64 25], .int .u64 32] (grow (redrawn (wr.drewN nq) d) os) fun e w'' => e = .returned (.int .u32 (tn 32 qe 6 11 25 : Nat)) ∧ ∃ p : Regrown, w'' = grow (redrawn (wr.drewN nq) p.d) p.os :=
        fun d os => Calls.regrown_of (turns32 qe 6 11 25 _ be (by decide) (by decide) (by decide) (by decide) (by decide) (by decide))
      refine wp_region_quiet_below (by kernel_rfl) (by kernel_rfl) ?_
      repeat (go_big_quiet_step (exact cQ _ _))
      refine wpQuiet_nil ?_
      intro w3 hw'
      have hb1 : Below (wr.drewN nq).heap.size (wr.drewN nq) w3 := by obtain ⟨p, rfl⟩ := hw'; exact below_regrown _ _ _
      have hR1 := hR0.on hb1
      have hG1 := block_below hb1 (lt_of_heap hG0) hG0
      clear hw' q0 q1 q2 q3 q4 cQ hR hG hR0 hG0 hb0 hb1 cK cW z0
      have q0 := shp_at32 hR1.2.2.1 0 (.int .u64 32) rfl
      have q1 := shp_at32 hR1.2.2.1 2 (.int .u64 2) rfl
      have q2 := shp_at32 hR1.2.2.1 3 (.int .u64 13) rfl
      have q3 := shp_at32 hR1.2.2.1 4 (.int .u64 22) rfl
      go_wp2_with (go_at_call 39; refine (turns32 qa 2 13 22 _ ba (by decide) (by decide) (by decide) (by decide) (by decide) (by decide)).mono ?_; rintro e w4 ⟨rfl, hb4⟩)
      go_roundw
      case rel =>
        rw [ch32 _ _ _ be bf bg, maj32 _ _ _ ba bb bc, k32, sum5_32, sum2_32, sum2_32, sum2_32]
        exact ⟨t + 1, _, by omega, by go_num, HB.out.symm, rfl, rfl, rfl, rfl, rfl, rfl, rfl, rfl, hR1.on hb4, block_below hb4 (lt_of_heap hG1) hG1⟩
      case measure => simp [intOf]; omega
    · obtain rfl : t = 64 := by omega
      clear c0 c1 c2 c3 c4 c5 c6 c7 s1 hR2 hG2
      go_wp2_with fail
      obtain ⟨ql, hql⟩ : ∃ x, x = [qa, qb, qc, qd, qe, qf, qg, qh] := ⟨_, rfl⟩
      have HQL : Hid (ql = [qa, qb, qc, qd, qe, qf, qg, qh]) := hql
      clear hql
      have hR8 : RelC32 w (ints .u32 (addN 32 st ql 0)) wr := by rw [show addN 32 st ql 0 = st from rfl, ← HSV.out]; exact hR
      clear hR
      go_loopw [117] (fun i wr => ∃ k : Nat, k ≤ 8 ∧ i = .int .i64 k ∧ RelC32 w (ints .u32 (addN 32 st ql k)) wr) (fun i _ => 8 - (intOf i).toNat)
      case atStart => exact ⟨0, by omega, rfl, hR8⟩
      case round =>
        obtain ⟨k, hk, rfl, hR⟩ := hrel
        clear hR8 hG
        by_cases hlt : k < 8
        · obtain ⟨y, hy⟩ : ∃ x, x = ql.getD k 0 := ⟨_, rfl⟩
          obtain ⟨sk, hsk⟩ : ∃ x, x = (addN 32 st ql k).getD k 0 := ⟨_, rfl⟩
          have hix : ∀ w', (Instr.index 40 (.agg #[.int .u32 (qa : Int), .int .u32 (qb : Int), .int .u32 (qc : Int), .int .u32 (qd : Int), .int .u32 (qe : Int), .int .u32 (qf : Int), .int .u32 (qg : Int), .int .u32 (qh : Int)]) (.int .i64 (k : Int))).run Tryd.prog w' = .ok (.int .u32 (y : Int)) w' := by
            rw [hy, HQL.out]; exact index8_32 qa qb qc qd qe qf qg qh k hlt
          have cS : wr.cell? ⟨w.heap.size, k, none⟩ = some (.int .u32 (sk : Int)) := by rw [hsk]; exact cell_ints hR.2.1 k (by rw [addN_len, hst]; omega)
          have fS := free_ints hR.2.1 k
          have HN : Hid (RelC32 w (ints .u32 (addN 32 st ql (k + 1))) (wr.setCell ⟨w.heap.size, k, none⟩ (.int .u32 (((sk + y) % 2 ^ 32 : Nat) : Int)))) := by rw [hsk, hy]; exact hR.store k _
          clear hy hsk hR
          go_wp2
          go_roundw
          case rel => exact ⟨k + 1, by omega, by go_num, by rw [sum2_32]; exact HN.out⟩
          case measure => simp [intOf]; omega
        · obtain rfl : k = 8 := by omega
          obtain ⟨rv, hrv⟩ : ∃ x, x = ints .u32 (blk sh32 ks st bs) := ⟨_, rfl⟩
          have hblk : addN 32 st ql 8 = blk sh32 ks st bs := by
            rw [addN_8 32 st ql hst (by rw [HQL.out]; rfl)]
            show List.zipWith _ st ql = List.zipWith _ st (R sh32 ks (spr sh32 bs) (ofL st) 64).list
            rw [HQ.out, ← HQT.out, HQL.out]; rfl
          rw [hblk, ← hrv] at hR
          have hrl : rv.size = 8 := by rw [hrv, ints_size, blk_len _ _ _ _ hst]
          have hr1 : rv.all (·.oneCell') = true := by rw [hrv]; exact ints_one _ _
          have h5 := hR.2.1
          have h4 := hR.2.2.2
          have h8 : (Tryd.prog.info? 40).map (·.size) = some 8 := by kernel_rfl
          have hzl : z8_32.size = 8 := rfl
          go_wp2_with (first
            | (refine wpList_load_row rfl 40 (.tmp 3) rfl _ rfl 40 rv (0, 0) _ h5 Tryd.underlying40 rfl (by rw [hrl]; exact h8) ?_)
            | (refine wpList_store_row rfl 40 (.tmp 6) (.tmp 128) rfl _ rv rfl rfl 40 _ h4 (by rw [hrl]; exact h8) (by rw [hrl]; exact hzl) hr1 ?_))
          refine bodyPost_ret (v := .agg rv) ?_ rfl ⟨by rw [hrv], setRow_below hR.1 (by omega) _⟩
          exact results_cell_row Tryd.results32 _ _ _ 40 rv (0, 0) _ rfl (setRow_heap _ _ _ _ _ _ h4) Tryd.underlying40 rfl (by rw [hrl]; exact h8)
end Go.Proofs.YtomfnkbghlpkeaaDoor
