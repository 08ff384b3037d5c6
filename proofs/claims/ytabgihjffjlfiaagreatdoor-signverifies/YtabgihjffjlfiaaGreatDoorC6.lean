/-
  The walk of takeBlocks, at words of 64 bits. The walk of lastBlocks, at words of 64 bits. The walk of stateBytes, at words of 64 bits. The walk of digest, at words of 64 bits. The two tables of the program, as lists of numbers; the digests of no bytes, reckoned by the kernel. The walks of few, Same, Equal, Sum256, Sum512 and lives. What sign calls, told of bytes wherever they lie; the walks of halves, bases. Parts put together; the walks of number, keyOf. The walk of keyOf. The walks of Public, Sign. few, lives. The walk of CurveGroup. The walk of CurveNeg. The reference's contracts, in elements. The reference's Root. The reference's points: D, Add, On, Bytes.
-/
import Derived.Test.YtabgihjffjlfiaaGreatDoorC5
import Derived.StillTail
import Derived.StillTactics
import Derived.Deep.MidRow
import Derived.Laws.CopyOwn
import Derived.Test.YtabgihjffjlfiaaGreatDoorC0
import Derived.Test.YtabgihjffjlfiaaGreatDoorC1
import Derived.Laws.BytesString
set_option linter.unusedVariables false
namespace Go.Proofs.YtabgihjffjlfiaaGreatDoor
open Go.RowKit Go.Sort Go.BigFrame
theorem blockBytes64 (w : World) : Calls Tryz.prog 100 #[.agg shpA64] w fun e w' => e = .returned (.int .i64 128) ∧ Below w.heap.size w w' := by
 unfold shpA64
 go_enter Tryz.func100, Tryz.ntmps100
 go_wp2
 go_ret
 exact ⟨rfl, below1 _ _⟩
set_option maxRecDepth 100000 in
set_option maxHeartbeats 2000000 in
theorem takeBlocks64_more (st : List Nat) (b off len cap : Nat) (bs ks : List Nat) (w : World) (hst : st.length = 8) (hsl : ∀ j, st.getD j 0 < 18446744073709551616) (hlen0 : bs.length = len) (h64 : 128 ≤ len) (hb256 : ∀ j, bs.getD j 0 < 256) (hcap : len ≤ cap) (hcap2 : cap ≤ 9223372036854775807) (hlen9 : len ≤ 100000000000000)
  (hc : BytesAt w b off bs) (hkl : ks.length = 80) (hkb : ∀ j, ks.getD j 0 < 18446744073709551616) (hK : TabAt w 7 ks) :
  Calls Tryz.prog 101 #[.agg (ints .u64 st), .slice (some ⟨b, off, none⟩) len cap, .agg shpA64] w fun e w' => e = .returned (.agg (ints .u64 (blks sh64 ks st bs (len / 128)))) ∧ Below w.heap.size w w' := by
 have hlen : Hid (bs.length = len) := hlen0
 clear hlen0
 obtain ⟨sv, hsv⟩ : ∃ x, x = ints .u64 st := ⟨_, rfl⟩
 rw [← hsv]
 have HSV : Hid (sv = ints .u64 st) := hsv
 clear hsv
 have hbB : b < w.heap.size := block_lt_of_cell (hc 0 (by have := hlen.out; omega))
 have h1B : 7 < w.heap.size := block_lt_of_cell (hK 0 (by omega))
 have hBB := blockBytes64 (((w.alloc (.cells sv 114)).alloc (.cells shpA64 97)).alloc (.cells z8_64 114))
 unfold shpA64 at hBB ⊢
 go_enter Tryz.func101, Tryz.ntmps101
 go_wp2_with fail
 refine hBB.mono ?_
 rintro e w1 ⟨rfl, hb1⟩
 have hR1 := (RelC64.start w sv).on hb1
 clear hBB hb1
 go_wp2_with fail
 go_loopw [8] (fun i wr => ∃ m : Nat, m ≤ len ∧ m % 128 = 0 ∧ i = .int .i64 (m : Int) ∧ RelC64 w (ints .u64 (blks sh64 ks st bs (m / 128))) wr) (fun i _ => len - (intOf i).toNat)
 case atStart => exact ⟨0, by omega, by omega, rfl, by rw [show blks sh64 ks st bs (0 / 128) = st from rfl, ← HSV.out]; exact hR1⟩
 case round =>
  obtain ⟨m, hk, hm, rfl, hR⟩ := hrel
  have HM : Hid (m % 128 = 0) := hm
  clear hm
  by_cases hlt : m + 128 ≤ len
  ·obtain ⟨cs, hcs⟩ : ∃ x, x = ints .u64 (blks sh64 ks st bs (m / 128)) := ⟨_, rfl⟩
   rw [← hcs] at hR
   have HCS : Hid (cs = ints .u64 (blks sh64 ks st bs (m / 128))) := hcs
   have hcl : cs.size = 8 := by rw [hcs, ints_size, blks_len _ _ _ _ hst]
   clear hcs
   have h8 : (Tryz.prog.info? 114).map (·.size) = some 8 := by kernel_rfl
   have h14 : (Tryz.prog.info? 97).map (·.size) = some shpA64.size := by kernel_rfl
   have hr0 : wr.drew.heap[w.heap.size]? = some (.cells cs 114 (0, 0)) := hR.2.1
   have hr1 : wr.drew.heap[w.heap.size + 1]? = some (.cells shpA64 97 (0, 0)) := hR.2.2.1
   go_wp2_with fail
   have a1 : IntKind.i64.wrap (↑m + 128) = ↑m + 128 := by simp [IntKind.wrap, IntKind.bits, IntKind.signed]; omega
   have a2 : (0 : Int) ≤ ↑m + 128 := by omega
   have a3 : (↑m + 128 : Int) ≤ ↑cap := by omega
   have a4 : ¬ cap = m := by omega
   have a5 : m ≤ ((m : Int) + 128).toNat := by omega
   have a6 : ((m : Int) + 128).toNat - m = 128 := by omega
   refine wp_region_still_tail 8 (by kernel_rfl) (by kernel_rfl) ?_
   simp only [List.take_succ_cons, List.take_zero, List.drop_succ_cons, List.drop_zero]
   show wpStill _ _ wr.drew (fun a' => wpList _ _ _ _ a' wr.drew) _ _
   refine wpStill_load_row rfl 114 (.tmp 3) rfl _ rfl 114 cs (0, 0) _ hr0 Tryz.underlying114 rfl (by rw [hcl]; exact h8) ?_
   simp only [Act.put, lA, lS, lZ]
   iterate 6 still_step
   refine wpStill_load_row rfl 97 (.tmp 5) rfl _ rfl 97 shpA64 (0, 0) _ hr1 Tryz.underlying97 rfl h14 ?_
   simp only [Act.put, lA, lS, lZ]
   refine wpStill_nil ?_
   have hTw : Below w.heap.size w wr.drew := hR.1.drew
   have hT := takeBlock64 (blks sh64 ks st bs (m / 128)) b (off + m) (cap - m) ((bs.drop m).take 128) ks wr.drew (blks_len _ _ _ _ hst _) (blks_lt sh64 _ _ _ hsl _) (by have := hlen.out; simp; omega) (sub_lt _ _ _ hb256) (by omega) (by unfold maxLen; omega)
    (sub_bytes (hc.below hTw hbB) m 128 (by have := hlen.out; omega)) hkl hkb (hK.below hTw h1B)
   rw [← HCS.out] at hT
   obtain ⟨nv, hnv⟩ : ∃ x, x = ints .u64 (blk sh64 ks (blks sh64 ks st bs (m / 128)) ((bs.drop m).take 128)) := ⟨_, rfl⟩
   rw [← hnv] at hT
   have hnl : nv.size = 8 := by rw [hnv, ints_size, blk_len _ _ _ _ (blks_len _ _ _ _ hst _)]
   have hn1 : nv.all (·.oneCell') = true := by rw [hnv]; exact ints_one _ _
   have HN : Hid (nv = ints .u64 (blks sh64 ks st bs ((m + 128) / 128))) := by
    show nv = _
    rw [hnv, show (m + 128) / 128 = m / 128 + 1 by omega]
    show ints .u64 (blk _ _ _ _) = ints .u64 (blk _ _ _ ((bs.drop (2 * 64 * (m / 128))).take (2 * 64)))
    rw [show 2 * 64 * (m / 128) = m by have := HM.out; omega]
   clear hnv
   go_wp2_with fail
   refine hT.mono ?_
   rintro e w2 ⟨rfl, hb2⟩
   have hR2 : RelC64 w cs w2 := RelC64.on (wr := wr.drew) ⟨hR.1.drew, hR.2.1, hR.2.2.1, hR.2.2.2⟩ hb2
   have hr2 := hR2.2.1
   clear hT hb2 hr0 hr1
   go_wp2_with (refine wpList_store_row rfl 114 (.tmp 3) (.tmp 28) rfl _ nv rfl rfl 114 _ hr2 (by rw [hnl]; exact h8) (by rw [hnl]; exact hcl) hn1 ?_)
   go_roundw
   case rel => exact ⟨m + 128, by omega, by have := HM.out; omega, by go_num, by rw [← HN.out]; exact hR2.setRow0 nv⟩
   case measure => simp [intOf]; omega
  ·obtain ⟨rv, hrv⟩ : ∃ x, x = ints .u64 (blks sh64 ks st bs (len / 128)) := ⟨_, rfl⟩
   rw [show m / 128 = len / 128 by have := HM.out; omega, ← hrv] at hR
   have hrl : rv.size = 8 := by rw [hrv, ints_size, blks_len _ _ _ _ hst]
   have hr1 : rv.all (·.oneCell') = true := by rw [hrv]; exact ints_one _ _
   have h5 := hR.2.1
   have h4 := hR.2.2.2
   have h8 : (Tryz.prog.info? 114).map (·.size) = some 8 := by kernel_rfl
   have hzl : z8_64.size = 8 := rfl
   go_wp2_with (first
    | (refine wpList_load_row rfl 114 (.tmp 3) rfl _ rfl 114 rv (0, 0) _ h5 Tryz.underlying114 rfl (by rw [hrl]; exact h8) ?_)
    | (refine wpList_store_row rfl 114 (.tmp 6) (.tmp 29) rfl _ rv rfl rfl 114 _ h4 (by rw [hrl]; exact h8) (by rw [hrl]; exact hzl) hr1 ?_))
   refine bodyPost_ret (v := .agg rv) ?_ rfl ⟨by rw [hrv], setRow_below hR.1 (by omega) _⟩
   exact results_cell_row Tryz.results101 _ _ _ 114 rv (0, 0) _ rfl (setRow_heap _ _ _ _ _ _ h4) Tryz.underlying114 rfl (by rw [hrl]; exact h8)
set_option maxRecDepth 100000 in
set_option maxHeartbeats 2000000 in
theorem takeBlocks64_none (st : List Nat) (a : Option Addr) (len cap : Nat) (w : World) (hst : st.length = 8) (h64 : len < 128) :
  Calls Tryz.prog 101 #[.agg (ints .u64 st), .slice a len cap, .agg shpA64] w fun e w' => e = .returned (.agg (ints .u64 st)) ∧ Below w.heap.size w w' := by
 obtain ⟨rv, hrv⟩ : ∃ x, x = ints .u64 st := ⟨_, rfl⟩
 rw [← hrv]
 have hrl : rv.size = 8 := by rw [hrv, ints_size, hst]
 have hr1 : rv.all (·.oneCell') = true := by rw [hrv]; exact ints_one _ _
 clear hrv
 have h8 : (Tryz.prog.info? 114).map (·.size) = some 8 := by kernel_rfl
 have hzl : z8_64.size = 8 := rfl
 have hBB := blockBytes64 (((w.alloc (.cells rv 114)).alloc (.cells shpA64 97)).alloc (.cells z8_64 114))
 unfold shpA64 at hBB ⊢
 go_enter Tryz.func101, Tryz.ntmps101
 go_wp2_with fail
 refine hBB.mono ?_
 rintro e w1 ⟨rfl, hb1⟩
 have hR := (RelC64.start w rv).on hb1
 clear hBB hb1
 have h5 := hR.2.1
 have h4 := hR.2.2.2
 go_wp2_with fail
 refine wp_loop_rounds 1 ?_
 rw [rounds_succ]
 go_wp2_with (first
  | (refine wpList_load_row rfl 114 (.tmp 3) rfl _ rfl 114 rv (0, 0) _ h5 Tryz.underlying114 rfl (by rw [hrl]; exact h8) ?_)
  | (refine wpList_store_row rfl 114 (.tmp 6) (.tmp 29) rfl _ rv rfl rfl 114 _ h4 (by rw [hrl]; exact h8) (by rw [hrl]; exact hzl) hr1 ?_))
 refine bodyPost_ret (v := .agg rv) ?_ rfl ⟨rfl, setRow_below hR.1 (by omega) _⟩
 exact results_cell_row Tryz.results101 _ _ _ 114 rv (0, 0) _ rfl (setRow_heap _ _ _ _ _ _ h4) Tryz.underlying114 rfl (by rw [hrl]; exact h8)
end Go.Proofs.YtabgihjffjlfiaaGreatDoor
set_option linter.unusedVariables false
namespace Go.Proofs.YtabgihjffjlfiaaGreatDoor
open Go.RowKit Go.Sort Go.BigFrame
def z256 : List Nat := List.replicate 256 0
set_option maxRecDepth 100000
set_option maxHeartbeats 2000000
theorem lastBlocks64_128 (a : Option Addr) (rc : Nat) (rest : List Nat) (L : Nat) (w : World) (rl : Nat) (hrl0 : rest.length = rl) (hrl : rl < 128) (hsz : rl + 17 ≤ 128) (hb256 : ∀ j, rest.getD j 0 < 256) (hv : View w a rest) (hL : L ≤ 100000000000000) :
  Calls Tryz.prog 102 #[.slice a rl rc, .int .i64 (L : Int), .agg shpA64] w fun e w' => ∃ g, e = .returned (.slice (some ⟨g, 0, none⟩) 128 128) ∧ Below w.heap.size w w' ∧ w'.heap[g]? = some (.cells (ints .u8 (lastB sh64 rest L)) 5 (0, 0)) := by
 have hlen : Hid (rest.length = rl) := hrl0
 clear hrl0
 have HL : Hid (lastB sh64 rest L = tailN 128 (L * 8) (padB 128 rest) 8) := by
  show lastB sh64 rest L = _
  unfold lastB
  simp only [sh64, hlen.out]
  rw [if_neg (by omega)]
 have hmk : ∀ w, (Instr.makeSlice 22 (.int .i64 128) (.int .i64 128)).run Tryz.prog w = .ok (.slice (some ⟨w.heap.size, 0, none⟩) 128 128) (w.alloc (.cells (ints .u8 z128) 5)) := fun _ => by kernel_rfl
 have hBB := blockBytes64 (w.alloc (.cells shpA64 97))
 have h1 : (Tryz.prog.info? 5).map (·.size) = some 1 := by kernel_rfl
 unfold shpA64 at hBB ⊢
 go_enter Tryz.func102, Tryz.ntmps102
 go_wp2_with fail
 refine hBB.mono ?_
 rintro e w1 ⟨rfl, hb1⟩
 have hr1 : w1.heap[w.heap.size]? = some (.cells shpA64 97 (0, 0)) := block_below hb1 (by simp) (heap_alloc_new _ _)
 have hB1 : Below w.heap.size w w1 := (below1 w _).trans (hb1.mono (by simp))
 have c0 := shp_at64 hr1 0 (.int .u64 64) rfl
 clear hBB hb1
 have hBg : w.heap.size ≤ w1.heap.size := hB1.size
 have hgn : (w1.alloc (.cells (ints .u8 z128) 5)).heap[w1.heap.size]? = some (.cells (ints .u8 z128).toList.toArray 5 (0, 0)) := heap_alloc_new _ _
 have hB2 : Below w.heap.size w (w1.alloc (.cells (ints .u8 z128) 5)) := hB1.alloc hB1.size _
 have hz : (ints .u8 z128).toList.length = 128 := by simp [ints, z128]
 have hcl : (ints .u8 rest).toList.length = Nat.min rl 128 := by rw [ints_list, List.length_map, hlen.out]; show rl = min rl 128; omega
 have h1c : ∀ v ∈ (ints .u8 rest).toList, v.oneCell' = true := fun v hv => by rw [ints_list] at hv; obtain ⟨x, _, rfl⟩ := List.mem_map.1 hv; rfl
 have hfit : 0 + (ints .u8 rest).toList.length ≤ (ints .u8 z128).toList.length := by rw [hcl, hz]; show 0 + min rl 128 ≤ 128; omega
 have hpos : HCopyFrom (w1.alloc (.cells (ints .u8 z128) 5)) a rest := by
  intro h0
  obtain ⟨b, off, ha, hc⟩ := hv (by simpa [ints] using h0)
  refine ⟨_, ha, fun j v hj => ?_⟩
  have hb0 : b < w.heap.size := block_lt_of_cell (hc 0 (by simpa [ints] using h0))
  have hj' : j < rest.length := by
   by_cases h : j < rest.length
   ·exact h
   ·rw [ints_list, List.getElem?_eq_none (by simp; omega)] at hj; cases hj
  rw [Addr.add_mid, (hc.below hB2 hb0) j hj']
  rw [← hj, ints_list]
  simp [hj']
 go_wp2_with (refine wpList_copy_splice rfl (.tmp 27) (.tmp 28) 22 22 rfl 5 Tryz.underlying22 h1 _ _ _ _ _ _ rfl rfl w1.heap.size 0 (ints .u8 z128).toList 5 hgn (ints .u8 rest).toList hcl (fun h => ⟨rfl, hpos h⟩) hfit h1c w.heap.size w hB2 hBg ?_; intro w2 hw2 hB3; obtain ⟨v2, c2, f2⟩ := after_copy z128 128 rfl rest rl hlen (by omega) hw2)
 have hr2 := after_row z128 128 rfl rest rl hlen (by omega) hw2
 go_loopw [37] (fun i wr => ∃ k : Nat, k ≤ 8 ∧ i = .int .i64 (k : Int) ∧ Below w.heap.size w wr ∧ wr.heap[w1.heap.size]? = some (.cells (ints .u8 (tailN 128 (L * 8) (padB 128 rest) k)) 5 (0, 0))) (fun i _ => 8 - (intOf i).toNat)
 case atStart => exact ⟨0, by omega, rfl, hB3.setCell hBg _, hr2⟩
 case round =>
  obtain ⟨k, hk, rfl, hBr, hrr⟩ := hrel
  by_cases hlt : k < 8
  ·obtain ⟨v3, c3⟩ : ∃ v, wr.cell? ⟨w1.heap.size, 128 - 1 - k, none⟩ = some v := ⟨_, cell_ints hrr (128 - 1 - k) (by rw [tailN_len, padB_len _ _ (by rw [hlen.out]; omega)]; omega)⟩
   have f3 := free_ints hrr (128 - 1 - k)
   have HN : Hid (Below w.heap.size w (wr.setCell ⟨w1.heap.size, 128 - 1 - k, none⟩ (.int .u8 ((((L * 8) >>> (8 * k)) % 256 : Nat) : Int))) ∧ (wr.setCell ⟨w1.heap.size, 128 - 1 - k, none⟩ (.int .u8 ((((L * 8) >>> (8 * k)) % 256 : Nat) : Int))).heap[w1.heap.size]? = some (.cells (ints .u8 (tailN 128 (L * 8) (padB 128 rest) (k + 1))) 5 (0, 0))) :=
    ⟨hBr.setCell hBg _, set_ints hrr _ _⟩
   clear hBr hrr c2 f2 hr2
   go_wp2
   go_roundw
   case rel => exact ⟨k + 1, by omega, by go_num, by rw [shr8]; exact HN.out.1, by rw [shr8]; exact HN.out.2⟩
   case measure => simp [intOf]; omega
  ·obtain rfl : k = 8 := by omega
   clear c2 f2 hr2
   go_wp2
   go_ret
   exact ⟨w1.heap.size, rfl, hBr, by rw [HL.out]; exact hrr⟩
theorem lastBlocks64_256 (a : Option Addr) (rc : Nat) (rest : List Nat) (L : Nat) (w : World) (rl : Nat) (hrl0 : rest.length = rl) (hrl : rl < 128) (hsz : 128 < rl + 17) (hb256 : ∀ j, rest.getD j 0 < 256) (hv : View w a rest) (hL : L ≤ 100000000000000) :
  Calls Tryz.prog 102 #[.slice a rl rc, .int .i64 (L : Int), .agg shpA64] w fun e w' => ∃ g, e = .returned (.slice (some ⟨g, 0, none⟩) 256 256) ∧ Below w.heap.size w w' ∧ w'.heap[g]? = some (.cells (ints .u8 (lastB sh64 rest L)) 5 (0, 0)) := by
 have hlen : Hid (rest.length = rl) := hrl0
 clear hrl0
 have HL : Hid (lastB sh64 rest L = tailN 256 (L * 8) (padB 256 rest) 8) := by
  show lastB sh64 rest L = _
  unfold lastB
  simp only [sh64, hlen.out]
  rw [if_pos (by omega)]
 have hmk : ∀ w, (Instr.makeSlice 22 (.int .i64 256) (.int .i64 256)).run Tryz.prog w = .ok (.slice (some ⟨w.heap.size, 0, none⟩) 256 256) (w.alloc (.cells (ints .u8 z256) 5)) := fun _ => by kernel_rfl
 have hBB := blockBytes64 (w.alloc (.cells shpA64 97))
 have h1 : (Tryz.prog.info? 5).map (·.size) = some 1 := by kernel_rfl
 unfold shpA64 at hBB ⊢
 go_enter Tryz.func102, Tryz.ntmps102
 go_wp2_with fail
 refine hBB.mono ?_
 rintro e w1 ⟨rfl, hb1⟩
 have hr1 : w1.heap[w.heap.size]? = some (.cells shpA64 97 (0, 0)) := block_below hb1 (by simp) (heap_alloc_new _ _)
 have hB1 : Below w.heap.size w w1 := (below1 w _).trans (hb1.mono (by simp))
 have c0 := shp_at64 hr1 0 (.int .u64 64) rfl
 clear hBB hb1
 have hBg : w.heap.size ≤ w1.heap.size := hB1.size
 have hgn : (w1.alloc (.cells (ints .u8 z256) 5)).heap[w1.heap.size]? = some (.cells (ints .u8 z256).toList.toArray 5 (0, 0)) := heap_alloc_new _ _
 have hB2 : Below w.heap.size w (w1.alloc (.cells (ints .u8 z256) 5)) := hB1.alloc hB1.size _
 have hz : (ints .u8 z256).toList.length = 256 := by simp [ints, z256]
 have hcl : (ints .u8 rest).toList.length = Nat.min rl 256 := by rw [ints_list, List.length_map, hlen.out]; show rl = min rl 256; omega
 have h1c : ∀ v ∈ (ints .u8 rest).toList, v.oneCell' = true := fun v hv => by rw [ints_list] at hv; obtain ⟨x, _, rfl⟩ := List.mem_map.1 hv; rfl
 have hfit : 0 + (ints .u8 rest).toList.length ≤ (ints .u8 z256).toList.length := by rw [hcl, hz]; show 0 + min rl 256 ≤ 256; omega
 have hpos : HCopyFrom (w1.alloc (.cells (ints .u8 z256) 5)) a rest := by
  intro h0
  obtain ⟨b, off, ha, hc⟩ := hv (by simpa [ints] using h0)
  refine ⟨_, ha, fun j v hj => ?_⟩
  have hb0 : b < w.heap.size := block_lt_of_cell (hc 0 (by simpa [ints] using h0))
  have hj' : j < rest.length := by
   by_cases h : j < rest.length
   ·exact h
   ·rw [ints_list, List.getElem?_eq_none (by simp; omega)] at hj; cases hj
  rw [Addr.add_mid, (hc.below hB2 hb0) j hj']
  rw [← hj, ints_list]
  simp [hj']
 go_wp2_with (refine wpList_copy_splice rfl (.tmp 27) (.tmp 28) 22 22 rfl 5 Tryz.underlying22 h1 _ _ _ _ _ _ rfl rfl w1.heap.size 0 (ints .u8 z256).toList 5 hgn (ints .u8 rest).toList hcl (fun h => ⟨rfl, hpos h⟩) hfit h1c w.heap.size w hB2 hBg ?_; intro w2 hw2 hB3; obtain ⟨v2, c2, f2⟩ := after_copy z256 256 rfl rest rl hlen (by omega) hw2)
 have hr2 := after_row z256 256 rfl rest rl hlen (by omega) hw2
 go_loopw [37] (fun i wr => ∃ k : Nat, k ≤ 8 ∧ i = .int .i64 (k : Int) ∧ Below w.heap.size w wr ∧ wr.heap[w1.heap.size]? = some (.cells (ints .u8 (tailN 256 (L * 8) (padB 256 rest) k)) 5 (0, 0))) (fun i _ => 8 - (intOf i).toNat)
 case atStart => exact ⟨0, by omega, rfl, hB3.setCell hBg _, hr2⟩
 case round =>
  obtain ⟨k, hk, rfl, hBr, hrr⟩ := hrel
  by_cases hlt : k < 8
  ·obtain ⟨v3, c3⟩ : ∃ v, wr.cell? ⟨w1.heap.size, 256 - 1 - k, none⟩ = some v := ⟨_, cell_ints hrr (256 - 1 - k) (by rw [tailN_len, padB_len _ _ (by rw [hlen.out]; omega)]; omega)⟩
   have f3 := free_ints hrr (256 - 1 - k)
   have HN : Hid (Below w.heap.size w (wr.setCell ⟨w1.heap.size, 256 - 1 - k, none⟩ (.int .u8 ((((L * 8) >>> (8 * k)) % 256 : Nat) : Int))) ∧ (wr.setCell ⟨w1.heap.size, 256 - 1 - k, none⟩ (.int .u8 ((((L * 8) >>> (8 * k)) % 256 : Nat) : Int))).heap[w1.heap.size]? = some (.cells (ints .u8 (tailN 256 (L * 8) (padB 256 rest) (k + 1))) 5 (0, 0))) :=
    ⟨hBr.setCell hBg _, set_ints hrr _ _⟩
   clear hBr hrr c2 f2 hr2
   go_wp2
   go_roundw
   case rel => exact ⟨k + 1, by omega, by go_num, by rw [shr8]; exact HN.out.1, by rw [shr8]; exact HN.out.2⟩
   case measure => simp [intOf]; omega
  ·obtain rfl : k = 8 := by omega
   clear c2 f2 hr2
   go_wp2
   go_ret
   exact ⟨w1.heap.size, rfl, hBr, by rw [HL.out]; exact hrr⟩
end Go.Proofs.YtabgihjffjlfiaaGreatDoor
set_option linter.unusedVariables false
namespace Go.Proofs.YtabgihjffjlfiaaGreatDoor
open Go.RowKit Go.Sort Go.BigFrame
set_option maxRecDepth 100000
set_option maxHeartbeats 2000000
def z64b : List Nat := List.replicate 64 0
def RelS64 (w : World) (wr : World) (n : Nat) (xs : List Nat) : Prop :=
 Below w.heap.size w wr ∧ wr.heap[w.heap.size + 1]? = some (.cells shpA64 97 (0, 0)) ∧ wr.ownsRow (w.heap.size + 1 + 1) 5 1 (.slice (some ⟨w.heap.size + 1 + 1, 0, none⟩) n 64) n (Hbv xs)
theorem index_st64 (st : List Nat) (hst : st.length = 8) (k : Nat) (hk : k < 8) (w : World) : (Instr.index 114 (.agg (ints .u64 st)) (.int .i64 (k : Int))).run Tryz.prog w = .ok (.int .u64 ((st.getD k 0 : Nat) : Int)) w := by
 match st, hst with
 | [a, b, c, d, e, f, g, h], _ => exact index8_64 a b c d e f g h k hk w
theorem stateBytes64 (st : List Nat) (w : World) (hst : st.length = 8) :
  Calls Tryz.prog 103 #[.agg (ints .u64 st), .agg shpA64] w fun e w' => ∃ g, e = .returned (.slice (some ⟨g, 0, none⟩) 64 64) ∧ Below w.heap.size w w' ∧ w'.ownsRow (w.heap.size + 1 + 1) 5 1 (.slice (some ⟨g, 0, none⟩) 64 64) 64 (Hbv (stB 64 st 8)) := by
 obtain ⟨sv, hsv⟩ : ∃ x, x = ints .u64 st := ⟨_, rfl⟩
 rw [← hsv]
 have HSV : Hid (sv = ints .u64 st) := hsv
 have hsz : sv.size = 8 := by rw [hsv, ints_size, hst]
 clear hsv
 have hmk : ∀ w, (Instr.makeSlice 22 (.int .i64 0) (.int .u64 64)).run Tryz.prog w = .ok (.slice (some ⟨w.heap.size, 0, none⟩) 0 64) (w.alloc (.cells (ints .u8 z64b) 5)) := fun _ => by kernel_rfl
 have h8 : (Tryz.prog.info? 114).map (·.size) = some 8 := by kernel_rfl
 have h5i : (Tryz.prog.info? 5).map (fun i => (i.zero, i.size, i.bytes)) = some (some (.int .u8 0), 1, 1) := by kernel_rfl
 obtain ⟨i0, hi, hz0, hz1, hz2⟩ := info_parts h5i
 have h5 := heap3_0 w (.cells sv 114) (.cells shpA64 97) (.cells (ints .u8 z64b) 5)
 have hR0 : RelS64 w (((w.alloc (.cells sv 114)).alloc (.cells shpA64 97)).alloc (.cells (ints .u8 z64b) 5)) 0 (stB 64 st 0) :=
  ⟨below3 _ _ _ _, heap3_1 _ _ _ _, rfl, .inr ⟨_, 64, ints .u8 z64b, rfl, Nat.le_refl _, heap3_2 _ _ _ _, by omega, by unfold maxLen; omega, by rw [ints_size]; rfl, rfl⟩⟩
 unfold shpA64
 go_enter Tryz.func103, Tryz.ntmps103
 go_wp2_with (refine wpList_load_row rfl 114 (.tmp 2) rfl _ rfl 114 sv (0, 0) _ h5 Tryz.underlying114 rfl (by rw [hsz]; exact h8) ?_)
 try simp only [Act.put, lA, lS, lZ]
 go_loopw [13, 5] (fun i v5 wr => ∃ k : Nat, k ≤ 8 ∧ i = .int .i64 (k : Int) ∧ ∃ n : Nat, n = 8 * k ∧ v5 = .slice (some ⟨w.heap.size + 1 + 1, 0, none⟩) n 64 ∧ RelS64 w wr n (stB 64 st k)) (fun i _ _ => 8 - (intOf i).toNat)
 case atStart => exact ⟨0, by omega, rfl, 0, rfl, rfl, hR0⟩
 case round =>
  obtain ⟨k, hk, rfl, n, hn, rfl, hR⟩ := hrel
  clear h5 hR0
  by_cases hlt : k < 8
  ·obtain ⟨x, hx⟩ : ∃ x, x = st.getD k 0 := ⟨_, rfl⟩
   have hix : ∀ w', (Instr.index 114 (.agg sv) (.int .i64 (k : Int))).run Tryz.prog w' = .ok (.int .u64 (x : Int)) w' := by
    rw [hx, HSV.out]; exact index_st64 st hst k hlt
   have HX : Hid (x = st.getD k 0) := hx
   have HN : Hid (n = 8 * k) := hn
   clear hx hn
   have c0 := shp_at64 hR.2.1 0 (.int .u64 64) rfl
   go_wp2_with fail
   have hdk : decide ((k : Int) < 8) = true := decide_eq_true (by omega)
   simp only [hdk]
   clear c0 hix hdk
   go_loopw [8, 5] (fun lv v5 wr => ∃ j : Nat, j ≤ 8 ∧ ∃ l : Nat, l + 8 * j = 64 ∧ lv = .int .u64 (l : Int) ∧ ∃ m : Nat, m = n + j ∧ v5 = .slice (some ⟨w.heap.size + 1 + 1, 0, none⟩) m 64 ∧ RelS64 w wr m (stB 64 st k ++ wb 64 x j)) (fun lv _ _ => (intOf lv).toNat)
   case atStart => exact ⟨0, by omega, 64, rfl, rfl, n, rfl, rfl, by rw [show wb 64 x 0 = [] from rfl, List.append_nil]; exact hR⟩
   case round =>
    obtain ⟨j, hj, l, hl, rfl, m, hm, rfl, hR⟩ := hrel
    have HM : Hid (m = n + j) := hm
    have HLj : Hid (l + 8 * j = 64) := hl
    have hl32 : l ≤ 64 := by omega
    have hm31 : m ≤ 64 := by have := HN.out; omega
    clear hm
    by_cases hlt2 : 8 ≤ l
    ·clear hl
     have hb1 : m + 1 ≤ 64 := by have h1 := HM.out; have h2 := HN.out; have h3 := HLj.out; omega
     have hnv : (((x >>> (l - 8)) % 256 : Nat) : Int) = (x : Int) / 2 ^ (l - 8) % (256 : Int) := by rw [Nat.shiftRight_eq_div_pow]; simp
     have HNV : Hid ((((x >>> (l - 8)) % 256 : Nat) : Int) = (x : Int) / 2 ^ (l - 8) % (256 : Int)) := hnv
     clear hnv
     have hown := hR.2.2.alloc (.cells #[.int .u8 ((x : Int) / 2 ^ (l - 8) % (256 : Int))] 5)
     go_wp2_with (at_builtin; refine wpList_append_fits _ rfl (.tmp 22) (.tmp 28) 22 rfl (w.heap.size + 1 + 1) 5 i0 1 Tryz.underlying22 hi hz1 (w.heap.size + 1 + 1) m 64 (Hbv (stB 64 st k ++ wb 64 x j)) rfl hown ⟨wr.heap.size, 0, none⟩ 1 1 [.int .u8 ((x : Int) / 2 ^ (l - 8) % (256 : Int))] rfl rfl (Hnews_one _ _ _) Hone_byte hb1 ?_; intro w2 hown2 hgrow)
     have e : Hbv (stB 64 st k ++ wb 64 x j) ++ [.int .u8 ((x : Int) / 2 ^ (l - 8) % (256 : Int))] = Hbv (stB 64 st k ++ wb 64 x (j + 1)) := by
      rw [← HNV.out, show wb 64 x (j + 1) = wb 64 x j ++ [(x >>> (64 - 8 * j - 8)) % 256] from rfl, show 64 - 8 * j - 8 = l - 8 by have := HLj.out; omega]
      simp [Hbv]
     have hRn : RelS64 w w2 (m + 1) (stB 64 st k ++ wb 64 x (j + 1)) :=
      ⟨(hR.1.alloc hR.1.size _).grown hgrow (Nat.le_trans hR.1.size (by simp)) (by intro k hk; cases hk; omega),
       (hgrow.block _ (by have := lt_of_heap hR.2.1; simp; omega) (by simp)).trans ((heap_alloc_old _ _ (lt_of_heap hR.2.1)).trans hR.2.1), by rw [← e]; exact hown2⟩
     have hj1 : j + 1 ≤ 8 := by have := HLj.out; omega
     have hl1 : l - 8 + 8 * (j + 1) = 64 := by have := HLj.out; omega
     have hm1 : m + 1 = n + (j + 1) := by have := HM.out; omega
     have hv1 : Value.int .u64 ((l : Int) - 8) = .int .u64 ((l - 8 : Nat) : Int) := by go_num
     go_roundw
     case rel => first | exact ⟨j + 1, hj1, l - 8, hl1, hv1, m + 1, hm1, rfl, hRn⟩ | ((repeat apply Exists.intro); exact ⟨⟨j + 1, hj1, l - 8, hl1, hv1, m + 1, hm1, rfl, hRn⟩, rfl⟩)
     case measure => simp [intOf]; omega
    ·obtain rfl : l = 0 := by omega
     go_wp2_with fail
     go_roundw
     case rel =>
      refine ⟨k + 1, by omega, by go_num, m, by have h1 := HM.out; have h2 := HN.out; omega, rfl, ?_⟩
      have e : stB 64 st (k + 1) = stB 64 st k ++ wb 64 x j := by
       rw [HX.out, show j = 8 by omega]; rfl
      rw [e]; exact hR
     case measure => simp [intOf]; omega
  ·obtain rfl : k = 8 := by omega
   obtain rfl : n = 64 := by omega
   go_wp2_with fail
   go_ret
   exact ⟨_, rfl, hR.1, hR.2.2⟩
end Go.Proofs.YtabgihjffjlfiaaGreatDoor
set_option linter.unusedVariables false
namespace Go.Proofs.YtabgihjffjlfiaaGreatDoor
open Go.RowKit Go.Sort Go.BigFrame
set_option maxRecDepth 100000
set_option maxHeartbeats 800000
def RelD64 (w : World) (l : List Nat) (wr : World) : Prop :=
 Below w.heap.size w wr ∧ wr.heap[w.heap.size]? = some (.cells shpA64 97 (0, 0)) ∧ wr.heap[w.heap.size + 1]? = some (.cells (ints .u64 l) 114 (0, 0))
theorem RelD64.start (w : World) : RelD64 w (List.replicate 8 0) ((w.alloc (.cells shpA64 97)).alloc (.cells z8_64 114)) :=
 ⟨below2 _ _ _, heap_alloc2_old _ _ _, heap_alloc2_new _ _ _⟩
theorem RelD64.on {w wr w1 : World} {l : List Nat} (h : RelD64 w l wr) (hb : Below wr.heap.size wr w1) : RelD64 w l w1 :=
 ⟨h.1.trans (hb.mono h.1.size), block_below hb (lt_of_heap h.2.1) h.2.1, block_below hb (lt_of_heap h.2.2) h.2.2⟩
theorem RelD64.store {w wr : World} {l : List Nat} (h : RelD64 w l wr) (j v : Nat) : RelD64 w (l.set j v) (wr.setCell ⟨w.heap.size + 1, j, none⟩ (.int .u64 (v : Int))) :=
 ⟨h.1.setCell (by simp) _, by rw [heap_setCell_other _ _ _ _ (by simp)]; exact h.2.1, set_ints h.2.2 j v⟩
theorem RelD64.setRow {w wr : World} {l : List Nat} (h : RelD64 w l wr) (l' : List Nat) : RelD64 w l' (wr.setRow (w.heap.size + 1) (ints .u64 l')) :=
 ⟨setRow_below h.1 (by omega) _, (setRow_other _ _ _ _ (by omega)).trans h.2.1, setRow_heap _ _ _ _ _ _ h.2.2⟩
theorem initN_lt64 (hs : List Nat) (h : ∀ j, hs.getD j 0 < 18446744073709551616) : ∀ k j, (initN 64 hs k).getD j 0 < 18446744073709551616
 | 0, j => by simp only [initN, List.getD_eq_getElem?_getD, List.getElem?_replicate]; split <;> simp
 | k + 1, j => getD_set_lt (initN_lt64 hs h k) (by rw [Nat.shiftRight_eq_div_pow]; have := h k; omega) j
theorem takeBlocks64 (st : List Nat) (a : Option Addr) (len cap : Nat) (bs ks : List Nat) (w : World) (hst : st.length = 8) (hsl : ∀ j, st.getD j 0 < 18446744073709551616) (hlen0 : bs.length = len) (hb256 : ∀ j, bs.getD j 0 < 256) (hcap : len ≤ cap) (hcap2 : cap ≤ 9223372036854775807) (hlen9 : len ≤ 100000000000000)
  (hv : View w a bs) (hkl : ks.length = 80) (hkb : ∀ j, ks.getD j 0 < 18446744073709551616) (hK : TabAt w 7 ks) :
  Calls Tryz.prog 101 #[.agg (ints .u64 st), .slice a len cap, .agg shpA64] w fun e w' => e = .returned (.agg (ints .u64 (blks sh64 ks st bs (len / 128)))) ∧ Below w.heap.size w w' := by
 by_cases h : 128 ≤ len
 ·obtain ⟨b, off, rfl, hb⟩ := hv (by omega)
  exact takeBlocks64_more st b off len cap bs ks w hst hsl hlen0 h hb256 hcap hcap2 hlen9 hb hkl hkb hK
 ·rw [show len / 128 = 0 by omega]
  exact takeBlocks64_none st a len cap w hst (by omega)
theorem lastBlocks64 (a : Option Addr) (rc : Nat) (rest : List Nat) (L : Nat) (w : World) (rl : Nat) (hrl0 : rest.length = rl) (hrl : rl < 128) (hb256 : ∀ j, rest.getD j 0 < 256) (hv : View w a rest) (hL : L ≤ 100000000000000) :
  Calls Tryz.prog 102 #[.slice a rl rc, .int .i64 (L : Int), .agg shpA64] w fun e w' => ∃ v, e = .returned v ∧ ∃ g n, v = .slice (some ⟨g, 0, none⟩) n n ∧ n = (lastB sh64 rest L).length ∧ Below w.heap.size w w' ∧ w'.heap[g]? = some (.cells (ints .u8 (lastB sh64 rest L)) 5 (0, 0)) := by
 by_cases h : rl + 17 ≤ 128
 ·refine (lastBlocks64_128 a rc rest L w rl hrl0 hrl h hb256 hv hL).mono ?_
  rintro e w' ⟨g, rfl, hb, hg⟩
  refine ⟨_, rfl, g, 128, rfl, ?_, hb, hg⟩
  rw [lastB_len _ _ _ (by rw [hrl0]; show rl ≤ 128; omega), if_neg (by rw [hrl0]; show ¬ 128 < rl + 1 + 16; omega)]; rfl
 ·refine (lastBlocks64_256 a rc rest L w rl hrl0 hrl (by omega) hb256 hv hL).mono ?_
  rintro e w' ⟨g, rfl, hb, hg⟩
  refine ⟨_, rfl, g, 256, rfl, ?_, hb, hg⟩
  rw [lastB_len _ _ _ (by rw [hrl0]; show rl ≤ 128; omega), if_pos (by rw [hrl0]; show 128 < rl + 1 + 16; omega)]; rfl
theorem digest64 (a : Option Addr) (len cap : Nat) (bs hs ks : List Nat) (w : World) (hlen0 : bs.length = len) (hb256 : ∀ j, bs.getD j 0 < 256) (hcap : len ≤ cap) (hcap2 : cap ≤ 9223372036854775807) (hlen2 : len ≤ 100000000000000)
  (hv : View w a bs) (hhl : hs.length = 8) (hhb : ∀ j, hs.getD j 0 < 18446744073709551616) (hH : TabAt w 3 hs) (hkl : ks.length = 80) (hkb : ∀ j, ks.getD j 0 < 18446744073709551616) (hK : TabAt w 7 ks) :
  Calls Tryz.prog 79 #[.slice a len cap, .agg shpA64] w fun e w' => ∃ g B, e = .returned (.slice (some ⟨g, 0, none⟩) 64 64) ∧ Below w.heap.size w w' ∧ w.heap.size ≤ B ∧ w'.ownsRow B 5 1 (.slice (some ⟨g, 0, none⟩) 64 64) 64 (Hbv (dig sh64 hs ks bs)) := by
 have hlen : Hid (bs.length = len) := hlen0
 clear hlen0
 have h0B : 3 < w.heap.size := block_lt_of_cell (hH 0 (by omega))
 have h1B : 7 < w.heap.size := block_lt_of_cell (hK 0 (by omega))
 unfold shpA64
 go_enter Tryz.func79, Tryz.ntmps79
 go_wp2_with fail
 go_loopw [8] (fun i wr => ∃ k : Nat, k ≤ 8 ∧ i = .int .i64 (k : Int) ∧ RelD64 w (initN 64 hs k) wr) (fun i _ => 8 - (intOf i).toNat)
 case atStart => exact ⟨0, by omega, rfl, RelD64.start w⟩
 case round =>
  obtain ⟨k, hk, rfl, hR⟩ := hrel
  by_cases hlt : k < 8
  ·obtain ⟨kt, hkt⟩ : ∃ x, x = hs.getD k 0 := ⟨_, rfl⟩
   have bk : kt < 18446744073709551616 := by rw [hkt]; exact hhb _
   have cK : wr.cell? ⟨3, k, none⟩ = some (.int .u64 (kt : Int)) := by rw [hkt]; exact hH.below hR.1 h0B k (by omega)
   have c0 := shp_at64 hR.2.1 0 (.int .u64 64) rfl
   obtain ⟨v0, cS⟩ : ∃ v, wr.cell? ⟨w.heap.size + 1, k, none⟩ = some v := ⟨_, cell_ints hR.2.2 k (by rw [initN_len]; omega)⟩
   have fS := free_ints hR.2.2 k
   have HN : Hid (RelD64 w (initN 64 hs (k + 1)) (wr.setCell ⟨w.heap.size + 1, k, none⟩ (.int .u64 ((kt >>> (64 - 64) : Nat) : Int)))) := by rw [hkt]; exact hR.store k _
   clear hkt hR
   go_wp2_with fail
   go_region
   all_goals
    go_wp2_with fail
    go_roundw
    case rel => exact ⟨k + 1, by omega, by go_num, by exact ⟨HN.out.1.drew, HN.out.2.1, HN.out.2.2⟩⟩
    case measure => simp [intOf]; omega
  ·obtain rfl : k = 8 := by omega
   have h14 : (Tryz.prog.info? 97).map (·.size) = some shpA64.size := by kernel_rfl
   have h8 : (Tryz.prog.info? 114).map (·.size) = some 8 := by kernel_rfl
   have h0 := hR.2.1
   go_wp2_with (refine wpList_load_row rfl 97 (.tmp 3) rfl _ rfl 97 shpA64 (0, 0) _ h0 Tryz.underlying97 rfl h14 ?_)
   refine (blockBytes64 _).mono ?_
   rintro e w1 ⟨rfl, hb1⟩
   have hR1 := hR.on hb1
   clear hR hb1 h0
   obtain ⟨wh, hwh⟩ : ∃ x, x = len - len % 128 := ⟨_, rfl⟩
   have hwI : (len : Int) - (len : Int) % 128 = (wh : Int) := by omega
   have HWH : Hid (wh = len - len % 128) := hwh
   have hwl : wh ≤ len := by omega
   clear hwh
   go_wp2_with fail
   obtain ⟨st0, hst0⟩ : ∃ x, x = initN 64 hs 8 := ⟨_, rfl⟩
   rw [← hst0] at hR1
   have hl0 : st0.length = 8 := by rw [hst0]; exact initN_len _ _ _
   have hs0 : ∀ j, st0.getD j 0 < 18446744073709551616 := by rw [hst0]; exact initN_lt64 hs hhb 8
   have hv1 : View w1 (cutA a 0 cap) (bs.take wh) := by
    have := (hv.below hR1.1).cut 0 wh cap (by rw [hlen.out]; omega) (by rw [hlen.out]; omega)
    rwa [List.drop_zero] at this
   have hT := takeBlocks64 st0 (cutA a 0 cap) wh cap (bs.take wh) ks w1.drew hl0 hs0 (by have := hlen.out; simp; omega) (take_lt _ _ hb256) (by omega) hcap2 (by omega) (hv1.below (Below.refl _ _).drew) hkl hkb (hK.below hR1.1.drew h1B)
   obtain ⟨st1, hst1⟩ : ∃ x, x = blks sh64 ks st0 (bs.take wh) (wh / 128) := ⟨_, rfl⟩
   have hl1 : st1.length = 8 := by rw [hst1]; exact blks_len _ _ _ _ hl0 _
   have hs1 : ∀ j, st1.getD j 0 < 18446744073709551616 := by rw [hst1]; exact blks_lt sh64 _ _ _ hs0 _
   rw [← hst1] at hT
   have HST1 : Hid (st1 = blks sh64 ks st0 (bs.take wh) (wh / 128)) := hst1
   have HST0 : Hid (st0 = initN 64 hs 8) := hst0
   obtain ⟨v0, hv0⟩ : ∃ x, x = ints .u64 st0 := ⟨_, rfl⟩
   obtain ⟨v1, hvv1⟩ : ∃ x, x = ints .u64 st1 := ⟨_, rfl⟩
   have z0 : v0.size = 8 := by rw [hv0, ints_size, hl0]
   have z1 : v1.size = 8 := by rw [hvv1, ints_size, hl1]
   have o1 : v1.all (·.oneCell') = true := by rw [hvv1]; exact ints_one _ _
   have hr0 : w1.drew.heap[w.heap.size + 1]? = some (.cells v0 114 (0, 0)) := by rw [hv0]; exact hR1.2.2
   have hr1 : w1.drew.heap[w.heap.size]? = some (.cells shpA64 97 (0, 0)) := hR1.2.1
   rw [← hv0, ← hvv1] at hT
   have HV0 : Hid (v0 = ints .u64 st0) := hv0
   have HV1 : Hid (v1 = ints .u64 st1) := hvv1
   clear hst1 hst0 hv0 hvv1
   refine wp_region_still_tail 5 (by kernel_rfl) (by kernel_rfl) ?_
   simp only [List.take_succ_cons, List.take_zero, List.drop_succ_cons, List.drop_zero]
   show wpStill _ _ w1.drew (fun a' => wpList _ _ _ _ a' w1.drew) _ _
   refine wpStill_load_row rfl 114 (.tmp 5) rfl _ rfl 114 v0 (0, 0) _ hr0 Tryz.underlying114 rfl (by rw [z0]; exact h8) ?_
   simp only [Act.put, lA, lS, lZ]
   refine wpStill_run _ rfl (run_move (.tmp 0) rfl _) ?_
   simp only [Act.put, lA, lS, lZ]
   refine wpStill_run _ rfl (run_move (.tmp 7) rfl _) ?_
   simp only [Act.put, lA, lS, lZ]
   refine wpStill_run (.slice (cutA a 0 cap) wh cap) rfl ?c1 ?_
   case c1 => exact Hrun_sliceO (run_cut_h a len cap wh _ (by omega)) rfl
   simp only [Act.put, lA, lS, lZ]
   refine wpStill_load_row rfl 97 (.tmp 3) rfl _ rfl 97 shpA64 (0, 0) _ hr1 Tryz.underlying97 rfl h14 ?_
   simp only [Act.put, lA, lS, lZ]
   refine wpStill_nil ?_
   go_wp2_with fail
   refine hT.mono ?_
   rintro e w2 ⟨rfl, hb2⟩
   have hR2 : RelD64 w st0 w2 := RelD64.on (wr := w1.drew) ⟨hR1.1.drew, hR1.2.1, hR1.2.2⟩ hb2
   have hr2 : w2.heap[w.heap.size + 1]? = some (.cells v0 114 (0, 0)) := by rw [HV0.out]; exact hR2.2.2
   clear hT hb2 hr0 hr1 hR1 hv1
   go_wp2_with (refine wpList_store_row rfl 114 (.tmp 5) (.tmp 34) rfl _ v1 rfl rfl 114 _ hr2 (by rw [z1]; exact h8) (by rw [z0, z1]) o1 ?_)
   simp only [Act.put]
   have hR3 : RelD64 w st1 (w2.setRow (w.heap.size + 1) v1) := by rw [HV1.out]; exact hR2.setRow st1
   obtain ⟨w3, hw3⟩ : ∃ x, x = w2.setRow (w.heap.size + 1) v1 := ⟨_, rfl⟩
   rw [← hw3] at hR3 ⊢
   clear hw3 hR2 hr2
   have hdl : (bs.drop wh).length = len - wh := by rw [List.length_drop, hlen.out]
   have hdb : ∀ j, (bs.drop wh).getD j 0 < 256 := fun j => by
    have := hb256 (wh + j)
    simpa using this
   have hv3 : View w3.drew (cutA a wh cap) (bs.drop wh) := by
    have := ((hv.below hR3.1).cut wh (len - wh) cap (by rw [hlen.out]; omega) (by rw [hlen.out]; omega)).below (Below.refl _ _).drew
    rwa [List.take_of_length_le (by rw [hdl]; omega)] at this
   have hLB := lastBlocks64 (cutA a wh cap) (cap - wh) (bs.drop wh) len w3.drew (len - wh) hdl (by have := HWH.out; omega) hdb hv3 hlen2
   have hlast : (lastB sh64 (bs.drop wh) len).length ≤ 256 := by
    rw [lastB_len _ _ _ (by rw [hdl]; have := HWH.out; show len - wh ≤ 128; omega)]
    split <;> decide
   have hr3 : w3.drew.heap[w.heap.size + 1]? = some (.cells v1 114 (0, 0)) := by rw [HV1.out]; exact hR3.2.2
   refine wp_region_held (S := fun w' => w'.heap[w.heap.size]? = some (.cells shpA64 97 (0, 0))) (by kernel_rfl) ?_
   show wpAnyH _ _ _ _ _ 11 (Array.replicate 11 false) _ w3.drew
   refine take_at (i := 1) (some 36) _ rfl rfl (by kernel_rfl) (by kernel_rfl) (by kernel_rfl) (fun _ _ _ h => h) (yields_move rfl (.tmp 0) rfl) hR3.2.1 ?_
   simp only [Act.put, lA, lS, lZ]
   refine take_at (i := 2) (some 37) _ rfl rfl (by kernel_rfl) (by kernel_rfl) (by kernel_rfl) (fun _ _ _ h => h) (yields_move rfl (.tmp 7) rfl) hR3.2.1 ?_
   simp only [Act.put, lA, lS, lZ]
   refine take_at (i := 3) (some 38) _ rfl rfl (by kernel_rfl) (by kernel_rfl) (by kernel_rfl) (fun _ _ _ h => h) (yields_run (v := .slice (cutA a wh cap) (len - wh) (cap - wh)) rfl fun w' _ => Hrun_sliceO (run_cut_l a len cap wh w' hwl) rfl) hR3.2.1 ?_
   simp only [Act.put, lA, lS, lZ]
   refine take_at (i := 4) (some 39) _ rfl rfl (by kernel_rfl) (by kernel_rfl) (by kernel_rfl) (fun _ _ _ h => h) (yields_move rfl (.tmp 0) rfl) hR3.2.1 ?_
   simp only [Act.put, lA, lS, lZ]
   refine take_at (i := 5) (some 40) _ rfl rfl (by kernel_rfl) (by kernel_rfl) (by kernel_rfl) (fun _ _ _ h => h) (yields_run (v := .int .i64 (len : Int)) rfl fun w' _ => Hrun_lenO (a := a) (cap := cap) rfl rfl) hR3.2.1 ?_
   simp only [Act.put, lA, lS, lZ]
   refine take_at (i := 6) (some 41) _ rfl rfl (by kernel_rfl) (by kernel_rfl) (by kernel_rfl) (fun _ _ _ h => h) (yields_load_row rfl 97 (.tmp 3) rfl _ rfl 97 shpA64 (0, 0) _ (fun w' h => h) Tryz.underlying97 rfl h14) hR3.2.1 ?_
   simp only [Act.put, lA, lS, lZ]
   refine take_at (i := 8) (some 43) _ rfl rfl (by kernel_rfl) (by kernel_rfl) (by kernel_rfl) (fun _ _ _ h => h) (yields_load_row rfl 97 (.tmp 3) rfl _ rfl 97 shpA64 (0, 0) _ (fun w' h => h) Tryz.underlying97 rfl h14) hR3.2.1 ?_
   simp only [Act.put, lA, lS, lZ]
   refine two_at (i := 0) (j := 7) (by kernel_rfl) ?_ ?_
   ·refine load_at (some 35) rfl rfl rfl 114 (.tmp 5) rfl (w.heap.size + 1) rfl 114 v1 (0, 0) _ hr3 Tryz.underlying114 rfl (by rw [z1]; exact h8) ?_
    refine ⟨hR3.2.1, ?_⟩
    simp only [Act.put, lA, lS, lZ]
    refine one_at (i := 7) (by kernel_rfl) ?_
    refine call_at (some 42) rfl rfl rfl 102 #[.slice (cutA a wh cap) (len - wh) (cap - wh), .int .i64 (len : Int), .agg shpA64] (R := fun v w' => ∃ g n, v = .slice (some ⟨g, 0, none⟩) n n ∧ n = (lastB sh64 (bs.drop wh) len).length ∧ Below w3.drew.heap.size w3.drew w' ∧ w'.heap[g]? = some (.cells (ints .u8 (lastB sh64 (bs.drop wh) len)) 5 (0, 0))) (by kernel_rfl) hLB ?_
    rintro v4 w4 ⟨g, n, rfl, hn, hb4, hg4⟩
    have hR4 : RelD64 w st1 w4 := RelD64.on (wr := w3.drew) ⟨hR3.1.drew, hR3.2.1, hR3.2.2⟩ hb4
    refine ⟨hR4.2.1, ?_⟩
    simp only [Act.put, lA, lS, lZ]
    have hT2 := takeBlocks64 st1 (some ⟨g, 0, none⟩) n n (lastB sh64 (bs.drop wh) len) ks w4 hl1 hs1 hn.symm (lastB_lt _ _ _ hdb) (Nat.le_refl _) (by rw [hn]; have := hlast; omega) (by rw [hn]; have := hlast; omega) (fun _ => ⟨g, 0, rfl, bytes_row hg4⟩) hkl hkb (hK.below hR4.1 h1B)
    rw [← HV1.out] at hT2
    obtain ⟨st2, hst2⟩ : ∃ x, x = blks sh64 ks st1 (lastB sh64 (bs.drop wh) len) (n / 128) := ⟨_, rfl⟩
    rw [← hst2] at hT2
    have hl2 : st2.length = 8 := by rw [hst2]; exact blks_len _ _ _ _ hl1 _
    obtain ⟨v2, hv2⟩ : ∃ x, x = ints .u64 st2 := ⟨_, rfl⟩
    have z2 : v2.size = 8 := by rw [hv2, ints_size, hl2]
    have o2 : v2.all (·.oneCell') = true := by rw [hv2]; exact ints_one _ _
    rw [← hv2] at hT2
    refine one_at (i := 9) (by kernel_rfl) ?_
    refine call_at (some 44) rfl rfl rfl 101 #[.agg v1, .slice (some ⟨g, 0, none⟩) n n, .agg shpA64] (R := fun v w' => v = .agg v2 ∧ Below w4.heap.size w4 w') (by kernel_rfl) (hT2.mono fun e w' h => ⟨_, h.1, rfl, h.2⟩) ?_
    rintro v5 w5 ⟨rfl, hb5⟩
    have hR5 := hR4.on hb5
    refine ⟨hR5.2.1, ?_⟩
    simp only [Act.put, lA, lS, lZ]
    have hr5 : w5.heap[w.heap.size + 1]? = some (.cells v1 114 (0, 0)) := by rw [HV1.out]; exact hR5.2.2
    refine one_at (i := 10) (by kernel_rfl) ?_
    refine store_at rfl rfl rfl 114 (.tmp 5) (.tmp 44) rfl (w.heap.size + 1) v2 rfl rfl 114 v1 hr5 (by rw [z2]; exact h8) (by rw [z1, z2]) o2 ?_
    have hR6 : RelD64 w st2 (w5.setRow (w.heap.size + 1) v2) := by rw [hv2]; exact hR5.setRow st2
    refine ⟨hR6.2.1, wpAnyH_done (by kernel_rfl) ?_ _⟩
    have HDIG : Hid (dig sh64 hs ks bs = stB 64 st2 8) := by
     show dig sh64 hs ks bs = _
     unfold dig
     rw [hst2, HST1.out, HST0.out, hn]
     have e1 : bs.length - bs.length % (2 * sh64.W) = wh := by rw [HWH.out, hlen.out]; rfl
     rw [e1, hlen.out]; rfl
    obtain ⟨w6, hw6⟩ : ∃ x, x = w5.setRow (w.heap.size + 1) v2 := ⟨_, rfl⟩
    rw [← hw6] at hR6 ⊢
    have HV2 : Hid (v2 = ints .u64 st2) := hv2
    clear hw6 hR5 hr5 hb5 hT2 hR4 hg4 hb4 hn hst2 hv2 hR3
    have h60 := hR6.2.1
    have h61 : w6.heap[w.heap.size + 1]? = some (.cells v2 114 (0, 0)) := by rw [HV2.out]; exact hR6.2.2
    go_wp2_with (first
     | (refine wpList_load_row rfl 97 (.tmp 3) rfl _ rfl 97 shpA64 (0, 0) _ h60 Tryz.underlying97 rfl h14 ?_)
     | (refine wpList_load_row rfl 114 (.tmp 5) rfl _ rfl 114 v2 (0, 0) _ h61 Tryz.underlying114 rfl (by rw [z2]; exact h8) ?_))
    rw [HV2.out]
    refine (stateBytes64 st2 w6 hl2).mono ?_
    rintro e w7 ⟨g7, rfl, hb7, ho7⟩
    go_wp2_with fail
    go_ret
    exact ⟨g7, w6.heap.size + 1 + 1, rfl, hR6.1.trans (hb7.mono hR6.1.size), by have := hR6.1.size; omega, by rw [HDIG.out]; exact ho7⟩
   ·refine call_at (some 42) rfl rfl rfl 102 #[.slice (cutA a wh cap) (len - wh) (cap - wh), .int .i64 (len : Int), .agg shpA64] (R := fun v w' => ∃ g n, v = .slice (some ⟨g, 0, none⟩) n n ∧ n = (lastB sh64 (bs.drop wh) len).length ∧ Below w3.drew.heap.size w3.drew w' ∧ w'.heap[g]? = some (.cells (ints .u8 (lastB sh64 (bs.drop wh) len)) 5 (0, 0))) (by kernel_rfl) hLB ?_
    rintro v4 w4 ⟨g, n, rfl, hn, hb4, hg4⟩
    have hR4 : RelD64 w st1 w4 := RelD64.on (wr := w3.drew) ⟨hR3.1.drew, hR3.2.1, hR3.2.2⟩ hb4
    refine ⟨hR4.2.1, ?_⟩
    simp only [Act.put, lA, lS, lZ]
    have hr4 : w4.heap[w.heap.size + 1]? = some (.cells v1 114 (0, 0)) := by rw [HV1.out]; exact hR4.2.2
    refine one_at (i := 0) (by kernel_rfl) ?_
    refine load_at (some 35) rfl rfl rfl 114 (.tmp 5) rfl (w.heap.size + 1) rfl 114 v1 (0, 0) _ hr4 Tryz.underlying114 rfl (by rw [z1]; exact h8) ?_
    refine ⟨hR4.2.1, ?_⟩
    simp only [Act.put, lA, lS, lZ]
    have hT2 := takeBlocks64 st1 (some ⟨g, 0, none⟩) n n (lastB sh64 (bs.drop wh) len) ks w4 hl1 hs1 hn.symm (lastB_lt _ _ _ hdb) (Nat.le_refl _) (by rw [hn]; have := hlast; omega) (by rw [hn]; have := hlast; omega) (fun _ => ⟨g, 0, rfl, bytes_row hg4⟩) hkl hkb (hK.below hR4.1 h1B)
    rw [← HV1.out] at hT2
    obtain ⟨st2, hst2⟩ : ∃ x, x = blks sh64 ks st1 (lastB sh64 (bs.drop wh) len) (n / 128) := ⟨_, rfl⟩
    rw [← hst2] at hT2
    have hl2 : st2.length = 8 := by rw [hst2]; exact blks_len _ _ _ _ hl1 _
    obtain ⟨v2, hv2⟩ : ∃ x, x = ints .u64 st2 := ⟨_, rfl⟩
    have z2 : v2.size = 8 := by rw [hv2, ints_size, hl2]
    have o2 : v2.all (·.oneCell') = true := by rw [hv2]; exact ints_one _ _
    rw [← hv2] at hT2
    refine one_at (i := 9) (by kernel_rfl) ?_
    refine call_at (some 44) rfl rfl rfl 101 #[.agg v1, .slice (some ⟨g, 0, none⟩) n n, .agg shpA64] (R := fun v w' => v = .agg v2 ∧ Below w4.heap.size w4 w') (by kernel_rfl) (hT2.mono fun e w' h => ⟨_, h.1, rfl, h.2⟩) ?_
    rintro v5 w5 ⟨rfl, hb5⟩
    have hR5 := hR4.on hb5
    refine ⟨hR5.2.1, ?_⟩
    simp only [Act.put, lA, lS, lZ]
    have hr5 : w5.heap[w.heap.size + 1]? = some (.cells v1 114 (0, 0)) := by rw [HV1.out]; exact hR5.2.2
    refine one_at (i := 10) (by kernel_rfl) ?_
    refine store_at rfl rfl rfl 114 (.tmp 5) (.tmp 44) rfl (w.heap.size + 1) v2 rfl rfl 114 v1 hr5 (by rw [z2]; exact h8) (by rw [z1, z2]) o2 ?_
    have hR6 : RelD64 w st2 (w5.setRow (w.heap.size + 1) v2) := by rw [hv2]; exact hR5.setRow st2
    refine ⟨hR6.2.1, wpAnyH_done (by kernel_rfl) ?_ _⟩
    have HDIG : Hid (dig sh64 hs ks bs = stB 64 st2 8) := by
     show dig sh64 hs ks bs = _
     unfold dig
     rw [hst2, HST1.out, HST0.out, hn]
     have e1 : bs.length - bs.length % (2 * sh64.W) = wh := by rw [HWH.out, hlen.out]; rfl
     rw [e1, hlen.out]; rfl
    obtain ⟨w6, hw6⟩ : ∃ x, x = w5.setRow (w.heap.size + 1) v2 := ⟨_, rfl⟩
    rw [← hw6] at hR6 ⊢
    have HV2 : Hid (v2 = ints .u64 st2) := hv2
    clear hw6 hR5 hr5 hb5 hT2 hR4 hg4 hb4 hn hst2 hv2 hR3
    have h60 := hR6.2.1
    have h61 : w6.heap[w.heap.size + 1]? = some (.cells v2 114 (0, 0)) := by rw [HV2.out]; exact hR6.2.2
    go_wp2_with (first
     | (refine wpList_load_row rfl 97 (.tmp 3) rfl _ rfl 97 shpA64 (0, 0) _ h60 Tryz.underlying97 rfl h14 ?_)
     | (refine wpList_load_row rfl 114 (.tmp 5) rfl _ rfl 114 v2 (0, 0) _ h61 Tryz.underlying114 rfl (by rw [z2]; exact h8) ?_))
    rw [HV2.out]
    refine (stateBytes64 st2 w6 hl2).mono ?_
    rintro e w7 ⟨g7, rfl, hb7, ho7⟩
    go_wp2_with fail
    go_ret
    exact ⟨g7, w6.heap.size + 1 + 1, rfl, hR6.1.trans (hb7.mono hR6.1.size), by have := hR6.1.size; omega, by rw [HDIG.out]; exact ho7⟩
end Go.Proofs.YtabgihjffjlfiaaGreatDoor
set_option linter.unusedVariables false
namespace Go.Proofs.YtabgihjffjlfiaaGreatDoor
open Go.RowKit
def HS : List Nat := [7640891576956012808, 13503953896175478587, 4354685564936845355, 11912009170470909681, 5840696475078001361, 11170449401992604703, 2270897969802886507, 6620516959819538809]
def KS : List Nat := [4794697086780616226, 8158064640168781261, 13096744586834688815, 16840607885511220156, 4131703408338449720, 6480981068601479193, 10538285296894168987, 12329834152419229976, 15566598209576043074, 1334009975649890238, 2608012711638119052, 6128411473006802146, 8268148722764581231, 9286055187155687089, 11230858885718282805, 13951009754708518548, 16472876342353939154, 17275323862435702243, 1135362057144423861, 2597628984639134821, 3308224258029322869, 5365058923640841347, 6679025012923562964, 8573033837759648693, 10970295158949994411, 12119686244451234320, 12683024718118986047, 13788192230050041572, 14330467153632333762, 15395433587784984357, 489312712824947311, 1452737877330783856, 2861767655752347644, 3322285676063803686, 5560940570517711597, 5996557281743188959, 7280758554555802590, 8532644243296465576, 9350256976987008742, 10552545826968843579, 11727347734174303076, 12113106623233404929, 14000437183269869457, 14369950271660146224, 15101387698204529176, 15463397548674623760, 17586052441742319658, 1182934255886127544, 1847814050463011016, 2177327727835720531, 2830643537854262169, 3796741975233480872, 4115178125766777443, 5681478168544905931, 6601373596472566643, 7507060721942968483, 8399075790359081724, 8693463985226723168, 9568029438360202098, 10144078919501101548, 10430055236837252648, 11840083180663258601, 13761210420658862357, 14299343276471374635, 14566680578165727644, 15097957966210449927, 16922976911328602910, 17689382322260857208, 500013540394364858, 748580250866718886, 1242879168328830382, 1977374033974150939, 2944078676154940804, 3659926193048069267, 4368137639120453308, 4836135668995329356, 5532061633213252278, 6448918945643986474, 6902733635092675308, 7801388544844847127]
set_option maxRecDepth 100000
set_option maxHeartbeats 4000000
end Go.Proofs.YtabgihjffjlfiaaGreatDoor
set_option linter.unusedVariables false
namespace Go.Proofs.YtabgihjffjlfiaaGreatDoor
open Go.RowKit Go.Sort Go.BigFrame
set_option maxRecDepth 100000
set_option maxHeartbeats 2000000
theorem same20 (a : Option Addr) (la ca : Nat) (x : List Nat) (b : Option Addr) (lb cb : Nat) (y : List Nat) (w : World) (hx : x.length = la) (hy : y.length = lb) (ha : View w a x) (hb : View w b y) :
  Calls Tryz.prog 71 #[.slice a la ca, .slice b lb cb] w fun e w' => e = .returned (.bool ((strOf x).toList == (strOf y).toList)) ∧ w' = w := by
 have h1 := toString_view (cap := ca) hx ha
 have h2 := toString_view (cap := cb) hy hb
 clear hx hy
 go_enter Tryz.func71, Tryz.ntmps71
 go_wp2
 go_ret
 exact ⟨rfl, rfl⟩
theorem equal15 (a : Option Addr) (la ca : Nat) (x : List Nat) (b : Option Addr) (lb cb : Nat) (y : List Nat) (w : World) (hx : x.length = la) (hy : y.length = lb) (ha : View w a x) (hb : View w b y) :
  Calls Tryz.prog 37 #[.slice a la ca, .slice b lb cb] w fun e w' => e = .returned (.bool ((strOf x).toList == (strOf y).toList)) ∧ w' = w := by
 go_enter Tryz.func37, Tryz.ntmps37
 go_wp2_with fail
 refine (same20 a la ca x b lb cb y w hx hy ha hb).mono ?_
 rintro e w' ⟨rfl, rfl⟩
 go_wp2
 go_ret
 exact ⟨rfl, rfl⟩
theorem HS_lt : ∀ j, HS.getD j 0 < 18446744073709551616 := fun j => by
 by_cases h : j < 8
 ·have h8 : j = 0 ∨ j = 1 ∨ j = 2 ∨ j = 3 ∨ j = 4 ∨ j = 5 ∨ j = 6 ∨ j = 7 := by omega
  rcases h8 with rfl | rfl | rfl | rfl | rfl | rfl | rfl | rfl <;> decide
 ·have : HS[j]? = none := List.getElem?_eq_none (by show 8 ≤ j; omega)
  rw [List.getD_eq_getElem?_getD, this]; decide
theorem KS_all : KS.all (fun x => decide (x < 18446744073709551616)) = true := by kernel_rfl
theorem KS_lt : ∀ j, KS.getD j 0 < 18446744073709551616 := fun j => by
 by_cases h : j < KS.length
 ·rw [List.getD_eq_getElem?_getD, List.getElem?_eq_getElem h]
  have := List.all_eq_true.1 KS_all KS[j] (List.getElem_mem h)
  simpa using this
 ·rw [List.getD_eq_getElem?_getD, List.getElem?_eq_none (by omega)]; decide
structure Tabs (w : World) : Prop where
 h : TabAt w 3 HS
 k : TabAt w 7 KS
theorem Tabs.below {w w' : World} (t : Tabs w) (hb : Below w.heap.size w w') : Tabs w' :=
 ⟨t.h.below hb (block_lt_of_cell (t.h 0 (by decide))), t.k.below hb (block_lt_of_cell (t.k 0 (by decide)))⟩
theorem sum512 (a : Option Addr) (len cap : Nat) (bs : List Nat) (w : World) (hlen : bs.length = len) (hb256 : ∀ j, bs.getD j 0 < 256) (hcap : len ≤ cap) (hcap2 : cap ≤ 9223372036854775807) (hlen2 : len ≤ 100000000000000) (hv : View w a bs) (ht : Tabs w) :
  Calls Tryz.prog 39 #[.slice a len cap] w fun e w' => ∃ g B, e = .returned (.slice (some ⟨g, 0, none⟩) 64 64) ∧ Below w.heap.size w w' ∧ w.heap.size ≤ B ∧ w'.ownsRow B 5 1 (.slice (some ⟨g, 0, none⟩) 64 64) 64 (Hbv (dig sh64 HS KS bs)) := by
 have hD := digest64 a len cap bs HS KS w hlen hb256 hcap hcap2 hlen2 hv rfl HS_lt ht.h rfl KS_lt ht.k
 clear hlen
 go_enter Tryz.func39, Tryz.ntmps39
 go_wp2_with fail
 refine hD.mono ?_
 rintro e w' ⟨g, B, rfl, hb, hB, ho⟩
 go_wp2
 go_ret
 exact ⟨g, B, rfl, hb, hB, ho⟩
end Go.Proofs.YtabgihjffjlfiaaGreatDoor
set_option linter.unusedVariables false
namespace Go.Proofs.YtabgihjffjlfiaaGreatDoor
open Go.RowKit Go.Sort Go.BigFrame EN
set_option maxRecDepth 100000
set_option maxHeartbeats 2000000
structure TabA (w : World) : Prop where
 t : Tab w
 ts : Tabs w
 te : ETab w
theorem TabA.below {w w' : World} (t : TabA w) (hb : Below w.heap.size w w') : TabA w' := ⟨t.t.below hb, t.ts.below hb, t.te.below hb⟩
def TabV (w : World) : Prop := TabA w ∧ Tab5 w
theorem TabV.below {w w' : World} (t : TabV w) (hb : Below w.heap.size w w') : TabV w' := ⟨t.1.below hb, t.2.below hb⟩
def SH (l : List Nat) : List Nat := dig sh64 HS KS l
theorem wb_len' (W x : Nat) : ∀ n, (wb W x n).length = n
 | 0 => rfl
 | n + 1 => by unfold wb; rw [List.length_append, wb_len' W x n]; rfl
theorem wb_dig (W x : Nat) : ∀ n, Dig (wb W x n)
 | 0 => fun j => by simp [wb]
 | n + 1 => by
  unfold wb
  exact (wb_dig W x n).app (dig_lt (fun y hy => by rw [List.mem_singleton.1 hy]; omega))
theorem stB_len (W : Nat) (st : List Nat) : ∀ n, (stB W st n).length = W / 8 * n
 | 0 => rfl
 | n + 1 => by
  unfold stB
  rw [List.length_append, stB_len W st n, wb_len', Nat.mul_add, Nat.mul_one]
theorem stB_dig (W : Nat) (st : List Nat) : ∀ n, Dig (stB W st n)
 | 0 => fun j => by simp [stB]
 | n + 1 => by unfold stB; exact (stB_dig W st n).app (wb_dig _ _ _)
theorem SH_dig (l : List Nat) : Dig (SH l) := by
 unfold SH dig
 exact stB_dig _ _ _
theorem SH_len (l : List Nat) : (SH l).length = 64 := by
 unfold SH dig
 rw [stB_len]; rfl
theorem cSum512 {v : Value} {l : List Nat} (w : World) (hT : TabA w) (h : Bts l v w) (hd : Dig l) (hl : l.length ≤ 100000) : Ret 39 #[v] w (OwnC w.heap.size (SH l)) := by
 obtain ⟨a, cap, rfl, h1, h2, hv⟩ := h
 refine (sum512 a l.length cap l w rfl hd h1 h2 (by omega) hv hT.ts).mono ?_
 rintro e w' ⟨g, B, rfl, hB, hB2, ho⟩
 exact ⟨_, rfl, hB, OwnC.lo (own_C (SH_len l) (by omega) ho) hB2⟩
theorem cReduce {v : Value} {l : List Nat} (w : World) (hT : TabA w) (h : Bts l v w) (hd : Dig l) (hl : l.length ≤ 64) : Ret 40 #[v] w (Own w.heap.size (digs 32 (valD l % LL))) := by
 obtain ⟨a, cap, rfl, h1, h2, hv⟩ := h
 refine (reduce9 a l.length cap l w rfl h1 h2 hd hv hT.te).mono ?_
 rintro e w' ⟨v, rfl, gb, rfl, hg, hB, hr⟩
 rw [List.take_of_length_le hl] at hr
 exact ⟨_, rfl, hB, gb, by rw [digs_len], hg, hr⟩
theorem cMulAdd {v1 v2 v3 : Value} {x y z : List Nat} (w : World) (hT : TabA w) (hx : Bts x v1 w) (hy : Bts y v2 w) (hz : Bts z v3 w) (dx : Dig x) (dy : Dig y) (dz : Dig z) (lx : x.length = 32) (ly : y.length = 32) (lz : z.length = 32) :
  Ret 16 #[v1, v2, v3] w (Own w.heap.size (digs 32 ((valD x * valD y + valD z) % LL))) := by
 obtain ⟨a, ca, rfl, a1, a2, av⟩ := hx
 obtain ⟨b, cb, rfl, b1, b2, bv⟩ := hy
 obtain ⟨c, cc, rfl, c1, c2, cv⟩ := hz
 refine (mulAdd12 a x.length ca x b y.length cb y c z.length cc z w rfl rfl rfl a1 a2 b1 b2 c1 c2 dx dy dz av bv cv hT.te).mono ?_
 rintro e w' ⟨v, rfl, gb, rfl, hg, hB, hr⟩
 rw [List.take_of_length_le (by omega), List.take_of_length_le (by omega), List.take_of_length_le (by omega)] at hr
 exact ⟨_, rfl, hB, gb, by rw [digs_len], hg, hr⟩
theorem cIs {v : Value} {l : List Nat} (w : World) (hT : TabA w) (h : Bts l v w) (hd : Dig l) : Ret 32 #[v] w (Is (.bool (isL l))) := by
 obtain ⟨a, cap, rfl, h1, h2, hv⟩ := h
 exact (is14 a l.length cap l w rfl h1 h2 hd hv hT.te).mono fun e w' ⟨h, hB⟩ => ⟨_, h, hB, rfl⟩
theorem cEqual {v1 v2 : Value} {x y : List Nat} (w : World) (hx : Bts x v1 w) (hy : Bts y v2 w) (dx : Dig x) (dy : Dig y) : Ret 37 #[v1, v2] w (Is (.bool (decide (x = y)))) := by
 obtain ⟨a, ca, rfl, a1, a2, av⟩ := hx
 obtain ⟨b, cb, rfl, b1, b2, bv⟩ := hy
 refine (equal15 a x.length ca x b y.length cb y w rfl rfl av bv).mono fun e w' ⟨h, hB⟩ => ⟨_, h, hB ▸ Below.refl _ _, ?_⟩
 rw [strOf_eq dx dy]; rfl
theorem halves24 (g off cap : Nat) (w : World) (h : 64 ≤ cap) (h2 : cap ≤ 9223372036854775807) : Calls Tryz.prog 31 #[.slice (some ⟨g, off, none⟩) 64 cap] w fun e w' =>
  e = .returned (.tuple #[.slice (some ⟨g, off, none⟩) 32 32, .slice (some ⟨g, off + 32, none⟩) 32 32]) ∧ Below w.heap.size w w' := by
 have hB : Below w.heap.size w w.drew := (Below.refl _ _).drew
 have hB0 : Below w.heap.size w w := Below.refl _ _
 go_enter Tryz.func31, Tryz.ntmps31
 go_wp2_with fail
 go_region
 go_wp2
 go_ret2
 exact ⟨rfl, hB⟩
theorem cBases {v : Value} {l : List Nat} (w : World) (hT : TabA w) (h : Bts l v w) (hd : Dig l) (hl : l.length ≤ 32) : Ret 14 #[v] w (Own w.heap.size (digs 32 (bp.nm (valD l)).enc)) := by
 unfold Ret
 go_enter Tryz.func14, Tryz.ntmps14
 go_wp2_with fail
 refine (cBase w hT.t).mono ?_
 rintro e w1 ⟨v1, rfl, hB1, hP1⟩
 go_wp2_with fail
 refine (cMulP w1 w1 (hT.below hB1).t hP1 (Bts.stb _ _ _ _ hB1 h) hd hl).mono ?_
 rintro e w2 ⟨v2, rfl, hB2, hP2⟩
 go_wp2_with fail
 refine (cPBytes w2 w2 hP2).mono ?_
 rintro e w3 ⟨v3, rfl, hB3, g, rfl, hg, hr⟩
 have hB12 := hB1.trans (hB2.mono hB1.size)
 have hB13 := hB12.trans (hB3.mono hB12.size)
 go_wp2
 go_ret
 exact ⟨_, rfl, hB13, g, rfl, by have := hB12.size; omega, hr⟩
end Go.Proofs.YtabgihjffjlfiaaGreatDoor
set_option linter.unusedVariables false
namespace Go.Proofs.YtabgihjffjlfiaaGreatDoor
open Go.RowKit Go.Sort Go.BigFrame EN
set_option maxRecDepth 100000
set_option maxHeartbeats 2000000
def sel {α : Type} (a b c : α) : Nat → α
 | 0 => a
 | 1 => b
 | _ => c
def Parts (n : Nat) (x y z : List Nat) (v : Value) (w : World) : Prop := ∃ g a b c na nb nc ca cb cc cs, v = .slice (some ⟨g, 0, none⟩) n n ∧ w.heap[g]? = some (.cells cs 22 (0, 0)) ∧
 (∀ k, k < n → cs[k]? = some (.slice (sel a b c k) (sel na nb nc k) (sel ca cb cc k))) ∧ Bts x (.slice a na ca) w ∧ Bts y (.slice b nb cb) w ∧ Bts z (.slice c nc cc) w
theorem Bts.parts {l : List Nat} {a : Option Addr} {n c : Nat} {w : World} (h : Bts l (.slice a n c) w) : l.length = n ∧ n ≤ c ∧ c ≤ 9223372036854775807 ∧ View w a l := by
 obtain ⟨a', c', h1, h2, h3, h4⟩ := h
 injection h1 with e1 e2 e3
 subst e1 e2 e3
 exact ⟨rfl, h2, h3, h4⟩
theorem concatP {n : Nat} {x y z : List Nat} {v : Value} (w : World) (hn : n ≤ 3) (h : Parts n x y z v w) (hl : (catL (sel x y z) n).length ≤ 100000) (h0 : 0 < (catL (sel x y z) n).length) :
  Ret 15 #[v] w (OwnC w.heap.size (catL (sel x y z) n)) := by
 obtain ⟨g, a, b, c, na, nb, nc, ca, cb, cc, cs, rfl, hg, hcs, hx, hy, hz⟩ := h
 obtain ⟨x1, x2, x3, x4⟩ := hx.parts
 obtain ⟨y1, y2, y3, y4⟩ := hy.parts
 obtain ⟨z1, z2, z3, z4⟩ := hz.parts
 refine concat17 g n (sel a b c) (sel na nb nc) (sel ca cb cc) (fun k => (catL (sel x y z) k).length) (sel x y z) w (by omega) ?_ (fun k => rfl) ?_ ?_ hl h0 ?_
 ·intro k
  match k with
  | 0 => exact x1
  | 1 => exact y1
  | k + 2 => exact z1
 ·intro k hk
  rw [cell_of_row w g k _ 22 _ hg]; exact hcs k hk
 ·intro k hk
  match k with
  | 0 => exact ⟨x2, x3⟩
  | 1 => exact ⟨y2, y3⟩
  | k + 2 => exact ⟨z2, z3⟩
 ·intro k hk
  match k with
  | 0 => exact x4
  | 1 => exact y4
  | k + 2 => exact z4
def numL (l : List Nat) : Nat := valD (SH l) % LL
theorem Parts.stb (n : Nat) (x y z : List Nat) : Stb (Parts n x y z) := fun _ _ _ hb ⟨g, a, b, c, na, nb, nc, ca, cb, cc, cs, h1, h2, h3, h4, h5, h6⟩ =>
 ⟨g, a, b, c, na, nb, nc, ca, cb, cc, cs, h1, block_below hb (lt_of_heap h2) h2, h3, Bts.stb _ _ _ _ hb h4, Bts.stb _ _ _ _ hb h5, Bts.stb _ _ _ _ hb h6⟩
theorem catL_dig {x y z : List Nat} (hx : Dig x) (hy : Dig y) (hz : Dig z) : ∀ n, Dig (catL (sel x y z) n)
 | 0 => fun j => by simp [catL]
 | n + 1 => by
  unfold catL
  refine (catL_dig hx hy hz n).app ?_
  match n with
  | 0 => exact hx
  | 1 => exact hy
  | k + 2 => exact hz
theorem numberP {n : Nat} {x y z : List Nat} {v : Value} (w : World) (hT : TabA w) (hn : n ≤ 3) (h : Parts n x y z v w) (hl : (catL (sel x y z) n).length ≤ 100000) (h0 : 0 < (catL (sel x y z) n).length) (dx : Dig x) (dy : Dig y) (dz : Dig z) :
  Ret 13 #[v] w (Own w.heap.size (digs 32 (numL (catL (sel x y z) n)))) := by
 unfold Ret
 have hC := concatP w hn h hl h0
 have hd := catL_dig dx dy dz n
 generalize catL (sel x y z) n = l at *
 go_enter Tryz.func13, Tryz.ntmps13
 go_wp2_with fail
 refine hC.mono ?_
 rintro e w1 ⟨v1, rfl, hB1, hP1⟩
 go_wp2_with fail
 refine (cSum512 w1 (hT.below hB1) hP1.bts hd hl).mono ?_
 rintro e w2 ⟨v2, rfl, hB2, hP2⟩
 have hB12 := hB1.trans (hB2.mono hB1.size)
 go_wp2_with fail
 refine (cReduce w2 (hT.below hB12) hP2.bts (SH_dig _) (by rw [SH_len]; omega)).mono ?_
 rintro e w3 ⟨v3, rfl, hB3, g3, rfl, hg3, hr3⟩
 have hB13 := hB12.trans (hB3.mono hB12.size)
 go_wp2
 go_ret
 exact ⟨_, rfl, hB13, g3, rfl, by have := hB12.size; omega, hr3⟩
/- the secret number and the prefix -/
def secr (d : List Nat) : List Nat := ((d.take 32).set 0 (d.getD 0 0 - d.getD 0 0 % 8)).set 31 (d.getD 31 0 % 64 + 64)
def SEC (s : List Nat) : List Nat := secr (SH s)
def PRE (s : List Nat) : List Nat := (SH s).drop 32
theorem SEC_len (s : List Nat) : (SEC s).length = 32 := by
 unfold SEC secr
 rw [List.length_set, List.length_set, List.length_take, SH_len]; rfl
theorem PRE_len (s : List Nat) : (PRE s).length = 32 := by
 unfold PRE
 rw [List.length_drop, SH_len]
theorem SEC_dig (s : List Nat) : Dig (SEC s) := by
 unfold SEC secr
 have h := SH_dig s
 exact ((h.take 32).set (by have := h 0; omega)).set (by omega)
theorem PRE_dig (s : List Nat) : Dig (PRE s) := (SH_dig s).drop 32
theorem andNot7 (x : Nat) (h : x < 256) : bits .andNot .u8 (x : Int) 7 = ((x - x % 8 : Nat) : Int) := by
 have : ∀ y < 256, bits .andNot .u8 ((y : Nat) : Int) 7 = ((y - y % 8 : Nat) : Int) := by decide
 exact this x h
theorem or64 (x : Nat) (h : x < 256) : bits .or .u8 ((x % 128 : Nat) : Int) 64 = ((x % 64 + 64 : Nat) : Int) := by
 have : ∀ y < 256, bits .or .u8 ((y % 128 : Nat) : Int) 64 = ((y % 64 + 64 : Nat) : Int) := by decide
 exact this x h
def KeyV (s p : List Nat) (v : Value) (w : World) : Prop := ∃ a b ca cb, v = .agg #[.slice a 32 ca, .slice b 32 cb] ∧ Bts s (.slice a 32 ca) w ∧ Bts p (.slice b 32 cb) w
end Go.Proofs.YtabgihjffjlfiaaGreatDoor
set_option linter.unusedVariables false
namespace Go.Proofs.YtabgihjffjlfiaaGreatDoor
open Go.RowKit Go.Sort Go.BigFrame EN
set_option maxRecDepth 100000
set_option maxHeartbeats 2000000
theorem info34 : (Tryz.prog.info? 36).map (·.size) = some 2 := by kernel_rfl
theorem take_view {w : World} {g : Nat} {l : List Nat} (h : BytesAt w g 0 l) (k : Nat) (hk : k ≤ l.length) : BytesAt w g 0 (l.take k) := fun i hi => by
 rw [List.length_take] at hi
 rw [h i (by omega), List.getD_eq_getElem?_getD, List.getD_eq_getElem?_getD, List.getElem?_take_of_lt (by omega)]
theorem drop_view {w : World} {g : Nat} {l : List Nat} (h : BytesAt w g 0 l) (k : Nat) : BytesAt w g k (l.drop k) := fun i hi => by
 rw [List.length_drop] at hi
 have := h (k + i) (by omega)
 rw [Nat.zero_add] at this
 rw [this, List.getD_eq_getElem?_getD, List.getD_eq_getElem?_getD, List.getElem?_drop]
theorem cKeyOf {v : Value} {l : List Nat} (w : World) (hT : TabA w) (h : Bts l v w) (hd : Dig l) (hl : l.length ≤ 100000) : Ret 12 #[v] w (KeyV (SEC l) (PRE l)) := by
 obtain ⟨w1, hw1⟩ : ∃ w1, w1 = w.alloc (.cells #[.slice none 0 0, .slice none 0 0] 36) := ⟨_, rfl⟩
 have hB1 : Below w.heap.size w w1 := by rw [hw1]; exact below1 _ _
 have hb1 : w1.heap[w.heap.size]? = some (.cells #[.slice none 0 0, .slice none 0 0] 36 (0, 0)) := by rw [hw1]; exact heap_alloc_new _ _
 have hS := cSum512 w1 (hT.below hB1) (Bts.stb _ _ _ _ hB1 h) hd hl
 obtain ⟨D, hD⟩ : ∃ D, D = SH l := ⟨_, rfl⟩
 have hDl : D.length = 64 := by rw [hD]; exact SH_len l
 have hDd : Dig D := by rw [hD]; exact SH_dig l
 have HD : Hid (D = SH l) := hD
 rw [← hD] at hS
 clear hD
 unfold Ret
 go_enter Tryz.func12, Tryz.ntmps12
 go_wp2_with fail
 rw [← hw1]
 refine hS.mono ?_
 rintro e w2 ⟨v2, rfl, hB2, hO2⟩
 obtain ⟨g, cap, cur, rfl, hg, hrow, hc, hc2, hcur⟩ := hO2
 rw [hDl] at hc hcur ⊢
 have hsz := hB1.size
 have hl1 := lt_of_heap hb1
 have hb2 := block_below hB2 hl1 hb1
 go_wp2_with fail
 refine (halves24 g 0 cap w2 hc hc2).mono ?_
 rintro e w3 ⟨rfl, hB3⟩
 rw [Nat.zero_add]
 have hB13 : Below w.heap.size w w3 := hB1.trans ((hB2.mono hB1.size).trans (hB3.mono (by have := hB2.size; omega)))
 have hb3 := block_below hB3 (lt_of_heap hb2) hb2
 have hrow3 := block_below hB3 (lt_of_heap hrow) hrow
 clear hS hB2 hB3 hb2 hrow hb1 hB1 hw1
 obtain ⟨d0, hd0⟩ : ∃ d0, d0 = D.getD 0 0 := ⟨_, rfl⟩
 obtain ⟨d31, hd31⟩ : ∃ d31, d31 = D.getD 31 0 := ⟨_, rfl⟩
 have h0 : d0 < 256 := by rw [hd0]; exact hDd 0
 have h31 : d31 < 256 := by rw [hd31]; exact hDd 31
 have c0 := cell_of_row _ g 0 _ _ _ hrow3
 rw [hcur 0 (by omega), ← hd0] at c0
 have f0 := frozen_of_row _ g 0 _ _ hrow3
 have a7 := andNot7 d0 h0
 have a128 := andNot128 d31 h31
 have o64 := or64 d31 h31
 obtain ⟨e0, he0⟩ : ∃ e0, e0 = d0 - d0 % 8 := ⟨_, rfl⟩
 obtain ⟨m31, hm31⟩ : ∃ m31, m31 = d31 % 128 := ⟨_, rfl⟩
 obtain ⟨e31, he31⟩ : ∃ e31, e31 = d31 % 64 + 64 := ⟨_, rfl⟩
 rw [← he0] at a7
 rw [← hm31] at a128 o64
 rw [← he31] at o64
 obtain ⟨s1, s2⟩ := cur_set (l := D) hrow3 (by rw [hDl]; exact hcur) 0 e0 (by omega)
 have c31 := cell_of_row _ g 31 _ _ _ s1
 rw [s2 31 (by rw [List.length_set]; omega), getD_set2 _ _ _ _ (by omega), if_neg (by decide), ← hd31] at c31
 have f31 := frozen_of_row _ g 31 _ _ s1
 obtain ⟨t1, t2⟩ := cur_set (l := D.set 0 e0) s1 s2 31 e31 (by rw [List.length_set]; omega)
 have ng : w.heap.size ≠ g := by omega
 have hz4 := (heap_setCell_other w3 ⟨g, 0, none⟩ w.heap.size (.int .u8 (e0 : Int)) ng).trans hb3
 have hz5 := (heap_setCell_other (w3.setCell ⟨g, 0, none⟩ (.int .u8 (e0 : Int))) ⟨g, 31, none⟩ w.heap.size (.int .u8 (e31 : Int)) ng).trans hz4
 have hB5 := (hB13.setCell (p := ⟨g, 0, none⟩) (by show _ ≤ g; omega) (.int .u8 (e0 : Int))).setCell (p := ⟨g, 31, none⟩) (by show _ ≤ g; omega) (.int .u8 (e31 : Int))
 have HE : Hid (e0 = d0 - d0 % 8 ∧ d0 = D.getD 0 0 ∧ e31 = d31 % 64 + 64 ∧ d31 = D.getD 31 0) := ⟨he0, hd0, he31, hd31⟩
 have HT1 : Hid _ := t1
 have HT2 : Hid _ := t2
 have HB5 : Hid _ := hB5
 have HZ5 : Hid _ := hz5
 clear he0 hd0 he31 hd31 hm31 s1 s2 t1 t2 hB5 hz4 hz5
 have hz := HZ5.out
 go_wp2_with (refine wpList_store_row rfl 36 (.tmp 2) (.tmp 25) rfl _ (#[.slice (some ⟨g, 0, none⟩) 32 32, .slice (some ⟨g, 32, none⟩) 32 32]) rfl rfl 36 _ hz info34 rfl (by simp [Value.oneCell']) ?_)
 have hB6 := HB5.out
 have r6 := HT1.out
 have q6 := HT2.out
 clear HB5 HT1 HT2 HZ5 c0 f0 c31 f31 hb3 hrow3 hB13
 generalize (w3.setCell ⟨g, 0, none⟩ (.int .u8 (e0 : Int))).setCell ⟨g, 31, none⟩ (.int .u8 (e31 : Int)) = w5 at *
 have nf := setRow_heap w5 w.heap.size _ (#[.slice (some ⟨g, 0, none⟩) 32 32, .slice (some ⟨g, 32, none⟩) 32 32]) _ _ hz
 have hB7 := setRow_below hB6 (Nat.le_refl _) (#[.slice (some ⟨g, 0, none⟩) 32 32, .slice (some ⟨g, 32, none⟩) 32 32])
 have r7 := (setRow_other w5 w.heap.size g (#[.slice (some ⟨g, 0, none⟩) 32 32, .slice (some ⟨g, 32, none⟩) 32 32]) (Ne.symm ng)).trans r6
 generalize w5.setRow w.heap.size #[.slice (some ⟨g, 0, none⟩) 32 32, .slice (some ⟨g, 32, none⟩) 32 32] = w7 at *
 have hl2 : ((D.set 0 e0).set 31 e31).length = 64 := by rw [List.length_set, List.length_set]; exact hDl
 have hv := bytesAt_cur r7 q6
 obtain ⟨x1, x2, x3, x4⟩ := HE.out
 have hS1 : SEC l = ((D.set 0 e0).set 31 e31).take 32 := by
  unfold SEC secr
  rw [← HD.out, ← x2, ← x4, ← x1, ← x3, List.take_set, List.take_set]
 have hP1 : PRE l = ((D.set 0 e0).set 31 e31).drop 32 := by
  unfold PRE
  rw [← HD.out, List.drop_set_of_lt (by decide), List.drop_set_of_lt (by decide)]
 refine bodyPost_ret (v := .agg (#[.slice (some ⟨g, 0, none⟩) 32 32, .slice (some ⟨g, 32, none⟩) 32 32])) ?_ rfl ⟨_, rfl, hB7, some ⟨g, 0, none⟩, some ⟨g, 32, none⟩, 32, 32, rfl, ⟨some ⟨g, 0, none⟩, 32, by rw [SEC_len], by rw [SEC_len]; omega, by decide, fun _ => ⟨g, 0, rfl, ?_⟩⟩, ⟨some ⟨g, 32, none⟩, 32, by rw [PRE_len], by rw [PRE_len]; omega, by decide, fun _ => ⟨g, 32, rfl, ?_⟩⟩⟩
 ·exact results_cell_row Tryz.results12 _ _ _ 36 _ (0, 0) _ rfl nf Tryz.underlying36 rfl info34
 ·rw [hS1]; exact take_view hv 32 (by omega)
 ·rw [hP1]; exact drop_view hv 32
end Go.Proofs.YtabgihjffjlfiaaGreatDoor
set_option linter.unusedVariables false
namespace Go.Proofs.YtabgihjffjlfiaaGreatDoor
open Go.RowKit Go.Sort Go.BigFrame EN
set_option maxRecDepth 100000
set_option maxHeartbeats 2000000
def PT (s : List Nat) : Pt := bp.nm (valD (SEC s))
def PUB (s : List Nat) : List Nat := digs 32 (PT s).enc
def RN (s m : List Nat) : Nat := numL (PRE s ++ m)
def RB (s m : List Nat) : List Nat := digs 32 (bp.nm (RN s m)).enc
def KN (s m : List Nat) : Nat := numL (RB s m ++ PUB s ++ m)
def SN (s m : List Nat) : Nat := (KN s m * valD (SEC s) + RN s m) % LL
def SIG (s m : List Nat) : List Nat := RB s m ++ digs 32 (SN s m)
theorem cPublic {v : Value} {l : List Nat} (w : World) (hT : TabA w) (h : Bts l v w) (hd : Dig l) (hl : l.length = 32) : Ret 24 #[v] w (Tup2 (Own w.heap.size (PUB l)) (Is (.int .i64 0))) := by
 have hK := cKeyOf w hT h hd (by omega)
 obtain ⟨a, cap, rfl, h1, h2, hv⟩ := h
 rw [hl] at hK ⊢
 unfold Ret
 go_enter Tryz.func24, Tryz.ntmps24
 go_wp2_with fail
 refine hK.mono ?_
 rintro e w1 ⟨v1, rfl, hB1, a1, b1, ca, cb, rfl, hs, hp⟩
 have hf : (Instr.field 36 (.agg #[.slice a1 32 ca, .slice b1 32 cb]) 0).run Tryz.prog w1 = .ok (.slice a1 32 ca) w1 := by kernel_rfl
 have hC := cBases w1 (hT.below hB1) hs (SEC_dig _) (by rw [SEC_len]; omega)
 go_wp2_with fail
 refine hC.mono ?_
 rintro e w2 ⟨v2, rfl, hB2, g, rfl, hg, hr⟩
 have hB := hB1.trans (hB2.mono hB1.size)
 go_wp2
 go_ret2
 exact ⟨_, rfl, hB, _, _, rfl, ⟨g, rfl, by have := hB1.size; omega, hr⟩, rfl⟩
theorem Bts.form {l : List Nat} {v : Value} {w : World} (h : Bts l v w) : ∃ a c, v = .slice a l.length c := by
 obtain ⟨a, c, h1, _⟩ := h; exact ⟨a, c, h1⟩
theorem parts2 {x y : List Nat} {v1 v2 : Value} {w : World} (hx : Bts x v1 w) (hy : Bts y v2 w) : Parts 2 x y [] (.slice (some ⟨w.heap.size, 0, none⟩) 2 2) (w.alloc (.cells #[v1, v2] 22)) := by
 obtain ⟨a, ca, rfl⟩ := hx.form
 obtain ⟨b, cb, rfl⟩ := hy.form
 refine ⟨_, a, b, none, _, _, 0, ca, cb, 0, _, rfl, heap_alloc_new _ _, ?_, Bts.stb _ _ _ _ (below1 _ _) hx, Bts.stb _ _ _ _ (below1 _ _) hy, ⟨none, 0, rfl, Nat.le_refl _, by decide, fun h => absurd h (by simp)⟩⟩
 intro k hk
 match k, hk with
 | 0, _ => rfl
 | 1, _ => rfl
theorem parts3 {x y z : List Nat} {v1 v2 v3 : Value} {w : World} (hx : Bts x v1 w) (hy : Bts y v2 w) (hz : Bts z v3 w) : Parts 3 x y z (.slice (some ⟨w.heap.size, 0, none⟩) 3 3) (w.alloc (.cells #[v1, v2, v3] 22)) := by
 obtain ⟨a, ca, rfl⟩ := hx.form
 obtain ⟨b, cb, rfl⟩ := hy.form
 obtain ⟨c, cc, rfl⟩ := hz.form
 refine ⟨_, a, b, c, _, _, _, ca, cb, cc, _, rfl, heap_alloc_new _ _, ?_, Bts.stb _ _ _ _ (below1 _ _) hx, Bts.stb _ _ _ _ (below1 _ _) hy, Bts.stb _ _ _ _ (below1 _ _) hz⟩
 intro k hk
 match k, hk with
 | 0, _ => rfl
 | 1, _ => rfl
 | 2, _ => rfl
theorem cat2 (x y z : List Nat) : catL (sel x y z) 2 = x ++ y := by simp [catL, sel]
theorem cat3 (x y z : List Nat) : catL (sel x y z) 3 = x ++ y ++ z := by simp [catL, sel]
theorem Ret.box {f : FuncId} {args : Array Value} {w : World} {o : Obj} {R : Value → World → Prop} (h : Ret f args (w.alloc o) R) : Calls Tryz.prog f args (w.alloc o) fun e w' => ∃ v, e = .returned v ∧ Below w.heap.size w w' ∧ R v w' :=
 h.mono fun e w' ⟨v, he, hB, hR⟩ => ⟨v, he, (below1 w o).trans (hB.mono (by simp)), hR⟩
theorem number2 {x y : List Nat} {v1 v2 : Value} (w : World) (gg : Nat) (hgg : gg = w.heap.size) (hT : TabA w) (hx : Bts x v1 w) (hy : Bts y v2 w) (dx : Dig x) (dy : Dig y) (h0 : 0 < x.length) (hl : x.length + y.length ≤ 100000) :
  Calls Tryz.prog 13 #[.slice (some ⟨gg, 0, none⟩) 2 2] (w.alloc (.cells #[v1, v2] 22)) fun e w' => ∃ v, e = .returned v ∧ Below w.heap.size w w' ∧ Own w.heap.size (digs 32 (numL (x ++ y))) v w' := by
 subst hgg
 have h := numberP (w.alloc (.cells #[v1, v2] 22)) (hT.below (below1 _ _)) (by omega) (parts2 hx hy) (by rw [cat2, List.length_append]; omega) (by rw [cat2, List.length_append]; omega) dx dy (fun j => by simp)
 rw [cat2] at h
 exact h.box.mono fun e w' ⟨v, h1, h2, g, h3, h4, h5⟩ => ⟨v, h1, h2, g, h3, by simp at h4; omega, h5⟩
theorem number3 {x y z : List Nat} {v1 v2 v3 : Value} (w : World) (gg : Nat) (hgg : gg = w.heap.size) (hT : TabA w) (hx : Bts x v1 w) (hy : Bts y v2 w) (hz : Bts z v3 w) (dx : Dig x) (dy : Dig y) (dz : Dig z) (h0 : 0 < x.length) (hl : x.length + y.length + z.length ≤ 100000) :
  Calls Tryz.prog 13 #[.slice (some ⟨gg, 0, none⟩) 3 3] (w.alloc (.cells #[v1, v2, v3] 22)) fun e w' => ∃ v, e = .returned v ∧ Below w.heap.size w w' ∧ Own w.heap.size (digs 32 (numL (x ++ y ++ z))) v w' := by
 subst hgg
 have h := numberP (w.alloc (.cells #[v1, v2, v3] 22)) (hT.below (below1 _ _)) (by omega) (parts3 hx hy hz) (by rw [cat3, List.length_append, List.length_append]; omega) (by rw [cat3, List.length_append, List.length_append]; omega) dx dy dz
 rw [cat3] at h
 exact h.box.mono fun e w' ⟨v, h1, h2, g, h3, h4, h5⟩ => ⟨v, h1, h2, g, h3, by simp at h4; omega, h5⟩
theorem concat2 {x y : List Nat} {v1 v2 : Value} (w : World) (gg : Nat) (hgg : gg = w.heap.size) (hx : Bts x v1 w) (hy : Bts y v2 w) (h0 : 0 < x.length) (hl : x.length + y.length ≤ 100000) :
  Calls Tryz.prog 15 #[.slice (some ⟨gg, 0, none⟩) 2 2] (w.alloc (.cells #[v1, v2] 22)) fun e w' => ∃ v, e = .returned v ∧ Below w.heap.size w w' ∧ OwnC w.heap.size (x ++ y) v w' := by
 subst hgg
 have h := concatP (w.alloc (.cells #[v1, v2] 22)) (by omega) (parts2 hx hy) (by rw [cat2, List.length_append]; omega) (by rw [cat2, List.length_append]; omega)
 rw [cat2] at h
 exact h.box.mono fun e w' ⟨v, h1, h2, h3⟩ => ⟨v, h1, h2, h3.lo (by simp)⟩
theorem cSign {v vm : Value} {l m : List Nat} (w : World) (hT : TabA w) (h : Bts l v w) (hm : Bts m vm w) (hd : Dig l) (hl : l.length = 32) (dm : Dig m) (lm : m.length ≤ 50000) : Ret 5 #[v, vm] w (Tup2 (OwnC w.heap.size (SIG l m)) (Is (.int .i64 0))) := by
 have hK := cKeyOf w hT h hd (by omega)
 obtain ⟨a, cap, rfl, h1, h2, hv⟩ := h
 rw [hl] at hK ⊢
 obtain ⟨am, cm, rfl⟩ := hm.form
 unfold Ret
 go_enter Tryz.func5, Tryz.ntmps5
 go_wp2_with fail
 refine hK.mono ?_
 rintro e w1 ⟨v1, rfl, hB1, a1, b1, ca, cb, rfl, hs, hp⟩
 have hz : (w1.alloc (.cells #[.slice none 0 0, .slice none 0 0] 36)).heap[w1.heap.size]? = some (.cells #[.slice none 0 0, .slice none 0 0] 36 (0, 0)) := heap_alloc_new _ _
 obtain ⟨w3, hw3⟩ : ∃ w3, w3 = (w1.alloc (.cells #[.slice none 0 0, .slice none 0 0] 36)).setRow w1.heap.size #[.slice a1 32 ca, .slice b1 32 cb] := ⟨_, rfl⟩
 have hB3 : Below w1.heap.size w1 w3 := by rw [hw3]; exact setRow_below (below1 _ _) (Nat.le_refl _) _
 have nf : w3.heap[w1.heap.size]? = some (.cells #[.slice a1 32 ca, .slice b1 32 cb] 36 (0, 0)) := by rw [hw3]; exact setRow_heap _ w1.heap.size _ _ _ _ hz
 have q0 := cell_of_row _ w1.heap.size 0 _ _ _ nf
 have q1 := cell_of_row _ w1.heap.size 1 _ _ _ nf
 rw [show (#[Value.slice a1 32 ca, Value.slice b1 32 cb])[0]? = some (.slice a1 32 ca) from rfl] at q0
 rw [show (#[Value.slice a1 32 ca, Value.slice b1 32 cb])[1]? = some (.slice b1 32 cb) from rfl] at q1
 have qe := q1
 rw [hw3] at qe
 have hB13 : Below w.heap.size w w3 := hB1.trans (hB3.mono hB1.size)
 have hT3 := hT.below hB13
 have hs3 := Bts.stb _ _ _ _ hB3 hs
 have hp3 := Bts.stb _ _ _ _ hB3 hp
 have hm3 := Bts.stb _ _ _ _ hB13 hm
 have hz3 : w3.heap.size = w1.heap.size + 1 := by rw [hw3, setRow_size]; simp
 have HW3 : Hid _ := hw3
 have HZ3 : Hid _ := hz3
 clear hw3 hz3 hK hv
 go_wp2_with (refine wpList_store_row rfl 36 (.tmp 6) (.tmp 14) rfl _ (#[.slice a1 32 ca, .slice b1 32 cb]) rfl rfl 36 _ hz info34 rfl (by simp [Value.oneCell']) ?_)
 rw [← HW3.out]
 refine (number2 w3 (w1.heap.size + 1) HZ3.out.symm hT3 hp3 hm3 (PRE_dig l) dm (by rw [PRE_len]; omega) (by rw [PRE_len]; omega)).mono ?_
 rintro e w4 ⟨v4, rfl, hB4, g4, rfl, hg4, hr4⟩
 have hR4 : Bts (digs 32 (RN l m)) (.slice (some ⟨g4, 0, none⟩) 32 32) w4 := Own.bts ⟨g4, by rw [digs_len], hg4, hr4⟩ (by rw [digs_len]; omega)
 rw [digs_len]
 have hB14 := hB13.trans (hB4.mono hB13.size)
 have hC5 := cBases w4 (hT3.below hB4) hR4 (digs_dig _ _) (by rw [digs_len]; omega)
 rw [valD_digs_lt (show RN l m < 256 ^ 32 from Nat.lt_trans (Nat.mod_lt _ LL_pos) (by decide))] at hC5
 go_wp2_with fail
 refine hC5.mono ?_
 rintro e w5 ⟨v5, rfl, hB5, g5, rfl, hg5, hr5⟩
 have hH5 : Bts (RB l m) (.slice (some ⟨g5, 0, none⟩) 32 32) w5 := Own.bts ⟨g5, by unfold RB; rw [digs_len], hg5, hr5⟩ (by unfold RB; rw [digs_len]; omega)
 rw [digs_len]
 have hB35 := hB4.trans (hB5.mono hB4.size)
 have hT5 := hT3.below hB35
 have hs5 := Bts.stb _ _ _ _ hB35 hs3
 have p0 := (hB35.cell (p := ⟨w1.heap.size, 0, none⟩) (by have := HZ3.out; show w1.heap.size < _; omega)).trans q0
 have hC6 := cBases w5 hT5 hs5 (SEC_dig l) (by rw [SEC_len]; omega)
 go_wp2_with fail
 refine hC6.mono ?_
 rintro e w6 ⟨v6, rfl, hB6, g6, rfl, hg6, hr6⟩
 have hP6 : Bts (PUB l) (.slice (some ⟨g6, 0, none⟩) 32 32) w6 := Own.bts ⟨g6, by unfold PUB; rw [digs_len], hg6, hr6⟩ (by unfold PUB; rw [digs_len]; omega)
 rw [digs_len]
 have hB36 := hB35.trans (hB6.mono hB35.size)
 have lRB : (RB l m).length = 32 := by unfold RB; rw [digs_len]
 have lPUB : (PUB l).length = 32 := by unfold PUB; rw [digs_len]
 have hC7 := number3 w6 w6.heap.size rfl (hT3.below hB36) (Bts.stb _ _ _ _ hB6 hH5) hP6 (Bts.stb _ _ _ _ hB36 hm3) (digs_dig _ _) (digs_dig _ _) dm (by omega) (by omega)
 go_wp2_with fail
 refine hC7.mono ?_
 rintro e w7 ⟨v7, rfl, hB7, g7, rfl, hg7, hr7⟩
 have hK7 : Bts (digs 32 (KN l m)) (.slice (some ⟨g7, 0, none⟩) 32 32) w7 := Own.bts ⟨g7, by rw [digs_len], hg7, hr7⟩ (by rw [digs_len]; omega)
 rw [digs_len]
 have hB37 := hB36.trans (hB7.mono hB36.size)
 have hB47 := (hB5.trans (hB6.mono hB5.size)).trans (hB7.mono (by have := hB5.size; have := hB6.size; omega))
 have hB57 := hB6.trans (hB7.mono hB6.size)
 have p7 := (hB37.cell (p := ⟨w1.heap.size, 0, none⟩) (by have := HZ3.out; show w1.heap.size < _; omega)).trans q0
 have hC8 := cMulAdd w7 (hT3.below hB37) hK7 (Bts.stb _ _ _ _ hB37 hs3) (Bts.stb _ _ _ _ hB47 hR4) (digs_dig _ _) (SEC_dig l) (digs_dig _ _) (digs_len _ _) (SEC_len l) (digs_len _ _)
 rw [valD_digs_lt (show RN l m < 256 ^ 32 from Nat.lt_trans (Nat.mod_lt _ LL_pos) (by decide)), valD_digs_lt (show KN l m < 256 ^ 32 from Nat.lt_trans (Nat.mod_lt _ LL_pos) (by decide))] at hC8
 go_wp2_with fail
 refine hC8.mono ?_
 rintro e w8 ⟨v8, rfl, hB8, g8, rfl, hg8, hr8⟩
 have hS8 : Bts (digs 32 (SN l m)) (.slice (some ⟨g8, 0, none⟩) 32 32) w8 := Own.bts ⟨g8, by rw [digs_len], hg8, hr8⟩ (by rw [digs_len]; omega)
 rw [digs_len]
 have hB38 := hB37.trans (hB8.mono hB37.size)
 have hC9 := concat2 w8 w8.heap.size rfl (Bts.stb _ _ _ _ (hB57.trans (hB8.mono hB57.size)) hH5) hS8 (by omega) (by rw [digs_len]; omega)
 have hB18 := hB13.trans (hB38.mono hB13.size)
 go_wp2_with fail
 refine hC9.mono ?_
 rintro e w9 ⟨v9, rfl, hB9, hO9⟩
 have hB19 := hB18.trans (hB9.mono hB18.size)
 have hO := hO9.lo hB18.size
 clear hO9
 go_wp2
 go_ret2
 exact ⟨_, rfl, hB19, _, _, rfl, hO, rfl⟩
end Go.Proofs.YtabgihjffjlfiaaGreatDoor
set_option linter.unusedVariables false
namespace Go.Proofs.YtabgihjffjlfiaaGreatDoor
open Go.RowKit Go.Sort Go.BigFrame
set_option maxRecDepth 100000
set_option maxHeartbeats 2000000
section
variable {ρ : Operand → Value} {o : Oper} {x y z t : Operand} {w : World}
theorem run_idx33 {g off n cap i : Nat} (ho : o.op = .indexAddr 43 x y) (hx : ρ x = .slice (some ⟨g, off, none⟩) n cap) (hy : ρ y = .int .i64 (i : Int)) (hi : i < n) : (execOp ρ o).run Tryz.prog w = .ok (.value (.pointer (some ⟨g, off + i, none⟩))) w := by
 simp [execOp, ho, hx, hy, go_sem, hi]
theorem run_load3 {p : Addr} {n : Int} (ho : o.op = .load 3 x) (hx : ρ x = .pointer (some p)) (hc : w.cell? p = some (.int .i64 n)) : (execOp ρ o).run Tryz.prog w = .ok (.value (.int .i64 n)) w := by
 simp [execOp, ho, hx, go_sem, hc, Instr.loadAt, Instr.sureAddr]
theorem cell_val {g t : Nat} {k : IntKind} {l : List Nat} {v : Nat} (h : w.heap[g]? = some (.cells (ints k l) t (0, 0))) (i : Nat) (hi : i < l.length) (hv : l.getD i 0 = v) : w.cell? ⟨g, i, none⟩ = some (.int k (v : Int)) := by
 rw [← hv]; exact cell_ints h i hi
end
end Go.Proofs.YtabgihjffjlfiaaGreatDoor
set_option linter.unusedVariables false
namespace Go.Proofs.YtabgihjffjlfiaaGreatDoor
open Go.RowKit Go.Sort Go.BigFrame
set_option maxRecDepth 100000
set_option maxHeartbeats 2000000
end Go.Proofs.YtabgihjffjlfiaaGreatDoor
set_option linter.unusedVariables false
namespace Go.Proofs.YtabgihjffjlfiaaGreatDoor
open Go.RowKit Go.Sort Go.BigFrame
set_option maxRecDepth 100000
set_option maxHeartbeats 2000000
section
variable {ρ : Operand → Value} {o : Oper} {x y z t : Operand} {w : World}
theorem run_convertO2 {s t : TypeId} {v : Value} (hr : (convert s t (ρ x)).run Tryz.prog w = .ok v w) (ho : o.op = .convert s t x) : (execOp ρ o).run Tryz.prog w = .ok (.value v) w := by
 unfold execOp
 rw [ho]
 simp only [Sem.run_bind, hr, Result.andThen_ok, Sem.run_pure]
theorem dConvBts {l : List Nat} (ho : o.op = .convert 22 9 x) (h : Bts l (ρ x) w) : Does Tryz.prog o ρ w (fun v w' => Below w.heap.size w w' ∧ Is (.string (strOf l)) v w') := by
 obtain ⟨a, cap, hv, h1, h2, h3⟩ := h
 exact Does.run _ (run_convertO2 (by rw [hv]; exact toString_view rfl h3) ho) rfl
end
theorem Tab.size {w : World} (h : Tab w) : 2 < w.heap.size := block_lt_of_cell (h.t2 0 (by decide))
theorem Tab.setCell {w : World} (h : Tab w) {g k : Nat} {v : Value} (hg : 2 < g) : Tab (w.setCell ⟨g, k, none⟩ v) := by
 have o : ∀ (j : Nat) (l : List Nat), j < 3 → BytesAt w j 0 l → BytesAt (w.setCell ⟨g, k, none⟩ v) j 0 l := fun j l hj hl i hi => by
  rw [World.cell?_setCell_far w ⟨g, k, none⟩ ⟨j, 0 + i, none⟩ v (by show g ≠ j; omega)]; exact hl i hi
 exact ⟨o 0 _ (by omega) h.t0, o 1 _ (by omega) h.t1, o 2 _ (by omega) h.t2⟩
end Go.Proofs.YtabgihjffjlfiaaGreatDoor
set_option linter.unusedVariables false
namespace Go.Proofs.YtabgihjffjlfiaaGreatDoor
open Go.RowKit Go.Sort Go.BigFrame
set_option maxRecDepth 100000
set_option maxHeartbeats 2000000
def DRow (l : List Nat) (v : Value) (w : World) : Prop := ∃ a cap, v = .slice a l.length cap ∧ l.length ≤ cap ∧ cap ≤ 9223372036854775807 ∧ IView w a l
theorem DRow.stb (l : List Nat) : Stb (DRow l) := fun _ _ _ hb ⟨a, c, h1, h2, h3, h4⟩ => ⟨a, c, h1, h2, h3, h4.below hb⟩
def Rw (x : Fe) (v : Value) (w : World) : Prop := ∃ a cap, v = .slice a 32 cap ∧ 32 ≤ cap ∧ cap ≤ 9223372036854775807 ∧ IView w a (digs 32 x.val)
theorem Rw.stb (x : Fe) : Stb (Rw x) := fun _ _ _ hb ⟨a, c, h1, h2, h3, h4⟩ => ⟨a, c, h1, h2, h3, h4.below hb⟩
theorem fe_lt (x : Fe) : x.val < 256 ^ 32 := Nat.lt_trans x.isLt (by decide)
theorem vd (x : Fe) : valD (digs 32 x.val) = x.val := valD_digs_lt (fe_lt x)
theorem Rw.drow {x : Fe} {v : Value} {w : World} (h : Rw x v w) : DRow (digs 32 x.val) v w := by
 obtain ⟨a, c, h1, h2, h3, h4⟩ := h
 exact ⟨a, c, by rw [digs_len]; exact h1, by rw [digs_len]; exact h2, h3, h4⟩
theorem rw_of {w w' : World} {g : Nat} {x : Fe} (h : RelR w w' g (digs 32 x.val)) : Rw x (.slice (some ⟨g, 0, none⟩) 32 32) w' := ⟨_, _, rfl, by omega, by omega, fun _ => ⟨g, 0, rfl, ints_row h.2.2⟩⟩
theorem ret_row {f : FuncId} {args : Array Value} {w : World} {n : Nat} {x : Fe} (hx : n = x.val) (h : Calls Tryz.prog f args w fun e w' => ∃ g, e = .returned (.slice (some ⟨g, 0, none⟩) 32 32) ∧ RelR w w' g (digs 32 n)) : Ret f args w (Rw x) := by
 subst hx
 exact h.mono fun e w' ⟨g, he, hR⟩ => ⟨_, he, hR.1, rw_of hR⟩
theorem rMul {x y : Fe} {v1 v2 : Value} (w : World) (h1 : Rw x v1 w) (h2 : Rw y v2 w) : Ret 52 #[v1, v2] w (Rw (x * y)) := by
 obtain ⟨a, ca, rfl, _, _, ha⟩ := h1
 obtain ⟨b, cb, rfl, _, _, hb⟩ := h2
 have := mul25 a 32 ca _ b 32 cb _ w (digs_len _ _) (digs_len _ _) (by omega) (by omega) ha hb (digs_dig _ _) (digs_dig _ _)
 rw [vd, vd] at this
 exact ret_row (Fin.val_mul x y).symm this
theorem rAdd {x y : Fe} {v1 v2 : Value} (w : World) (h1 : Rw x v1 w) (h2 : Rw y v2 w) : Ret 64 #[v1, v2] w (Rw (x + y)) := by
 obtain ⟨a, ca, rfl, _, _, ha⟩ := h1
 obtain ⟨b, cb, rfl, _, _, hb⟩ := h2
 have := add23 a 32 ca _ b 32 cb _ w (digs_len _ _) (digs_len _ _) (by omega) (by omega) ha hb (digs_dig _ _) (digs_dig _ _)
 rw [vd, vd] at this
 exact ret_row (Fin.val_add x y).symm this
theorem sub_val (x y : Fe) : (x.val + pp - y.val) % pp = (x - y).val := by
 have h := fe_sub (a := x.val) (b := y.val) (Nat.le_of_lt y.isLt)
 rw [fe_of, fe_of] at h
 rw [← h, fe_val]
 congr 1
 have := y.isLt
 omega
theorem rSub {x y : Fe} {v1 v2 : Value} (w : World) (h1 : Rw x v1 w) (h2 : Rw y v2 w) : Ret 27 #[v1, v2] w (Rw (x - y)) := by
 obtain ⟨a, ca, rfl, _, _, ha⟩ := h1
 obtain ⟨b, cb, rfl, _, _, hb⟩ := h2
 have := sub21 a ca _ b cb _ w (digs_len _ _) (digs_len _ _) ha hb (digs_dig _ _) (digs_dig _ _) (by rw [vd]; exact Nat.le_of_lt y.isLt)
 rw [vd, vd] at this
 exact ret_row (sub_val x y) this
theorem rInt (w : World) (n : Nat) (h : n ≤ 9223372036854775807) : Ret 28 #[.int .i64 (n : Int)] w (Rw (fe n)) := ret_row rfl (int18p n w h)
theorem rIntN (w : World) (n : Nat) (h0 : 0 < n) (h : n ≤ 9223372036854775808) : Ret 28 #[.int .i64 (-(n : Int))] w (Rw (0 - fe n)) := by
 refine ret_row ?_ (int18n n w h0 h)
 rw [← sub_val, fe_val]
 show (pp - n % pp) % pp = (0 + pp - n % pp) % pp
 rw [Nat.zero_add]
theorem rPow {x : Fe} {v1 v2 : Value} {l : List Nat} {e : Nat} (he : valD l = e) (w : World) (h1 : Rw x v1 w) (h2 : DRow l v2 w) (hl : l.length ≤ 1000) (hd : Dig l) : Ret 84 #[v1, v2] w (Rw (pw x e)) := by
 obtain ⟨a, ca, rfl, _, _, ha⟩ := h1
 obtain ⟨b, cb, rfl, _, _, hb⟩ := h2
 have := pow33 a ca _ b l.length cb l w (digs_len _ _) rfl hl ha hb (digs_dig _ _) hd
 rw [vd, he] at this
 exact ret_row rfl this
theorem rInv {x : Fe} {v1 : Value} (w : World) (h1 : Rw x v1 w) : Ret 51 #[v1] w (Rw (fin x)) := by
 obtain ⟨a, ca, rfl, _, _, ha⟩ := h1
 have := inv29 a ca _ w (digs_len _ _) ha (digs_dig _ _)
 obtain ⟨X, hX⟩ : ∃ X, X = 57896044618658097711785492504343953926634992332820282019728792003956564819947 := ⟨_, rfl⟩
 rw [vd, ← hX] at this
 rw [fin_pw x (n := X) (by rw [hX]; decide)]
 exact ret_row rfl this
theorem rSame {x y : Fe} {v1 v2 : Value} (w : World) (h1 : Rw x v1 w) (h2 : Rw y v2 w) : Ret 86 #[v1, v2] w (Is (.bool (decide (x = y)))) := by
 obtain ⟨a, ca, rfl, _, _, ha⟩ := h1
 obtain ⟨b, cb, rfl, _, _, hb⟩ := h2
 have := same26 a 32 ca _ b 32 cb _ w (digs_len _ _) (digs_len _ _) (by omega) (by omega) ha hb (digs_dig _ _) (digs_dig _ _)
 refine this.mono fun e w' ⟨h, hB⟩ => ⟨_, h, hB, ?_⟩
 refine congrArg Value.bool (decide_eq_decide.2 ?_)
 rw [vd, vd]
 exact ⟨fun h => Fin.ext ((vd x).symm.trans ((congrArg valD h).trans (vd y))), fun h => by rw [h]⟩
theorem rSameT {x y : Fe} (h : x = y) {v1 v2 : Value} (w : World) (h1 : Rw x v1 w) (h2 : Rw y v2 w) : Ret 86 #[v1, v2] w (Is (.bool true)) := by
 have := rSame w h1 h2
 rwa [decide_eq_true h] at this
theorem rSameF {x y : Fe} (h : ¬ x = y) {v1 v2 : Value} (w : World) (h1 : Rw x v1 w) (h2 : Rw y v2 w) : Ret 86 #[v1, v2] w (Is (.bool false)) := by
 have := rSame w h1 h2
 rwa [decide_eq_false h] at this
theorem rBytes {l : List Nat} {v : Value} {n : Nat} (hn : valD l = n) (w : World) (h : DRow l v w) (hl : l.length ≤ 10000) (hd : Dig l) : Ret 48 #[v] w (OwnC w.heap.size (digs 32 n)) := by
 obtain ⟨a, cap, rfl, h1, h2, hv⟩ := h
 subst hn
 exact (bytes31 a l.length cap l w rfl hl hd hv).mono fun e w' ⟨v, he, hB, hown⟩ => ⟨v, he, hB, own_C (digs_len _ _) (by omega) hown⟩
theorem dd_eq : (0 - fe 121665) * fin (fe 121666) = dd := by
 have h0 : (fe 121666 : Fe) ≠ 0 := fun h => absurd (congrArg Fin.val h) (by decide)
 have h1 := mul_fin h0
 have h2 : dd * fe 121666 = -fe 121665 := dd_def
 obtain ⟨i, hi⟩ : ∃ i, i = fin (fe 121666) := ⟨_, rfl⟩
 rw [← hi] at h1 ⊢
 obtain ⟨m, hm⟩ : ∃ m, m = fe 121666 := ⟨_, rfl⟩
 obtain ⟨n, hn⟩ : ∃ n, n = fe 121665 := ⟨_, rfl⟩
 rw [← hm] at h1 h2
 rw [← hn] at h2 ⊢
 clear hm hn hi h0
 grobner
end Go.Proofs.YtabgihjffjlfiaaGreatDoor
set_option linter.unusedVariables false
namespace Go.Proofs.YtabgihjffjlfiaaGreatDoor
open Go.RowKit Go.Sort Go.BigFrame
set_option maxRecDepth 100000
set_option maxHeartbeats 2000000
theorem exp1_val : valD (((pk 32).set 0 254).set 31 15) = valD tab3.reverse := by decide
theorem exp2_val : valD (((pk 32).set 0 251).set 31 31) = 14474011154664524427946373126085988481658748083205070504932198000989141204987 := by decide
theorem exp1_dig : Dig (((pk 32).set 0 254).set 31 15) := dig_lt (by decide)
theorem exp2_dig : Dig (((pk 32).set 0 251).set 31 31) := dig_lt (by decide)
theorem drow_of {w w' : World} {g : Nat} {l : List Nat} (h : RelR w w' g l) (hl : l.length = 32) : DRow l (.slice (some ⟨g, 0, none⟩) 32 32) w' := ⟨_, _, by rw [hl], by rw [hl]; omega, by omega, fun _ => ⟨g, 0, rfl, ints_row h.2.2⟩⟩
theorem rRoot {a : Fe} {v : Value} {e : Nat} (he : valD tab3.reverse = e) (w : World) (h : Rw a v w) : Ret 85 #[v] w (Tup2 (Rw (rootOf e a)) (Is (.bool (decide (rootOf e a * rootOf e a = a))))) := by
 obtain ⟨ad, ca, rfl, hca1, hca2, hva⟩ := id h
 have hmk := make31 32 (by omega)
 simp only [Int.cast_ofNat_Int] at hmk
 have HE : Hid (valD (((pk 32).set 0 254).set 31 15) = e) := exp1_val.trans he
 have HH : Hid (Rw a (.slice ad 32 ca) w) := h
 clear h hva he hca1 hca2
 unfold Ret
 go_enter Tryz.func85, Tryz.ntmps85
 go_wp2_with fail
 have hR0 : RelR w (w.alloc (.cells (ints .i64 (digs 32 0)) 3)) w.heap.size (pk 0) := ⟨below1 _ _, Nat.le_refl _, by rw [show pk 0 = digs 32 0 from rfl]; exact alloc_row _ _ _⟩
 go_loopw [5] (fun i wr => ∃ k : Nat, k ≤ 32 ∧ i = .int .i64 k ∧ RelR w wr w.heap.size (pk k)) (fun i _ => 32 - (intOf i).toNat)
 case atStart => exact ⟨0, by omega, rfl, hR0⟩
 case round =>
  obtain ⟨k, hk, rfl, hR⟩ := hrel
  clear hR0
  by_cases hlt : k < 32
  ·have c1 := hR.at k (by rw [pk_len hk]; omega)
   have f1 := hR.free k
   have HN : Hid (RelR w (wr.setCell ⟨w.heap.size, k, none⟩ (.int .i64 255)) w.heap.size (pk (k + 1))) := by
    show RelR _ _ _ _
    rw [← pk_set hlt]; exact hR.set k 255
   clear hR hmk
   go_wp2
   go_roundw
   case rel => exact ⟨k + 1, by omega, by go_num, HN.out⟩
   case measure => simp [intOf]; omega
  ·obtain rfl : k = 32 := by omega
   have c0 := hR.at 0 (by rw [pk_len hk]; omega)
   have f0 := hR.free 0
   have hR1 : RelR w (wr.setCell ⟨w.heap.size, 0, none⟩ (.int .i64 254)) w.heap.size ((pk 32).set 0 254) := hR.set 0 254
   have c1 := hR1.at 31 (by decide)
   have f1 := hR1.free 31
   have hR2 : RelR w ((wr.setCell ⟨w.heap.size, 0, none⟩ (.int .i64 254)).setCell ⟨w.heap.size, 31, none⟩ (.int .i64 15)) w.heap.size (((pk 32).set 0 254).set 31 15) := hR1.set 31 15
   have hrow := drow_of hR2 (by decide)
   have hPw := rPow HE.out _ (Rw.stb _ _ _ _ hR2.1 HH.out) hrow (by decide) exp1_dig
   have HB2 : Hid _ := hR2.1
   clear hR hR1 hR2 hrow
   unfold Ret at hPw
   go_wp2_with fail
   refine hPw.mono ?_
   rintro e1 w2 ⟨v2, rfl, hb2, hx2⟩
   have hB2 : Below w.heap.size w w2 := HB2.out.trans (hb2.mono HB2.out.size)
   clear hPw HB2 hb2 c0 f0 c1 f1
   have hMu := rMul w2 hx2 hx2
   unfold Ret at hMu
   go_wp2_with fail
   refine hMu.mono ?_
   rintro e2 w3 ⟨v3, rfl, hb3, hx3⟩
   have hB3 : Below w.heap.size w w3 := hB2.trans (hb3.mono hB2.size)
   have hx23 := Rw.stb _ _ _ _ hb3 hx2
   have ha3 := Rw.stb _ _ _ _ hB3 HH.out
   clear hMu hB2 hb3 hx2
   by_cases hsq : pw a e * pw a e = a
   ·have hSm := rSameT hsq w3 hx3 ha3
    have HRO : Hid (rootOf e a = pw a e) := by show _ = _; unfold rootOf; rw [if_pos hsq]
    have HSQ : Hid (pw a e * pw a e = a) := hsq
    clear hsq
    unfold Ret at hSm
    go_wp2_with fail
    refine hSm.mono ?_
    rintro e3 w4 ⟨v4, rfl, hb4, hv4⟩
    have hB4 : Below w.heap.size w w4 := hB3.trans (hb4.mono hB3.size)
    have hx24 := Rw.stb _ _ _ _ hb4 hx23
    obtain rfl : v4 = .bool true := hv4
    clear hSm hb4 hB3 hx3 ha3
    go_wp2
    go_ret2
    refine ⟨_, rfl, hB4, _, _, rfl, ?_, ?_⟩
    ·rw [HRO.out]; exact hx24
    ·rw [HRO.out, decide_eq_true HSQ.out]; rfl
   ·have hSm := rSameF hsq w3 hx3 ha3
    have HRO : Hid (rootOf e a = pw a e * ii) := by show _ = _; unfold rootOf; rw [if_neg hsq]
    clear hsq
    unfold Ret at hSm
    go_wp2_with fail
    refine hSm.mono ?_
    rintro e3 w4 ⟨v4, rfl, hb4, hv4⟩
    have hB4 : Below w.heap.size w w4 := hB3.trans (hb4.mono hB3.size)
    have hx24 := Rw.stb _ _ _ _ hb4 hx23
    obtain rfl : v4 = .bool false := hv4
    clear hSm hb4 hB3 hx3 ha3
    go_wp2_with fail
    have hR0 : RelR w4 (w4.alloc (.cells (ints .i64 (digs 32 0)) 3)) w4.heap.size (pk 0) := ⟨below1 _ _, Nat.le_refl _, by rw [show pk 0 = digs 32 0 from rfl]; exact alloc_row _ _ _⟩
    go_loopw [9] (fun i wr => ∃ k : Nat, k ≤ 32 ∧ i = .int .i64 k ∧ RelR w4 wr w4.heap.size (pk k)) (fun i _ => 32 - (intOf i).toNat)
    case atStart => exact ⟨0, by omega, rfl, hR0⟩
    case round =>
     obtain ⟨k, hk, rfl, hR⟩ := hrel
     clear hR0
     by_cases hlt : k < 32
     ·have c1 := hR.at k (by rw [pk_len hk]; omega)
      have f1 := hR.free k
      have HN : Hid (RelR w4 (wr.setCell ⟨w4.heap.size, k, none⟩ (.int .i64 255)) w4.heap.size (pk (k + 1))) := by
       show RelR _ _ _ _
       rw [← pk_set hlt]; exact hR.set k 255
      clear hR hmk
      go_wp2
      go_roundw
      case rel => exact ⟨k + 1, by omega, by go_num, HN.out⟩
      case measure => simp [intOf]; omega
     ·obtain rfl : k = 32 := by omega
      have c0 := hR.at 0 (by rw [pk_len hk]; omega)
      have f0 := hR.free 0
      have hR1 : RelR w4 (wr.setCell ⟨w4.heap.size, 0, none⟩ (.int .i64 251)) w4.heap.size ((pk 32).set 0 251) := hR.set 0 251
      have c1 := hR1.at 31 (by decide)
      have f1 := hR1.free 31
      have hR2 : RelR w4 ((wr.setCell ⟨w4.heap.size, 0, none⟩ (.int .i64 251)).setCell ⟨w4.heap.size, 31, none⟩ (.int .i64 31)) w4.heap.size (((pk 32).set 0 251).set 31 31) := hR1.set 31 31
      have HROW : Hid _ := drow_of hR2 (by decide)
      have hIn := rInt ((wr.setCell ⟨w4.heap.size, 0, none⟩ (.int .i64 251)).setCell ⟨w4.heap.size, 31, none⟩ (.int .i64 31)) 2 (by decide)
      have HB5 : Hid _ := hR2.1
      clear hR hR1 hR2
      unfold Ret at hIn
      simp only [Int.cast_ofNat_Int] at hIn
      go_wp2_with fail
      refine hIn.mono ?_
      rintro e6 w6 ⟨v6, rfl, hb6, hx6⟩
      have hB6 : Below w4.heap.size w4 w6 := HB5.out.trans (hb6.mono HB5.out.size)
      have hrow6 := DRow.stb _ _ _ _ hb6 HROW.out
      obtain ⟨X, hX⟩ : ∃ X, X = 14474011154664524427946373126085988481658748083205070504932198000989141204987 := ⟨_, rfl⟩
      have hPw := rPow (exp2_val.trans hX.symm) w6 hx6 hrow6 (by decide) exp2_dig
      rw [pw2_quarter hX] at hPw
      clear hIn HB5 HROW hb6 c0 f0 c1 f1 hX hrow6
      unfold Ret at hPw
      go_wp2_with fail
      refine hPw.mono ?_
      rintro e7 w7 ⟨v7, rfl, hb7, hx7⟩
      have hB7 : Below w4.heap.size w4 w7 := hB6.trans (hb7.mono hB6.size)
      have hMu := rMul w7 (Rw.stb _ _ _ _ hB7 hx24) hx7
      clear hPw hB6 hb7 hx6
      unfold Ret at hMu
      go_wp2_with fail
      refine hMu.mono ?_
      rintro e8 w8 ⟨v8, rfl, hb8, hx8⟩
      have hB8 : Below w4.heap.size w4 w8 := hB7.trans (hb8.mono hB7.size)
      have hMu2 := rMul w8 hx8 hx8
      clear hMu hB7 hb8 hx7
      unfold Ret at hMu2
      go_wp2_with fail
      refine hMu2.mono ?_
      rintro e9 w9 ⟨v9, rfl, hb9, hx9⟩
      have hB9 : Below w4.heap.size w4 w9 := hB8.trans (hb9.mono hB8.size)
      have hO9 : Below w.heap.size w w9 := hB4.trans (hB9.mono hB4.size)
      have hSm := rSame w9 hx9 (Rw.stb _ _ _ _ hO9 HH.out)
      have hx89 := Rw.stb _ _ _ _ hb9 hx8
      clear hMu2 hB8 hb9 hx8 hB9
      unfold Ret at hSm
      go_wp2_with fail
      refine hSm.mono ?_
      rintro e10 w10 ⟨v10, rfl, hb10, hv10⟩
      have hO10 : Below w.heap.size w w10 := hO9.trans (hb10.mono hO9.size)
      have hx810 := Rw.stb _ _ _ _ hb10 hx89
      clear hSm hO9 hb10
      go_wp2
      go_ret2
      refine ⟨_, rfl, hO10, _, _, rfl, ?_, ?_⟩
      ·rw [HRO.out]; exact hx810
      ·rw [HRO.out]; exact hv10
end Go.Proofs.YtabgihjffjlfiaaGreatDoor
set_option linter.unusedVariables false
namespace Go.Proofs.YtabgihjffjlfiaaGreatDoor
open Go.RowKit Go.Sort Go.BigFrame
set_option maxRecDepth 100000
set_option maxHeartbeats 2000000
def RPt (x y : Fe) (v : Value) (w : World) : Prop := ∃ p q, v = .agg #[p, q] ∧ Rw x p w ∧ Rw y q w
theorem RPt.stb (x y : Fe) : Stb (RPt x y) := fun _ _ _ hb ⟨p, q, h1, h2, h3⟩ => ⟨p, q, h1, Rw.stb _ _ _ _ hb h2, Rw.stb _ _ _ _ hb h3⟩
theorem Rw.one {x : Fe} {v : Value} {w : World} (h : Rw x v w) : v.oneCell' = true := by obtain ⟨a, c, rfl, _⟩ := h; rfl
theorem rpt_one {x y : Fe} {p q : Value} {w w' : World} (h1 : Rw x p w) (h2 : Rw y q w') : (#[p, q] : Array Value).all (·.oneCell') = true := by simp [h1.one, h2.one]
theorem nz35 : ∀ (i : Nat) (n : Int), (#[.slice none 0 0, .slice none 0 0] : Array Value)[i]? ≠ some (.int .i64 n) := by
 intro i n h
 match i with
 | 0 => simp at h
 | 1 => simp at h
 | i + 2 => simp at h
theorem Rw.setRow {x : Fe} {v : Value} {w : World} (h : Rw x v w) {g t : Nat} {cs : Array Value} {fr : Nat × Nat} (hg : w.heap[g]? = some (.cells cs t fr)) (hn : ∀ (i : Nat) (n : Int), cs[i]? ≠ some (.int .i64 n)) (new : Array Value) : Rw x v (w.setRow g new) := by
 obtain ⟨a, c, h1, h2, h3, h4⟩ := h
 refine ⟨a, c, h1, h2, h3, fun hp => ?_⟩
 obtain ⟨b, off, hb, hc⟩ := h4 hp
 refine ⟨b, off, hb, fun i hi => ?_⟩
 have hne : b ≠ g := fun e => by
  subst e
  have := hc i hi
  rw [cell_of_row w b (off + i) _ t _ hg] at this
  exact hn _ _ this
 rw [cell_setRow_other _ _ _ _ hne]
 exact hc i hi
section
variable {ρ : Operand → Value} {o : Oper} {x y z t : Operand} {w : World}
theorem bu35z (ho : o.op = .build 45 #[]) : (execOp ρ o).run Tryz.prog w = .ok (.value (.agg #[.slice none 0 0, .slice none 0 0])) w := by
 simp only [execOp, ho]
 kernel_rfl
theorem dBuild35 {X Y : Fe} (ho : o.op = .build 45 #[(0, x), (1, y)]) (hx : Rw X (ρ x) w) (hy : Rw Y (ρ y) w) : Does Tryz.prog o ρ w (fun v w' => Below w.heap.size w w' ∧ RPt X Y v w') := by
 obtain ⟨a, ca, e1, h1⟩ := id hx
 obtain ⟨b, cb, e2, h2⟩ := id hy
 exact Does.run _ (bu35 a b 32 ca 32 cb ho e1 e2) ⟨_, _, rfl, ⟨a, ca, rfl, h1⟩, ⟨b, cb, rfl, h2⟩⟩
theorem dBox35 {lo : Nat} {X Y : Fe} {p q : Value} {u : World} (hlo : lo ≤ w.heap.size) (ho : o.op = .box 45 x) (hx : ρ x = .agg #[p, q]) (h : Rw X p u ∧ Rw Y q u) : Does Tryz.prog o ρ w (fun v w' => Below w.heap.size w w' ∧ Box lo #[p, q] 45 v w') := by
 obtain ⟨⟨a, ca, rfl, _⟩, ⟨b, cb, rfl, _⟩⟩ := h
 exact Does.new _ (.cells #[.slice a 32 ca, .slice b 32 cb] 45) (by simp only [execOp, ho, hx]; kernel_rfl) ⟨_, rfl, hlo, heap_alloc_new _ _⟩
theorem dLoadRPt {X Y : Fe} {p q : Value} {u : World} {g tt : Nat} {fr : Nat × Nat} (hx : Rw X p u) (hB : Below u.heap.size u w) (hy : Rw Y q u) (h : w.heap[g]? = some (.cells #[p, q] tt fr)) (ho : o.op = .load 45 x) (hp : ρ x = .pointer (some ⟨g, 0, none⟩)) : Does Tryz.prog o ρ w (fun v w' => Below w.heap.size w w' ∧ RPt X Y v w') :=
 Does.run _ (loadRow ho hp h Tryz.underlying45 rfl info35) ⟨p, q, rfl, Rw.stb _ _ _ _ hB hx, Rw.stb _ _ _ _ hB hy⟩
theorem run_load33 {p : Addr} {a : Option Addr} {n c : Nat} (ho : o.op = .load 43 x) (hx : ρ x = .pointer (some p)) (hc : w.cell? p = some (.slice a n c)) : (execOp ρ o).run Tryz.prog w = .ok (.value (.slice a n c)) w := by
 simp [execOp, ho, hx, go_sem, hc, Instr.loadAt, Instr.sureAddr]
theorem dLoadR0 {X Y : Fe} {p q : Value} {u : World} {g tt : Nat} {fr : Nat × Nat} (hx : Rw X p u) (hB : Below u.heap.size u w) (hy : Rw Y q u) (h : w.heap[g]? = some (.cells #[p, q] tt fr)) (ho : o.op = .load 43 x) (hp : ρ x = .pointer (some ⟨g, 0, none⟩)) : Does Tryz.prog o ρ w (fun v w' => Below w.heap.size w w' ∧ Rw X v w') := by
 have hc := cell_of_row w g 0 _ _ _ h
 have hx' := Rw.stb _ _ _ _ hB hx
 obtain ⟨a, ca, rfl, _⟩ := id hx'
 exact Does.run _ (run_load33 ho hp hc) hx'
theorem dLoadR1 {X Y : Fe} {p q : Value} {u : World} {g tt : Nat} {fr : Nat × Nat} (hx : Rw X p u) (hB : Below u.heap.size u w) (hy : Rw Y q u) (h : w.heap[g]? = some (.cells #[p, q] tt fr)) (ho : o.op = .load 43 x) (hp : ρ x = .pointer (some ⟨g, 1, none⟩)) : Does Tryz.prog o ρ w (fun v w' => Below w.heap.size w w' ∧ Rw Y v w') := by
 have hc := cell_of_row w g 1 _ _ _ h
 have hy' := Rw.stb _ _ _ _ hB hy
 obtain ⟨a, ca, rfl, _⟩ := id hy'
 exact Does.run _ (run_load33 ho hp hc) hy'
end
theorem rD (w : World) : Ret 49 #[] w (Rw dd) := by
 unfold Ret
 have hO0 : Below w.heap.size w w := Below.refl _ _
 go_enter Tryz.func49, Tryz.ntmps49
 refine wp_seq_k fun K1 hK1 => ?_
 refine wp_plain_inv 1 (specs [Is (.slice none 0 0)]) (specs_stb ⟨Is.stb _, trivial⟩) (by kernel_rfl) ?_ ?_
 ·refine ⟨fun a w hB hfr hdep => Step.plain rfl (dAssign (R := Is (.slice none 0 0)) rfl rfl), trivial⟩
 intro u1 hb1
 simp only [List.take, List.drop, FinAll, Act.put, lA, lZ]
 rintro _ rfl
 have hO1 := (hO0).trans (hb1.mono (hO0).size)
 refine hK1 _ _ ?_
 clear hK1 K1
 refine wp_seq_k fun K2 hK2 => ?_
 refine wp_plain_inv 5 (specs [Rw (0 - fe 121665), Rw (fe 121666), Rw (fin (fe 121666)), Rw ((0 - fe 121665) * (fin (fe 121666))), Rw ((0 - fe 121665) * (fin (fe 121666)))]) (specs_stb ⟨Rw.stb _, Rw.stb _, Rw.stb _, Rw.stb _, Rw.stb _, trivial⟩) (by kernel_rfl) ?_ ?_
 ·refine ⟨fun a w hB hfr hdep => Step.plain rfl (Does.call 28 #[.int .i64 (-121665)] (by kernel_rfl) (rIntN w 121665 (by decide) (by decide))),
   fun a w hB hfr hdep => Step.plain rfl (Does.call 28 #[.int .i64 121666] (by kernel_rfl) (rInt w 121666 (by decide))),
   fun a w hB hfr hdep => Step.plain rfl (Does.call 51 #[(a.eval (.tmp 2))] (by kernel_rfl) (rInv w (hdep 1 2 (by kernel_rfl)))),
   fun a w hB hfr hdep => Step.plain rfl (Does.call 52 #[(a.eval (.tmp 1)), (a.eval (.tmp 3))] (by kernel_rfl) (rMul w (hdep 0 1 (by kernel_rfl)) (hdep 2 3 (by kernel_rfl)))),
   fun a w hB hfr hdep => Step.plain rfl (dAssign (R := Rw ((0 - fe 121665) * (fin (fe 121666)))) rfl (hdep 3 4 (by kernel_rfl))), trivial⟩
 intro u2 hb2
 simp only [List.take, List.drop, FinAll, Act.put, lA, lS, lZ]
 rintro v1_2 h1_2 v2_2 h2_2 v3_2 h3_2 v4_2 h4_2 v0_2 h0_2
 have hO2 := (hO1).trans (hb2.mono (hO1).size)
 refine hK2 _ _ ?_
 clear hK2 K2
 refine wp_ret ?_
 refine bodyPost_ret (results_tmp rfl _ _ _) rfl ?_
 exact ⟨_, rfl, hO2, (by rw [← dd_eq]; exact h0_2)⟩
theorem rAddP {x1 y1 x2 y2 : Fe} {v1 v2 : Value} (w : World) (h1 : RPt x1 y1 v1 w) (h2 : RPt x2 y2 v2 w) : Ret 29 #[v1, v2] w (RPt ((((x1) * (y2)) + ((y1) * (x2))) * (fin ((1) + ((dd) * (((x1) * (x2)) * ((y1) * (y2))))))) ((((y1) * (y2)) + ((x1) * (x2))) * (fin ((1) - ((dd) * (((x1) * (x2)) * ((y1) * (y2)))))))) := by
 obtain ⟨p1, q1, rfl, hx1, hy1⟩ := h1
 obtain ⟨p2, q2, rfl, hx2, hy2⟩ := h2
 unfold Ret
 have hO0 : Below w.heap.size w w := Below.refl _ _
 go_enter Tryz.func29, Tryz.ntmps29
 refine wp_seq_k fun K1 hK1 => ?_
 refine wp_plain_inv 3 (specs [Box w.heap.size (#[p1, q1]) 45, Box w.heap.size (#[p2, q2]) 45, Box w.heap.size (#[.slice none 0 0, .slice none 0 0]) 45]) (specs_stb ⟨Box.stb _ _ _, Box.stb _ _ _, Box.stb _ _ _, trivial⟩) (by kernel_rfl) ?_ ?_
 ·refine ⟨fun a w hB hfr hdep => Step.plain rfl (dBox35 hB.size rfl (hfr 0 (by kernel_rfl)) ⟨hx1, hy1⟩),
   fun a w hB hfr hdep => Step.plain rfl (dBox35 hB.size rfl (hfr 1 (by kernel_rfl)) ⟨hx2, hy2⟩),
   fun a w hB hfr hdep => Step.plain rfl (dAlloc35 hB.size rfl), trivial⟩
 intro u1 hb1
 simp only [List.take, List.drop, FinAll, Act.put, lA, lS, lZ]
 rintro _ ⟨g2_1, rfl, l2_1, m2_1⟩ _ ⟨g3_1, rfl, l3_1, m3_1⟩ _ ⟨g4_1, rfl, l4_1, m4_1⟩
 have hO1 := (hO0).trans (hb1.mono (hO0).size)
 have lwm2_1 := Nat.le_trans (hO0).size l2_1
 have lwm3_1 := Nat.le_trans (hO0).size l3_1
 have lwm4_1 := Nat.le_trans (hO0).size l4_1
 refine hK1 _ _ ?_
 clear hK1 K1
 refine wp_seq_k fun K2 hK2 => ?_
 refine wp_plain_inv 2 (specs [Rw (1), Rw (1)]) (specs_stb ⟨Rw.stb _, Rw.stb _, trivial⟩) (by kernel_rfl) ?_ ?_
 ·refine ⟨fun a w hB hfr hdep => Step.plain rfl (Does.call 28 #[.int .i64 1] (by kernel_rfl) (rInt w 1 (by decide))),
   fun a w hB hfr hdep => Step.plain rfl (dAssign (R := Rw (1)) rfl (hdep 0 13 (by kernel_rfl))), trivial⟩
 intro u2 hb2
 simp only [List.take, List.drop, FinAll, Act.put, lA, lS, lZ]
 rintro v13_2 h13_2 v5_2 h5_2
 have hO2 := (hO1).trans (hb2.mono (hO1).size)
 have m2_1__2 := block_below hb2 (lt_of_heap m2_1) m2_1
 have m3_1__2 := block_below hb2 (lt_of_heap m3_1) m3_1
 have m4_1__2 := block_below hb2 (lt_of_heap m4_1) m4_1
 refine hK2 _ _ ?_
 clear hK2 K2
 refine wp_seq_k fun K3 hK3 => ?_
 refine wp_plain_inv 6 (specs [Is (.pointer (some ⟨g2_1, 0, none⟩)), Rw (x1), Is (.pointer (some ⟨g3_1, 1, none⟩)), Rw (y2), Rw ((x1) * (y2)), Rw ((x1) * (y2))]) (specs_stb ⟨Is.stb _, Rw.stb _, Is.stb _, Rw.stb _, Rw.stb _, Rw.stb _, trivial⟩) (by kernel_rfl) ?_ ?_
 ·refine ⟨fun a w hB hfr hdep => Step.plain rfl (dFa35 g2_1 0 (by decide) rfl (hfr 2 (by kernel_rfl))),
   fun a w hB hfr hdep => Step.plain rfl (dLoadR0 (Rw.stb _ _ _ _ hb2 (Rw.stb _ _ _ _ hb1 hx1)) hB (Rw.stb _ _ _ _ hb2 (Rw.stb _ _ _ _ hb1 hy1)) (block_below hB (lt_of_heap m2_1__2) m2_1__2) rfl (hdep 0 14 (by kernel_rfl))),
   fun a w hB hfr hdep => Step.plain rfl (dFa35 g3_1 1 (by decide) rfl (hfr 3 (by kernel_rfl))),
   fun a w hB hfr hdep => Step.plain rfl (dLoadR1 (Rw.stb _ _ _ _ hb2 (Rw.stb _ _ _ _ hb1 hx2)) hB (Rw.stb _ _ _ _ hb2 (Rw.stb _ _ _ _ hb1 hy2)) (block_below hB (lt_of_heap m3_1__2) m3_1__2) rfl (hdep 2 16 (by kernel_rfl))),
   fun a w hB hfr hdep => Step.plain rfl (Does.call 52 #[(a.eval (.tmp 15)), (a.eval (.tmp 17))] (by kernel_rfl) (rMul w (hdep 1 15 (by kernel_rfl)) (hdep 3 17 (by kernel_rfl)))),
   fun a w hB hfr hdep => Step.plain rfl (dAssign (R := Rw ((x1) * (y2))) rfl (hdep 4 18 (by kernel_rfl))), trivial⟩
 intro u3 hb3
 simp only [List.take, List.drop, FinAll, Act.put, lA, lS, lZ]
 rintro _ rfl v15_3 h15_3 _ rfl v17_3 h17_3 v18_3 h18_3 v6_3 h6_3
 have hO3 := (hO2).trans (hb3.mono (hO2).size)
 have m2_1__3 := block_below hb3 (lt_of_heap m2_1__2) m2_1__2
 have m3_1__3 := block_below hb3 (lt_of_heap m3_1__2) m3_1__2
 have m4_1__3 := block_below hb3 (lt_of_heap m4_1__2) m4_1__2
 refine hK3 _ _ ?_
 clear hK3 K3
 refine wp_seq_k fun K4 hK4 => ?_
 refine wp_plain_inv 6 (specs [Is (.pointer (some ⟨g2_1, 1, none⟩)), Rw (y1), Is (.pointer (some ⟨g3_1, 0, none⟩)), Rw (x2), Rw ((y1) * (x2)), Rw ((y1) * (x2))]) (specs_stb ⟨Is.stb _, Rw.stb _, Is.stb _, Rw.stb _, Rw.stb _, Rw.stb _, trivial⟩) (by kernel_rfl) ?_ ?_
 ·refine ⟨fun a w hB hfr hdep => Step.plain rfl (dFa35 g2_1 1 (by decide) rfl (hfr 2 (by kernel_rfl))),
   fun a w hB hfr hdep => Step.plain rfl (dLoadR1 (Rw.stb _ _ _ _ hb3 (Rw.stb _ _ _ _ hb2 (Rw.stb _ _ _ _ hb1 hx1))) hB (Rw.stb _ _ _ _ hb3 (Rw.stb _ _ _ _ hb2 (Rw.stb _ _ _ _ hb1 hy1))) (block_below hB (lt_of_heap m2_1__3) m2_1__3) rfl (hdep 0 19 (by kernel_rfl))),
   fun a w hB hfr hdep => Step.plain rfl (dFa35 g3_1 0 (by decide) rfl (hfr 3 (by kernel_rfl))),
   fun a w hB hfr hdep => Step.plain rfl (dLoadR0 (Rw.stb _ _ _ _ hb3 (Rw.stb _ _ _ _ hb2 (Rw.stb _ _ _ _ hb1 hx2))) hB (Rw.stb _ _ _ _ hb3 (Rw.stb _ _ _ _ hb2 (Rw.stb _ _ _ _ hb1 hy2))) (block_below hB (lt_of_heap m3_1__3) m3_1__3) rfl (hdep 2 21 (by kernel_rfl))),
   fun a w hB hfr hdep => Step.plain rfl (Does.call 52 #[(a.eval (.tmp 20)), (a.eval (.tmp 22))] (by kernel_rfl) (rMul w (hdep 1 20 (by kernel_rfl)) (hdep 3 22 (by kernel_rfl)))),
   fun a w hB hfr hdep => Step.plain rfl (dAssign (R := Rw ((y1) * (x2))) rfl (hdep 4 23 (by kernel_rfl))), trivial⟩
 intro u4 hb4
 simp only [List.take, List.drop, FinAll, Act.put, lA, lS, lZ]
 rintro _ rfl v20_4 h20_4 _ rfl v22_4 h22_4 v23_4 h23_4 v7_4 h7_4
 have hO4 := (hO3).trans (hb4.mono (hO3).size)
 have m2_1__4 := block_below hb4 (lt_of_heap m2_1__3) m2_1__3
 have m3_1__4 := block_below hb4 (lt_of_heap m3_1__3) m3_1__3
 have m4_1__4 := block_below hb4 (lt_of_heap m4_1__3) m4_1__3
 refine hK4 _ _ ?_
 clear hK4 K4
 refine wp_seq_k fun K5 hK5 => ?_
 refine wp_plain_inv 6 (specs [Is (.pointer (some ⟨g2_1, 1, none⟩)), Rw (y1), Is (.pointer (some ⟨g3_1, 1, none⟩)), Rw (y2), Rw ((y1) * (y2)), Rw ((y1) * (y2))]) (specs_stb ⟨Is.stb _, Rw.stb _, Is.stb _, Rw.stb _, Rw.stb _, Rw.stb _, trivial⟩) (by kernel_rfl) ?_ ?_
 ·refine ⟨fun a w hB hfr hdep => Step.plain rfl (dFa35 g2_1 1 (by decide) rfl (hfr 2 (by kernel_rfl))),
   fun a w hB hfr hdep => Step.plain rfl (dLoadR1 (Rw.stb _ _ _ _ hb4 (Rw.stb _ _ _ _ hb3 (Rw.stb _ _ _ _ hb2 (Rw.stb _ _ _ _ hb1 hx1)))) hB (Rw.stb _ _ _ _ hb4 (Rw.stb _ _ _ _ hb3 (Rw.stb _ _ _ _ hb2 (Rw.stb _ _ _ _ hb1 hy1)))) (block_below hB (lt_of_heap m2_1__4) m2_1__4) rfl (hdep 0 24 (by kernel_rfl))),
   fun a w hB hfr hdep => Step.plain rfl (dFa35 g3_1 1 (by decide) rfl (hfr 3 (by kernel_rfl))),
   fun a w hB hfr hdep => Step.plain rfl (dLoadR1 (Rw.stb _ _ _ _ hb4 (Rw.stb _ _ _ _ hb3 (Rw.stb _ _ _ _ hb2 (Rw.stb _ _ _ _ hb1 hx2)))) hB (Rw.stb _ _ _ _ hb4 (Rw.stb _ _ _ _ hb3 (Rw.stb _ _ _ _ hb2 (Rw.stb _ _ _ _ hb1 hy2)))) (block_below hB (lt_of_heap m3_1__4) m3_1__4) rfl (hdep 2 26 (by kernel_rfl))),
   fun a w hB hfr hdep => Step.plain rfl (Does.call 52 #[(a.eval (.tmp 25)), (a.eval (.tmp 27))] (by kernel_rfl) (rMul w (hdep 1 25 (by kernel_rfl)) (hdep 3 27 (by kernel_rfl)))),
   fun a w hB hfr hdep => Step.plain rfl (dAssign (R := Rw ((y1) * (y2))) rfl (hdep 4 28 (by kernel_rfl))), trivial⟩
 intro u5 hb5
 simp only [List.take, List.drop, FinAll, Act.put, lA, lS, lZ]
 rintro _ rfl v25_5 h25_5 _ rfl v27_5 h27_5 v28_5 h28_5 v8_5 h8_5
 have hO5 := (hO4).trans (hb5.mono (hO4).size)
 have m2_1__5 := block_below hb5 (lt_of_heap m2_1__4) m2_1__4
 have m3_1__5 := block_below hb5 (lt_of_heap m3_1__4) m3_1__4
 have m4_1__5 := block_below hb5 (lt_of_heap m4_1__4) m4_1__4
 refine hK5 _ _ ?_
 clear hK5 K5
 refine wp_seq_k fun K6 hK6 => ?_
 refine wp_plain_inv 6 (specs [Is (.pointer (some ⟨g2_1, 0, none⟩)), Rw (x1), Is (.pointer (some ⟨g3_1, 0, none⟩)), Rw (x2), Rw ((x1) * (x2)), Rw ((x1) * (x2))]) (specs_stb ⟨Is.stb _, Rw.stb _, Is.stb _, Rw.stb _, Rw.stb _, Rw.stb _, trivial⟩) (by kernel_rfl) ?_ ?_
 ·refine ⟨fun a w hB hfr hdep => Step.plain rfl (dFa35 g2_1 0 (by decide) rfl (hfr 2 (by kernel_rfl))),
   fun a w hB hfr hdep => Step.plain rfl (dLoadR0 (Rw.stb _ _ _ _ hb5 (Rw.stb _ _ _ _ hb4 (Rw.stb _ _ _ _ hb3 (Rw.stb _ _ _ _ hb2 (Rw.stb _ _ _ _ hb1 hx1))))) hB (Rw.stb _ _ _ _ hb5 (Rw.stb _ _ _ _ hb4 (Rw.stb _ _ _ _ hb3 (Rw.stb _ _ _ _ hb2 (Rw.stb _ _ _ _ hb1 hy1))))) (block_below hB (lt_of_heap m2_1__5) m2_1__5) rfl (hdep 0 29 (by kernel_rfl))),
   fun a w hB hfr hdep => Step.plain rfl (dFa35 g3_1 0 (by decide) rfl (hfr 3 (by kernel_rfl))),
   fun a w hB hfr hdep => Step.plain rfl (dLoadR0 (Rw.stb _ _ _ _ hb5 (Rw.stb _ _ _ _ hb4 (Rw.stb _ _ _ _ hb3 (Rw.stb _ _ _ _ hb2 (Rw.stb _ _ _ _ hb1 hx2))))) hB (Rw.stb _ _ _ _ hb5 (Rw.stb _ _ _ _ hb4 (Rw.stb _ _ _ _ hb3 (Rw.stb _ _ _ _ hb2 (Rw.stb _ _ _ _ hb1 hy2))))) (block_below hB (lt_of_heap m3_1__5) m3_1__5) rfl (hdep 2 31 (by kernel_rfl))),
   fun a w hB hfr hdep => Step.plain rfl (Does.call 52 #[(a.eval (.tmp 30)), (a.eval (.tmp 32))] (by kernel_rfl) (rMul w (hdep 1 30 (by kernel_rfl)) (hdep 3 32 (by kernel_rfl)))),
   fun a w hB hfr hdep => Step.plain rfl (dAssign (R := Rw ((x1) * (x2))) rfl (hdep 4 33 (by kernel_rfl))), trivial⟩
 intro u6 hb6
 simp only [List.take, List.drop, FinAll, Act.put, lA, lS, lZ]
 rintro _ rfl v30_6 h30_6 _ rfl v32_6 h32_6 v33_6 h33_6 v9_6 h9_6
 have hO6 := (hO5).trans (hb6.mono (hO5).size)
 have m2_1__6 := block_below hb6 (lt_of_heap m2_1__5) m2_1__5
 have m3_1__6 := block_below hb6 (lt_of_heap m3_1__5) m3_1__5
 have m4_1__6 := block_below hb6 (lt_of_heap m4_1__5) m4_1__5
 refine hK6 _ _ ?_
 clear hK6 K6
 refine wp_seq_k fun K7 hK7 => ?_
 refine wp_plain_inv 6 (specs [Rw (dd), Rw ((x1) * (x2)), Rw ((y1) * (y2)), Rw (((x1) * (x2)) * ((y1) * (y2))), Rw ((dd) * (((x1) * (x2)) * ((y1) * (y2)))), Rw ((dd) * (((x1) * (x2)) * ((y1) * (y2))))]) (specs_stb ⟨Rw.stb _, Rw.stb _, Rw.stb _, Rw.stb _, Rw.stb _, Rw.stb _, trivial⟩) (by kernel_rfl) ?_ ?_
 ·refine ⟨fun a w hB hfr hdep => Step.plain rfl (Does.call 49 #[] (by kernel_rfl) (rD w)),
   fun a w hB hfr hdep => Step.plain rfl (dMove (R := Rw ((x1) * (x2))) rfl (use (hfr 9 (by kernel_rfl)) ((Rw.stb _) _ _ _ hB h9_6))),
   fun a w hB hfr hdep => Step.plain rfl (dMove (R := Rw ((y1) * (y2))) rfl (use (hfr 8 (by kernel_rfl)) ((Rw.stb _) _ _ _ hB ((Rw.stb _) _ _ _ hb6 h8_5)))),
   fun a w hB hfr hdep => Step.plain rfl (Does.call 52 #[(a.eval (.tmp 35)), (a.eval (.tmp 36))] (by kernel_rfl) (rMul w (hdep 1 35 (by kernel_rfl)) (hdep 2 36 (by kernel_rfl)))),
   fun a w hB hfr hdep => Step.plain rfl (Does.call 52 #[(a.eval (.tmp 34)), (a.eval (.tmp 37))] (by kernel_rfl) (rMul w (hdep 0 34 (by kernel_rfl)) (hdep 3 37 (by kernel_rfl)))),
   fun a w hB hfr hdep => Step.plain rfl (dAssign (R := Rw ((dd) * (((x1) * (x2)) * ((y1) * (y2))))) rfl (hdep 4 38 (by kernel_rfl))), trivial⟩
 intro u7 hb7
 simp only [List.take, List.drop, FinAll, Act.put, lA, lS, lZ]
 rintro v34_7 h34_7 v35_7 h35_7 v36_7 h36_7 v37_7 h37_7 v38_7 h38_7 v10_7 h10_7
 have hO7 := (hO6).trans (hb7.mono (hO6).size)
 have m2_1__7 := block_below hb7 (lt_of_heap m2_1__6) m2_1__6
 have m3_1__7 := block_below hb7 (lt_of_heap m3_1__6) m3_1__6
 have m4_1__7 := block_below hb7 (lt_of_heap m4_1__6) m4_1__6
 refine hK7 _ _ ?_
 clear hK7 K7
 refine wp_seq_k fun K8 hK8 => ?_
 refine wp_plain_inv 9 (specs [Rw ((x1) * (y2)), Rw ((y1) * (x2)), Rw (((x1) * (y2)) + ((y1) * (x2))), Rw (1), Rw ((dd) * (((x1) * (x2)) * ((y1) * (y2)))), Rw ((1) + ((dd) * (((x1) * (x2)) * ((y1) * (y2))))), Rw (fin ((1) + ((dd) * (((x1) * (x2)) * ((y1) * (y2)))))), Rw ((((x1) * (y2)) + ((y1) * (x2))) * (fin ((1) + ((dd) * (((x1) * (x2)) * ((y1) * (y2))))))), Rw ((((x1) * (y2)) + ((y1) * (x2))) * (fin ((1) + ((dd) * (((x1) * (x2)) * ((y1) * (y2)))))))]) (specs_stb ⟨Rw.stb _, Rw.stb _, Rw.stb _, Rw.stb _, Rw.stb _, Rw.stb _, Rw.stb _, Rw.stb _, Rw.stb _, trivial⟩) (by kernel_rfl) ?_ ?_
 ·refine ⟨fun a w hB hfr hdep => Step.plain rfl (dMove (R := Rw ((x1) * (y2))) rfl (use (hfr 6 (by kernel_rfl)) ((Rw.stb _) _ _ _ hB ((Rw.stb _) _ _ _ hb7 ((Rw.stb _) _ _ _ hb6 ((Rw.stb _) _ _ _ hb5 ((Rw.stb _) _ _ _ hb4 h6_3))))))),
   fun a w hB hfr hdep => Step.plain rfl (dMove (R := Rw ((y1) * (x2))) rfl (use (hfr 7 (by kernel_rfl)) ((Rw.stb _) _ _ _ hB ((Rw.stb _) _ _ _ hb7 ((Rw.stb _) _ _ _ hb6 ((Rw.stb _) _ _ _ hb5 h7_4)))))),
   fun a w hB hfr hdep => Step.plain rfl (Does.call 64 #[(a.eval (.tmp 39)), (a.eval (.tmp 40))] (by kernel_rfl) (rAdd w (hdep 0 39 (by kernel_rfl)) (hdep 1 40 (by kernel_rfl)))),
   fun a w hB hfr hdep => Step.plain rfl (dMove (R := Rw (1)) rfl (use (hfr 5 (by kernel_rfl)) ((Rw.stb _) _ _ _ hB ((Rw.stb _) _ _ _ hb7 ((Rw.stb _) _ _ _ hb6 ((Rw.stb _) _ _ _ hb5 ((Rw.stb _) _ _ _ hb4 ((Rw.stb _) _ _ _ hb3 h5_2)))))))),
   fun a w hB hfr hdep => Step.plain rfl (dMove (R := Rw ((dd) * (((x1) * (x2)) * ((y1) * (y2))))) rfl (use (hfr 10 (by kernel_rfl)) ((Rw.stb _) _ _ _ hB h10_7))),
   fun a w hB hfr hdep => Step.plain rfl (Does.call 64 #[(a.eval (.tmp 42)), (a.eval (.tmp 43))] (by kernel_rfl) (rAdd w (hdep 3 42 (by kernel_rfl)) (hdep 4 43 (by kernel_rfl)))),
   fun a w hB hfr hdep => Step.plain rfl (Does.call 51 #[(a.eval (.tmp 44))] (by kernel_rfl) (rInv w (hdep 5 44 (by kernel_rfl)))),
   fun a w hB hfr hdep => Step.plain rfl (Does.call 52 #[(a.eval (.tmp 41)), (a.eval (.tmp 45))] (by kernel_rfl) (rMul w (hdep 2 41 (by kernel_rfl)) (hdep 6 45 (by kernel_rfl)))),
   fun a w hB hfr hdep => Step.plain rfl (dAssign (R := Rw ((((x1) * (y2)) + ((y1) * (x2))) * (fin ((1) + ((dd) * (((x1) * (x2)) * ((y1) * (y2)))))))) rfl (hdep 7 46 (by kernel_rfl))), trivial⟩
 intro u8 hb8
 simp only [List.take, List.drop, FinAll, Act.put, lA, lS, lZ]
 rintro v39_8 h39_8 v40_8 h40_8 v41_8 h41_8 v42_8 h42_8 v43_8 h43_8 v44_8 h44_8 v45_8 h45_8 v46_8 h46_8 v11_8 h11_8
 have hO8 := (hO7).trans (hb8.mono (hO7).size)
 have m2_1__8 := block_below hb8 (lt_of_heap m2_1__7) m2_1__7
 have m3_1__8 := block_below hb8 (lt_of_heap m3_1__7) m3_1__7
 have m4_1__8 := block_below hb8 (lt_of_heap m4_1__7) m4_1__7
 refine hK8 _ _ ?_
 clear hK8 K8
 refine wp_seq_k fun K9 hK9 => ?_
 refine wp_plain_inv 9 (specs [Rw ((y1) * (y2)), Rw ((x1) * (x2)), Rw (((y1) * (y2)) + ((x1) * (x2))), Rw (1), Rw ((dd) * (((x1) * (x2)) * ((y1) * (y2)))), Rw ((1) - ((dd) * (((x1) * (x2)) * ((y1) * (y2))))), Rw (fin ((1) - ((dd) * (((x1) * (x2)) * ((y1) * (y2)))))), Rw ((((y1) * (y2)) + ((x1) * (x2))) * (fin ((1) - ((dd) * (((x1) * (x2)) * ((y1) * (y2))))))), Rw ((((y1) * (y2)) + ((x1) * (x2))) * (fin ((1) - ((dd) * (((x1) * (x2)) * ((y1) * (y2)))))))]) (specs_stb ⟨Rw.stb _, Rw.stb _, Rw.stb _, Rw.stb _, Rw.stb _, Rw.stb _, Rw.stb _, Rw.stb _, Rw.stb _, trivial⟩) (by kernel_rfl) ?_ ?_
 ·refine ⟨fun a w hB hfr hdep => Step.plain rfl (dMove (R := Rw ((y1) * (y2))) rfl (use (hfr 8 (by kernel_rfl)) ((Rw.stb _) _ _ _ hB ((Rw.stb _) _ _ _ hb8 ((Rw.stb _) _ _ _ hb7 ((Rw.stb _) _ _ _ hb6 h8_5)))))),
   fun a w hB hfr hdep => Step.plain rfl (dMove (R := Rw ((x1) * (x2))) rfl (use (hfr 9 (by kernel_rfl)) ((Rw.stb _) _ _ _ hB ((Rw.stb _) _ _ _ hb8 ((Rw.stb _) _ _ _ hb7 h9_6))))),
   fun a w hB hfr hdep => Step.plain rfl (Does.call 64 #[(a.eval (.tmp 47)), (a.eval (.tmp 48))] (by kernel_rfl) (rAdd w (hdep 0 47 (by kernel_rfl)) (hdep 1 48 (by kernel_rfl)))),
   fun a w hB hfr hdep => Step.plain rfl (dMove (R := Rw (1)) rfl (use (hfr 5 (by kernel_rfl)) ((Rw.stb _) _ _ _ hB ((Rw.stb _) _ _ _ hb8 ((Rw.stb _) _ _ _ hb7 ((Rw.stb _) _ _ _ hb6 ((Rw.stb _) _ _ _ hb5 ((Rw.stb _) _ _ _ hb4 ((Rw.stb _) _ _ _ hb3 h5_2))))))))),
   fun a w hB hfr hdep => Step.plain rfl (dMove (R := Rw ((dd) * (((x1) * (x2)) * ((y1) * (y2))))) rfl (use (hfr 10 (by kernel_rfl)) ((Rw.stb _) _ _ _ hB ((Rw.stb _) _ _ _ hb8 h10_7)))),
   fun a w hB hfr hdep => Step.plain rfl (Does.call 27 #[(a.eval (.tmp 50)), (a.eval (.tmp 51))] (by kernel_rfl) (rSub w (hdep 3 50 (by kernel_rfl)) (hdep 4 51 (by kernel_rfl)))),
   fun a w hB hfr hdep => Step.plain rfl (Does.call 51 #[(a.eval (.tmp 52))] (by kernel_rfl) (rInv w (hdep 5 52 (by kernel_rfl)))),
   fun a w hB hfr hdep => Step.plain rfl (Does.call 52 #[(a.eval (.tmp 49)), (a.eval (.tmp 53))] (by kernel_rfl) (rMul w (hdep 2 49 (by kernel_rfl)) (hdep 6 53 (by kernel_rfl)))),
   fun a w hB hfr hdep => Step.plain rfl (dAssign (R := Rw ((((y1) * (y2)) + ((x1) * (x2))) * (fin ((1) - ((dd) * (((x1) * (x2)) * ((y1) * (y2)))))))) rfl (hdep 7 54 (by kernel_rfl))), trivial⟩
 intro u9 hb9
 simp only [List.take, List.drop, FinAll, Act.put, lA, lS, lZ]
 rintro v47_9 h47_9 v48_9 h48_9 v49_9 h49_9 v50_9 h50_9 v51_9 h51_9 v52_9 h52_9 v53_9 h53_9 v54_9 h54_9 v12_9 h12_9
 have hO9 := (hO8).trans (hb9.mono (hO8).size)
 have m2_1__9 := block_below hb9 (lt_of_heap m2_1__8) m2_1__8
 have m3_1__9 := block_below hb9 (lt_of_heap m3_1__8) m3_1__8
 have m4_1__9 := block_below hb9 (lt_of_heap m4_1__8) m4_1__8
 refine hK9 _ _ ?_
 clear hK9 K9
 refine wp_seq_k fun K10 hK10 => ?_
 refine wp_plain_inv 3 (specs [Rw ((((x1) * (y2)) + ((y1) * (x2))) * (fin ((1) + ((dd) * (((x1) * (x2)) * ((y1) * (y2))))))), Rw ((((y1) * (y2)) + ((x1) * (x2))) * (fin ((1) - ((dd) * (((x1) * (x2)) * ((y1) * (y2))))))), RPt ((((x1) * (y2)) + ((y1) * (x2))) * (fin ((1) + ((dd) * (((x1) * (x2)) * ((y1) * (y2))))))) ((((y1) * (y2)) + ((x1) * (x2))) * (fin ((1) - ((dd) * (((x1) * (x2)) * ((y1) * (y2)))))))]) (specs_stb ⟨Rw.stb _, Rw.stb _, RPt.stb _ _, trivial⟩) (by kernel_rfl) ?_ ?_
 ·refine ⟨fun a w hB hfr hdep => Step.plain rfl (dMove (R := Rw ((((x1) * (y2)) + ((y1) * (x2))) * (fin ((1) + ((dd) * (((x1) * (x2)) * ((y1) * (y2)))))))) rfl (use (hfr 11 (by kernel_rfl)) ((Rw.stb _) _ _ _ hB ((Rw.stb _) _ _ _ hb9 h11_8)))),
   fun a w hB hfr hdep => Step.plain rfl (dMove (R := Rw ((((y1) * (y2)) + ((x1) * (x2))) * (fin ((1) - ((dd) * (((x1) * (x2)) * ((y1) * (y2)))))))) rfl (use (hfr 12 (by kernel_rfl)) ((Rw.stb _) _ _ _ hB h12_9))),
   fun a w hB hfr hdep => Step.plain rfl (dBuild35 rfl (hdep 0 55 (by kernel_rfl)) (hdep 1 56 (by kernel_rfl))), trivial⟩
 intro u10 hb10
 simp only [List.take, List.drop, FinAll, Act.put, lA, lS, lZ]
 rintro v55_10 h55_10 v56_10 h56_10 _ ⟨p57_10, q57_10, rfl, x57_10, y57_10⟩
 have om4_1__9 := block_below hb10 (lt_of_heap m4_1__9) m4_1__9
 refine wpList_store_row rfl 45 (.tmp 4) (.tmp 57) rfl _ (#[p57_10, q57_10]) rfl rfl 45 _ om4_1__9 info35 rfl (rpt_one x57_10 y57_10) ?_
 have xx := Rw.setRow x57_10 om4_1__9 nz35 (#[p57_10, q57_10])
 have yy := Rw.setRow y57_10 om4_1__9 nz35 (#[p57_10, q57_10])
 have n4_10 := setRow_heap _ _ _ (#[p57_10, q57_10]) _ _ om4_1__9
 have hO10 := setRow_below (hO9.trans (hb10.mono (hO9).size)) lwm4_1 (#[p57_10, q57_10])
 refine hK10 _ _ ?_
 clear hK10 K10
 refine wp_ret ?_
 refine bodyPost_ret (v := .agg (#[p57_10, q57_10])) ?_ rfl ⟨_, rfl, hO10, ⟨_, _, rfl, xx, yy⟩⟩
 exact results_cell_row Tryz.results29 _ _ _ 45 _ (0, 0) _ rfl n4_10 Tryz.underlying45 rfl (by first | exact info26 | exact info29 | exact info35 | (rw [(Pt4.cells (by assumption)).1]; exact info29) | (rw [cellsP_size (by assumption)]; exact info29))
theorem rAddPt {p q : Pt} {v1 v2 : Value} (w : World) (h1 : RPt p.x p.y v1 w) (h2 : RPt q.x q.y v2 w) : Ret 29 #[v1, v2] w (RPt (p.add q).x (p.add q).y) := by
 have h := rAddP w h1 h2
 have e1 : 1 + dd * ((p.x * q.x) * (p.y * q.y)) = 1 + dd * (p.x * q.x) * (p.y * q.y) := by grobner
 have e2 : 1 - dd * ((p.x * q.x) * (p.y * q.y)) = 1 - dd * (p.x * q.x) * (p.y * q.y) := by grobner
 rw [e1, e2] at h
 exact h
end Go.Proofs.YtabgihjffjlfiaaGreatDoor
