/-
  The walk of lastBlocks, at words of 32 bits.
-/
import Derived.Test.YtomfnkbghlpkeaaDoorD32
import Derived.Laws.CopyOwn
import Derived.Deep.MidRow
set_option linter.unusedVariables false
namespace Go.Proofs.YtomfnkbghlpkeaaDoor
open Go.RowKit Go.Sort Go.BigFrame
def z64 : List Nat := List.replicate 64 0
def z128 : List Nat := List.replicate 128 0
def CopyFrom (w : World) (a : Option Addr) (rest : List Nat) : Prop := 0 < (ints .u8 rest).toList.length → ∃ ad, a = some ad ∧ ∀ j v, (ints .u8 rest).toList[j]? = some v → w.cell? (ad.add j) = some v
theorem shr8 (L k : Nat) : (L : Int) * (8 : Int) / 2 ^ (8 * k) % (256 : Int) = ((((L * 8) >>> (8 * k)) % 256 : Nat) : Int) := by
  rw [Nat.shiftRight_eq_div_pow]; simp
theorem splice_pad (z : List Nat) (sz : Nat) (hz : z = List.replicate sz 0) (rest : List Nat) : (splice (ints .u8 z).toList 0 (ints .u8 rest).toList).toArray = ints .u8 (rest ++ List.replicate (sz - rest.length) 0) := by
  subst hz
  simp [splice, ints, List.drop_replicate]
theorem after_copy (z : List Nat) (sz : Nat) (hz : z = List.replicate sz 0) (rest : List Nat) (rl : Nat) (hlen : Hid (rest.length = rl)) (hr : rl < sz) {w2 : World} {g : Nat} (h : Hid (w2.heap[g]? = some (.cells (splice (ints .u8 z).toList 0 (ints .u8 rest).toList).toArray 5 (0, 0)))) :
    ∃ v, w2.cell? ⟨g, rl, none⟩ = some v ∧ w2.frozen? ⟨g, rl, none⟩ = false := by
  have h' := h.out
  rw [splice_pad z sz hz] at h'
  exact ⟨_, cell_ints h' rl (by have := hlen.out; simp; omega), free_ints h' rl⟩
theorem after_row (z : List Nat) (sz : Nat) (hz : z = List.replicate sz 0) (rest : List Nat) (rl : Nat) (hlen : Hid (rest.length = rl)) (hr : rl < sz) {w2 : World} {g : Nat} (h : Hid (w2.heap[g]? = some (.cells (splice (ints .u8 z).toList 0 (ints .u8 rest).toList).toArray 5 (0, 0)))) :
    (w2.setCell ⟨g, rl, none⟩ (.int .u8 128)).heap[g]? = some (.cells (ints .u8 (padB sz rest)) 5 (0, 0)) := by
  have h' := h.out
  rw [splice_pad z sz hz] at h'
  have := set_ints h' rl 128
  refine this.trans ?_; rw [← hlen.out]; rfl
set_option maxRecDepth 100000
set_option maxHeartbeats 2000000

theorem lastBlocks32_64 (a : Option Addr) (rc : Nat) (rest : List Nat) (L : Nat) (w : World) (rl : Nat) (hrl0 : rest.length = rl) (hrl : rl < 64) (hsz : rl + 9 ≤ 64) (hb256 : ∀ j, rest.getD j 0 < 256) (hv : View w a rest) (hL : L ≤ 100000000000000) :
    Calls Tryd.prog 23 #[.slice a rl rc, .int .i64 (L : Int), .agg shpA32] w fun e w' => ∃ g, e = .returned (.slice (some ⟨g, 0, none⟩) 64 64) ∧ Below w.heap.size w w' ∧ w'.heap[g]? = some (.cells (ints .u8 (lastB sh32 rest L)) 5 (0, 0)) := by
  have hlen : Hid (rest.length = rl) := hrl0
  clear hrl0
  have HL : Hid (lastB sh32 rest L = tailN 64 (L * 8) (padB 64 rest) 8) := by
    show lastB sh32 rest L = _
    unfold lastB
    simp only [sh32, hlen.out]
    rw [if_neg (by omega)]
  have hmk : ∀ w, (Instr.makeSlice 22 (.int .i64 64) (.int .i64 64)).run Tryd.prog w = .ok (.slice (some ⟨w.heap.size, 0, none⟩) 64 64) (w.alloc (.cells (ints .u8 z64) 5)) := fun _ => by kernel_rfl
  have hBB := blockBytes32 (w.alloc (.cells shpA32 33))
  have h1 : (Tryd.prog.info? 5).map (·.size) = some 1 := by kernel_rfl
  unfold shpA32 at hBB ⊢
  go_enter Tryd.func23, Tryd.ntmps23
  go_wp2_with fail
  refine hBB.mono ?_
  rintro e w1 ⟨rfl, hb1⟩
  have hr1 : w1.heap[w.heap.size]? = some (.cells shpA32 33 (0, 0)) := block_below hb1 (by simp) (heap_alloc_new _ _)
  have hB1 : Below w.heap.size w w1 := (below1 w _).trans (hb1.mono (by simp))
  have c0 := shp_at32 hr1 0 (.int .u64 32) rfl
  clear hBB hb1
  have hBg : w.heap.size ≤ w1.heap.size := hB1.size
  have hgn : (w1.alloc (.cells (ints .u8 z64) 5)).heap[w1.heap.size]? = some (.cells (ints .u8 z64).toList.toArray 5 (0, 0)) := heap_alloc_new _ _
  have hB2 : Below w.heap.size w (w1.alloc (.cells (ints .u8 z64) 5)) := hB1.alloc hB1.size _
  have hz : (ints .u8 z64).toList.length = 64 := by simp [ints, z64]
  have hcl : (ints .u8 rest).toList.length = Nat.min rl 64 := by rw [ints_list, List.length_map, hlen.out]; show rl = min rl 64; omega
  have h1c : ∀ v ∈ (ints .u8 rest).toList, v.oneCell' = true := fun v hv => by rw [ints_list] at hv; obtain ⟨x, _, rfl⟩ := List.mem_map.1 hv; rfl
  have hfit : 0 + (ints .u8 rest).toList.length ≤ (ints .u8 z64).toList.length := by rw [hcl, hz]; show 0 + min rl 64 ≤ 64; omega
  have hpos : CopyFrom (w1.alloc (.cells (ints .u8 z64) 5)) a rest := by
    intro h0
    obtain ⟨b, off, ha, hc⟩ := hv (by simpa [ints] using h0)
    refine ⟨_, ha, fun j v hj => ?_⟩
    have hb0 : b < w.heap.size := block_lt_of_cell (hc 0 (by simpa [ints] using h0))
    have hj' : j < rest.length := by
      by_cases h : j < rest.length
      · exact h
      · rw [ints_list, List.getElem?_eq_none (by simp; omega)] at hj; cases hj
    rw [Addr.add_mid, (hc.below hB2 hb0) j hj']
    rw [← hj, ints_list]
    simp [hj']
  go_wp2_with (refine wpList_copy_splice rfl (.tmp 27) (.tmp 28) 22 22 rfl 5 Tryd.underlying22 h1 _ _ _ _ _ _ rfl rfl w1.heap.size 0 (ints .u8 z64).toList 5 hgn (ints .u8 rest).toList hcl (fun h => ⟨rfl, hpos h⟩) hfit h1c w.heap.size w hB2 hBg ?_; intro w2 hw2 hB3; obtain ⟨v2, c2, f2⟩ := after_copy z64 64 rfl rest rl hlen (by omega) hw2)
  have hr2 := after_row z64 64 rfl rest rl hlen (by omega) hw2
  go_loopw [37] (fun i wr => ∃ k : Nat, k ≤ 8 ∧ i = .int .i64 (k : Int) ∧ Below w.heap.size w wr ∧ wr.heap[w1.heap.size]? = some (.cells (ints .u8 (tailN 64 (L * 8) (padB 64 rest) k)) 5 (0, 0))) (fun i _ => 8 - (intOf i).toNat)
  case atStart => exact ⟨0, by omega, rfl, hB3.setCell hBg _, hr2⟩
  case round =>
    obtain ⟨k, hk, rfl, hBr, hrr⟩ := hrel
    by_cases hlt : k < 8
    · obtain ⟨v3, c3⟩ : ∃ v, wr.cell? ⟨w1.heap.size, 64 - 1 - k, none⟩ = some v := ⟨_, cell_ints hrr (64 - 1 - k) (by rw [tailN_len, padB_len _ _ (by rw [hlen.out]; omega)]; omega)⟩
      have f3 := free_ints hrr (64 - 1 - k)
      have HN : Hid (Below w.heap.size w (wr.setCell ⟨w1.heap.size, 64 - 1 - k, none⟩ (.int .u8 ((((L * 8) >>> (8 * k)) % 256 : Nat) : Int))) ∧ (wr.setCell ⟨w1.heap.size, 64 - 1 - k, none⟩ (.int .u8 ((((L * 8) >>> (8 * k)) % 256 : Nat) : Int))).heap[w1.heap.size]? = some (.cells (ints .u8 (tailN 64 (L * 8) (padB 64 rest) (k + 1))) 5 (0, 0))) :=
        ⟨hBr.setCell hBg _, set_ints hrr _ _⟩
      clear hBr hrr c2 f2 hr2
      go_wp2
      go_roundw
      case rel => exact ⟨k + 1, by omega, by go_num, by rw [shr8]; exact HN.out.1, by rw [shr8]; exact HN.out.2⟩
      case measure => simp [intOf]; omega
    · obtain rfl : k = 8 := by omega
      clear c2 f2 hr2
      go_wp2
      go_ret
      exact ⟨w1.heap.size, rfl, hBr, by rw [HL.out]; exact hrr⟩

theorem lastBlocks32_128 (a : Option Addr) (rc : Nat) (rest : List Nat) (L : Nat) (w : World) (rl : Nat) (hrl0 : rest.length = rl) (hrl : rl < 64) (hsz : 64 < rl + 9) (hb256 : ∀ j, rest.getD j 0 < 256) (hv : View w a rest) (hL : L ≤ 100000000000000) :
    Calls Tryd.prog 23 #[.slice a rl rc, .int .i64 (L : Int), .agg shpA32] w fun e w' => ∃ g, e = .returned (.slice (some ⟨g, 0, none⟩) 128 128) ∧ Below w.heap.size w w' ∧ w'.heap[g]? = some (.cells (ints .u8 (lastB sh32 rest L)) 5 (0, 0)) := by
  have hlen : Hid (rest.length = rl) := hrl0
  clear hrl0
  have HL : Hid (lastB sh32 rest L = tailN 128 (L * 8) (padB 128 rest) 8) := by
    show lastB sh32 rest L = _
    unfold lastB
    simp only [sh32, hlen.out]
    rw [if_pos (by omega)]
  have hmk : ∀ w, (Instr.makeSlice 22 (.int .i64 128) (.int .i64 128)).run Tryd.prog w = .ok (.slice (some ⟨w.heap.size, 0, none⟩) 128 128) (w.alloc (.cells (ints .u8 z128) 5)) := fun _ => by kernel_rfl
  have hBB := blockBytes32 (w.alloc (.cells shpA32 33))
  have h1 : (Tryd.prog.info? 5).map (·.size) = some 1 := by kernel_rfl
  unfold shpA32 at hBB ⊢
  go_enter Tryd.func23, Tryd.ntmps23
  go_wp2_with fail
  refine hBB.mono ?_
  rintro e w1 ⟨rfl, hb1⟩
  have hr1 : w1.heap[w.heap.size]? = some (.cells shpA32 33 (0, 0)) := block_below hb1 (by simp) (heap_alloc_new _ _)
  have hB1 : Below w.heap.size w w1 := (below1 w _).trans (hb1.mono (by simp))
  have c0 := shp_at32 hr1 0 (.int .u64 32) rfl
  clear hBB hb1
  have hBg : w.heap.size ≤ w1.heap.size := hB1.size
  have hgn : (w1.alloc (.cells (ints .u8 z128) 5)).heap[w1.heap.size]? = some (.cells (ints .u8 z128).toList.toArray 5 (0, 0)) := heap_alloc_new _ _
  have hB2 : Below w.heap.size w (w1.alloc (.cells (ints .u8 z128) 5)) := hB1.alloc hB1.size _
  have hz : (ints .u8 z128).toList.length = 128 := by simp [ints, z128]
  have hcl : (ints .u8 rest).toList.length = Nat.min rl 128 := by rw [ints_list, List.length_map, hlen.out]; show rl = min rl 128; omega
  have h1c : ∀ v ∈ (ints .u8 rest).toList, v.oneCell' = true := fun v hv => by rw [ints_list] at hv; obtain ⟨x, _, rfl⟩ := List.mem_map.1 hv; rfl
  have hfit : 0 + (ints .u8 rest).toList.length ≤ (ints .u8 z128).toList.length := by rw [hcl, hz]; show 0 + min rl 128 ≤ 128; omega
  have hpos : CopyFrom (w1.alloc (.cells (ints .u8 z128) 5)) a rest := by
    intro h0
    obtain ⟨b, off, ha, hc⟩ := hv (by simpa [ints] using h0)
    refine ⟨_, ha, fun j v hj => ?_⟩
    have hb0 : b < w.heap.size := block_lt_of_cell (hc 0 (by simpa [ints] using h0))
    have hj' : j < rest.length := by
      by_cases h : j < rest.length
      · exact h
      · rw [ints_list, List.getElem?_eq_none (by simp; omega)] at hj; cases hj
    rw [Addr.add_mid, (hc.below hB2 hb0) j hj']
    rw [← hj, ints_list]
    simp [hj']
  go_wp2_with (refine wpList_copy_splice rfl (.tmp 27) (.tmp 28) 22 22 rfl 5 Tryd.underlying22 h1 _ _ _ _ _ _ rfl rfl w1.heap.size 0 (ints .u8 z128).toList 5 hgn (ints .u8 rest).toList hcl (fun h => ⟨rfl, hpos h⟩) hfit h1c w.heap.size w hB2 hBg ?_; intro w2 hw2 hB3; obtain ⟨v2, c2, f2⟩ := after_copy z128 128 rfl rest rl hlen (by omega) hw2)
  have hr2 := after_row z128 128 rfl rest rl hlen (by omega) hw2
  go_loopw [37] (fun i wr => ∃ k : Nat, k ≤ 8 ∧ i = .int .i64 (k : Int) ∧ Below w.heap.size w wr ∧ wr.heap[w1.heap.size]? = some (.cells (ints .u8 (tailN 128 (L * 8) (padB 128 rest) k)) 5 (0, 0))) (fun i _ => 8 - (intOf i).toNat)
  case atStart => exact ⟨0, by omega, rfl, hB3.setCell hBg _, hr2⟩
  case round =>
    obtain ⟨k, hk, rfl, hBr, hrr⟩ := hrel
    by_cases hlt : k < 8
    · obtain ⟨v3, c3⟩ : ∃ v, wr.cell? ⟨w1.heap.size, 128 - 1 - k, none⟩ = some v := ⟨_, cell_ints hrr (128 - 1 - k) (by rw [tailN_len, padB_len _ _ (by rw [hlen.out]; omega)]; omega)⟩
      have f3 := free_ints hrr (128 - 1 - k)
      have HN : Hid (Below w.heap.size w (wr.setCell ⟨w1.heap.size, 128 - 1 - k, none⟩ (.int .u8 ((((L * 8) >>> (8 * k)) % 256 : Nat) : Int))) ∧ (wr.setCell ⟨w1.heap.size, 128 - 1 - k, none⟩ (.int .u8 ((((L * 8) >>> (8 * k)) % 256 : Nat) : Int))).heap[w1.heap.size]? = some (.cells (ints .u8 (tailN 128 (L * 8) (padB 128 rest) (k + 1))) 5 (0, 0))) :=
        ⟨hBr.setCell hBg _, set_ints hrr _ _⟩
      clear hBr hrr c2 f2 hr2
      go_wp2
      go_roundw
      case rel => exact ⟨k + 1, by omega, by go_num, by rw [shr8]; exact HN.out.1, by rw [shr8]; exact HN.out.2⟩
      case measure => simp [intOf]; omega
    · obtain rfl : k = 8 := by omega
      clear c2 f2 hr2
      go_wp2
      go_ret
      exact ⟨w1.heap.size, rfl, hBr, by rw [HL.out]; exact hrr⟩

end Go.Proofs.YtomfnkbghlpkeaaDoor
