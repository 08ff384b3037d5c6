/-
  The walk of least.
-/
import Derived.Test.YtpfcboakafbnlaaDoorM
set_option linter.unusedVariables false
namespace Go.Proofs.YtpfcboakafbnlaaDoor
open Go.RowKit Go.Sort Go.BigFrame
set_option maxRecDepth 100000
set_option maxHeartbeats 4000000
def RelL (w wr : World) (g : Nat) (L : List Nat) : Prop :=
  Below w.heap.size w wr ∧ w.heap.size + 1 < g ∧ wr.heap[w.heap.size + 1]? = some (.cells z5 27 (0, 0)) ∧ wr.heap[g]? = some (.cells (ints .u64 L) 27 (0, 0))
theorem RelL.set {w wr : World} {g : Nat} {L : List Nat} (h : RelL w wr g L) (k v : Nat) : RelL w (wr.setCell ⟨g, k, none⟩ (.int .u64 (v : Int))) g (L.set k v) :=
  ⟨h.1.setCell (by have := h.2.1; show w.heap.size ≤ g; omega) _, h.2.1, (heap_setCell_other _ _ _ _ (by have := h.2.1; show w.heap.size + 1 ≠ g; omega)).trans h.2.2.1, set_ints h.2.2.2 _ _⟩
theorem idx24 (s0 s1 s2 s3 s4 k : Nat) (h : k < 5) (w : World) : (Instr.index 25 (.agg #[.int .u64 (s0 : Int), .int .u64 (s1 : Int), .int .u64 (s2 : Int), .int .u64 (s3 : Int), .int .u64 (s4 : Int)]) (.int .i64 (k : Int))).run Tryd.prog w = .ok (.int .u64 (([s0, s1, s2, s3, s4].getD k 0 : Nat) : Int)) w := by
  have hk5 : k = 0 ∨ k = 1 ∨ k = 2 ∨ k = 3 ∨ k = 4 := by omega
  rcases hk5 with rfl | rfl | rfl | rfl | rfl <;> (show _ = _; kernel_rfl)
theorem ovf_le {l : List Nat} (h : ∀ j, l.getD j 0 ≤ 2251799813685266) : ∀ k, ovf l k ≤ 19
  | 0 => by simp [ovf]
  | k + 1 => by have h1 := h k; have h2 := ovf_le h k; unfold ovf; omega
theorem cyf_le {l : List Nat} {c : Nat} (hc : c ≤ 1) (h : ∀ j, l.getD j 0 ≤ 2251799813685266) : ∀ k, cyf l c k ≤ 19
  | 0 => by simp [cyf]; omega
  | k + 1 => by have h1 := h k; have h2 := cyf_le hc h k; unfold cyf; omega
theorem getD5 {s0 s1 s2 s3 s4 : Nat} (l0 : s0 ≤ 2251799813685266) (l1 : s1 ≤ 2251799813685248) (l2 : s2 ≤ 2251799813685248) (l3 : s3 ≤ 2251799813685248) (l4 : s4 ≤ 2251799813685248) : ∀ j, [s0, s1, s2, s3, s4].getD j 0 ≤ 2251799813685266
  | 0 => by simp; omega
  | 1 => by simp; omega
  | 2 => by simp; omega
  | 3 => by simp; omega
  | 4 => by simp; omega
  | j + 5 => by simp
theorem least36' (x0 x1 x2 x3 x4 s0 s1 s2 s3 s4 : Nat) (w : World) (h0 : x0 < 4503599627370496) (h1 : x1 < 4503599627370496) (h2 : x2 < 4503599627370496) (h3 : x3 < 4503599627370496) (h4 : x4 < 4503599627370496)
    (hs : Hid (carE x0 x1 x2 x3 x4 = ⟨s0, s1, s2, s3, s4⟩)) (l0 : s0 ≤ 2251799813685266) (l1 : s1 ≤ 2251799813685248) (l2 : s2 ≤ 2251799813685248) (l3 : s3 ≤ 2251799813685248) (l4 : s4 ≤ 2251799813685248) (l : List Nat) (HL : Hid (l = [s0, s1, s2, s3, s4])) :
    Calls Tryd.prog 59 #[.agg #[.int .u64 (x0 : Int), .int .u64 (x1 : Int), .int .u64 (x2 : Int), .int .u64 (x3 : Int), .int .u64 (x4 : Int)]] w fun e w' =>
      e = .returned (.agg (ints .u64 (lsf l (ovf l 5) 5))) ∧ Below w.heap.size w w' := by
  have hc := fun w1 => carried39 x0 x1 x2 x3 x4 w1 (by omega) (by omega) (by omega) (by omega) (by omega)
  rw [hs.out] at hc
  simp only [elc] at hc
  go_enter Tryd.func59, Tryd.ntmps59
  go_wp2_with fail
  refine (hc _).mono ?_
  rintro e w1 ⟨rfl, hb1⟩
  have hb : Below w.heap.size w w1 := (below2 _ _ _).trans (hb1.mono (by simp; omega))
  have hz : w1.heap[w.heap.size + 1]? = some (.cells z5 27 (0, 0)) := block_below hb1 (by simp) (heap_alloc2_new _ _ _)
  clear hb1
  go_wp2_with fail
  have hlb := getD5 l0 l1 l2 l3 l4
  have hix := fun k h w => idx24 s0 s1 s2 s3 s4 k h w
  have hll : Hid (l.length = 5) := by show l.length = 5; rw [HL.out]; rfl
  have HC : Hid (ovf l 5 ≤ 1) := by show _ ≤ _; rw [HL.out]; rcases ovf5 s0 s1 s2 s3 s4 l0 l1 l2 l3 l4 with ⟨h, _⟩ | ⟨h, _⟩ <;> omega
  rw [← HL.out] at hlb hix
  clear hs hc
  go_loop [4, 28] (fun v i => ∃ k : Nat, k ≤ 5 ∧ i = .int .i64 k ∧ v = .int .u64 (ovf l k : Nat)) (fun _ i => 5 - (intOf i).toNat)
  case atStart => exact ⟨0, by omega, rfl, rfl⟩
  case round =>
    obtain ⟨k, hk, rfl, rfl⟩ := hrel
    by_cases hlt : k < 5
    · have hov := ovf_le hlb k
      have hx := hlb k
      have hi := hix k hlt
      have HS : Hid (ovf l (k + 1) = (l.getD k 0 + ovf l k) / 2251799813685248) := rfl
      obtain ⟨ov, ho⟩ : ∃ o, o = ovf l k := ⟨_, rfl⟩
      obtain ⟨x, hxe⟩ : ∃ o, o = l.getD k 0 := ⟨_, rfl⟩
      rw [← ho] at HS hov ⊢
      rw [← hxe] at HS hi hx
      clear ho hxe hix hlb
      go_wp2
      go_round
      case rel => exact ⟨k + 1, by omega, by go_num, by rw [HS.out]; simp⟩
      case measure => simp [intOf]; omega
    · obtain rfl : k = 5 := by omega
      obtain ⟨c, hcc⟩ : ∃ c, c = ovf l 5 := ⟨_, rfl⟩
      have hc1 : c ≤ 1 := by rw [hcc]; exact HC.out
      rw [← hcc]
      have HCC : Hid (c = ovf l 5) := hcc
      clear hcc HC
      go_wp2_with fail
      go_loopw [7, 40] (fun v i wr => ∃ k : Nat, k ≤ 5 ∧ i = .int .i64 k ∧ v = .int .u64 (cyf l c k : Nat) ∧ RelL w wr w1.heap.size (lsf l c k)) (fun _ i _ => 5 - (intOf i).toNat)
      case atStart =>
        refine ⟨0, by omega, rfl, by simp [cyf], ?_⟩
        have hs1 := lt_of_heap hz
        refine ⟨(hb.alloc hb.size _), hs1, (heap_alloc_old _ _ hs1).trans hz, ?_⟩
        show _ = some (Obj.cells (ints .u64 l) 27 (0, 0))
        rw [HL.out]
        exact heap_alloc_new _ _
      case round =>
        obtain ⟨k, hk, rfl, rfl, hR⟩ := hrel
        by_cases hlt : k < 5
        · have hcy := cyf_le hc1 hlb k
          have hx := hlb k
          have hi := hix k hlt
          have HS : Hid (cyf l c (k + 1) = (l.getD k 0 + cyf l c k) / 2251799813685248) := rfl
          have HR : Hid (RelL w (wr.setCell ⟨w1.heap.size, k, none⟩ (.int .u64 (((l.getD k 0 + cyf l c k) % 2251799813685248 : Nat) : Int))) w1.heap.size (lsf l c (k + 1))) := hR.set k _
          obtain ⟨v3, c3⟩ : ∃ v, wr.cell? ⟨w1.heap.size, k, none⟩ = some v := ⟨_, cell_ints hR.2.2.2 k (by rw [lsf_len, hll.out]; omega)⟩
          have f3 := free_ints hR.2.2.2 k
          obtain ⟨cy, ho⟩ : ∃ o, o = cyf l c k := ⟨_, rfl⟩
          obtain ⟨x, hxe⟩ : ∃ o, o = l.getD k 0 := ⟨_, rfl⟩
          rw [← ho] at HS HR hcy ⊢
          rw [← hxe] at HS HR hi hx
          have ha := and51 (x + cy) (by omega)
          simp only [Int.natCast_add] at ha
          clear ho hxe hix hlb hR hz hb
          go_wp2
          go_roundw
          case rel => exact ⟨k + 1, by omega, by go_num, by rw [HS.out]; simp, by simpa using HR.out⟩
          case measure => simp [intOf]; omega
        · obtain rfl : k = 5 := by omega
          obtain ⟨rv, hrv⟩ : ∃ r, r = ints .u64 (lsf l c 5) := ⟨_, rfl⟩
          have hrl : rv.size = 5 := by rw [hrv, ints_size, lsf_len]; exact hll.out
          have hr1 : rv.all (·.oneCell') = true := by rw [hrv]; exact ints_one _ _
          obtain ⟨hB, hg, hz2, h5⟩ := hR
          rw [← hrv] at h5
          have HRV : Hid (rv = ints .u64 (lsf l c 5)) := hrv
          clear hrv hix hlb hz hb
          go_wp2_with (first
            | (refine wpList_load_row rfl 27 (.tmp 3) rfl _ rfl 27 rv (0, 0) _ h5 Tryd.underlying27 rfl (by rw [hrl]; exact info26) ?_)
            | (refine wpList_store_row rfl 27 (.tmp 2) (.tmp 56) rfl _ rv rfl rfl 27 _ hz2 (by rw [hrl]; exact info26) (by rw [hrl]; rfl) hr1 ?_))
          refine bodyPost_ret (v := .agg rv) ?_ rfl ⟨by rw [HRV.out, HCC.out], setRow_below hB (by omega) _⟩
          exact results_cell_row Tryd.results59 _ _ _ 27 rv (0, 0) _ rfl (setRow_heap _ _ _ _ _ _ hz2) Tryd.underlying27 rfl (by rw [hrl]; exact info26)
theorem least36 (a : E5) (w : World) (ha : a.wf) : Calls Tryd.prog 59 #[.agg (elc a)] w fun e w' => e = .returned (.agg (elc (leastE a))) ∧ Below w.heap.size w w' := by
  rw [elc_ints (leastE a), ← least_eq ha]
  have hw := ha
  unfold E5.wf at hw
  refine least36' a.a0 a.a1 a.a2 a.a3 a.a4 _ _ _ _ _ w ha.1 ha.2.1 ha.2.2.1 ha.2.2.2.1 ha.2.2.2.2 rfl ?_ ?_ ?_ ?_ ?_ _ rfl
  all_goals omega
end Go.Proofs.YtpfcboakafbnlaaDoor
