/-
  The walk of Bytes.
-/
import Derived.Test.YtpfcboakafbnlaaDoorC
import Derived.Test.YtpfcboakafbnlaaDoorMD
import Derived.Deep.OwnRows
import Derived.StillTactics
set_option linter.unusedVariables false
namespace Go.Proofs.YtpfcboakafbnlaaDoor
open Go.RowKit Go.Sort Go.BigFrame
set_option maxRecDepth 100000
set_option maxHeartbeats 4000000
theorem made_u8 (n : Nat) : madeCells #[.int .u8 0] n = ints .u8 (List.replicate n 0) := by
  apply Array.ext'
  rw [madeCells]
  apply List.ext_getElem
  · simp [ints]
  · intro i h1 h2
    simp [ints, Nat.mod_one]
theorem heap2_0 (w : World) (a b : Obj) : ((w.alloc a).alloc b).heap[w.heap.size]? = some a := by
  rw [heap_alloc_old _ _ (by rw [size_alloc]; omega), heap_alloc_new]
def RelB (w wr : World) (gs gb V k : Nat) : Prop :=
  Below w.heap.size w wr ∧ w.heap.size ≤ gb ∧ gs ≠ gb ∧ wr.heap[gs]? = some (.cells (ints .u64 (splitE V).list) 27 (0, 0)) ∧ wr.heap[gb]? = some (.cells (ints .u8 (digs 32 (V % 256 ^ k))) 5 (0, 0))
theorem RelB.set {w wr : World} {gs gb V k : Nat} (h : RelB w wr gs gb V k) (hk : k < 32) : RelB w (wr.setCell ⟨gb, k, none⟩ (.int .u8 ((V / 256 ^ k % 256 : Nat) : Int))) gs gb V (k + 1) := by
  refine ⟨h.1.setCell h.2.1 _, h.2.1, h.2.2.1, (heap_setCell_other _ _ _ _ h.2.2.1).trans h.2.2.2.1, ?_⟩
  have := set_ints h.2.2.2.2 k (V / 256 ^ k % 256)
  rw [this, digs_set (Nat.mod_lt _ (pos256 k)) (Nat.mod_lt _ (by decide)) hk, Nat.pow_succ, Nat.mod_mul]
theorem splitE_len (V : Nat) : (splitE V).list.length = 5 := rfl
theorem make32 (w1 : World) : (Instr.makeSlice 22 (.int .i64 32) (.int .i64 32)).run Tryd.prog w1 = .ok (.slice (some ⟨w1.heap.size, 0, none⟩) 32 32) (w1.alloc (.cells (ints .u8 (digs 32 0)) 5)) := by
  have := run_make_row' (P := Tryd.prog) 22 5 (.int .u8 0) 1 Tryd.underlying22 (by kernel_rfl) rfl .i64 .i64 32 (by omega) (by omega) w1
  rw [made_u8, ← digs_zero] at this
  exact this
theorem bytes15' (x0 x1 x2 x3 x4 s0 s1 s2 s3 s4 V : Nat) (w : World) (hle : ∀ w1, Calls Tryd.prog 59 #[.agg #[.int .u64 (x0 : Int), .int .u64 (x1 : Int), .int .u64 (x2 : Int), .int .u64 (x3 : Int), .int .u64 (x4 : Int)]] w1 fun e w' => e = .returned (.agg #[.int .u64 (s0 : Int), .int .u64 (s1 : Int), .int .u64 (s2 : Int), .int .u64 (s3 : Int), .int .u64 (s4 : Int)]) ∧ Below w1.heap.size w1 w') (hs : Hid (splitE V = ⟨s0, s1, s2, s3, s4⟩)) (hV : Hid (V < pp)) :
    Calls Tryd.prog 40 #[.agg #[.int .u64 (x0 : Int), .int .u64 (x1 : Int), .int .u64 (x2 : Int), .int .u64 (x3 : Int), .int .u64 (x4 : Int)]] w fun e w' => ∃ g, e = .returned (.slice (some ⟨g, 0, none⟩) 32 32) ∧ w.heap.size ≤ g ∧ Below w.heap.size w w' ∧ w'.heap[g]? = some (.cells (ints .u8 (digs 32 V)) 5 (0, 0)) := by
  have hmk := make32
  go_enter Tryd.func40, Tryd.ntmps40
  go_wp2_with fail
  refine (hle _).mono ?_
  rintro e w1 ⟨rfl, hb1⟩
  have hb : Below w.heap.size w w1 := (below1 _ _).trans (hb1.mono (by simp))
  clear hb1 hle
  go_wp2_with fail
  have hR0 : RelB w ((w1.alloc (.cells #[.int .u64 (s0 : Int), .int .u64 (s1 : Int), .int .u64 (s2 : Int), .int .u64 (s3 : Int), .int .u64 (s4 : Int)] 27)).alloc (.cells (ints .u8 (digs 32 0)) 5)) w1.heap.size (w1.heap.size + 1) V 0 := by
    refine ⟨(hb.alloc hb.size _).alloc (by rw [size_alloc]; have := hb.size; omega) _, by have := hb.size; omega, by omega, ?_, ?_⟩
    · rw [hs.out]
      exact heap2_0 _ _ _
    · rw [Nat.pow_zero, Nat.mod_one]
      exact heap_alloc2_new _ _ _
  have hgs : w.heap.size ≤ w1.heap.size := hb.size
  clear hb hmk
  go_loopw [14] (fun i wr => ∃ k : Nat, k ≤ 32 ∧ i = .int .i64 k ∧ RelB w wr w1.heap.size (w1.heap.size + 1) V k) (fun i _ => 32 - (intOf i).toNat)
  case atStart => exact ⟨0, by omega, rfl, hR0⟩
  case round =>
    obtain ⟨k, hk, rfl, hR⟩ := hrel
    clear hR0
    by_cases hlt : k < 32
    · obtain ⟨at', hat⟩ : ∃ t, t = 8 * k / 51 := ⟨_, rfl⟩
      obtain ⟨sh, hsh⟩ : ∃ t, t = 8 * k % 51 := ⟨_, rfl⟩
      have iat : 8 * (k : Int) / 51 = (at' : Int) := by omega
      have ish : 8 * (k : Int) % 51 = (sh : Int) := by omega
      have hat5 : at' < 5 := by omega
      have hsh5 : sh < 51 := by omega
      have HE : Hid (8 * k = 51 * at' + sh) := by show _ = _; omega
      obtain ⟨v3, c3⟩ : ∃ v, wr.cell? ⟨w1.heap.size + 1, k, none⟩ = some v := ⟨_, cell_ints hR.2.2.2.2 k (by rw [digs_len]; omega)⟩
      have f3 := free_ints hR.2.2.2.2 k
      have c1 := cell_ints hR.2.2.2.1 at' (by rw [splitE_len]; omega)
      obtain ⟨x, hx⟩ : ∃ t, t = (splitE V).list.getD at' 0 := ⟨_, rfl⟩
      rw [← hx] at c1
      have HX : Hid (x = (splitE V).list.getD at' 0) := hx
      clear hat hsh hx
      by_cases h4 : at' + 1 < 5
      · have c2 := cell_ints hR.2.2.2.1 (at' + 1) (by rw [splitE_len]; omega)
        obtain ⟨y, hy⟩ : ∃ t, t = (splitE V).list.getD (at' + 1) 0 := ⟨_, rfl⟩
        rw [← hy] at c2
        have HY : Hid (y = (splitE V).list.getD (at' + 1) 0) := hy
        have HN : Hid (RelB w (wr.setCell ⟨w1.heap.size + 1, k, none⟩ (.int .u8 (bits BinOp.or IntKind.u64 (↑x / 2 ^ sh) (IntKind.u64.wrap (↑y * 2 ^ (51 - sh))) % 256))) w1.heap.size (w1.heap.size + 1) V (k + 1)) := by
          show RelB _ _ _ _ _ _
          rw [byte_two V k at' sh x y HE.out hsh5 (by rw [HX.out, splitE_get _ _ hat5]) (by rw [HY.out, splitE_get _ _ h4])]
          exact hR.set hlt
        have hxl : x < 2251799813685248 := by rw [HX.out, splitE_get _ _ hat5]; exact Nat.mod_lt _ (by decide)
        have hyl : y < 2251799813685248 := by rw [HY.out, splitE_get _ _ h4]; exact Nat.mod_lt _ (by decide)
        clear hy hR
        go_wp2
        go_roundw
        case rel => exact ⟨k + 1, by omega, by go_num, HN.out⟩
        case measure => simp [intOf]; omega
      · obtain rfl : at' = 4 := by omega
        have HN : Hid (RelB w (wr.setCell ⟨w1.heap.size + 1, k, none⟩ (.int .u8 (↑x / 2 ^ sh % 256))) w1.heap.size (w1.heap.size + 1) V (k + 1)) := by
          show RelB _ _ _ _ _ _
          rw [byte_one V k sh x (Nat.lt_trans hV.out pp_lt) HE.out (by rw [HX.out, splitE_get _ _ hat5])]
          exact hR.set hlt
        have hxl : x < 2251799813685248 := by rw [HX.out, splitE_get _ _ hat5]; exact Nat.mod_lt _ (by decide)
        clear hR
        go_wp2
        go_roundw
        case rel => exact ⟨k + 1, by omega, by go_num, HN.out⟩
        case measure => simp [intOf]; omega
    · obtain rfl : k = 32 := by omega
      obtain ⟨hB, hg, _, _, h5⟩ := hR
      have HV : Hid (V % 256 ^ 32 = V) := Nat.mod_eq_of_lt (Nat.lt_trans hV.out (by decide))
      rw [HV.out] at h5
      go_wp2
      go_ret
      exact ⟨w1.heap.size + 1, rfl, hg, hB, h5⟩
theorem bytes15 (a : E5) (w : World) (ha : a.wf) : Calls Tryd.prog 40 #[.agg (elc a)] w fun e w' => ∃ g, e = .returned (.slice (some ⟨g, 0, none⟩) 32 32) ∧ w.heap.size ≤ g ∧ Below w.heap.size w w' ∧ w'.heap[g]? = some (.cells (ints .u8 (digs 32 (a.val % pp))) 5 (0, 0)) :=
  bytes15' a.a0 a.a1 a.a2 a.a3 a.a4 _ _ _ _ _ (a.val % pp) w (fun w1 => least36 a w1 ha) rfl (Nat.mod_lt _ pp_pos)
end Go.Proofs.YtpfcboakafbnlaaDoor
