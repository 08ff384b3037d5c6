/-
  The walks of Add, Sub, Mul.
-/
import Derived.Test.YtpfcboakafbnlaaDoorA
import Derived.Test.YtpfcboakafbnlaaDoorQTail
import Derived.Deep.MidRow
import Derived.Laws.CopyOwn
set_option linter.unusedVariables false
namespace Go.Proofs.YtpfcboakafbnlaaDoor
open Go.RowKit Go.Sort Go.BigFrame
set_option maxRecDepth 100000
set_option maxHeartbeats 4000000
def z5 : Array Value := #[.int .u64 0, .int .u64 0, .int .u64 0, .int .u64 0, .int .u64 0]
theorem elc_size (e : E5) : (elc e).size = 5 := rfl
theorem elc_one (e : E5) : (elc e).all (·.oneCell') = true := by simp [elc, Value.oneCell']
theorem elc_ints (e : E5) : elc e = ints .u64 e.list := rfl
theorem elc_zero : elc zeroE = z5 := rfl
theorem info26 : (Tryd.prog.info? 27).map (·.size) = some 5 := by kernel_rfl
def addE (a b : E5) : E5 := carE (a.a0 + b.a0) (a.a1 + b.a1) (a.a2 + b.a2) (a.a3 + b.a3) (a.a4 + b.a4)
theorem addE_wf {a b : E5} (ha : a.wf) (hb : b.wf) : (addE a b).wf := by
  unfold E5.wf at ha hb
  exact carE_wf (by omega) (by omega) (by omega) (by omega) (by omega)
theorem addE_mod (a b : E5) : (addE a b).val % pp = (a.val + b.val) % pp := by
  unfold addE
  rw [carE_mod]
  congr 1
  unfold E5.val
  simp only
  omega
theorem add22' (x0 x1 x2 x3 x4 y0 y1 y2 y3 y4 : Nat) (w : World) (hx0 : x0 < 4503599627370496) (hx1 : x1 < 4503599627370496) (hx2 : x2 < 4503599627370496) (hx3 : x3 < 4503599627370496) (hx4 : x4 < 4503599627370496) (hy0 : y0 < 4503599627370496) (hy1 : y1 < 4503599627370496) (hy2 : y2 < 4503599627370496) (hy3 : y3 < 4503599627370496) (hy4 : y4 < 4503599627370496) :
    Calls Tryd.prog 56 #[.agg #[.int .u64 (x0 : Int), .int .u64 (x1 : Int), .int .u64 (x2 : Int), .int .u64 (x3 : Int), .int .u64 (x4 : Int)], .agg #[.int .u64 (y0 : Int), .int .u64 (y1 : Int), .int .u64 (y2 : Int), .int .u64 (y3 : Int), .int .u64 (y4 : Int)]] w fun e w' => e = .returned (.agg (elc (carE (x0 + y0) (x1 + y1) (x2 + y2) (x3 + y3) (x4 + y4)))) ∧ Below w.heap.size w w' := by
  have hc := fun w1 => carried39 (x0 + y0) (x1 + y1) (x2 + y2) (x3 + y3) (x4 + y4) w1 (by omega) (by omega) (by omega) (by omega) (by omega)
  simp only [Int.natCast_add] at hc
  obtain ⟨rv, hrv⟩ : ∃ r, r = elc (carE (x0 + y0) (x1 + y1) (x2 + y2) (x3 + y3) (x4 + y4)) := ⟨_, rfl⟩
  have hrl : rv.size = 5 := by rw [hrv]; rfl
  have hr1 : rv.all (·.oneCell') = true := by rw [hrv]; exact elc_one _
  rw [← hrv] at hc ⊢
  clear hrv
  go_enter Tryd.func56, Tryd.ntmps56
  go_wp2_with fail
  refine (hc _).mono ?_
  rintro e w1 ⟨rfl, hb1⟩
  have hb := (below3 _ _ _ _).trans (hb1.mono (by simp; omega))
  have hz : w1.heap[w.heap.size + 1 + 1]? = some (.cells z5 27 (0, 0)) := block_below hb1 (by simp) (heap3_2 _ _ _ _)
  clear hc hb1
  go_wp2_with (refine wpList_store_row rfl 27 (.tmp 4) (.tmp 40) rfl _ rv rfl rfl 27 _ hz (by rw [hrl]; exact info26) (by rw [hrl]; rfl) hr1 ?_)
  refine bodyPost_ret (v := .agg rv) ?_ rfl ⟨rfl, setRow_below hb (by omega) _⟩
  exact results_cell_row Tryd.results56 _ _ _ 27 rv (0, 0) _ rfl (setRow_heap _ _ _ _ _ _ hz) Tryd.underlying27 rfl (by rw [hrl]; exact info26)
theorem add22 (a b : E5) (w : World) (ha : a.wf) (hb : b.wf) : Calls Tryd.prog 56 #[.agg (elc a), .agg (elc b)] w fun e w' => e = .returned (.agg (elc (addE a b))) ∧ Below w.heap.size w w' :=
  add22' a.a0 a.a1 a.a2 a.a3 a.a4 b.a0 b.a1 b.a2 b.a3 b.a4 w ha.1 ha.2.1 ha.2.2.1 ha.2.2.2.1 ha.2.2.2.2 hb.1 hb.2.1 hb.2.2.1 hb.2.2.2.1 hb.2.2.2.2
def subE (a b : E5) : E5 := carE (a.a0 + 9007199254740916 - b.a0) (a.a1 + 9007199254740988 - b.a1) (a.a2 + 9007199254740988 - b.a2) (a.a3 + 9007199254740988 - b.a3) (a.a4 + 9007199254740988 - b.a4)
theorem subE_wf {a b : E5} (ha : a.wf) (hb : b.wf) : (subE a b).wf := by
  unfold E5.wf at ha hb
  exact carE_wf (by omega) (by omega) (by omega) (by omega) (by omega)
theorem subE_mod {a b : E5} (hb : b.wf) : ((subE a b).val + b.val) % pp = a.val % pp := by
  have h : (subE a b).val % pp = (a.val + 4 * pp - b.val) % pp := by
    unfold subE
    rw [carE_mod]
    congr 1
    unfold E5.val pp
    unfold E5.wf at hb
    simp only
    omega
  have hle : b.val ≤ 4 * pp := by
    unfold E5.val pp
    unfold E5.wf at hb
    omega
  rw [Nat.add_mod, h, ← Nat.add_mod, show a.val + 4 * pp - b.val + b.val = a.val + pp * 4 by omega, Nat.add_mul_mod_self_left]
theorem sub20' (x0 x1 x2 x3 x4 y0 y1 y2 y3 y4 : Nat) (w : World) (hx0 : x0 < 4503599627370496) (hx1 : x1 < 4503599627370496) (hx2 : x2 < 4503599627370496) (hx3 : x3 < 4503599627370496) (hx4 : x4 < 4503599627370496) (hy0 : y0 < 4503599627370496) (hy1 : y1 < 4503599627370496) (hy2 : y2 < 4503599627370496) (hy3 : y3 < 4503599627370496) (hy4 : y4 < 4503599627370496) :
    Calls Tryd.prog 58 #[.agg #[.int .u64 (x0 : Int), .int .u64 (x1 : Int), .int .u64 (x2 : Int), .int .u64 (x3 : Int), .int .u64 (x4 : Int)], .agg #[.int .u64 (y0 : Int), .int .u64 (y1 : Int), .int .u64 (y2 : Int), .int .u64 (y3 : Int), .int .u64 (y4 : Int)]] w fun e w' => e = .returned (.agg (elc (carE (x0 + 9007199254740916 - y0) (x1 + 9007199254740988 - y1) (x2 + 9007199254740988 - y2) (x3 + 9007199254740988 - y3) (x4 + 9007199254740988 - y4)))) ∧ Below w.heap.size w w' := by
  have hc := fun w1 => carried39 (x0 + 9007199254740916 - y0) (x1 + 9007199254740988 - y1) (x2 + 9007199254740988 - y2) (x3 + 9007199254740988 - y3) (x4 + 9007199254740988 - y4) w1 (by omega) (by omega) (by omega) (by omega) (by omega)
  simp only [show ((x0 + 9007199254740916 - y0 : Nat) : Int) = (x0 : Int) + 9007199254740916 - (y0 : Int) by omega] at hc
  simp only [show ((x1 + 9007199254740988 - y1 : Nat) : Int) = (x1 : Int) + 9007199254740988 - (y1 : Int) by omega] at hc
  simp only [show ((x2 + 9007199254740988 - y2 : Nat) : Int) = (x2 : Int) + 9007199254740988 - (y2 : Int) by omega] at hc
  simp only [show ((x3 + 9007199254740988 - y3 : Nat) : Int) = (x3 : Int) + 9007199254740988 - (y3 : Int) by omega] at hc
  simp only [show ((x4 + 9007199254740988 - y4 : Nat) : Int) = (x4 : Int) + 9007199254740988 - (y4 : Int) by omega] at hc
  obtain ⟨rv, hrv⟩ : ∃ r, r = elc (carE (x0 + 9007199254740916 - y0) (x1 + 9007199254740988 - y1) (x2 + 9007199254740988 - y2) (x3 + 9007199254740988 - y3) (x4 + 9007199254740988 - y4)) := ⟨_, rfl⟩
  have hrl : rv.size = 5 := by rw [hrv]; rfl
  have hr1 : rv.all (·.oneCell') = true := by rw [hrv]; exact elc_one _
  rw [← hrv] at hc ⊢
  clear hrv
  go_enter Tryd.func58, Tryd.ntmps58
  go_wp2_with fail
  refine (hc _).mono ?_
  rintro e w1 ⟨rfl, hb1⟩
  have hb := (below3 _ _ _ _).trans (hb1.mono (by simp; omega))
  have hz : w1.heap[w.heap.size + 1 + 1]? = some (.cells z5 27 (0, 0)) := block_below hb1 (by simp) (heap3_2 _ _ _ _)
  clear hc hb1
  go_wp2_with (refine wpList_store_row rfl 27 (.tmp 4) (.tmp 45) rfl _ rv rfl rfl 27 _ hz (by rw [hrl]; exact info26) (by rw [hrl]; rfl) hr1 ?_)
  refine bodyPost_ret (v := .agg rv) ?_ rfl ⟨rfl, setRow_below hb (by omega) _⟩
  exact results_cell_row Tryd.results58 _ _ _ 27 rv (0, 0) _ rfl (setRow_heap _ _ _ _ _ _ hz) Tryd.underlying27 rfl (by rw [hrl]; exact info26)
theorem sub20 (a b : E5) (w : World) (ha : a.wf) (hb : b.wf) : Calls Tryd.prog 58 #[.agg (elc a), .agg (elc b)] w fun e w' => e = .returned (.agg (elc (subE a b))) ∧ Below w.heap.size w w' :=
  sub20' a.a0 a.a1 a.a2 a.a3 a.a4 b.a0 b.a1 b.a2 b.a3 b.a4 w ha.1 ha.2.1 ha.2.2.1 ha.2.2.2.1 ha.2.2.2.2 hb.1 hb.2.1 hb.2.2.1 hb.2.2.2.1 hb.2.2.2.2
end Go.Proofs.YtpfcboakafbnlaaDoor
