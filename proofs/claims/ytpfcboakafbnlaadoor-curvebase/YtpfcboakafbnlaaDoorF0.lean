/-
  Whether two elements are the same limbs.
-/
import Derived.Test.YtpfcboakafbnlaaDoorE
import Derived.DeepKeys
set_option linter.unusedVariables false
namespace Go.Proofs.YtpfcboakafbnlaaDoor
open Go.RowKit Go.Sort Go.BigFrame
set_option maxRecDepth 100000
set_option maxHeartbeats 4000000
theorem klit23 (d n : Nat) (h : n < 18446744073709551616) : Tryd.prog.keyLits (d + 1) 24 [.int .u64 (n : Int)] = some [.int .u64 (n : Int)] := by
  have hw : (Lit.int .u64 (n : Int)).wf = true := by simp [Lit.wf, IntKind.min, IntKind.max, IntKind.signed, IntKind.bits]; omega
  simp [Program.keyLits, Tryd.underlying24, hw]
theorem klit24 (s : E5) (h : s.wf) : Tryd.prog.keyLits 2 25 (elc s).toList = some [.int .u64 (s.a0 : Int), .int .u64 (s.a1 : Int), .int .u64 (s.a2 : Int), .int .u64 (s.a3 : Int), .int .u64 (s.a4 : Int)] := by
  obtain ⟨s0, s1, s2, s3, s4⟩ := s
  unfold E5.wf at h
  simp only at h
  have c24 : Tryd.prog.cellsOf 25 = 5 := by kernel_rfl
  have c23 : Tryd.prog.cellsOf 24 = 1 := by kernel_rfl
  have e : List.range 5 = [0, 1, 2, 3, 4] := rfl
  unfold Program.keyLits
  simp [Tryd.underlying25, c24, c23, e, elc, klit23 0 s0 (by omega), klit23 0 s1 (by omega), klit23 0 s2 (by omega), klit23 0 s3 (by omega), klit23 0 s4 (by omega)]
theorem run_eq24 (s t : E5) (hs : s.wf) (ht : t.wf) (w : World) : (Op.equalIn 9999 25 (.agg (elc s)) (.agg (elc t))).run Tryd.prog w = .ok (decide (s.list = t.list)) w := by
  have K : EqAt Tryd.prog 9999 25 := run_equalIn_deep 9997 2 25 (by kernel_rfl)
  have c24 : Tryd.prog.cellsOf 25 = 5 := by kernel_rfl
  obtain ⟨r, hr, hiff⟩ := K w 2 2 (.agg (elc s)) (.agg (elc t)) _ _ (by simp [Value.formed, Tryd.underlying25, c24, elc_size]) (by simp [Value.formed, Tryd.underlying25, c24, elc_size]) (klit24 s hs) (klit24 t ht)
  rw [hr]
  congr 1
  rw [Bool.eq_iff_iff, hiff, decide_eq_true_eq]
  simp [E5.list]
  omega
end Go.Proofs.YtpfcboakafbnlaaDoor
