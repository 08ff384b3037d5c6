/-
  The walks of the laws FieldInts and FieldReads.
-/
import Derived.Test.YtghmcaliahjdhaaU
set_option linter.unusedVariables false
namespace Go.Proofs.Ytghmcaliahjdhaa
open Go.RowKit Go.Sort Go.BigFrame
set_option maxRecDepth 100000
set_option maxHeartbeats 2000000
theorem int18 (n : Int) (w : World) (h0 : -9223372036854775808 ≤ n) (h1 : n ≤ 9223372036854775807) :
    Calls Try.prog 18 #[.int .i64 n] w fun e w' => ∃ g, e = .returned (.slice (some ⟨g, 0, none⟩) 32 32) ∧ RelR w w' g (digs 32 ((intE n).val % pp)) := by
  have hm := intE_mod h0
  by_cases hn : n < 0
  · have h := int18n n.natAbs w (by omega) (by omega)
    rw [show -(n.natAbs : Int) = n by omega] at h
    have e : (pp - n.natAbs % pp) % pp = (intE n).val % pp := by
      have hp : pp = 57896044618658097711785492504343953926634992332820282019728792003956564819949 := rfl
      rw [hp] at hm ⊢
      omega
    rw [← e]; exact h
  · have h := int18p n.natAbs w (by omega)
    rw [show (n.natAbs : Int) = n by omega] at h
    have e : n.natAbs % pp = (intE n).val % pp := by
      have hp : pp = 57896044618658097711785492504343953926634992332820282019728792003956564819949 := rfl
      rw [hp] at hm ⊢
      omega
    rw [← e]; exact h
theorem fieldInts4 (n : Int) (w : World) (h0 : -9223372036854775808 ≤ n) (h1 : n ≤ 9223372036854775807) :
    Calls Try.prog 4 #[.int .i64 n] w fun e w' => e = .returned (.bool true) ∧ Below w.heap.size w w' := by
  have c1 := fun w1 => int17 n w1 h0 h1
  have c2 := fun w1 => int18 n w1 h0 h1
  have hwf := intE_wf h0 h1
  have hlt : (intE n).val % pp < 256 ^ 32 := Nat.lt_trans (Nat.mod_lt _ pp_pos) (by decide)
  have c3 := fun w1 g (h : w1.heap[g]? = some (.cells (ints .i64 (digs 32 ((intE n).val % pp))) 3 (0, 0))) => like16 (intE n) (some ⟨g, 0, none⟩) 32 32 (digs 32 ((intE n).val % pp)) w1 hwf (digs_len _ _) (by omega) (digs_dig _ _) (fun _ => ⟨g, 0, rfl, ints_row h⟩)
  rw [valD_digs_lt hlt] at c3
  simp only [decide_true] at c3
  obtain ⟨en, hen⟩ : ∃ e, e = elc (intE n) := ⟨_, rfl⟩
  rw [← hen] at c1 c3
  clear hen
  have c4 := fun w1 => int17 0 w1 (by decide) (by decide)
  have c5 := fun w1 => equal13 zeroE (intE 0) w1 zeroE_wf (intE_wf (by decide) (by decide))
  rw [int0_val, elc_zero, z5, show decide (zeroE.val % pp = 0) = true from rfl] at c5
  obtain ⟨e0, he0⟩ : ∃ e, e = elc (intE 0) := ⟨_, rfl⟩
  rw [← he0] at c4 c5
  clear he0 hlt hwf
  go_enter Try.func4, Try.ntmps4
  go_wp2_with fail
  refine (c1 _).mono ?_
  rintro e w1 ⟨rfl, hb1⟩
  go_wp2_with fail
  refine (c2 _).mono ?_
  rintro e w2 ⟨g2, rfl, hR2⟩
  have hB2 := hb1.trans (hR2.1.mono hb1.size)
  go_wp2_with fail
  refine (c3 w2 g2 hR2.2.2).mono ?_
  rintro e w3 ⟨rfl, hb3⟩
  have hB3 := hB2.trans (hb3.mono hB2.size)
  clear hb1 hR2 hB2 hb3 c1 c2 c3
  go_wp2_with fail
  refine (c4 _).mono ?_
  rintro e w4 ⟨rfl, hb4⟩
  have hB4 := hB3.trans (hb4.mono hB3.size)
  clear hb4 hB3
  go_wp2_with fail
  refine (c5 _).mono ?_
  rintro e w5 ⟨rfl, hb5⟩
  have hB5 := hB4.trans (hb5.mono hB4.size)
  clear hb5 hB4 c4 c5
  go_wp2_with fail
  refine (lives14 _).mono ?_
  rintro e w6 ⟨rfl, hb6⟩
  have hB6 := hB5.trans (hb6.mono hB5.size)
  clear hb6 hB5
  go_wp2
  go_ret
  exact ⟨rfl, hB6⟩
/-- The law behind the cut to 40 bytes, where the length is not 32. -/
theorem fieldReads3_no (a : Option Addr) (len cap n : Nat) (bs : List Nat) (w : World) (hn : (40 < len ∧ n = 40) ∨ (len ≤ 40 ∧ n = len)) (h32 : n ≠ 32) (hcap : len ≤ cap) :
    Calls Try.prog 3 #[.slice a len cap] w fun e w' => e = .returned (.bool true) ∧ Below w.heap.size w w' := by
  have c1 := fun w1 => read9_len a n cap w1 h32
  have c5 := fun w1 => equal13 zeroE zeroE w1 zeroE_wf zeroE_wf
  simp only [decide_true] at c5
  rw [elc_zero, z5] at c1 c5
  have hb : ((n : Int) == 32) = false := by simp; omega
  rcases hn with ⟨hn, rfl⟩ | ⟨hn, rfl⟩
  all_goals
    go_enter Try.func3, Try.ntmps3
    go_wp2_with fail
    refine (c1 _).mono ?_
    rintro e w1 ⟨rfl, hb1⟩
    go_wp2_with fail
    refine (c5 _).mono ?_
    rintro e w2 ⟨rfl, hb2⟩
    have hB1 := hb1.alloc hb1.size (.cells #[.int .u64 0, .int .u64 0, .int .u64 0, .int .u64 0, .int .u64 0] 26)
    have hB2 := hB1.trans (hb2.mono hB1.size)
    clear hb1 hb2 hB1 c1 c5
    go_wp2_with fail
    refine (lives14 _).mono ?_
    rintro e w3 ⟨rfl, hb3⟩
    have hB3 := hB2.trans (hb3.mono hB2.size)
    clear hb3 hB2
    go_wp2
    go_ret
    exact ⟨rfl, hB3⟩
end Go.Proofs.Ytghmcaliahjdhaa
