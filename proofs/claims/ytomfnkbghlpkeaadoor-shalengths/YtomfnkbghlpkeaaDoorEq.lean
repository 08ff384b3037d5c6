/-
  The walk of the law ShaEqual.
-/
import Derived.Test.YtomfnkbghlpkeaaDoorH
set_option linter.unusedVariables false
namespace Go.Proofs.YtomfnkbghlpkeaaDoor
open Go.RowKit Go.Sort Go.BigFrame
set_option maxRecDepth 100000
set_option maxHeartbeats 2000000
theorem View.take {w : World} {a : Option Addr} {bs : List Nat} (h : View w a bs) (n : Nat) : View w a (bs.take n) := fun hp => by
  obtain ⟨b, off, rfl, hb⟩ := h (by simp at hp; omega)
  refine ⟨b, off, rfl, fun i hi => ?_⟩
  have hi' : i < n ∧ i < bs.length := by simp at hi; omega
  rw [show (bs.take n).getD i 0 = bs.getD i 0 by simp [hi'.1]]
  exact hb i hi'.2
theorem shaEqual6 (a : Option Addr) (la ca : Nat) (x : List Nat) (b : Option Addr) (lb cb : Nat) (y : List Nat) (w : World) (hx : x.length = la) (hy : y.length = lb) (hca : la ≤ ca) (hcb : lb ≤ cb) (ha : View w a x) (hb : View w b y) (ht : Tabs w) :
    Calls Tryd.prog 6 #[.slice a la ca, .slice b lb cb] w fun e w' => e = .returned (.bool true) ∧ Below w.heap.size w w' := by
  have e1 : (x.take 400).length = min la 400 := by rw [List.length_take, hx]; omega
  have e2 : (y.take 400).length = min lb 400 := by rw [List.length_take, hy]; omega
  have h15 := equal15 a (min la 400) ca (x.take 400) b (min lb 400) cb (y.take 400) w e1 e2 (ha.take _) (hb.take _)
  have h9 := same9 a (min la 400) ca (x.take 400) b (min lb 400) cb (y.take 400) w e1 e2 (ha.take _) (hb.take _)
  have h15' := equal15 a (min la 400) ca (x.take 400) a (min la 400) ca (x.take 400) w e1 e1 (ha.take _) (ha.take _)
  obtain ⟨t, htt⟩ : ∃ t, t = ((strOf (x.take 400)).toList == (strOf (y.take 400)).toList) := ⟨_, rfl⟩
  rw [← htt] at h15 h9
  rw [show ((strOf (x.take 400)).toList == (strOf (x.take 400)).toList) = true from beq_self_eq_true _] at h15'
  clear htt hx hy e1 e2
  obtain ⟨na, hna⟩ : ∃ n, n = min la 400 := ⟨_, rfl⟩
  obtain ⟨nb, hnb⟩ : ∃ n, n = min lb 400 := ⟨_, rfl⟩
  have hfa := few8 a la ca w hca
  have hfb := few8 b lb cb w hcb
  rw [← hna] at h15 h9 h15' hfa
  rw [← hnb] at h15 h9 hfb
  clear hna hnb
  go_enter Tryd.func6, Tryd.ntmps6
  go_wp2_with fail
  refine hfa.mono ?_
  rintro e w' ⟨rfl, rfl⟩
  go_wp2_with fail
  refine hfb.mono ?_
  rintro e w' ⟨rfl, rfl⟩
  go_wp2_with fail
  refine h15.mono ?_
  rintro e w' ⟨rfl, rfl⟩
  go_wp2_with fail
  refine h9.mono ?_
  rintro e w' ⟨rfl, rfl⟩
  go_wp2_with fail
  refine h15'.mono ?_
  rintro e w' ⟨rfl, rfl⟩
  go_wp2_with fail
  refine (lives12 _ ht).mono ?_
  rintro e w' ⟨rfl, hB⟩
  go_wp2
  go_ret
  exact ⟨rfl, hB⟩
end Go.Proofs.YtomfnkbghlpkeaaDoor
