/-
  The walk of the reference's Primes, at 80.
-/
import Derived.Test.YtomfnkbghlpkeaaDoorR5
set_option linter.unusedVariables false
namespace Go.Proofs.YtomfnkbghlpkeaaDoor
open Go.RowKit Go.Sort Go.BigFrame
set_option maxRecDepth 100000
set_option maxHeartbeats 600000
def PT : List Nat := [2, 3, 5, 7, 11, 13, 17, 19, 23, 29, 31, 37, 41, 43, 47, 53, 59, 61, 67, 71, 73, 79, 83, 89, 97, 101, 103, 107, 109, 113, 127, 131, 137, 139, 149, 151, 157, 163, 167, 173, 179, 181, 191, 193, 197, 199, 211, 223, 227, 229, 233, 239, 241, 251, 257, 263, 269, 271, 277, 281, 283, 293, 307, 311, 313, 317, 331, 337, 347, 349, 353, 359, 367, 373, 379, 383, 389, 397, 401, 409]
def pf (m : Nat) : List Nat := PT.filter (fun p => Nat.blt p m)
def pcheck (m : Nat) : Bool := ((pf m).all (fun p => !(Nat.beq (m % p) 0)) == PT.contains m) && (pf (m + 1) == pf m ++ (if PT.contains m then [m] else [])) && Nat.blt (pf m).length 80 && (pf m).all (fun p => Nat.blt 1 p)
theorem pcheck_all : (List.range 410).all (fun m => Nat.blt m 2 || pcheck m) = true := by kernel_rfl
theorem pf_end : pf 410 = PT := by kernel_rfl
theorem PT_len : PT.length = 80 := by kernel_rfl
theorem PT_lt : ∀ p ∈ PT, p < 512 := by decide
structure Pf (m : Nat) : Prop where
  is : (pf m).all (fun p => !(Nat.beq (m % p) 0)) = PT.contains m
  nx : pf (m + 1) = pf m ++ (if PT.contains m then [m] else [])
  len : (pf m).length < 80
  one : ∀ p ∈ pf m, 1 < p
theorem pf_of (m : Nat) (h : m < 410) (h2 : 2 ≤ m) : Pf m := by
  have := List.all_eq_true.1 pcheck_all m (List.mem_range.2 h)
  rw [show Nat.blt m 2 = false from Bool.eq_false_iff.2 (fun e => by have := Nat.blt_eq.mp e; omega), Bool.false_or] at this
  unfold pcheck at this
  simp only [Bool.and_eq_true, beq_iff_eq] at this
  obtain ⟨⟨⟨h1, h2⟩, h3⟩, h4⟩ := this
  exact ⟨h1, h2, Nat.blt_eq.mp h3, fun p hp => Nat.blt_eq.mp (List.all_eq_true.1 h4 p hp)⟩
end Go.Proofs.YtomfnkbghlpkeaaDoor
