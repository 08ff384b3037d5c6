/-
  Rows of signed words in memory; the walk of settle.
-/
import Derived.Test.YtoehjkebfpoigaaDoorS
import Derived.Test.YtoehjkebfpoigaaDoorWMath
import Derived.Laws.Bits128
set_option linter.unusedVariables false
namespace Go.Proofs.YtoehjkebfpoigaaDoor
open Go.RowKit Go.Sort Go.BigFrame
set_option maxRecDepth 100000
set_option maxHeartbeats 2000000
def zints (l : List Int) : Array Value := (l.map fun x => Value.int .i64 x).toArray
theorem zints_size (l : List Int) : (zints l).size = l.length := by simp [zints]
theorem zints_get (l : List Int) (j : Nat) (h : j < l.length) : (zints l)[j]? = some (.int .i64 (l.getD j 0)) := by simp [zints, h]
theorem zints_set (l : List Int) (j : Nat) (v : Int) : (zints l).setIfInBounds j (.int .i64 v) = zints (l.set j v) := by simp [zints, List.map_set]
theorem i64_and28 (n : Int) : bits .and .i64 n 268435455 = n % 268435456 := by
  have h127 : (BitVec.ofInt 64 268435455).toNat = 2 ^ 28 - 1 := by decide
  have key : (BitVec.ofInt 64 n &&& BitVec.ofInt 64 268435455).toNat = (n % ((2 ^ 64 : Nat) : Int)).toNat % 2 ^ 28 := by
    rw [BitVec.toNat_and, BitVec.toNat_ofInt, h127, Nat.and_two_pow_sub_one_eq_mod]
  show IntKind.i64.wrap ((BitVec.ofInt 64 n &&& BitVec.ofInt 64 268435455).toNat : Nat) = n % 268435456
  rw [key, IntKind.wrap_i64]
  omega
/-- Nothing but block g has changed, and no block was laid. -/
structure Frm (g : Nat) (w w' : World) : Prop where
  os : w'.os = w.os
  tape : w'.tape = w.tape
  output : w'.output = w.output
  size : w'.heap.size = w.heap.size
  block : ∀ k, k ≠ g → w'.heap[k]? = w.heap[k]?
theorem Frm.refl (g : Nat) (w : World) : Frm g w w := ⟨rfl, rfl, rfl, rfl, fun _ _ => rfl⟩
theorem Frm.trans {g : Nat} {a b c : World} (h : Frm g a b) (h' : Frm g b c) : Frm g a c :=
  ⟨h'.os.trans h.os, h'.tape.trans h.tape, h'.output.trans h.output, h'.size.trans h.size, fun k hk => (h'.block k hk).trans (h.block k hk)⟩
theorem Frm.below {g B : Nat} {w0 w w' : World} (h : Frm g w w') (hb : Below B w0 w) (hg : B ≤ g) : Below B w0 w' :=
  ⟨h.os.trans hb.os, h.tape.trans hb.tape, h.output.trans hb.output, by rw [h.size]; exact hb.size, fun k hk => (h.block k (by omega)).trans (hb.block k hk)⟩
theorem Frm.set {g : Nat} {w w' : World} (h : Frm g w w') (j : Nat) (v : Value) : Frm g w (w'.setCell ⟨g, j, none⟩ v) := by
  have hb : Below g w' (w'.setCell ⟨g, j, none⟩ v) := (Below.refl g w').setCell (p := ⟨g, j, none⟩) (Nat.le_refl g) v
  refine h.trans ⟨hb.os, hb.tape, hb.output, by simp, fun k hk => ?_⟩
  exact heap_setCell_other _ _ _ _ (by simpa using hk)
theorem Frm.drew {g : Nat} {w w' : World} (h : Frm g w w') : Frm g w w'.drew := ⟨h.os, h.tape, h.output, h.size, h.block⟩
def WRow (w wr : World) (g : Nat) (l : List Int) : Prop := Frm g w wr ∧ wr.heap[g]? = some (.cells (zints l) 35 (0, 0))
theorem cell_z {w : World} {g t : Nat} {l : List Int} (h : w.heap[g]? = some (.cells (zints l) t (0, 0))) (j : Nat) (hj : j < l.length) : w.cell? ⟨g, j, none⟩ = some (.int .i64 (l.getD j 0)) := by
  rw [cell_of_row w g j _ t _ h]; exact zints_get l j hj
theorem WRow.at {w wr : World} {g : Nat} {l : List Int} (h : WRow w wr g l) (k : Nat) (hk : k < l.length) : wr.cell? ⟨g, k, none⟩ = some (.int .i64 (l.getD k 0)) := cell_z h.2 k hk
theorem WRow.free {w wr : World} {g : Nat} {l : List Int} (h : WRow w wr g l) (k : Nat) : wr.frozen? ⟨g, k, none⟩ = false := frozen_of_row _ g k _ 35 h.2
theorem WRow.set {w wr : World} {g : Nat} {l : List Int} (h : WRow w wr g l) (k : Nat) (v : Int) : WRow w (wr.setCell ⟨g, k, none⟩ (.int .i64 v)) g (l.set k v) :=
  ⟨h.1.set _ _, by rw [heap_setCell_same _ g k _ 35 _ h.2, zints_set]⟩
theorem WRow.drew {w wr : World} {g : Nat} {l : List Int} (h : WRow w wr g l) : WRow w wr.drew g l := ⟨h.1.drew, h.2⟩
theorem settle30 (g top : Nat) (l : List Int) (w : World) (hl : Hid (l.length = 19)) (ht : top ≤ 18) (hb : ∀ j, -9000000000000000000 ≤ l.getD j 0 ∧ l.getD j 0 ≤ 9000000000000000000) (hg : w.heap[g]? = some (.cells (zints l) 35 (0, 0))) :
    Calls Tryd.prog 30 #[.pointer (some ⟨g, 0, none⟩), .int .i64 top] w fun e w' => e = .returned (.tuple #[]) ∧ WRow w w' g (stl l top) := by
  have hR0 : WRow w w g (stl l 0) := ⟨Frm.refl _ _, by rw [stl_zero l (by rw [hl.out]; omega)]; exact hg⟩
  have hq := topW_bound (B := 9000000000000000000) (by omega) hb
  clear hg
  go_enter Tryd.func30, Tryd.ntmps30
  go_wp2_with fail
  go_loopw [6] (fun i wr => ∃ k : Nat, k ≤ top ∧ i = .int .i64 k ∧ WRow w wr g (stl l k)) (fun i _ => top - (intOf i).toNat)
  case atStart => exact ⟨0, by omega, rfl, hR0⟩
  case round =>
    obtain ⟨k, hk, rfl, hR⟩ := hrel
    clear hR0
    by_cases hlt : k < top
    · have hlen := stl_len l k (by rw [hl.out]; omega)
      rw [hl.out] at hlen
      have c0 := hR.at k (by omega)
      have c1 := hR.at (k + 1) (by omega)
      have f0 := hR.free k
      have f1 := hR.free (k + 1)
      rw [stl_getk l k (by rw [hl.out]; omega)] at c0
      rw [stl_getk1] at c1
      have hstep := stl_step l k (by rw [hl.out]; omega)
      have hqk := hq k
      have hlk := hb (k + 1)
      obtain ⟨q, hqe⟩ : ∃ q, q = topW l k := ⟨_, rfl⟩
      obtain ⟨x, hx⟩ : ∃ x, x = l.getD (k + 1) 0 := ⟨_, rfl⟩
      rw [← hqe] at c0 hqk hstep
      rw [← hx] at c1 hlk hstep
      have HS : Hid (((stl l k).set (k + 1) (x + q / 268435456)).set k (q % 268435456) = stl l (k + 1)) := hstep
      have hR1 : WRow w ((wr.setCell ⟨g, k + 1, none⟩ (.int .i64 (x + q / 268435456))).drew) g ((stl l k).set (k + 1) (x + q / 268435456)) := (hR.set _ _).drew
      have c2 := hR1.at k (by rw [List.length_set]; omega)
      rw [show ((stl l k).set (k + 1) (x + q / 268435456)).getD k 0 = q by
        rw [List.getD_eq_getElem?_getD, List.getElem?_set_ne (by omega), ← List.getD_eq_getElem?_getD, hqe]; exact stl_getk l k (by rw [hl.out]; omega)] at c2
      have f2 := hR1.free k
      have HR2 : Hid (WRow w ((((wr.setCell ⟨g, k + 1, none⟩ (.int .i64 (x + q / 268435456))).drew).setCell ⟨g, k, none⟩ (.int .i64 (q % 268435456))).drew) g (stl l (k + 1))) := by
        show WRow _ _ _ _
        rw [← HS.out]
        exact (hR1.set _ _).drew
      have e28 := i64_and28 q
      clear hqe hx hR hstep hb hq hlen HS
      go_wp2_with fail
      go_region
      generalize (wr.setCell ⟨g, k + 1, none⟩ (.int .i64 (x + q / 268435456))).drew = w2 at hR1 c2 f2 HR2 ⊢
      clear hR1 c0 c1 f0 f1
      go_wp2_with fail
      go_region
      go_wp2
      go_roundw
      case rel => exact ⟨k + 1, by omega, by go_num, HR2.out⟩
      case measure => simp [intOf]; omega
    · obtain rfl : k = top := by omega
      go_wp2
      go_end0
      exact ⟨rfl, hR⟩
end Go.Proofs.YtoehjkebfpoigaaDoor
