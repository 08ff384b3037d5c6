/-
  slices.Reverse, turned, known.
-/
import Derived.Test.YtpfcboakafbnlaaDoorN2
set_option linter.unusedVariables false
namespace Go.Proofs.YtpfcboakafbnlaaDoor
open Go.RowKit Go.Sort Go.BigFrame
set_option maxRecDepth 100000
set_option maxHeartbeats 2000000
/-- Nothing but block g has changed, and no block was laid. -/
structure Frm (g : Nat) (w w' : World) : Prop where
  os : w'.os = w.os
  tape : w'.tape = w.tape
  output : w'.output = w.output
  size : w'.heap.size = w.heap.size
  block : ∀ k, k ≠ g → w'.heap[k]? = w.heap[k]?
theorem Frm.refl (g : Nat) (w : World) : Frm g w w := ⟨rfl, rfl, rfl, rfl, fun _ _ => rfl⟩
theorem Frm.trans {g : Nat} {a b c : World} (h : Frm g a b) (h' : Frm g b c) : Frm g a c :=
  ⟨h'.os.trans h.os, h'.tape.trans h.tape, h'.output.trans h.output, h'.size.trans h.size, fun k hk => (h'.block k hk).trans (h.block k hk)⟩
theorem Frm.below {g B : Nat} {w0 w w' : World} (h : Frm g w w') (hb : Below B w0 w) (hg : B ≤ g) : Below B w0 w' :=
  ⟨h.os.trans hb.os, h.tape.trans hb.tape, h.output.trans hb.output, by rw [h.size]; exact hb.size, fun k hk => (h.block k (by omega)).trans (hb.block k hk)⟩
theorem Frm.set {g : Nat} {w w' : World} (h : Frm g w w') (j : Nat) (v : Value) : Frm g w (w'.setCell ⟨g, j, none⟩ v) := by
  have hb : Below g w' (w'.setCell ⟨g, j, none⟩ v) := (Below.refl g w').setCell (p := ⟨g, j, none⟩) (Nat.le_refl g) v
  refine h.trans ⟨hb.os, hb.tape, hb.output, by simp, fun k hk => ?_⟩
  exact heap_setCell_other _ _ _ _ (by simpa using hk)
theorem Frm.drew {g : Nat} {w w' : World} (h : Frm g w w') : Frm g w w'.drew := ⟨h.os, h.tape, h.output, h.size, h.block⟩
/-- Turned round up to k from both ends. -/
def Rvk (l m : List Nat) (k : Nat) : Prop := m.length = 32 ∧ ∀ i, i < 32 → m.getD i 0 = if i < k ∨ 32 ≤ i + k then l.getD (31 - i) 0 else l.getD i 0
theorem getD_set2 (m : List Nat) (i j x : Nat) (hi : i < m.length) : (m.set i x).getD j 0 = if j = i then x else m.getD j 0 := by
  simp only [List.getD_eq_getElem?_getD, List.getElem?_set]
  by_cases h : j = i
  · subst h; simp [hi]
  · simp [h, Ne.symm h]
theorem Rvk.step {l m : List Nat} {k : Nat} (h : Rvk l m k) (hk : k < 16) : Rvk l ((m.set k (m.getD (31 - k) 0)).set (31 - k) (m.getD k 0)) (k + 1) := by
  obtain ⟨hl, hm⟩ := h
  refine ⟨by simp [hl], fun i hi => ?_⟩
  rw [getD_set2 _ _ _ _ (by simp; omega), getD_set2 _ _ _ _ (by omega), hm (31 - k) (by omega), hm k (by omega)]
  by_cases e1 : i = 31 - k
  · rw [if_pos e1, if_neg (by omega), if_pos (by omega), e1]; congr 1; omega
  · rw [if_neg e1]
    by_cases e2 : i = k
    · rw [if_pos e2, if_neg (by omega), if_pos (by omega), e2]
    · rw [if_neg e2, hm i hi]
      by_cases e3 : i < k ∨ 32 ≤ i + k
      · rw [if_pos e3, if_pos (by omega)]
      · rw [if_neg e3, if_neg (by omega)]
theorem Rvk.done {l m : List Nat} (hl : l.length = 32) (h : Rvk l m 16) : m = l.reverse := by
  obtain ⟨hm, h⟩ := h
  apply List.ext_getElem
  · simp [hl, hm]
  · intro i h1 h2
    have := h i (by omega)
    rw [if_pos (by omega)] at this
    rw [List.getElem_reverse]
    simp only [List.getD_eq_getElem?_getD, List.getElem?_eq_getElem h1, Option.getD_some, List.getElem?_eq_getElem (show 31 - i < l.length by omega)] at this
    rw [this]
    congr 1
    omega
theorem Rvk.zero {l : List Nat} (hl : l.length = 32) : Rvk l l 0 := ⟨hl, fun i hi => by rw [if_neg (by omega)]⟩
def RelV (w wr : World) (g : Nat) (l : List Nat) (k : Nat) : Prop := ∃ m, Rvk l m k ∧ Frm g w wr ∧ wr.heap[g]? = some (.cells (ints .u8 m) 5 (0, 0))
theorem reverse74 (g : Nat) (l : List Nat) (w : World) (hl : Hid (l.length = 32)) (hg : w.heap[g]? = some (.cells (ints .u8 l) 5 (0, 0))) :
    Calls Tryd.prog 74 #[.slice (some ⟨g, 0, none⟩) 32 32] w fun e w' => e = .returned (.tuple #[]) ∧ Frm g w w' ∧ w'.heap[g]? = some (.cells (ints .u8 l.reverse) 5 (0, 0)) := by
  have hR0 : RelV w w g l 0 := ⟨l, Rvk.zero hl.out, Frm.refl _ _, hg⟩
  clear hg
  go_enter Tryd.func74, Tryd.ntmps74
  go_wp2_with fail
  go_loopw [2, 3] (fun i j wr => ∃ k : Nat, k ≤ 16 ∧ i = .int .i64 k ∧ j = .int .i64 (31 - (k : Int)) ∧ RelV w wr g l k) (fun i _ _ => 16 - (intOf i).toNat)
  case atStart => exact ⟨0, by omega, rfl, rfl, hR0⟩
  case round =>
    obtain ⟨k, hk, rfl, rfl, m, hm, hF, hrow⟩ := hrel
    clear hR0
    by_cases hlt : k < 16
    · have hml := hm.1
      have ej : (31 - (k : Int)) = ((31 - k : Nat) : Int) := by omega
      have c0 := cell_ints hrow k (by omega)
      have c1 := cell_ints hrow (31 - k) (by omega)
      have f0 := free_ints hrow k
      have f1 := free_ints hrow (31 - k)
      have hs := hm.step hlt
      obtain ⟨x, hx⟩ : ∃ x, x = m.getD k 0 := ⟨_, rfl⟩
      obtain ⟨y, hy⟩ : ∃ y, y = m.getD (31 - k) 0 := ⟨_, rfl⟩
      rw [← hx] at c0 hs
      rw [← hy] at c1 hs
      have HN : Hid (RelV w ((wr.setCell ⟨g, k, none⟩ (.int .u8 (y : Int))).setCell ⟨g, 31 - k, none⟩ (.int .u8 (x : Int))).drew g l (k + 1)) :=
        ⟨_, hs, ((hF.set _ _).set _ _).drew, set_ints (set_ints hrow k y) (31 - k) x⟩
      have HL : Hid (31 - k < 32) := by show _ < _; omega
      obtain ⟨j, hj⟩ : ∃ j, j = 31 - k := ⟨_, rfl⟩
      rw [← hj] at c1 f1 HN ej
      have hj32 : j < 32 := by omega
      have hkj : k < j := by omega
      have ejn : (j : Int) - 1 = 31 - ((k + 1 : Nat) : Int) := by omega
      rw [ej]
      have HEN : Hid ((j : Int) - 1 = 31 - ((k + 1 : Nat) : Int)) := ejn
      clear hx hy hs hj ej hm hF hrow hml ejn
      go_wp2_with fail
      go_region
      go_wp2
      go_roundw
      case rel => exact ⟨k + 1, by omega, by go_num, by rw [← HEN.out], HN.out⟩
      case measure => simp [intOf]; omega
    · obtain rfl : k = 16 := by omega
      have HM : Hid (m = l.reverse) := hm.done hl.out
      clear hm
      go_wp2
      go_end0
      exact ⟨rfl, hF, by rw [← HM.out]; exact hrow⟩
end Go.Proofs.YtpfcboakafbnlaaDoor
