/-
  Plain mathematics of digits of 256 and of limbs of 51 bits: nothing of the program stands here. Rows of words and of bytes in memory: small laws, over any world. The walks of carried, ofWord, Mul64, plus, rest, carry. The moves of a region that draws its order, one operation at a time (over the library's own law on orders). A region that draws its order: a head of operations that are quiet in a class of worlds, and a tail whose order is forced. The walks of Add, Sub, Mul. The walk of Mul. The walk of least. Numbers for Bytes and ofBytes: bytes are bits of limbs of 51 bits. The walk of Bytes.
-/
import Derived.WalkKit
import Derived.Lib.QuietBelow
import Derived.StillTail
import Derived.StillTactics
import Derived.Test.YtabgihjffjlfiaaGreatDoorProg
import Derived.BigQuiet
import Derived.WalkSmall
import Derived.Laws.Externs
import Derived.Laws.Bits64b
import Derived.OrdersHeld
import Derived.BigRegion
import Derived.Deep.MidRow
import Derived.Laws.CopyOwn
import Derived.Deep.OwnRows
set_option linter.unusedVariables false
namespace Go.Proofs.YtabgihjffjlfiaaGreatDoor
abbrev pp : Nat := 57896044618658097711785492504343953926634992332820282019728792003956564819949
/- Digits of 256. -/
def valD : List Nat → Nat
 | [] => 0
 | d :: l => d + 256 * valD l
def digs : Nat → Nat → List Nat
 | 0, _ => []
 | n + 1, v => v % 256 :: digs n (v / 256)
def Dig (l : List Nat) : Prop := ∀ j, l.getD j 0 < 256
theorem digs_len : ∀ n v, (digs n v).length = n
 | 0, _ => rfl
 | n + 1, v => by simp [digs, digs_len n]
theorem digs_get : ∀ n v j, j < n → (digs n v).getD j 0 = v / 256 ^ j % 256
 | 0, _, _, h => by omega
 | n + 1, v, 0, _ => by simp [digs]
 | n + 1, v, j + 1, h => by
  have := digs_get n (v / 256) j (by omega)
  simp only [digs, List.getD_cons_succ, this]
  rw [Nat.div_div_eq_div_mul, Nat.pow_succ, Nat.mul_comm]
theorem digs_dig (n v : Nat) : Dig (digs n v) := fun j => by
 by_cases h : j < n
 ·rw [digs_get n v j h]; omega
 ·rw [List.getD_eq_getElem?_getD, List.getElem?_eq_none (by rw [digs_len]; omega)]; decide
theorem Dig.tail {d : Nat} {l : List Nat} (h : Dig (d :: l)) : Dig l := fun j => by have := h (j + 1); simpa using this
theorem Dig.head {d : Nat} {l : List Nat} (h : Dig (d :: l)) : d < 256 := by have := h 0; simpa using this
theorem Dig.take {l : List Nat} (h : Dig l) (n : Nat) : Dig (l.take n) := fun j => by
 by_cases hj : j < n
 ·rw [show (l.take n).getD j 0 = l.getD j 0 by simp [hj]]; exact h j
 ·rw [List.getD_eq_getElem?_getD, List.getElem?_eq_none (by simp; omega)]; decide
theorem Dig.drop {l : List Nat} (h : Dig l) (n : Nat) : Dig (l.drop n) := fun j => by
 have := h (n + j)
 simpa using this
theorem Dig.set {l : List Nat} (h : Dig l) {k v : Nat} (hv : v < 256) : Dig (l.set k v) := fun j => by
 have hj := h j
 simp only [List.getD_eq_getElem?_getD, List.getElem?_set] at *
 split
 ·split <;> simp
  ·exact hv
 ·exact hj
theorem Dig.app {a b : List Nat} (ha : Dig a) (hb : Dig b) : Dig (a ++ b) := fun j => by
 by_cases h : j < a.length
 ·have := ha j
  rw [List.getD_eq_getElem?_getD, List.getElem?_append_left h, ← List.getD_eq_getElem?_getD]; exact this
 ·have := hb (j - a.length)
  rw [List.getD_eq_getElem?_getD, List.getElem?_append_right (by omega), ← List.getD_eq_getElem?_getD]; exact this
theorem valD_lt : ∀ {l : List Nat}, Dig l → valD l < 256 ^ l.length
 | [], _ => by decide
 | d :: l, h => by
  have h1 := h.head
  have h2 := valD_lt h.tail
  simp only [valD, List.length_cons, Nat.pow_succ]
  omega
theorem valD_digs : ∀ n v, valD (digs n v) = v % 256 ^ n
 | 0, v => by simp [digs, valD, Nat.mod_one]
 | n + 1, v => by
  rw [digs, valD, valD_digs n, Nat.pow_succ, Nat.mul_comm (256 ^ n), Nat.mod_mul]
theorem valD_digs_lt {n v : Nat} (h : v < 256 ^ n) : valD (digs n v) = v := by rw [valD_digs, Nat.mod_eq_of_lt h]
theorem digs_valD : ∀ {l : List Nat}, Dig l → digs l.length (valD l) = l
 | [], _ => rfl
 | d :: l, h => by
  have h1 := h.head
  rw [List.length_cons, digs, valD, show (d + 256 * valD l) % 256 = d by omega, show (d + 256 * valD l) / 256 = valD l by omega, digs_valD h.tail]
theorem valD_append : ∀ (a b : List Nat), valD (a ++ b) = valD a + 256 ^ a.length * valD b
 | [], b => by simp [valD]
 | d :: a, b => by
  simp only [List.cons_append, valD, List.length_cons, Nat.pow_succ, valD_append a b]
  rw [Nat.mul_comm (256 ^ a.length) 256, Nat.mul_assoc]
  omega
theorem digs_app (n m v : Nat) : digs n v ++ digs m (v / 256 ^ n) = digs (n + m) v := by
 induction n generalizing v with
 | zero => simp [digs]
 | succ n ih =>
  rw [digs, List.cons_append, show n + 1 + m = (n + m) + 1 by omega, digs, ← ih (v / 256), Nat.div_div_eq_div_mul, Nat.pow_succ, Nat.mul_comm 256]
theorem valD_set : ∀ (l : List Nat) (k x : Nat), k < l.length → valD (l.set k x) + 256 ^ k * l.getD k 0 = valD l + 256 ^ k * x
 | [], _, _, h => by simp at h
 | d :: l, 0, x, _ => by simp [valD]; omega
 | d :: l, k + 1, x, h => by
  have := valD_set l k x (by simpa using h)
  simp only [List.set_cons_succ, valD, List.getD_cons_succ, Nat.pow_succ]
  rw [Nat.mul_comm (256 ^ k) 256, Nat.mul_assoc, Nat.mul_assoc]
  omega
theorem take_succ' (bs : List Nat) (k : Nat) (h : k < bs.length) : bs.take (k + 1) = bs.take k ++ [bs.getD k 0] := by
 rw [List.take_succ_eq_append_getElem h]; simp [h]
theorem valD_take_succ (l : List Nat) (k : Nat) : valD (l.take (k + 1)) = valD (l.take k) + 256 ^ k * l.getD k 0 := by
 by_cases h : k < l.length
 ·rw [take_succ' l k h, valD_append, List.length_take, show min k l.length = k by omega]; simp [valD]
 ·rw [List.take_of_length_le (by omega), List.take_of_length_le (by omega), List.getD_eq_getElem?_getD, List.getElem?_eq_none (by omega)]; simp
theorem valD_take_lt {l : List Nat} (h : Dig l) (k : Nat) : valD (l.take k) < 256 ^ k := by
 have h1 := valD_lt (h.take k)
 refine Nat.lt_of_lt_of_le h1 (Nat.pow_le_pow_right (by decide) ?_)
 rw [List.length_take]; omega
theorem valD_rep : ∀ n, valD (List.replicate n 0) = 0
 | 0 => rfl
 | n + 1 => by simp [List.replicate_succ, valD, valD_rep n]
theorem digs_zero (n : Nat) : digs n 0 = List.replicate n 0 := by
 induction n with
 | zero => rfl
 | succ n ih => simp [digs, ih, List.replicate_succ]
theorem pos256 (k : Nat) : 0 < 256 ^ k := Nat.pow_pos (by decide)
theorem digs_set {N Y k d : Nat} (hY : Y < 256 ^ k) (hd : d < 256) (hk : k < N) : (digs N Y).set k d = digs N (Y + 256 ^ k * d) := by
 have hq := pos256 k
 have hlt : Y + 256 ^ k * d < 256 ^ N := by
  have h1 : 256 ^ (k + 1) ≤ 256 ^ N := Nat.pow_le_pow_right (by decide) hk
  rw [Nat.pow_succ] at h1
  have h2 : 256 ^ k * d ≤ 256 ^ k * 255 := Nat.mul_le_mul_left _ (by omega)
  omega
 have hYN : Y < 256 ^ N := Nat.lt_of_lt_of_le hY (Nat.pow_le_pow_right (by decide) (by omega))
 have h0 : (digs N Y).getD k 0 = 0 := by rw [digs_get N Y k hk, Nat.div_eq_of_lt hY]
 have hs := valD_set (digs N Y) k d (by rw [digs_len]; exact hk)
 rw [h0, valD_digs_lt hYN] at hs
 have := digs_valD ((digs_dig N Y).set (k := k) hd)
 rw [List.length_set, digs_len] at this
 rw [← this, show valD ((digs N Y).set k d) = Y + 256 ^ k * d by omega]
theorem mod_step (X q d : Nat) : (X + q * d) % (q * 256) = X % q + q * ((X / q + d) % 256) := by
 by_cases hq : 0 < q
 ·have h1 : X + q * d = X % q + q * (X / q + d) := by
   have := Nat.mod_add_div X q
   rw [Nat.mul_add]; omega
  rw [h1, Nat.mod_mul, Nat.add_mul_mod_self_left, Nat.mod_mod, Nat.add_mul_div_left _ _ hq, Nat.div_eq_of_lt (Nat.mod_lt _ hq), Nat.zero_add]
 ·have : q = 0 := by omega
  subst this; simp
theorem div_step (X q d : Nat) (hq : 0 < q) : (X + q * d) / (q * 256) = (X / q + d) / 256 := by
 rw [← Nat.div_div_eq_div_mul, Nat.add_mul_div_left _ _ hq]
theorem digs_step {N X k d : Nat} (hk : k < N) : (digs N (X % 256 ^ k)).set k ((X / 256 ^ k + d) % 256) = digs N ((X + 256 ^ k * d) % 256 ^ (k + 1)) := by
 rw [Nat.pow_succ, mod_step, digs_set (Nat.mod_lt _ (pos256 k)) (Nat.mod_lt _ (by decide)) hk]
theorem digs_mod (n v : Nat) : digs n (v % 256 ^ n) = digs n v := by
 rw [← valD_digs]
 have := digs_valD (digs_dig n v)
 rwa [digs_len] at this
theorem digs_of {l : List Nat} (h : Dig l) {n v : Nat} (hl : l.length = n) (hv : valD l = v) : l = digs n v := by
 subst hl; subst hv; exact (digs_valD h).symm
/- Limbs of 51 bits. -/
structure E5 where
 a0 : Nat
 a1 : Nat
 a2 : Nat
 a3 : Nat
 a4 : Nat
def E5.val (e : E5) : Nat := e.a0 + 2251799813685248 * e.a1 + 5070602400912917605986812821504 * e.a2 + 11417981541647679048466287755595961091061972992 * e.a3 + 25711008708143844408671393477458601640355247900524685364822016 * e.a4
def E5.wf (e : E5) : Prop := e.a0 < 4503599627370496 ∧ e.a1 < 4503599627370496 ∧ e.a2 < 4503599627370496 ∧ e.a3 < 4503599627370496 ∧ e.a4 < 4503599627370496
def E5.list (e : E5) : List Nat := [e.a0, e.a1, e.a2, e.a3, e.a4]
def zeroE : E5 := ⟨0, 0, 0, 0, 0⟩
def carE (l0 l1 l2 l3 l4 : Nat) : E5 :=
 ⟨l0 % 2251799813685248 + 19 * (l4 / 2251799813685248), l1 % 2251799813685248 + l0 / 2251799813685248, l2 % 2251799813685248 + l1 / 2251799813685248, l3 % 2251799813685248 + l2 / 2251799813685248, l4 % 2251799813685248 + l3 / 2251799813685248⟩
theorem carE_val (l0 l1 l2 l3 l4 : Nat) : (carE l0 l1 l2 l3 l4).val + pp * (l4 / 2251799813685248) = (E5.mk l0 l1 l2 l3 l4).val := by
 unfold carE E5.val pp
 simp only
 omega
theorem carE_mod (l0 l1 l2 l3 l4 : Nat) : (carE l0 l1 l2 l3 l4).val % pp = (E5.mk l0 l1 l2 l3 l4).val % pp := by
 rw [← carE_val l0 l1 l2 l3 l4, Nat.add_mul_mod_self_left]
theorem carE_wf {l0 l1 l2 l3 l4 : Nat} (h0 : l0 < 18446744073709551616) (h1 : l1 < 18446744073709551616) (h2 : l2 < 18446744073709551616) (h3 : l3 < 18446744073709551616) (h4 : l4 < 18446744073709551616) : (carE l0 l1 l2 l3 l4).wf := by
 unfold carE E5.wf
 simp only
 omega
def splitE (V : Nat) : E5 := ⟨V % 2251799813685248, V / 2251799813685248 % 2251799813685248, V / 5070602400912917605986812821504 % 2251799813685248, V / 11417981541647679048466287755595961091061972992 % 2251799813685248, V / 25711008708143844408671393477458601640355247900524685364822016 % 2251799813685248⟩
theorem splitE_val (V : Nat) : (splitE V).val = V % 57896044618658097711785492504343953926634992332820282019728792003956564819968 := by
 unfold splitE E5.val
 simp only
 omega
theorem splitE_wf (V : Nat) : (splitE V).wf := by unfold splitE E5.wf; simp only; omega
/- the least form, as the program's two loops find it -/
def ovf (l : List Nat) : Nat → Nat
 | 0 => 19
 | k + 1 => (l.getD k 0 + ovf l k) / 2251799813685248
def cyf (l : List Nat) (c : Nat) : Nat → Nat
 | 0 => 19 * c
 | k + 1 => (l.getD k 0 + cyf l c k) / 2251799813685248
def lsf (l : List Nat) (c : Nat) : Nat → List Nat
 | 0 => l
 | k + 1 => (lsf l c k).set k ((l.getD k 0 + cyf l c k) % 2251799813685248)
theorem lsf_len (l : List Nat) (c : Nat) : ∀ k, (lsf l c k).length = l.length
 | 0 => rfl
 | k + 1 => by simp [lsf, lsf_len l c k]
def smallE (e : E5) : E5 := carE e.a0 e.a1 e.a2 e.a3 e.a4
theorem ovf5 (s0 s1 s2 s3 s4 : Nat) (h0 : s0 ≤ 2251799813685266) (h1 : s1 ≤ 2251799813685248) (h2 : s2 ≤ 2251799813685248) (h3 : s3 ≤ 2251799813685248) (h4 : s4 ≤ 2251799813685248) :
  (ovf [s0, s1, s2, s3, s4] 5 = 0 ∧ (E5.mk s0 s1 s2 s3 s4).val < pp) ∨ (ovf [s0, s1, s2, s3, s4] 5 = 1 ∧ pp ≤ (E5.mk s0 s1 s2 s3 s4).val) := by
 simp only [ovf, List.getD_cons_succ, List.getD_cons_zero, E5.val, pp]
 omega
theorem lsf5 (s0 s1 s2 s3 s4 : Nat) (h0 : s0 ≤ 2251799813685266) (h1 : s1 ≤ 2251799813685248) (h2 : s2 ≤ 2251799813685248) (h3 : s3 ≤ 2251799813685248) (h4 : s4 ≤ 2251799813685248) :
  lsf [s0, s1, s2, s3, s4] (ovf [s0, s1, s2, s3, s4] 5) 5 = (splitE ((E5.mk s0 s1 s2 s3 s4).val % pp)).list := by
 rcases ovf5 s0 s1 s2 s3 s4 h0 h1 h2 h3 h4 with ⟨h, hl⟩ | ⟨h, hl⟩
 ·rw [h, Nat.mod_eq_of_lt hl]
  simp only [lsf, cyf, List.getD_cons_succ, List.getD_cons_zero, List.set_cons_succ, List.set_cons_zero, splitE, E5.list, E5.val, pp, List.cons.injEq, and_true] at *
  omega
 ·have hm : (E5.mk s0 s1 s2 s3 s4).val % pp = (E5.mk s0 s1 s2 s3 s4).val - pp := by
   rw [Nat.mod_eq_sub_mod hl, Nat.mod_eq_of_lt]
   simp only [E5.val, pp] at *
   omega
  rw [h, hm]
  simp only [lsf, cyf, List.getD_cons_succ, List.getD_cons_zero, List.set_cons_succ, List.set_cons_zero, splitE, E5.list, E5.val, pp, List.cons.injEq, and_true] at *
  omega
def leastE (e : E5) : E5 := splitE (e.val % pp)
theorem least_eq {e : E5} (h : e.wf) : lsf (smallE e).list (ovf (smallE e).list 5) 5 = (leastE e).list := by
 obtain ⟨a0, a1, a2, a3, a4⟩ := e
 unfold E5.wf at h
 simp only at h
 have := lsf5 (a0 % 2251799813685248 + 19 * (a4 / 2251799813685248)) (a1 % 2251799813685248 + a0 / 2251799813685248) (a2 % 2251799813685248 + a1 / 2251799813685248) (a3 % 2251799813685248 + a2 / 2251799813685248) (a4 % 2251799813685248 + a3 / 2251799813685248) (by omega) (by omega) (by omega) (by omega) (by omega)
 show lsf (carE a0 a1 a2 a3 a4).list (ovf (carE a0 a1 a2 a3 a4).list 5) 5 = _
 unfold leastE
 rw [← carE_mod a0 a1 a2 a3 a4]
 exact this
theorem pp_lt : pp < 57896044618658097711785492504343953926634992332820282019728792003956564819968 := by decide
theorem pp_pos : 0 < pp := by decide
end Go.Proofs.YtabgihjffjlfiaaGreatDoor
namespace Go.Proofs.YtabgihjffjlfiaaGreatDoor
theorem lA {α : Type _} (l : List α) (i : Nat) (a : α) : l.toArray.setIfInBounds i a = (l.set i a).toArray := List.setIfInBounds_toArray ..
theorem lS {α : Type _} (a : α) (xs : List α) (n : Nat) (b : α) : (a :: xs).set (n + 1) b = a :: xs.set n b := List.set_cons_succ
theorem lZ {α : Type _} (a : α) (xs : List α) (b : α) : (a :: xs).set 0 b = b :: xs := List.set_cons_zero
open Go.RowKit
def ints (k : IntKind) (l : List Nat) : Array Value := (l.map fun (x : Nat) => Value.int k (x : Int)).toArray
theorem ints_size (k : IntKind) (l : List Nat) : (ints k l).size = l.length := by simp [ints]
theorem ints_get (k : IntKind) (l : List Nat) (j : Nat) (h : j < l.length) : (ints k l)[j]? = some (.int k ((l.getD j 0 : Nat) : Int)) := by
 simp [ints, h]
theorem ints_set (k : IntKind) (l : List Nat) (j v : Nat) : (ints k l).setIfInBounds j (.int k (v : Int)) = ints k (l.set j v) := by
 simp [ints, List.map_set]
theorem cell_ints {w : World} {g t : Nat} {k : IntKind} {l : List Nat} (h : w.heap[g]? = some (.cells (ints k l) t (0, 0))) (j : Nat) (hj : j < l.length) :
  w.cell? ⟨g, j, none⟩ = some (.int k ((l.getD j 0 : Nat) : Int)) := by
 rw [cell_of_row w g j _ t _ h]; exact ints_get k l j hj
theorem free_ints {w : World} {g t : Nat} {cs : Array Value} (h : w.heap[g]? = some (.cells cs t (0, 0))) (j : Nat) : w.frozen? ⟨g, j, none⟩ = false :=
 frozen_of_row w g j _ t h
theorem set_ints {w : World} {g t : Nat} {k : IntKind} {l : List Nat} (h : w.heap[g]? = some (.cells (ints k l) t (0, 0))) (j v : Nat) :
  (w.setCell ⟨g, j, none⟩ (.int k (v : Int))).heap[g]? = some (.cells (ints k (l.set j v)) t (0, 0)) := by
 rw [heap_setCell_same w g j _ t _ h, ints_set]
def BytesAt (w : World) (b off : Nat) (bs : List Nat) : Prop := ∀ i, i < bs.length → w.cell? ⟨b, off + i, none⟩ = some (.int .u8 ((bs.getD i 0 : Nat) : Int))
theorem BytesAt.below {w w' : World} {b off B : Nat} {bs : List Nat} (h : BytesAt w b off bs) (hb : Below B w w') (hlt : b < B) : BytesAt w' b off bs :=
 fun i hi => (hb.cell (p := ⟨b, off + i, none⟩) hlt).trans (h i hi)
theorem block_below {w w' : World} {B g : Nat} (hb : Below B w w') (hg : g < B) {o : Obj} (h : w.heap[g]? = some o) : w'.heap[g]? = some o := (hb.block g hg).trans h
theorem lt_of_heap {w : World} {g : Nat} {o : Obj} (h : w.heap[g]? = some o) : g < w.heap.size := by
 by_cases hlt : g < w.heap.size
 ·exact hlt
 ·rw [Array.getElem?_eq_none (by omega)] at h; cases h
theorem ret_int {k : IntKind} {a b : Int} (h : a = b) : Ending.returned (.int k a) = .returned (.int k b) := by rw [h]
theorem size_alloc (w : World) (o : Obj) : (w.alloc o).heap.size = w.heap.size + 1 := by simp
theorem below3 (w : World) (a b c : Obj) : Below w.heap.size w (((w.alloc a).alloc b).alloc c) :=
 (((Below.refl _ _).alloc (Nat.le_refl _) _).alloc (by rw [size_alloc]; omega) _).alloc (by rw [size_alloc, size_alloc]; omega) _
theorem heap3_0 (w : World) (a b c : Obj) : (((w.alloc a).alloc b).alloc c).heap[w.heap.size]? = some a := by
 rw [heap_alloc_old _ _ (by rw [size_alloc, size_alloc]; omega), heap_alloc_old _ _ (by rw [size_alloc]; omega), heap_alloc_new]
theorem heap3_1 (w : World) (a b c : Obj) : (((w.alloc a).alloc b).alloc c).heap[w.heap.size + 1]? = some b := by
 rw [heap_alloc_old _ _ (by rw [size_alloc, size_alloc]; omega)]; exact heap_alloc2_new w a b
theorem heap3_2 (w : World) (a b c : Obj) : (((w.alloc a).alloc b).alloc c).heap[w.heap.size + 1 + 1]? = some c := by
 have := heap_alloc2_new (w.alloc a) b c
 rw [size_alloc] at this; exact this
theorem below2 (w : World) (a b : Obj) : Below w.heap.size w ((w.alloc a).alloc b) :=
 ((Below.refl _ _).alloc (Nat.le_refl _) _).alloc (by rw [size_alloc]; omega) _
theorem below1 (w : World) (a : Obj) : Below w.heap.size w (w.alloc a) := (Below.refl _ _).alloc (Nat.le_refl _) _
theorem setRow_below {B : Nat} {a w : World} (h : Below B a w) {g : Nat} (hg : B ≤ g) (cs : Array Value) : Below B a (w.setRow g cs) :=
 ⟨h.os, h.tape, h.output, by rw [setRow_size]; exact h.size, fun k hk => (setRow_other w g k cs (by omega)).trans (h.block k hk)⟩
theorem ints_one (k : IntKind) (l : List Nat) : (ints k l).all (·.oneCell') = true := by
 rw [Array.all_eq_true_iff_forall_mem]
 intro v hv
 simp only [ints, List.mem_toArray, List.mem_map] at hv
 obtain ⟨x, _, rfl⟩ := hv
 rfl
theorem wpStill_run {P : Program} {ops : Array Oper} {w : World} {Q : Act → Prop} {o : Oper} {rest : List Oper} {a : Act} (v : Value) (hg : o.guard = none) (hr : (execOp a.eval o).run P w = .ok (.value v) w)
  (h : wpStill P ops w Q rest (a.put o.dst v)) : wpStill P ops w Q (o :: rest) a := by
 refine wpStill_step fun K hK => ?_
 have hw : Region.wanted o (yielded ops a.tmps) = true := by simp [Region.wanted, hg]
 rw [if_pos hw]
 unfold Oper.still
 rw [hr]
 exact ⟨rfl, hK _ h⟩
theorem wpStill_load_row {P : Program} {ops : Array Oper} {w : World} {Q : Act → Prop} {o : Oper} {rest : List Oper} {a : Act} (hg : o.guard = none) (ty : TypeId) (x : Operand) (ho : o.op = .load ty x)
  (g : Nat) (hx : a.eval x = .pointer (some ⟨g, 0, none⟩)) (t : TypeId) (cs : Array Value) (fr : Nat × Nat) (d : TypeDesc) (hgp : w.heap[g]? = some (.cells cs t fr))
  (hu : P.underlying ty = some d) (hd : (match d with | .struct _ | .array _ _ => true | _ => false) = true) (hi : (P.info? ty).map (·.size) = some cs.size)
  (h : wpStill P ops w Q rest (a.put o.dst (.agg cs))) : wpStill P ops w Q (o :: rest) a := by
 refine wpStill_run (.agg cs) hg ?_ h
 unfold execOp
 simp only [ho, hx, Instr.loadAt, Instr.sureAddr, Sem.run_bind, Sem.run_pure, Result.andThen_ok, run_loadVar_row w g t ty cs fr d hgp hu hd hi]
def View (w : World) (a : Option Addr) (bs : List Nat) : Prop := 0 < bs.length → ∃ b off, a = some ⟨b, off, none⟩ ∧ BytesAt w b off bs
theorem View.below {w w' : World} {a : Option Addr} {bs : List Nat} (h : View w a bs) (hb : Below w.heap.size w w') : View w' a bs := fun hp => by
 obtain ⟨b, off, ha, hc⟩ := h hp
 exact ⟨b, off, ha, hc.below hb (block_lt_of_cell (hc 0 hp))⟩
theorem bytes_row {w : World} {g t : Nat} {l : List Nat} (h : w.heap[g]? = some (.cells (ints .u8 l) t (0, 0))) : BytesAt w g 0 l := fun i hi => by
 rw [Nat.zero_add]; exact cell_ints h i hi
theorem ints_list (k : IntKind) (l : List Nat) : (ints k l).toList = l.map fun (x : Nat) => Value.int k (x : Int) := by simp [ints]
end Go.Proofs.YtabgihjffjlfiaaGreatDoor
set_option linter.unusedVariables false
namespace Go.Proofs.YtabgihjffjlfiaaGreatDoor
open Go.RowKit Go.Sort Go.BigFrame
set_option maxRecDepth 100000
set_option maxHeartbeats 2000000
def elc (e : E5) : Array Value := #[.int .u64 (e.a0 : Int), .int .u64 (e.a1 : Int), .int .u64 (e.a2 : Int), .int .u64 (e.a3 : Int), .int .u64 (e.a4 : Int)]
theorem and51 (x : Nat) (hx : x < 18446744073709551616) : bits .and .u64 (x : Int) 2251799813685247 = ((x % 2251799813685248 : Nat) : Int) := by
 have := bits_and_u64_nat x 2251799813685247 hx (by decide)
 rw [show (2251799813685247 : Nat) = 2 ^ 51 - 1 from rfl, Nat.and_two_pow_sub_one_eq_mod] at this
 exact this
theorem and32 (x : Nat) (hx : x < 18446744073709551616) : bits .and .u64 (x : Int) 4294967295 = ((x % 4294967296 : Nat) : Int) := by
 have := bits_and_u64_nat x 4294967295 hx (by decide)
 rw [show (4294967295 : Nat) = 2 ^ 32 - 1 from rfl, Nat.and_two_pow_sub_one_eq_mod] at this
 exact this
theorem carried39 (l0 l1 l2 l3 l4 : Nat) (w : World) (h0 : l0 < 18446744073709551616) (h1 : l1 < 18446744073709551616) (h2 : l2 < 18446744073709551616) (h3 : l3 < 18446744073709551616) (h4 : l4 < 18446744073709551616) :
  Calls Tryz.prog 97 #[.int .u64 l0, .int .u64 l1, .int .u64 l2, .int .u64 l3, .int .u64 l4] w fun e w' => e = .returned (.agg (elc (carE l0 l1 l2 l3 l4))) ∧ Below w.heap.size w w' := by
 have e0 := and51 l0 h0
 have e1 := and51 l1 h1
 have e2 := and51 l2 h2
 have e3 := and51 l3 h3
 have e4 := and51 l4 h4
 go_enter Tryz.func97, Tryz.ntmps97
 go_wp2
 exact bodyPost_ret (v := .agg (elc (carE l0 l1 l2 l3 l4))) (by simp [results, Tryz.results97, go_sem, elc, carE]) rfl ⟨rfl, below1 _ _⟩
theorem ofWord37 (n : Nat) (w : World) (h : n < 18446744073709551616) :
  Calls Tryz.prog 109 #[.int .u64 n] w fun e w' => e = .returned (.agg (elc ⟨n % 2251799813685248, n / 2251799813685248, 0, 0, 0⟩)) ∧ Below w.heap.size w w' := by
 have e0 := and51 n h
 go_enter Tryz.func109, Tryz.ntmps109
 go_wp2
 exact bodyPost_ret (v := .agg (elc ⟨n % 2251799813685248, n / 2251799813685248, 0, 0, 0⟩)) (by simp [results, Tryz.results109, go_sem, elc]) rfl ⟨rfl, below1 _ _⟩
theorem wrapu (t : Int) (h0 : 0 ≤ t) (h : t < 18446744073709551616) : IntKind.u64.wrap t = t := by
 simp [IntKind.wrap, IntKind.bits, IntKind.signed]; omega
theorem wrapm (t : Int) : IntKind.u64.wrap t = t % 18446744073709551616 := by
 simp [IntKind.wrap, IntKind.bits, IntKind.signed]
theorem hi64 (p1 p2 p3 p4 : Nat) (h1 : p1 ≤ 18446744065119617025) (h2 : p2 ≤ 18446744065119617025) (h3 : p3 ≤ 18446744065119617025) (h4 : p4 ≤ 18446744065119617025) :
  IntKind.u64.wrap (IntKind.u64.wrap (IntKind.u64.wrap (p4 : Int) + IntKind.u64.wrap (IntKind.u64.wrap (p2 : Int) + IntKind.u64.wrap (p1 : Int) / 4294967296) / 4294967296) + IntKind.u64.wrap (bits BinOp.and IntKind.u64 (IntKind.u64.wrap (IntKind.u64.wrap (p2 : Int) + IntKind.u64.wrap (p1 : Int) / 4294967296)) 4294967295 + IntKind.u64.wrap (p3 : Int)) / 4294967296)
   = (((p1 + 4294967296 * (p2 + p3) + 18446744073709551616 * p4) / 18446744073709551616 : Nat) : Int) := by
 rw [wrapu (p1 : Int) (by omega) (by omega), wrapu (p2 : Int) (by omega) (by omega), wrapu (p3 : Int) (by omega) (by omega), wrapu (p4 : Int) (by omega) (by omega)]
 rw [wrapu ((p2 : Int) + (p1 : Int) / 4294967296) (by omega) (by omega)]
 have e : ((p2 : Int) + (p1 : Int) / 4294967296) = ((p2 + p1 / 4294967296 : Nat) : Int) := by simp
 rw [e, and32 _ (by omega), wrapu (((p2 + p1 / 4294967296) % 4294967296 : Nat) + (p3 : Int)) (by omega) (by omega), wrapm, wrapm]
 omega
theorem mulle (a b : Nat) (ha : a ≤ 4294967295) (hb : b ≤ 4294967295) : a * b ≤ 18446744065119617025 := Nat.mul_le_mul ha hb
theorem mulsplit (x y : Nat) : x * y = (x % 4294967296) * (y % 4294967296) + 4294967296 * ((x / 4294967296) * (y % 4294967296) + (x % 4294967296) * (y / 4294967296)) + 18446744073709551616 * ((x / 4294967296) * (y / 4294967296)) := by
 obtain ⟨a, ha⟩ : ∃ a, a = x % 4294967296 := ⟨_, rfl⟩
 obtain ⟨b, hb⟩ : ∃ a, a = x / 4294967296 := ⟨_, rfl⟩
 obtain ⟨c, hc⟩ : ∃ a, a = y % 4294967296 := ⟨_, rfl⟩
 obtain ⟨d, hd⟩ : ∃ a, a = y / 4294967296 := ⟨_, rfl⟩
 rw [← ha, ← hb, ← hc, ← hd]
 have hx : x = a + 4294967296 * b := by omega
 have hy : y = c + 4294967296 * d := by omega
 rw [hx, hy]
 grind
theorem mul45 (x y : Nat) (w : World) (hx : x < 18446744073709551616) (hy : y < 18446744073709551616) :
  Calls Tryz.prog 112 #[.int .u64 x, .int .u64 y] w fun e w' => e = .returned (.tuple #[.int .u64 ((x * y / 18446744073709551616 : Nat) : Int), .int .u64 ((x * y % 18446744073709551616 : Nat) : Int)]) ∧ w' = w := by
 have e0 := and32 x hx
 have e1 := and32 y hy
 go_enter Tryz.func112, Tryz.ntmps112
 go_wp2
 go_ret2
 refine ⟨?_, rfl⟩
 have hms := mulsplit x y
 have h1 := mulle (x % 4294967296) (y % 4294967296) (by omega) (by omega)
 have h2 := mulle (x / 4294967296) (y % 4294967296) (by omega) (by omega)
 have h3 := mulle (x % 4294967296) (y / 4294967296) (by omega) (by omega)
 have h4 := mulle (x / 4294967296) (y / 4294967296) (by omega) (by omega)
 have hh := hi64 _ _ _ _ h1 h2 h3 h4
 rw [← hms] at hh
 rw [← hh]
 have hl : IntKind.u64.wrap ((x : Int) * (y : Int)) = ((x * y % 18446744073709551616 : Nat) : Int) := by rw [wrapm]; simp
 rw [← hl]
 simp
theorem add64 (x y c : Int) (hx : 0 ≤ x) (hy : 0 ≤ y) (hc0 : 0 ≤ c) (hc : c ≤ 1) (w : World) : (callFunc 113 #[.int .u64 x, .int .u64 y, .int .u64 c]).run Tryz.prog w =
  .ok (.value (.tuple #[.int .u64 ((x + y + c) % 18446744073709551616), .int .u64 ((x + y + c) / 18446744073709551616)])) w := by
 rw [run_callFunc_extern Tryz.func113 (by kernel_rfl) (by kernel_rfl) (by kernel_rfl) (e := add64Entry) (by kernel_rfl), run_add64 x y c hx hy hc0 hc]
 rfl
theorem add64_0 (x y : Int) (hx : 0 ≤ x) (hy : 0 ≤ y) (w : World) : (callFunc 113 #[.int .u64 x, .int .u64 y, .int .u64 0]).run Tryz.prog w =
  .ok (.value (.tuple #[.int .u64 ((x + y) % 18446744073709551616), .int .u64 ((x + y) / 18446744073709551616)])) w := by
 simpa using add64 x y 0 hx hy (Int.le_refl 0) (by decide) w
def wdc (W : Nat) : Array Value := #[.int .u64 ((W / 18446744073709551616 : Nat) : Int), .int .u64 ((W % 18446744073709551616 : Nat) : Int)]
theorem plus41 (W x y : Nat) (w : World) (hx : x < 18446744073709551616) (hy : y < 18446744073709551616) (hW : W + x * y < 340282366920938463463374607431768211456) :
  Calls Tryz.prog 96 #[.agg (wdc W), .int .u64 x, .int .u64 y] w fun e w' => e = .returned (.agg (wdc (W + x * y))) ∧ Below w.heap.size w w' := by
 obtain ⟨wh, hwh⟩ : ∃ z, z = W / 18446744073709551616 := ⟨_, rfl⟩
 obtain ⟨wl, hwl⟩ : ∃ z, z = W % 18446744073709551616 := ⟨_, rfl⟩
 obtain ⟨z, hz⟩ : ∃ z, z = x * y := ⟨_, rfl⟩
 have hm := fun w1 => mul45 x y w1 hx hy
 rw [← hz] at hW hm ⊢
 obtain ⟨zh, hzh⟩ : ∃ t, t = z / 18446744073709551616 := ⟨_, rfl⟩
 obtain ⟨zl, hzl⟩ : ∃ t, t = z % 18446744073709551616 := ⟨_, rfl⟩
 rw [← hzh, ← hzl] at hm
 unfold wdc
 rw [← hwh, ← hwl]
 have HE1 : Hid ((W + z) / 18446744073709551616 = (zh + wh + (zl + wl) / 18446744073709551616) % 18446744073709551616) := by show _ = _; omega
 have HE2 : Hid ((W + z) % 18446744073709551616 = (zl + wl) % 18446744073709551616) := by show _ = _; omega
 have k0 : 0 ≤ ((zl : Int) + wl) / 18446744073709551616 := by omega
 have k1 : ((zl : Int) + wl) / 18446744073709551616 ≤ 1 := by omega
 clear hwh hwl hz hzh hzl hx hy hW
 go_enter Tryz.func96, Tryz.ntmps96
 go_wp2_with fail
 refine (hm _).mono ?_
 rintro e w' ⟨rfl, rfl⟩
 go_wp2_with (first | simp only [add64_0 (zl : Int) (wl : Int) (by omega) (by omega)] | simp only [add64 (zh : Int) (wh : Int) _ (by omega) (by omega) k0 k1])
 refine bodyPost_ret (v := .agg #[.int .u64 (((W + z) / 18446744073709551616 : Nat) : Int), .int .u64 (((W + z) % 18446744073709551616 : Nat) : Int)]) ?_ rfl ⟨rfl, below2 _ _ _⟩
 rw [HE1.out, HE2.out]
 simp [results, Tryz.results96, go_sem]
theorem rest42 (W : Nat) (w : World) : Calls Tryz.prog 98 #[.agg (wdc W)] w fun e w' => e = .returned (.int .u64 ((W % 2251799813685248 : Nat) : Int)) ∧ Below w.heap.size w w' := by
 obtain ⟨wl, hwl⟩ : ∃ z, z = W % 18446744073709551616 := ⟨_, rfl⟩
 have e0 := and51 wl (by omega)
 rw [show W % 2251799813685248 = wl % 2251799813685248 by omega]
 unfold wdc
 rw [← hwl]
 clear hwl
 go_enter Tryz.func98, Tryz.ntmps98
 go_wp2
 go_ret
 exact ⟨by simp, below1 _ _⟩
theorem or_add64 (a b k : Nat) (ha : a % 2 ^ k = 0) (hb : b < 2 ^ k) (hab : a + b < 18446744073709551616) : bits .or .u64 (a : Int) (b : Int) = ((a + b : Nat) : Int) := by
 rw [bits_or_u64_nat a b (by omega) (by omega)]
 congr 1
 have h1 : a = 2 ^ k * (a / 2 ^ k) := by have := Nat.div_add_mod a (2 ^ k); omega
 rw [h1, Nat.two_pow_add_eq_or_of_lt hb]
theorem carry43 (W : Nat) (w : World) (hW : W < 41538374868278621028243970633760768) : Calls Tryz.prog 99 #[.agg (wdc W)] w fun e w' => e = .returned (.int .u64 ((W / 2251799813685248 : Nat) : Int)) ∧ Below w.heap.size w w' := by
 obtain ⟨wl, hwl⟩ : ∃ z, z = W % 18446744073709551616 := ⟨_, rfl⟩
 obtain ⟨wh, hwh⟩ : ∃ z, z = W / 18446744073709551616 := ⟨_, rfl⟩
 have HO := or_add64 (wh * 8192) (wl / 2251799813685248) 13 (by omega) (by omega) (by omega)
 have HE : Hid (W / 2251799813685248 = wh * 8192 + wl / 2251799813685248) := by show _ = _; omega
 unfold wdc
 rw [← hwl, ← hwh]
 have hs : wh < 2251799813685248 := by omega
 have hl : wl < 18446744073709551616 := by omega
 clear hwl hwh hW
 go_enter Tryz.func99, Tryz.ntmps99
 go_wp2
 go_ret
 refine ⟨?_, below1 _ _⟩
 rw [HE.out, ← HO]
 simp
end Go.Proofs.YtabgihjffjlfiaaGreatDoor
namespace Go.Proofs.YtabgihjffjlfiaaGreatDoor
open Go.RowKit
variable {P : Program} {ops : Array Oper} {Q : Exit → Act → World → Prop} {S : World → Prop}
theorem wpOp_of_wp {i : Nat} {o : Oper} {K : Act → World → Prop} {a : Act} {w : World} (hi : ops[i]? = some o) (hg : o.guard = none) (h : o.wp P a w K Q) : wpOp P ops Q i K a w := by
 unfold wpOp
 simp only [hi]
 have hw : Region.wanted o (yielded ops a.tmps) = true := by simp [Region.wanted, hg]
 rw [if_pos hw]
 exact .inl h
theorem wp_call {o : Oper} {K : Act → World → Prop} {a : Act} {w : World} {f : FuncId} {args : Array Value} {R : Value → World → Prop} (hr : (execOp a.eval o).run P w = .ok (.enter f args) w)
  (hc : Calls P f args w fun e w' => ∃ v, e = .returned v ∧ R v w') (hk : ∀ v w', R v w' → K (a.put o.dst v) w') : o.wp P a w K Q := by
 unfold Oper.wp
 rw [hr]
 exact hc.mono fun e w' ⟨v, he, hR⟩ => by subst he; exact hk v w' hR
theorem yields_run {o : Oper} {v : Value} {a : Act} (hg : o.guard = none) (h : ∀ w, S w → (execOp a.eval o).run P w = .ok (.value v) w) : YieldsIf P ops S o v a :=
 .inl ⟨by simp [Region.wanted, hg], h⟩
theorem yields_move {o : Oper} {a : Act} (hg : o.guard = none) (x : Operand) (h : o.op = .move x) : YieldsIf P ops S o (a.eval x) a :=
 yields_run hg fun w _ => BigFrame.run_move x h w
theorem yields_load_row {o : Oper} {a : Act} (hg : o.guard = none) (ty : TypeId) (x : Operand) (ho : o.op = .load ty x)
  (g : Nat) (hx : a.eval x = .pointer (some ⟨g, 0, none⟩)) (t : TypeId) (cs : Array Value) (fr : Nat × Nat) (d : TypeDesc) (hgp : ∀ w, S w → w.heap[g]? = some (.cells cs t fr))
  (hu : P.underlying ty = some d) (hd : (match d with | .struct _ | .array _ _ => true | _ => false) = true) (hi : (P.info? ty).map (·.size) = some cs.size) : YieldsIf P ops S o (.agg cs) a :=
 yields_run hg fun w hS => by
  unfold execOp
  simp only [ho, hx, Instr.loadAt, Instr.sureAddr, Sem.run_bind, Sem.run_pure, Result.andThen_ok, run_loadVar_row w g t ty cs fr d (hgp w hS) hu hd hi]
theorem take_at {i : Nat} {v : Value} {fuel : Nat} {listed : Array Bool} {a : Act} {w : World} (dst : Option Tmp) (oi : Oper) (hi : ops[i]? = some oi) (hd : oi.dst = dst)
  (hs : Region.noSelect ops = true) (hf : Region.free .any ops listed i = true) (hr : (Region.ready .any ops listed).contains i = true)
  (hQ : ∀ c a w, Q (.panic c) (a.put oi.dst v) w → Q (.panic c) a w) (hy : YieldsIf P ops S oi v a) (hS : S w)
  (h : wpAnyH P .any ops Q S fuel (listed.setIfInBounds i true) (a.put dst v) w) : wpAnyH P .any ops Q S (fuel + 1) listed a w :=
 wpAnyH_take hi hs hf hr hQ hy hS (by rw [hd]; exact h)
theorem one_at {i : Nat} {fuel : Nat} {listed : Array Bool} {a : Act} {w : World} (hr : Region.ready .any ops listed = [i])
  (h : wpOp P ops Q i (fun a' w' => S w' ∧ wpAnyH P .any ops Q S fuel (listed.setIfInBounds i true) a' w') a w) : wpAnyH P .any ops Q S (fuel + 1) listed a w :=
 wpAnyH_all hr (by simp) fun j hj => by obtain rfl := List.mem_singleton.1 hj; exact h
theorem two_at {i j : Nat} {fuel : Nat} {listed : Array Bool} {a : Act} {w : World} (hr : Region.ready .any ops listed = [i, j])
  (h : wpOp P ops Q i (fun a' w' => S w' ∧ wpAnyH P .any ops Q S fuel (listed.setIfInBounds i true) a' w') a w)
  (h' : wpOp P ops Q j (fun a' w' => S w' ∧ wpAnyH P .any ops Q S fuel (listed.setIfInBounds j true) a' w') a w) : wpAnyH P .any ops Q S (fuel + 1) listed a w :=
 wpAnyH_all hr (by simp) fun k hk => by
  rcases List.mem_cons.1 hk with rfl | hk
  ·exact h
  ·obtain rfl := List.mem_singleton.1 hk; exact h'
theorem load_at {i : Nat} {o : Oper} {K : Act → World → Prop} {a : Act} {w : World} (dst : Option Tmp) (hi : ops[i]? = some o) (hg : o.guard = none) (hd : o.dst = dst) (ty : TypeId) (x : Operand) (ho : o.op = .load ty x)
  (g : Nat) (hx : a.eval x = .pointer (some ⟨g, 0, none⟩)) (t : TypeId) (cs : Array Value) (fr : Nat × Nat) (d : TypeDesc) (hgp : w.heap[g]? = some (.cells cs t fr))
  (hu : P.underlying ty = some d) (hdd : (match d with | .struct _ | .array _ _ => true | _ => false) = true) (hin : (P.info? ty).map (·.size) = some cs.size)
  (h : K (a.put dst (.agg cs)) w) : wpOp P ops Q i K a w :=
 wpOp_of_wp hi hg (wp_load_row ty x ho g hx t cs fr d hgp hu hdd hin (by rw [hd]; exact h))
theorem call_at {i : Nat} {o : Oper} {K : Act → World → Prop} {a : Act} {w : World} (dst : Option Tmp) (hi : ops[i]? = some o) (hg : o.guard = none) (hd : o.dst = dst) (f : FuncId) (args : Array Value) {R : Value → World → Prop}
  (hr : (execOp a.eval o).run P w = .ok (.enter f args) w) (hc : Calls P f args w fun e w' => ∃ v, e = .returned v ∧ R v w') (hk : ∀ v w', R v w' → K (a.put dst v) w') : wpOp P ops Q i K a w :=
 wpOp_of_wp hi hg (wp_call hr hc (by rw [hd]; exact hk))
theorem store_at {i : Nat} {o : Oper} {K : Act → World → Prop} {a : Act} {w : World} (hi : ops[i]? = some o) (hg : o.guard = none) (hd : o.dst = none) (ty : TypeId) (x y : Operand) (ho : o.op = .store ty x y)
  (g : Nat) (cells : Array Value) (hx : a.eval x = .pointer (some ⟨g, 0, none⟩)) (hy : a.eval y = .agg cells) (t : TypeId) (old : Array Value) (hgp : w.heap[g]? = some (.cells old t (0, 0))) (hin : (P.info? ty).map (·.size) = some cells.size)
  (hold : old.size = cells.size) (h1 : cells.all (·.oneCell') = true) (h : K a (w.setRow g cells)) : wpOp P ops Q i K a w :=
 wpOp_of_wp hi hg (wp_store_row ty x y ho g cells hx hy t old hgp hin hold h1 (by rw [hd]; exact h))
theorem run_at {i : Nat} {o : Oper} {K : Act → World → Prop} {a : Act} {w : World} (dst : Option Tmp) (v : Value) (hi : ops[i]? = some o) (hg : o.guard = none) (hd : o.dst = dst) (hr : (execOp a.eval o).run P w = .ok (.value v) w) (h : K (a.put dst v) w) : wpOp P ops Q i K a w := by
 refine wpOp_of_wp hi hg ?_
 unfold Oper.wp
 rw [hr]
 subst hd
 exact h
theorem run_convertO {ρ : Operand → Value} {s t : TypeId} {x : Operand} {w : World} {v : Value} {o : Oper} (hr : (convert s t (ρ x)).run P w = .ok v w) (ho : o.op = .convert s t x) : (execOp ρ o).run P w = .ok (.value v) w := by
 unfold execOp
 rw [ho]
 simp only [Sem.run_bind, hr, Result.andThen_ok, Sem.run_pure]
end Go.Proofs.YtabgihjffjlfiaaGreatDoor
set_option linter.unusedVariables false
namespace Go.Proofs.YtabgihjffjlfiaaGreatDoor
open Go.RowKit Go.Sort
section
variable {P : Program} {ops : Array Oper} {md : Region.Mode} {C : World → Prop}
def wpHQ (P : Program) (md : Region.Mode) (ops : Array Oper) (C : World → Prop) (n : Nat) (L : Array Bool → Act → Prop) : Nat → Array Bool → Act → Prop
 | 0, listed, a => L listed a
 | f + 1, listed, a => Region.ready md ops listed ≠ [] ∧ ∀ i ∈ Region.ready md ops listed, i < n ∧ qOp P ops C i (wpHQ P md ops C n L f (listed.setIfInBounds i true)) a
theorem any_of_HQ {n g : Nat} {L : Array Bool → Act → Prop} {Q' : Exit → Act → World → Prop} (hL : ∀ listed a w, C w → L listed a → wpAny P md ops Q' g listed a w) :
  ∀ (f : Nat) (listed : Array Bool) (a : Act) (w : World), C w → wpHQ P md ops C n L f listed a → wpAny P md ops Q' (f + g) listed a w
 | 0, _, _, _, hw, h => by rw [Nat.zero_add]; exact hL _ _ _ hw h
 | f + 1, _, _, _, hw, h => by
  rw [show f + 1 + g = (f + g) + 1 by omega]
  exact ⟨fun h0 => absurd h0 h.1, fun i hi => wpOp_of_qOp hw (fun a' w' hw' h' => any_of_HQ hL f _ a' w' hw' h') (h.2 i hi).2⟩
theorem HQ_first {n i : Nat} {oi : Oper} {v : Value} {L : Array Bool → Act → Prop} (hi : ops[i]? = some oi) (hsel : ∀ (j : Nat) (o : Oper) cs b, ops[j]? = some o → o.op ≠ .select cs b)
  (hs : Region.sinkB md ops n = true) (hc : Region.chainB md ops n = true) (hn : n < ops.size) (hin : i < n) (hdone : ∀ listed a, L listed a → ∀ j ∈ Region.ready md ops listed, n ≤ j) (f : Nat) :
  ∀ (listed : Array Bool) (a : Act), HeadInv md ops n listed →
   (∀ j oj, ops[j]? = some oj → j ≠ i → listed.getD j true = false → (∀ e ∈ oj.after, Region.binds md e = true → e.on ≠ i) → oi.apart ops oj = true) →
   i ∈ Region.ready md ops listed → YieldsIn P ops C oi v a → wpHQ P md ops C n L f (listed.setIfInBounds i true) (a.put oi.dst v) → wpHQ P md ops C n L (f + 1) listed a := by
 have small : ∀ {listed : Array Bool}, HeadInv md ops n listed → i ∈ Region.ready md ops listed → ∀ j ∈ Region.ready md ops listed, j < n := fun {listed} inv hr j hj =>
  Nat.lt_of_not_le fun h => tail_waits hs hc hn inv _ i rfl hin (mem_ready.1 hr).1 j h hj
 induction f with
 | zero =>
  intro listed a inv _ hr hy H
  refine ⟨fun h => absurd hr (by rw [h]; exact List.not_mem_nil), fun j hj => ⟨small inv hr j hj, ?_⟩⟩
  by_cases e : j = i
  ·rw [e]; exact hy.qOp hi H
  ·have h1 := hdone _ _ H j (ready_mono hj e)
   have h2 := small inv hr j hj
   omega
 | succ f ih =>
  intro listed a inv hf hr hy H
  refine ⟨fun h => absurd hr (by rw [h]; exact List.not_mem_nil), fun j hj => ⟨small inv hr j hj, ?_⟩⟩
  by_cases e : j = i
  ·rw [e]; exact hy.qOp hi H
  ·obtain ⟨hju, oj, hoj, hw⟩ := mem_ready.1 hj
   have hno : ∀ d ∈ oj.after, Region.binds md d = true → d.on ≠ i := fun d hd hb he => by
    have := hw d hd hb
    rw [he, getD_both (mem_ready.1 hr).1] at this; cases this
   have h2 := qOp_put hoj (hf j oj hoj e hju hno) (fun cs b => hsel i oi cs b hi) (fun cs b => hsel j oj cs b hoj) hy (H.2 j (ready_mono hj e)).2
   refine qOp_mono (fun a' h3 => ih (listed.setIfInBounds j true) a' (inv.set hj (small inv hr j hj)) (fun k ok hk hki hku hkn => hf k ok hk hki ?_ hkn) (ready_mono hr (Ne.symm e)) h3.1 ?_) h2
   ·by_cases ejk : j = k
    ·rw [← ejk]; exact hju
    ·rwa [getD_set_ne true ejk] at hku
   ·rw [Array.setIfInBounds_comm _ _ e]; exact h3.2
theorem HQ_lex {n g : Nat} {Lq : Act → Prop} (hsel : Region.noSelect ops = true) (hs : Region.sinkB md ops n = true) (hc : Region.chainB md ops n = true) (hn : n < ops.size) :
  ∀ (l : List Oper) (k : Nat) (listed : Array Bool) (a : Act), (∀ j, j < l.length → l[j]? = ops[k + j]?) → k + l.length = n → HeadInv md ops n listed →
  Region.lexHead md ops g l.length k listed = true → wpQuiet P ops C Lq l a → wpHQ P md ops C n (fun listed' a' => Region.seqB md ops g n listed' = true ∧ Lq a') l.length listed a
 | [], k, listed, a, _, hk, _, hB, h => by
  obtain rfl : k = n := by simpa using hk
  exact ⟨by simpa [Region.lexHead] using hB, h⟩
 | o :: l, k, listed, a, hl, hk, inv, hB, h => by
  have h0 : ops[k]? = some o := by simpa using (hl 0 (by simp)).symm
  simp only [List.length_cons, Region.lexHead, Bool.and_eq_true] at hB hk
  have hr : k ∈ Region.ready md ops listed := by simpa using hB.1.1
  obtain ⟨v, hy, hK⟩ := yieldsIn_of_qOp (K := wpQuiet P ops C Lq l) h0 (by unfold qOp; simp only [h0]; exact h)
  exact HQ_first h0 (Region.noSelect_spec hsel) hs hc hn (by omega) (fun _ _ hL => seqB_ready hL.1) l.length listed a inv (Region.free_spec h0 hB.1.2) hr hy
   (HQ_lex hsel hs hc hn l (k + 1) _ _ (fun j hj => by have := hl (j + 1) (by simp; omega); simpa [Nat.add_assoc, Nat.add_comm 1 j] using this) (by omega) (inv.set hr (by omega)) hB.2 hK)
theorem wp_region_quiet_tail {id : Nat} {Q : Exit → Act → World → Prop} {a : Act} {w : World} {l : List Oper} (n : Nat) (hm : P.follows .mixedOrders = true) (hB : Region.lexTailB .any l.toArray n = true)
  (h : wpQuiet P l.toArray (fun w' => ∃ p : Regrown, w' = grow (redrawn w p.d) p.os) (fun a' => ∀ w', (∃ p : Regrown, w' = grow (redrawn w p.d) p.os) → wpList P l.toArray Q (l.drop n) a' w') (l.take n) a) : (Code.region id l.toArray true).wp P Q a w := by
 simp only [Region.lexTailB, Bool.and_eq_true, decide_eq_true_eq] at hB
 obtain ⟨⟨⟨⟨hsel, hn⟩, hs⟩, hc⟩, hlex⟩ := hB
 have hn' : n < l.length := by simpa using hn
 have htl : (l.take n).length = n := by simp; omega
 have hdl : (l.drop n).length = l.toArray.size - n := by simp
 have inv0 : HeadInv .any l.toArray n (Array.replicate l.toArray.size false) :=
  ⟨by simp, fun j oj _ hl => (by rw [getD_replicate_false] at hl; cases hl), fun t _ ht => getD_in (by simpa using ht) (getD_replicate_false _ _)⟩
 have H := HQ_lex (md := .any) (g := l.toArray.size - n) hsel hs hc hn (l.take n) 0 _ a (fun j hj => by
  have hj' : j < n := by rw [htl] at hj; exact hj
  simp [hj']) (by simpa using htl) inv0 (by rw [htl]; exact hlex) h
 refine wp_region_any hm ?_
 have := any_of_HQ (Q' := Q) (g := l.toArray.size - n) (fun listed a' w' hw' hL => by
  have := wpAny_of_seq (md := .any) (Q' := Q) (l.drop n) n listed a' w' (fun j => by simp [List.getElem?_drop]) (by rw [hdl]; exact hL.1) (hL.2 w' hw')
  rwa [hdl] at this) _ _ _ { w with drawn := w.drawn + 1 } ⟨⟨w.drawn + 1, #[]⟩, by rw [grow_empty]; rfl⟩ H
 rw [htl, show n + (l.toArray.size - n) = l.toArray.size by omega] at this
 exact this
/- single steps of the lexical walk -/
theorem wpQuiet_run {Q : Act → Prop} {o : Oper} {rest : List Oper} {a : Act} (dst : Option Tmp) (v : Value) (hd : o.dst = dst) (hw : Region.wanted o (yielded ops a.tmps) = true) (hr : ∀ w, C w → (execOp a.eval o).run P w = .ok (.value v) w)
  (h : wpQuiet P ops C Q rest (a.put dst v)) : wpQuiet P ops C Q (o :: rest) a := by
 refine wpQuiet_step fun K hK => ?_
 rw [if_pos hw]
 refine ⟨v, fun w hC => ?_, by rw [hd]; exact hK _ h⟩
 unfold Oper.quietAt
 rw [hr w hC]
 exact ⟨rfl, rfl⟩
theorem wpQuiet_call {Q : Act → Prop} {o : Oper} {rest : List Oper} {a : Act} (dst : Option Tmp) (v : Value) (f : FuncId) (args : Array Value) (hd : o.dst = dst) (hw : Region.wanted o (yielded ops a.tmps) = true)
  (hr : ∀ w, (execOp a.eval o).run P w = .ok (.enter f args) w) (hc : ∀ w, C w → Calls P f args w fun e w' => e = .returned v ∧ C w')
  (h : wpQuiet P ops C Q rest (a.put dst v)) : wpQuiet P ops C Q (o :: rest) a := by
 refine wpQuiet_step fun K hK => ?_
 rw [if_pos hw]
 refine ⟨v, fun w hC => ?_, by rw [hd]; exact hK _ h⟩
 unfold Oper.quietAt
 rw [hr w]
 exact ⟨rfl, hc w hC⟩
theorem wpQuiet_load_row {Q : Act → Prop} {o : Oper} {rest : List Oper} {a : Act} (dst : Option Tmp) (hd : o.dst = dst) (hw : Region.wanted o (yielded ops a.tmps) = true) (ty : TypeId) (x : Operand) (ho : o.op = .load ty x)
  (g : Nat) (hx : a.eval x = .pointer (some ⟨g, 0, none⟩)) (t : TypeId) (cs : Array Value) (fr : Nat × Nat) (d : TypeDesc) (hgp : ∀ w, C w → w.heap[g]? = some (.cells cs t fr))
  (hu : P.underlying ty = some d) (hdd : (match d with | .struct _ | .array _ _ => true | _ => false) = true) (hi : (P.info? ty).map (·.size) = some cs.size)
  (h : wpQuiet P ops C Q rest (a.put dst (.agg cs))) : wpQuiet P ops C Q (o :: rest) a := by
 refine wpQuiet_run dst (.agg cs) hd hw (fun w hC => ?_) h
 unfold execOp
 simp only [ho, hx, Instr.loadAt, Instr.sureAddr, Sem.run_bind, Sem.run_pure, Result.andThen_ok, run_loadVar_row w g t ty cs fr d (hgp w hC) hu hdd hi]
def Cls (u w : World) : Prop := ∃ p : Regrown, w = grow (redrawn u p.d) p.os
theorem Cls.below {u w : World} (h : Cls u w) : Below u.heap.size u w := by obtain ⟨p, rfl⟩ := h; exact below_regrown _ _ _
theorem Cls.heap {u w : World} (h : Cls u w) {g : Nat} {o : Obj} (hg : u.heap[g]? = some o) : w.heap[g]? = some o := block_below h.below (lt_of_heap hg) hg
theorem cls_call {f : FuncId} {args : Array Value} {u w : World} {v : Value} (hw : Cls u w) (h : Calls P f args w fun e w' => e = .returned v ∧ Below w.heap.size w w') : Calls P f args w fun e w' => e = .returned v ∧ Cls u w' :=
 h.mono fun _ _ ⟨he, hb⟩ => ⟨he, regrown_of_below (hw.below.trans (hb.mono hw.below.size))⟩
end
end Go.Proofs.YtabgihjffjlfiaaGreatDoor
set_option linter.unusedVariables false
namespace Go.Proofs.YtabgihjffjlfiaaGreatDoor
open Go.RowKit Go.Sort Go.BigFrame
set_option maxRecDepth 100000
set_option maxHeartbeats 4000000
def z5 : Array Value := #[.int .u64 0, .int .u64 0, .int .u64 0, .int .u64 0, .int .u64 0]
theorem elc_size (e : E5) : (elc e).size = 5 := rfl
theorem elc_one (e : E5) : (elc e).all (·.oneCell') = true := by simp [elc, Value.oneCell']
theorem elc_ints (e : E5) : elc e = ints .u64 e.list := rfl
theorem elc_zero : elc zeroE = z5 := rfl
theorem info26 : (Tryz.prog.info? 58).map (·.size) = some 5 := by kernel_rfl
def addE (a b : E5) : E5 := carE (a.a0 + b.a0) (a.a1 + b.a1) (a.a2 + b.a2) (a.a3 + b.a3) (a.a4 + b.a4)
theorem addE_wf {a b : E5} (ha : a.wf) (hb : b.wf) : (addE a b).wf := by
 unfold E5.wf at ha hb
 exact carE_wf (by omega) (by omega) (by omega) (by omega) (by omega)
theorem addE_mod (a b : E5) : (addE a b).val % pp = (a.val + b.val) % pp := by
 unfold addE
 rw [carE_mod]
 congr 1
 unfold E5.val
 simp only
 omega
theorem add22' (x0 x1 x2 x3 x4 y0 y1 y2 y3 y4 : Nat) (w : World) (hx0 : x0 < 4503599627370496) (hx1 : x1 < 4503599627370496) (hx2 : x2 < 4503599627370496) (hx3 : x3 < 4503599627370496) (hx4 : x4 < 4503599627370496) (hy0 : y0 < 4503599627370496) (hy1 : y1 < 4503599627370496) (hy2 : y2 < 4503599627370496) (hy3 : y3 < 4503599627370496) (hy4 : y4 < 4503599627370496) :
  Calls Tryz.prog 90 #[.agg #[.int .u64 (x0 : Int), .int .u64 (x1 : Int), .int .u64 (x2 : Int), .int .u64 (x3 : Int), .int .u64 (x4 : Int)], .agg #[.int .u64 (y0 : Int), .int .u64 (y1 : Int), .int .u64 (y2 : Int), .int .u64 (y3 : Int), .int .u64 (y4 : Int)]] w fun e w' => e = .returned (.agg (elc (carE (x0 + y0) (x1 + y1) (x2 + y2) (x3 + y3) (x4 + y4)))) ∧ Below w.heap.size w w' := by
 have hc := fun w1 => carried39 (x0 + y0) (x1 + y1) (x2 + y2) (x3 + y3) (x4 + y4) w1 (by omega) (by omega) (by omega) (by omega) (by omega)
 simp only [Int.natCast_add] at hc
 obtain ⟨rv, hrv⟩ : ∃ r, r = elc (carE (x0 + y0) (x1 + y1) (x2 + y2) (x3 + y3) (x4 + y4)) := ⟨_, rfl⟩
 have hrl : rv.size = 5 := by rw [hrv]; rfl
 have hr1 : rv.all (·.oneCell') = true := by rw [hrv]; exact elc_one _
 rw [← hrv] at hc ⊢
 clear hrv
 go_enter Tryz.func90, Tryz.ntmps90
 go_wp2_with fail
 refine (hc _).mono ?_
 rintro e w1 ⟨rfl, hb1⟩
 have hb := (below3 _ _ _ _).trans (hb1.mono (by simp; omega))
 have hz : w1.heap[w.heap.size + 1 + 1]? = some (.cells z5 58 (0, 0)) := block_below hb1 (by simp) (heap3_2 _ _ _ _)
 clear hc hb1
 go_wp2_with (refine wpList_store_row rfl 58 (.tmp 4) (.tmp 40) rfl _ rv rfl rfl 58 _ hz (by rw [hrl]; exact info26) (by rw [hrl]; rfl) hr1 ?_)
 refine bodyPost_ret (v := .agg rv) ?_ rfl ⟨rfl, setRow_below hb (by omega) _⟩
 exact results_cell_row Tryz.results90 _ _ _ 58 rv (0, 0) _ rfl (setRow_heap _ _ _ _ _ _ hz) Tryz.underlying58 rfl (by rw [hrl]; exact info26)
theorem add22 (a b : E5) (w : World) (ha : a.wf) (hb : b.wf) : Calls Tryz.prog 90 #[.agg (elc a), .agg (elc b)] w fun e w' => e = .returned (.agg (elc (addE a b))) ∧ Below w.heap.size w w' :=
 add22' a.a0 a.a1 a.a2 a.a3 a.a4 b.a0 b.a1 b.a2 b.a3 b.a4 w ha.1 ha.2.1 ha.2.2.1 ha.2.2.2.1 ha.2.2.2.2 hb.1 hb.2.1 hb.2.2.1 hb.2.2.2.1 hb.2.2.2.2
def subE (a b : E5) : E5 := carE (a.a0 + 9007199254740916 - b.a0) (a.a1 + 9007199254740988 - b.a1) (a.a2 + 9007199254740988 - b.a2) (a.a3 + 9007199254740988 - b.a3) (a.a4 + 9007199254740988 - b.a4)
theorem subE_wf {a b : E5} (ha : a.wf) (hb : b.wf) : (subE a b).wf := by
 unfold E5.wf at ha hb
 exact carE_wf (by omega) (by omega) (by omega) (by omega) (by omega)
theorem subE_mod {a b : E5} (hb : b.wf) : ((subE a b).val + b.val) % pp = a.val % pp := by
 have h : (subE a b).val % pp = (a.val + 4 * pp - b.val) % pp := by
  unfold subE
  rw [carE_mod]
  congr 1
  unfold E5.val pp
  unfold E5.wf at hb
  simp only
  omega
 have hle : b.val ≤ 4 * pp := by
  unfold E5.val pp
  unfold E5.wf at hb
  omega
 rw [Nat.add_mod, h, ← Nat.add_mod, show a.val + 4 * pp - b.val + b.val = a.val + pp * 4 by omega, Nat.add_mul_mod_self_left]
theorem sub20' (x0 x1 x2 x3 x4 y0 y1 y2 y3 y4 : Nat) (w : World) (hx0 : x0 < 4503599627370496) (hx1 : x1 < 4503599627370496) (hx2 : x2 < 4503599627370496) (hx3 : x3 < 4503599627370496) (hx4 : x4 < 4503599627370496) (hy0 : y0 < 4503599627370496) (hy1 : y1 < 4503599627370496) (hy2 : y2 < 4503599627370496) (hy3 : y3 < 4503599627370496) (hy4 : y4 < 4503599627370496) :
  Calls Tryz.prog 92 #[.agg #[.int .u64 (x0 : Int), .int .u64 (x1 : Int), .int .u64 (x2 : Int), .int .u64 (x3 : Int), .int .u64 (x4 : Int)], .agg #[.int .u64 (y0 : Int), .int .u64 (y1 : Int), .int .u64 (y2 : Int), .int .u64 (y3 : Int), .int .u64 (y4 : Int)]] w fun e w' => e = .returned (.agg (elc (carE (x0 + 9007199254740916 - y0) (x1 + 9007199254740988 - y1) (x2 + 9007199254740988 - y2) (x3 + 9007199254740988 - y3) (x4 + 9007199254740988 - y4)))) ∧ Below w.heap.size w w' := by
 have hc := fun w1 => carried39 (x0 + 9007199254740916 - y0) (x1 + 9007199254740988 - y1) (x2 + 9007199254740988 - y2) (x3 + 9007199254740988 - y3) (x4 + 9007199254740988 - y4) w1 (by omega) (by omega) (by omega) (by omega) (by omega)
 simp only [show ((x0 + 9007199254740916 - y0 : Nat) : Int) = (x0 : Int) + 9007199254740916 - (y0 : Int) by omega] at hc
 simp only [show ((x1 + 9007199254740988 - y1 : Nat) : Int) = (x1 : Int) + 9007199254740988 - (y1 : Int) by omega] at hc
 simp only [show ((x2 + 9007199254740988 - y2 : Nat) : Int) = (x2 : Int) + 9007199254740988 - (y2 : Int) by omega] at hc
 simp only [show ((x3 + 9007199254740988 - y3 : Nat) : Int) = (x3 : Int) + 9007199254740988 - (y3 : Int) by omega] at hc
 simp only [show ((x4 + 9007199254740988 - y4 : Nat) : Int) = (x4 : Int) + 9007199254740988 - (y4 : Int) by omega] at hc
 obtain ⟨rv, hrv⟩ : ∃ r, r = elc (carE (x0 + 9007199254740916 - y0) (x1 + 9007199254740988 - y1) (x2 + 9007199254740988 - y2) (x3 + 9007199254740988 - y3) (x4 + 9007199254740988 - y4)) := ⟨_, rfl⟩
 have hrl : rv.size = 5 := by rw [hrv]; rfl
 have hr1 : rv.all (·.oneCell') = true := by rw [hrv]; exact elc_one _
 rw [← hrv] at hc ⊢
 clear hrv
 go_enter Tryz.func92, Tryz.ntmps92
 go_wp2_with fail
 refine (hc _).mono ?_
 rintro e w1 ⟨rfl, hb1⟩
 have hb := (below3 _ _ _ _).trans (hb1.mono (by simp; omega))
 have hz : w1.heap[w.heap.size + 1 + 1]? = some (.cells z5 58 (0, 0)) := block_below hb1 (by simp) (heap3_2 _ _ _ _)
 clear hc hb1
 go_wp2_with (refine wpList_store_row rfl 58 (.tmp 4) (.tmp 45) rfl _ rv rfl rfl 58 _ hz (by rw [hrl]; exact info26) (by rw [hrl]; rfl) hr1 ?_)
 refine bodyPost_ret (v := .agg rv) ?_ rfl ⟨rfl, setRow_below hb (by omega) _⟩
 exact results_cell_row Tryz.results92 _ _ _ 58 rv (0, 0) _ rfl (setRow_heap _ _ _ _ _ _ hz) Tryz.underlying58 rfl (by rw [hrl]; exact info26)
theorem sub20 (a b : E5) (w : World) (ha : a.wf) (hb : b.wf) : Calls Tryz.prog 92 #[.agg (elc a), .agg (elc b)] w fun e w' => e = .returned (.agg (elc (subE a b))) ∧ Below w.heap.size w w' :=
 sub20' a.a0 a.a1 a.a2 a.a3 a.a4 b.a0 b.a1 b.a2 b.a3 b.a4 w ha.1 ha.2.1 ha.2.2.1 ha.2.2.2.1 ha.2.2.2.2 hb.1 hb.2.1 hb.2.2.1 hb.2.2.2.1 hb.2.2.2.2
end Go.Proofs.YtabgihjffjlfiaaGreatDoor
set_option linter.unusedVariables false
namespace Go.Proofs.YtabgihjffjlfiaaGreatDoor
open Go.RowKit Go.Sort Go.BigFrame
set_option maxRecDepth 100000
set_option maxHeartbeats 4000000
def sm0 (a b : E5) : Nat := a.a0 * b.a0 + a.a1 * (19 * b.a4) + a.a2 * (19 * b.a3) + a.a3 * (19 * b.a2) + a.a4 * (19 * b.a1)
def sm1 (a b : E5) : Nat := a.a0 * b.a1 + a.a1 * b.a0 + a.a2 * (19 * b.a4) + a.a3 * (19 * b.a3) + a.a4 * (19 * b.a2)
def sm2 (a b : E5) : Nat := a.a0 * b.a2 + a.a1 * b.a1 + a.a2 * b.a0 + a.a3 * (19 * b.a4) + a.a4 * (19 * b.a3)
def sm3 (a b : E5) : Nat := a.a0 * b.a3 + a.a1 * b.a2 + a.a2 * b.a1 + a.a3 * b.a0 + a.a4 * (19 * b.a4)
def sm4 (a b : E5) : Nat := a.a0 * b.a4 + a.a1 * b.a3 + a.a2 * b.a2 + a.a3 * b.a1 + a.a4 * b.a0
def folded (s0 s1 s2 s3 s4 : Nat) : E5 := carE (s0 % 2251799813685248 + 19 * (s4 / 2251799813685248)) (s1 % 2251799813685248 + s0 / 2251799813685248) (s2 % 2251799813685248 + s1 / 2251799813685248) (s3 % 2251799813685248 + s2 / 2251799813685248) (s4 % 2251799813685248 + s3 / 2251799813685248)
def mulE (a b : E5) : E5 := folded (sm0 a b) (sm1 a b) (sm2 a b) (sm3 a b) (sm4 a b)
theorem mul_le_b {a b : Nat} (A B : Nat) (ha : a ≤ A) (hb : b ≤ B) : a * b ≤ A * B := Nat.mul_le_mul ha hb
theorem sm_ident (a b : E5) : sm0 a b + 2251799813685248 * sm1 a b + 5070602400912917605986812821504 * sm2 a b + 11417981541647679048466287755595961091061972992 * sm3 a b + 25711008708143844408671393477458601640355247900524685364822016 * sm4 a b
  + pp * (a.a1 * b.a4 + a.a2 * b.a3 + a.a3 * b.a2 + a.a4 * b.a1 + 2251799813685248 * (a.a2 * b.a4 + a.a3 * b.a3 + a.a4 * b.a2) + 5070602400912917605986812821504 * (a.a3 * b.a4 + a.a4 * b.a3) + 11417981541647679048466287755595961091061972992 * (a.a4 * b.a4)) = a.val * b.val := by
 unfold sm0 sm1 sm2 sm3 sm4 E5.val pp
 grind
theorem folded_mod (s0 s1 s2 s3 s4 : Nat) : (folded s0 s1 s2 s3 s4).val % pp = (s0 + 2251799813685248 * s1 + 5070602400912917605986812821504 * s2 + 11417981541647679048466287755595961091061972992 * s3 + 25711008708143844408671393477458601640355247900524685364822016 * s4) % pp := by
 unfold folded
 rw [carE_mod]
 have h : (E5.mk (s0 % 2251799813685248 + 19 * (s4 / 2251799813685248)) (s1 % 2251799813685248 + s0 / 2251799813685248) (s2 % 2251799813685248 + s1 / 2251799813685248) (s3 % 2251799813685248 + s2 / 2251799813685248) (s4 % 2251799813685248 + s3 / 2251799813685248)).val + pp * (s4 / 2251799813685248) = s0 + 2251799813685248 * s1 + 5070602400912917605986812821504 * s2 + 11417981541647679048466287755595961091061972992 * s3 + 25711008708143844408671393477458601640355247900524685364822016 * s4 := by
  unfold E5.val pp
  simp only
  omega
 rw [← h, Nat.add_mul_mod_self_left]
theorem mulE_mod (a b : E5) : (mulE a b).val % pp = (a.val * b.val) % pp := by
 unfold mulE
 rw [folded_mod, ← sm_ident a b, Nat.add_mul_mod_self_left]
theorem sm_lt {a b : E5} (ha : a.wf) (hb : b.wf) : sm0 a b < 2596148429267413814265248164610048 ∧ sm1 a b < 2596148429267413814265248164610048 ∧ sm2 a b < 2596148429267413814265248164610048 ∧ sm3 a b < 2596148429267413814265248164610048 ∧ sm4 a b < 101412048018258352119736256430080 := by
 unfold E5.wf at ha hb
 have hp00 := mul_le_b 4503599627370495 4503599627370495 (show a.a0 ≤ 4503599627370495 by omega) (show b.a0 ≤ 4503599627370495 by omega)
 have hp01 := mul_le_b 4503599627370495 4503599627370495 (show a.a0 ≤ 4503599627370495 by omega) (show b.a1 ≤ 4503599627370495 by omega)
 have hp02 := mul_le_b 4503599627370495 4503599627370495 (show a.a0 ≤ 4503599627370495 by omega) (show b.a2 ≤ 4503599627370495 by omega)
 have hp03 := mul_le_b 4503599627370495 4503599627370495 (show a.a0 ≤ 4503599627370495 by omega) (show b.a3 ≤ 4503599627370495 by omega)
 have hp04 := mul_le_b 4503599627370495 4503599627370495 (show a.a0 ≤ 4503599627370495 by omega) (show b.a4 ≤ 4503599627370495 by omega)
 have hq01 : a.a0 * (19 * b.a1) = 19 * (a.a0 * b.a1) := by grind
 have hq02 : a.a0 * (19 * b.a2) = 19 * (a.a0 * b.a2) := by grind
 have hq03 : a.a0 * (19 * b.a3) = 19 * (a.a0 * b.a3) := by grind
 have hq04 : a.a0 * (19 * b.a4) = 19 * (a.a0 * b.a4) := by grind
 have hp10 := mul_le_b 4503599627370495 4503599627370495 (show a.a1 ≤ 4503599627370495 by omega) (show b.a0 ≤ 4503599627370495 by omega)
 have hp11 := mul_le_b 4503599627370495 4503599627370495 (show a.a1 ≤ 4503599627370495 by omega) (show b.a1 ≤ 4503599627370495 by omega)
 have hp12 := mul_le_b 4503599627370495 4503599627370495 (show a.a1 ≤ 4503599627370495 by omega) (show b.a2 ≤ 4503599627370495 by omega)
 have hp13 := mul_le_b 4503599627370495 4503599627370495 (show a.a1 ≤ 4503599627370495 by omega) (show b.a3 ≤ 4503599627370495 by omega)
 have hp14 := mul_le_b 4503599627370495 4503599627370495 (show a.a1 ≤ 4503599627370495 by omega) (show b.a4 ≤ 4503599627370495 by omega)
 have hq11 : a.a1 * (19 * b.a1) = 19 * (a.a1 * b.a1) := by grind
 have hq12 : a.a1 * (19 * b.a2) = 19 * (a.a1 * b.a2) := by grind
 have hq13 : a.a1 * (19 * b.a3) = 19 * (a.a1 * b.a3) := by grind
 have hq14 : a.a1 * (19 * b.a4) = 19 * (a.a1 * b.a4) := by grind
 have hp20 := mul_le_b 4503599627370495 4503599627370495 (show a.a2 ≤ 4503599627370495 by omega) (show b.a0 ≤ 4503599627370495 by omega)
 have hp21 := mul_le_b 4503599627370495 4503599627370495 (show a.a2 ≤ 4503599627370495 by omega) (show b.a1 ≤ 4503599627370495 by omega)
 have hp22 := mul_le_b 4503599627370495 4503599627370495 (show a.a2 ≤ 4503599627370495 by omega) (show b.a2 ≤ 4503599627370495 by omega)
 have hp23 := mul_le_b 4503599627370495 4503599627370495 (show a.a2 ≤ 4503599627370495 by omega) (show b.a3 ≤ 4503599627370495 by omega)
 have hp24 := mul_le_b 4503599627370495 4503599627370495 (show a.a2 ≤ 4503599627370495 by omega) (show b.a4 ≤ 4503599627370495 by omega)
 have hq21 : a.a2 * (19 * b.a1) = 19 * (a.a2 * b.a1) := by grind
 have hq22 : a.a2 * (19 * b.a2) = 19 * (a.a2 * b.a2) := by grind
 have hq23 : a.a2 * (19 * b.a3) = 19 * (a.a2 * b.a3) := by grind
 have hq24 : a.a2 * (19 * b.a4) = 19 * (a.a2 * b.a4) := by grind
 have hp30 := mul_le_b 4503599627370495 4503599627370495 (show a.a3 ≤ 4503599627370495 by omega) (show b.a0 ≤ 4503599627370495 by omega)
 have hp31 := mul_le_b 4503599627370495 4503599627370495 (show a.a3 ≤ 4503599627370495 by omega) (show b.a1 ≤ 4503599627370495 by omega)
 have hp32 := mul_le_b 4503599627370495 4503599627370495 (show a.a3 ≤ 4503599627370495 by omega) (show b.a2 ≤ 4503599627370495 by omega)
 have hp33 := mul_le_b 4503599627370495 4503599627370495 (show a.a3 ≤ 4503599627370495 by omega) (show b.a3 ≤ 4503599627370495 by omega)
 have hp34 := mul_le_b 4503599627370495 4503599627370495 (show a.a3 ≤ 4503599627370495 by omega) (show b.a4 ≤ 4503599627370495 by omega)
 have hq31 : a.a3 * (19 * b.a1) = 19 * (a.a3 * b.a1) := by grind
 have hq32 : a.a3 * (19 * b.a2) = 19 * (a.a3 * b.a2) := by grind
 have hq33 : a.a3 * (19 * b.a3) = 19 * (a.a3 * b.a3) := by grind
 have hq34 : a.a3 * (19 * b.a4) = 19 * (a.a3 * b.a4) := by grind
 have hp40 := mul_le_b 4503599627370495 4503599627370495 (show a.a4 ≤ 4503599627370495 by omega) (show b.a0 ≤ 4503599627370495 by omega)
 have hp41 := mul_le_b 4503599627370495 4503599627370495 (show a.a4 ≤ 4503599627370495 by omega) (show b.a1 ≤ 4503599627370495 by omega)
 have hp42 := mul_le_b 4503599627370495 4503599627370495 (show a.a4 ≤ 4503599627370495 by omega) (show b.a2 ≤ 4503599627370495 by omega)
 have hp43 := mul_le_b 4503599627370495 4503599627370495 (show a.a4 ≤ 4503599627370495 by omega) (show b.a3 ≤ 4503599627370495 by omega)
 have hp44 := mul_le_b 4503599627370495 4503599627370495 (show a.a4 ≤ 4503599627370495 by omega) (show b.a4 ≤ 4503599627370495 by omega)
 have hq41 : a.a4 * (19 * b.a1) = 19 * (a.a4 * b.a1) := by grind
 have hq42 : a.a4 * (19 * b.a2) = 19 * (a.a4 * b.a2) := by grind
 have hq43 : a.a4 * (19 * b.a3) = 19 * (a.a4 * b.a3) := by grind
 have hq44 : a.a4 * (19 * b.a4) = 19 * (a.a4 * b.a4) := by grind
 unfold sm0 sm1 sm2 sm3 sm4
 omega
theorem folded_wf {s0 s1 s2 s3 s4 : Nat} (h0 : s0 < 2596148429267413814265248164610048) (h1 : s1 < 2596148429267413814265248164610048) (h2 : s2 < 2596148429267413814265248164610048) (h3 : s3 < 2596148429267413814265248164610048) (h4 : s4 < 101412048018258352119736256430080) : (folded s0 s1 s2 s3 s4).wf := by
 unfold folded
 exact carE_wf (by omega) (by omega) (by omega) (by omega) (by omega)
theorem mulE_wf {a b : E5} (ha : a.wf) (hb : b.wf) : (mulE a b).wf := by
 obtain ⟨h0, h1, h2, h3, h4⟩ := sm_lt ha hb
 exact folded_wf h0 h1 h2 h3 h4
theorem wdc_one (W : Nat) : (wdc W).all (·.oneCell') = true := by simp [wdc, Value.oneCell']
theorem plus41_0 (x y : Nat) (w : World) (hx : x < 18446744073709551616) (hy : y < 18446744073709551616) :
  Calls Tryz.prog 96 #[.agg #[.int .u64 0, .int .u64 0], .int .u64 x, .int .u64 y] w fun e w' => e = .returned (.agg (wdc (x * y))) ∧ Below w.heap.size w w' := by
 have h := plus41 0 x y w hx hy (by
  have := mul_le_b 18446744073709551615 18446744073709551615 (show x ≤ 18446744073709551615 by omega) (show y ≤ 18446744073709551615 by omega)
  omega)
 rw [Nat.zero_add] at h
 exact h
theorem run_add23 {ρ : Operand → Value} {o : Oper} {x y : Operand} {w : World} (a b : Int) (ho : o.op = .binOp .add 55 x y 55) (hx : ρ x = .int .u64 a) (hy : ρ y = .int .u64 b) (h0 : 0 ≤ a + b) (h1 : a + b < 18446744073709551616) :
  (execOp ρ o).run Tryz.prog w = .ok (.value (.int .u64 (a + b))) w := by
 have hw := wrapu (a + b) h0 h1
 simp [execOp, ho, hx, hy, go_sem, hw]
theorem run_mul23 {ρ : Operand → Value} {o : Oper} {x y : Operand} {w : World} (a b : Int) (ho : o.op = .binOp .mul 55 x y 55) (hx : ρ x = .int .u64 a) (hy : ρ y = .int .u64 b) (h0 : 0 ≤ a * b) (h1 : a * b < 18446744073709551616) :
  (execOp ρ o).run Tryz.prog w = .ok (.value (.int .u64 (a * b))) w := by
 have hw := wrapu (a * b) h0 h1
 simp [execOp, ho, hx, hy, go_sem, hw]
theorem mul24' (x0 x1 x2 x3 x4 y0 y1 y2 y3 y4 : Nat) (w : World) (hx0 : x0 < 4503599627370496) (hx1 : x1 < 4503599627370496) (hx2 : x2 < 4503599627370496) (hx3 : x3 < 4503599627370496) (hx4 : x4 < 4503599627370496) (hy0 : y0 < 4503599627370496) (hy1 : y1 < 4503599627370496) (hy2 : y2 < 4503599627370496) (hy3 : y3 < 4503599627370496) (hy4 : y4 < 4503599627370496) (s0 s1 s2 s3 s4 : Nat)
  (hs0 : Hid (s0 = x0 * y0 + x1 * (19 * y4) + x2 * (19 * y3) + x3 * (19 * y2) + x4 * (19 * y1)))
  (hs1 : Hid (s1 = x0 * y1 + x1 * y0 + x2 * (19 * y4) + x3 * (19 * y3) + x4 * (19 * y2)))
  (hs2 : Hid (s2 = x0 * y2 + x1 * y1 + x2 * y0 + x3 * (19 * y4) + x4 * (19 * y3)))
  (hs3 : Hid (s3 = x0 * y3 + x1 * y2 + x2 * y1 + x3 * y0 + x4 * (19 * y4)))
  (hs4 : Hid (s4 = x0 * y4 + x1 * y3 + x2 * y2 + x3 * y1 + x4 * y0))
  (hl0 : s0 < 2596148429267413814265248164610048) (hl1 : s1 < 2596148429267413814265248164610048) (hl2 : s2 < 2596148429267413814265248164610048) (hl3 : s3 < 2596148429267413814265248164610048) (hl4 : s4 < 101412048018258352119736256430080) :
  Calls Tryz.prog 77 #[.agg #[.int .u64 (x0 : Int), .int .u64 (x1 : Int), .int .u64 (x2 : Int), .int .u64 (x3 : Int), .int .u64 (x4 : Int)], .agg #[.int .u64 (y0 : Int), .int .u64 (y1 : Int), .int .u64 (y2 : Int), .int .u64 (y3 : Int), .int .u64 (y4 : Int)]] w fun e w' => e = .returned (.agg (elc (folded s0 s1 s2 s3 s4))) ∧ Below w.heap.size w w' := by
 obtain ⟨r0, hr0⟩ : ∃ z, z = s0 % 2251799813685248 := ⟨_, rfl⟩
 obtain ⟨c0, hc0⟩ : ∃ z, z = s0 / 2251799813685248 := ⟨_, rfl⟩
 obtain ⟨r1, hr1⟩ : ∃ z, z = s1 % 2251799813685248 := ⟨_, rfl⟩
 obtain ⟨c1, hc1⟩ : ∃ z, z = s1 / 2251799813685248 := ⟨_, rfl⟩
 obtain ⟨r2, hr2⟩ : ∃ z, z = s2 % 2251799813685248 := ⟨_, rfl⟩
 obtain ⟨c2, hc2⟩ : ∃ z, z = s2 / 2251799813685248 := ⟨_, rfl⟩
 obtain ⟨r3, hr3⟩ : ∃ z, z = s3 % 2251799813685248 := ⟨_, rfl⟩
 obtain ⟨c3, hc3⟩ : ∃ z, z = s3 / 2251799813685248 := ⟨_, rfl⟩
 obtain ⟨r4, hr4⟩ : ∃ z, z = s4 % 2251799813685248 := ⟨_, rfl⟩
 obtain ⟨c4, hc4⟩ : ∃ z, z = s4 / 2251799813685248 := ⟨_, rfl⟩
 have hc := fun w1 => carried39 (r0 + 19 * c4) (r1 + c0) (r2 + c1) (r3 + c2) (r4 + c3) w1 (by omega) (by omega) (by omega) (by omega) (by omega)
 simp only [Int.natCast_add, Int.natCast_mul, Int.cast_ofNat_Int] at hc
 rw [show folded s0 s1 s2 s3 s4 = carE (r0 + 19 * c4) (r1 + c0) (r2 + c1) (r3 + c2) (r4 + c3) by rw [hr0, hr1, hr2, hr3, hr4, hc0, hc1, hc2, hc3, hc4]; rfl]
 obtain ⟨rv, hrv⟩ : ∃ r, r = elc (carE (r0 + 19 * c4) (r1 + c0) (r2 + c1) (r3 + c2) (r4 + c3)) := ⟨_, rfl⟩
 have hrl : rv.size = 5 := by rw [hrv]; rfl
 have hrw : rv.all (·.oneCell') = true := by rw [hrv]; exact elc_one _
 rw [← hrv] at hc ⊢
 have RE0 := fun w1 => rest42 s0 w1
 have CA0 := fun w1 => carry43 s0 w1 (by omega)
 rw [← hr0] at RE0
 rw [← hc0] at CA0
 have B0 : c0 < 1152921504606846976 ∧ r0 < 2251799813685248 := by omega
 have RE1 := fun w1 => rest42 s1 w1
 have CA1 := fun w1 => carry43 s1 w1 (by omega)
 rw [← hr1] at RE1
 rw [← hc1] at CA1
 have B1 : c1 < 1152921504606846976 ∧ r1 < 2251799813685248 := by omega
 have RE2 := fun w1 => rest42 s2 w1
 have CA2 := fun w1 => carry43 s2 w1 (by omega)
 rw [← hr2] at RE2
 rw [← hc2] at CA2
 have B2 : c2 < 1152921504606846976 ∧ r2 < 2251799813685248 := by omega
 have RE3 := fun w1 => rest42 s3 w1
 have CA3 := fun w1 => carry43 s3 w1 (by omega)
 rw [← hr3] at RE3
 rw [← hc3] at CA3
 have B3 : c3 < 1152921504606846976 ∧ r3 < 2251799813685248 := by omega
 have RE4 := fun w1 => rest42 s4 w1
 have CA4 := fun w1 => carry43 s4 w1 (by omega)
 rw [← hr4] at RE4
 rw [← hc4] at CA4
 have B4 : c4 < 45035996273704960 ∧ r4 < 2251799813685248 := by omega
 clear hrv hr0 hc0 hr1 hc1 hr2 hc2 hr3 hc3 hr4 hc4
 obtain ⟨z1, hz1⟩ : ∃ z, z = 19 * y1 := ⟨_, rfl⟩
 have hzl1 : z1 < 85568392920039424 := by omega
 have hzi1 : 19 * (y1 : Int) = (z1 : Int) := by omega
 obtain ⟨z2, hz2⟩ : ∃ z, z = 19 * y2 := ⟨_, rfl⟩
 have hzl2 : z2 < 85568392920039424 := by omega
 have hzi2 : 19 * (y2 : Int) = (z2 : Int) := by omega
 obtain ⟨z3, hz3⟩ : ∃ z, z = 19 * y3 := ⟨_, rfl⟩
 have hzl3 : z3 < 85568392920039424 := by omega
 have hzi3 : 19 * (y3 : Int) = (z3 : Int) := by omega
 obtain ⟨z4, hz4⟩ : ∃ z, z = 19 * y4 := ⟨_, rfl⟩
 have hzl4 : z4 < 85568392920039424 := by omega
 have hzi4 : 19 * (y4 : Int) = (z4 : Int) := by omega
 simp only [← hz1, ← hz2, ← hz3, ← hz4] at hs0 hs1 hs2 hs3
 clear hz1 hz2 hz3 hz4
 have hp00 : Hid (x0 * y0 ≤ 20282409603651661416747996545025) := mul_le_b 4503599627370495 4503599627370495 (by omega) (by omega)
 have hp01 : Hid (x0 * y1 ≤ 20282409603651661416747996545025) := mul_le_b 4503599627370495 4503599627370495 (by omega) (by omega)
 have hp02 : Hid (x0 * y2 ≤ 20282409603651661416747996545025) := mul_le_b 4503599627370495 4503599627370495 (by omega) (by omega)
 have hp03 : Hid (x0 * y3 ≤ 20282409603651661416747996545025) := mul_le_b 4503599627370495 4503599627370495 (by omega) (by omega)
 have hp04 : Hid (x0 * y4 ≤ 20282409603651661416747996545025) := mul_le_b 4503599627370495 4503599627370495 (by omega) (by omega)
 have hq01 : Hid (x0 * z1 ≤ 385365782469381647983005227024385) := mul_le_b 4503599627370495 85568392920039423 (by omega) (by omega)
 have hq02 : Hid (x0 * z2 ≤ 385365782469381647983005227024385) := mul_le_b 4503599627370495 85568392920039423 (by omega) (by omega)
 have hq03 : Hid (x0 * z3 ≤ 385365782469381647983005227024385) := mul_le_b 4503599627370495 85568392920039423 (by omega) (by omega)
 have hq04 : Hid (x0 * z4 ≤ 385365782469381647983005227024385) := mul_le_b 4503599627370495 85568392920039423 (by omega) (by omega)
 have hp10 : Hid (x1 * y0 ≤ 20282409603651661416747996545025) := mul_le_b 4503599627370495 4503599627370495 (by omega) (by omega)
 have hp11 : Hid (x1 * y1 ≤ 20282409603651661416747996545025) := mul_le_b 4503599627370495 4503599627370495 (by omega) (by omega)
 have hp12 : Hid (x1 * y2 ≤ 20282409603651661416747996545025) := mul_le_b 4503599627370495 4503599627370495 (by omega) (by omega)
 have hp13 : Hid (x1 * y3 ≤ 20282409603651661416747996545025) := mul_le_b 4503599627370495 4503599627370495 (by omega) (by omega)
 have hp14 : Hid (x1 * y4 ≤ 20282409603651661416747996545025) := mul_le_b 4503599627370495 4503599627370495 (by omega) (by omega)
 have hq11 : Hid (x1 * z1 ≤ 385365782469381647983005227024385) := mul_le_b 4503599627370495 85568392920039423 (by omega) (by omega)
 have hq12 : Hid (x1 * z2 ≤ 385365782469381647983005227024385) := mul_le_b 4503599627370495 85568392920039423 (by omega) (by omega)
 have hq13 : Hid (x1 * z3 ≤ 385365782469381647983005227024385) := mul_le_b 4503599627370495 85568392920039423 (by omega) (by omega)
 have hq14 : Hid (x1 * z4 ≤ 385365782469381647983005227024385) := mul_le_b 4503599627370495 85568392920039423 (by omega) (by omega)
 have hp20 : Hid (x2 * y0 ≤ 20282409603651661416747996545025) := mul_le_b 4503599627370495 4503599627370495 (by omega) (by omega)
 have hp21 : Hid (x2 * y1 ≤ 20282409603651661416747996545025) := mul_le_b 4503599627370495 4503599627370495 (by omega) (by omega)
 have hp22 : Hid (x2 * y2 ≤ 20282409603651661416747996545025) := mul_le_b 4503599627370495 4503599627370495 (by omega) (by omega)
 have hp23 : Hid (x2 * y3 ≤ 20282409603651661416747996545025) := mul_le_b 4503599627370495 4503599627370495 (by omega) (by omega)
 have hp24 : Hid (x2 * y4 ≤ 20282409603651661416747996545025) := mul_le_b 4503599627370495 4503599627370495 (by omega) (by omega)
 have hq21 : Hid (x2 * z1 ≤ 385365782469381647983005227024385) := mul_le_b 4503599627370495 85568392920039423 (by omega) (by omega)
 have hq22 : Hid (x2 * z2 ≤ 385365782469381647983005227024385) := mul_le_b 4503599627370495 85568392920039423 (by omega) (by omega)
 have hq23 : Hid (x2 * z3 ≤ 385365782469381647983005227024385) := mul_le_b 4503599627370495 85568392920039423 (by omega) (by omega)
 have hq24 : Hid (x2 * z4 ≤ 385365782469381647983005227024385) := mul_le_b 4503599627370495 85568392920039423 (by omega) (by omega)
 have hp30 : Hid (x3 * y0 ≤ 20282409603651661416747996545025) := mul_le_b 4503599627370495 4503599627370495 (by omega) (by omega)
 have hp31 : Hid (x3 * y1 ≤ 20282409603651661416747996545025) := mul_le_b 4503599627370495 4503599627370495 (by omega) (by omega)
 have hp32 : Hid (x3 * y2 ≤ 20282409603651661416747996545025) := mul_le_b 4503599627370495 4503599627370495 (by omega) (by omega)
 have hp33 : Hid (x3 * y3 ≤ 20282409603651661416747996545025) := mul_le_b 4503599627370495 4503599627370495 (by omega) (by omega)
 have hp34 : Hid (x3 * y4 ≤ 20282409603651661416747996545025) := mul_le_b 4503599627370495 4503599627370495 (by omega) (by omega)
 have hq31 : Hid (x3 * z1 ≤ 385365782469381647983005227024385) := mul_le_b 4503599627370495 85568392920039423 (by omega) (by omega)
 have hq32 : Hid (x3 * z2 ≤ 385365782469381647983005227024385) := mul_le_b 4503599627370495 85568392920039423 (by omega) (by omega)
 have hq33 : Hid (x3 * z3 ≤ 385365782469381647983005227024385) := mul_le_b 4503599627370495 85568392920039423 (by omega) (by omega)
 have hq34 : Hid (x3 * z4 ≤ 385365782469381647983005227024385) := mul_le_b 4503599627370495 85568392920039423 (by omega) (by omega)
 have hp40 : Hid (x4 * y0 ≤ 20282409603651661416747996545025) := mul_le_b 4503599627370495 4503599627370495 (by omega) (by omega)
 have hp41 : Hid (x4 * y1 ≤ 20282409603651661416747996545025) := mul_le_b 4503599627370495 4503599627370495 (by omega) (by omega)
 have hp42 : Hid (x4 * y2 ≤ 20282409603651661416747996545025) := mul_le_b 4503599627370495 4503599627370495 (by omega) (by omega)
 have hp43 : Hid (x4 * y3 ≤ 20282409603651661416747996545025) := mul_le_b 4503599627370495 4503599627370495 (by omega) (by omega)
 have hp44 : Hid (x4 * y4 ≤ 20282409603651661416747996545025) := mul_le_b 4503599627370495 4503599627370495 (by omega) (by omega)
 have hq41 : Hid (x4 * z1 ≤ 385365782469381647983005227024385) := mul_le_b 4503599627370495 85568392920039423 (by omega) (by omega)
 have hq42 : Hid (x4 * z2 ≤ 385365782469381647983005227024385) := mul_le_b 4503599627370495 85568392920039423 (by omega) (by omega)
 have hq43 : Hid (x4 * z3 ≤ 385365782469381647983005227024385) := mul_le_b 4503599627370495 85568392920039423 (by omega) (by omega)
 have hq44 : Hid (x4 * z4 ≤ 385365782469381647983005227024385) := mul_le_b 4503599627370495 85568392920039423 (by omega) (by omega)
 have h56 : (Tryz.prog.info? 110).map (·.size) = some 2 := by kernel_rfl
 go_enter Tryz.func77, Tryz.ntmps77
 go_wp2_with fail
 go_quiet (fail)
 go_wp2_with fail
 go_quiet (fail)
 go_wp2_with fail
 refine (plus41_0 x0 y0 _ (by omega) (by omega)).mono ?_
 rintro e v1 ⟨rfl, hv1⟩
 have hB : Below w.heap.size w v1 := (below_drewN (below3 w _ _ _) _).trans (hv1.mono (by simp; omega))
 have hz : v1.heap[w.heap.size + 1 + 1]? = some (.cells z5 58 (0, 0)) := block_below hv1 (by simp) (heap3_2 _ _ _ _)
 clear hv1
 go_wp2_with fail
 refine (plus41 (x0 * y0) x1 z4 _ (by omega) (by omega) (by have := (hp00).out; have := (hq14).out; omega)).mono ?_
 rintro e v2 ⟨rfl, hv⟩
 have hB := hB.trans (hv.mono hB.size)
 have hz := block_below hv (lt_of_heap hz) hz
 clear hv
 go_wp2_with fail
 refine (plus41 (x0 * y0 + x1 * z4) x2 z3 _ (by omega) (by omega) (by have := (hp00).out; have := (hq14).out; have := (hq23).out; omega)).mono ?_
 rintro e v3 ⟨rfl, hv⟩
 have hB := hB.trans (hv.mono hB.size)
 have hz := block_below hv (lt_of_heap hz) hz
 clear hv
 go_wp2_with fail
 refine (plus41 (x0 * y0 + x1 * z4 + x2 * z3) x3 z2 _ (by omega) (by omega) (by have := (hp00).out; have := (hq14).out; have := (hq23).out; have := (hq32).out; omega)).mono ?_
 rintro e v4 ⟨rfl, hv⟩
 have hB := hB.trans (hv.mono hB.size)
 have hz := block_below hv (lt_of_heap hz) hz
 clear hv
 go_wp2_with fail
 refine (plus41 (x0 * y0 + x1 * z4 + x2 * z3 + x3 * z2) x4 z1 _ (by omega) (by omega) (by have := (hp00).out; have := (hq14).out; have := (hq23).out; have := (hq32).out; have := (hq41).out; omega)).mono ?_
 rintro e v5 ⟨rfl, hv⟩
 have hB := hB.trans (hv.mono hB.size)
 have hz := block_below hv (lt_of_heap hz) hz
 clear hv
 rw [← hs0.out]
 have hal : (v5.alloc (.cells #[.int .u64 0, .int .u64 0] 110)).heap[v5.heap.size]? = some (.cells #[.int .u64 0, .int .u64 0] 110 (0, 0)) := heap_alloc_new _ _
 go_wp2_with (refine wpList_store_row rfl 110 (.tmp 19) (.tmp 77) rfl _ (wdc s0) rfl rfl 110 _ hal h56 rfl (wdc_one _) ?_)
 have hB' : Hid (Below w.heap.size w ((v5.alloc (.cells #[.int .u64 0, .int .u64 0] 110)).setRow v5.heap.size (wdc s0))) := setRow_below (hB.alloc hB.size _) hB.size _
 have hg0' : Hid (((v5.alloc (.cells #[.int .u64 0, .int .u64 0] 110)).setRow v5.heap.size (wdc s0)).heap[v5.heap.size]? = some (.cells (wdc s0) 110 (0, 0))) := setRow_heap _ _ _ _ _ _ hal
 have hz' : Hid (((v5.alloc (.cells #[.int .u64 0, .int .u64 0] 110)).setRow v5.heap.size (wdc s0)).heap[_]? = some _) := (setRow_other _ _ _ _ (by have := lt_of_heap hz; omega)).trans ((heap_alloc_old _ _ (lt_of_heap hz)).trans hz)
 obtain ⟨g0, hgn⟩ : ∃ g, g = v5.heap.size := ⟨_, rfl⟩
 rw [← hgn] at hB' hz' hg0' ⊢
 generalize ((v5.alloc (.cells #[.int .u64 0, .int .u64 0] 110)).setRow g0 (wdc s0)) = u0 at hB' hz' hg0' ⊢
 clear hal hB hz hgn 
 have hB := hB'.out
 have hz := hz'.out
 have hg0 := hg0'.out
 clear hB' hz' hg0'
 refine (plus41_0 x0 y1 _ (by omega) (by omega)).mono ?_
 rintro e v1 ⟨rfl, hv1⟩
 have hB := hB.trans (hv1.mono hB.size)
 have hz := block_below hv1 (lt_of_heap hz) hz
 have hg0 := block_below hv1 (lt_of_heap hg0) hg0
 clear hv1
 go_wp2_with fail
 refine (plus41 (x0 * y1) x1 y0 _ (by omega) (by omega) (by have := (hp01).out; have := (hp10).out; omega)).mono ?_
 rintro e v2 ⟨rfl, hv⟩
 have hB := hB.trans (hv.mono hB.size)
 have hz := block_below hv (lt_of_heap hz) hz
 have hg0 := block_below hv (lt_of_heap hg0) hg0
 clear hv
 go_wp2_with fail
 refine (plus41 (x0 * y1 + x1 * y0) x2 z4 _ (by omega) (by omega) (by have := (hp01).out; have := (hp10).out; have := (hq24).out; omega)).mono ?_
 rintro e v3 ⟨rfl, hv⟩
 have hB := hB.trans (hv.mono hB.size)
 have hz := block_below hv (lt_of_heap hz) hz
 have hg0 := block_below hv (lt_of_heap hg0) hg0
 clear hv
 go_wp2_with fail
 refine (plus41 (x0 * y1 + x1 * y0 + x2 * z4) x3 z3 _ (by omega) (by omega) (by have := (hp01).out; have := (hp10).out; have := (hq24).out; have := (hq33).out; omega)).mono ?_
 rintro e v4 ⟨rfl, hv⟩
 have hB := hB.trans (hv.mono hB.size)
 have hz := block_below hv (lt_of_heap hz) hz
 have hg0 := block_below hv (lt_of_heap hg0) hg0
 clear hv
 go_wp2_with fail
 refine (plus41 (x0 * y1 + x1 * y0 + x2 * z4 + x3 * z3) x4 z2 _ (by omega) (by omega) (by have := (hp01).out; have := (hp10).out; have := (hq24).out; have := (hq33).out; have := (hq42).out; omega)).mono ?_
 rintro e v5 ⟨rfl, hv⟩
 have hB := hB.trans (hv.mono hB.size)
 have hz := block_below hv (lt_of_heap hz) hz
 have hg0 := block_below hv (lt_of_heap hg0) hg0
 clear hv
 rw [← hs1.out]
 have hal : (v5.alloc (.cells #[.int .u64 0, .int .u64 0] 110)).heap[v5.heap.size]? = some (.cells #[.int .u64 0, .int .u64 0] 110 (0, 0)) := heap_alloc_new _ _
 go_wp2_with (refine wpList_store_row rfl 110 (.tmp 20) (.tmp 93) rfl _ (wdc s1) rfl rfl 110 _ hal h56 rfl (wdc_one _) ?_)
 have hB' : Hid (Below w.heap.size w ((v5.alloc (.cells #[.int .u64 0, .int .u64 0] 110)).setRow v5.heap.size (wdc s1))) := setRow_below (hB.alloc hB.size _) hB.size _
 have hg1' : Hid (((v5.alloc (.cells #[.int .u64 0, .int .u64 0] 110)).setRow v5.heap.size (wdc s1)).heap[v5.heap.size]? = some (.cells (wdc s1) 110 (0, 0))) := setRow_heap _ _ _ _ _ _ hal
 have hz' : Hid (((v5.alloc (.cells #[.int .u64 0, .int .u64 0] 110)).setRow v5.heap.size (wdc s1)).heap[_]? = some _) := (setRow_other _ _ _ _ (by have := lt_of_heap hz; omega)).trans ((heap_alloc_old _ _ (lt_of_heap hz)).trans hz)
 have hg0' : Hid (((v5.alloc (.cells #[.int .u64 0, .int .u64 0] 110)).setRow v5.heap.size (wdc s1)).heap[_]? = some _) := (setRow_other _ _ _ _ (by have := lt_of_heap hg0; omega)).trans ((heap_alloc_old _ _ (lt_of_heap hg0)).trans hg0)
 obtain ⟨g1, hgn⟩ : ∃ g, g = v5.heap.size := ⟨_, rfl⟩
 rw [← hgn] at hB' hz' hg0' hg1' ⊢
 generalize ((v5.alloc (.cells #[.int .u64 0, .int .u64 0] 110)).setRow g1 (wdc s1)) = u1 at hB' hz' hg0' hg1' ⊢
 clear hal hB hz hgn hg0
 have hB := hB'.out
 have hz := hz'.out
 have hg0 := hg0'.out
 have hg1 := hg1'.out
 clear hB' hz' hg0' hg1'
 refine (plus41_0 x0 y2 _ (by omega) (by omega)).mono ?_
 rintro e v1 ⟨rfl, hv1⟩
 have hB := hB.trans (hv1.mono hB.size)
 have hz := block_below hv1 (lt_of_heap hz) hz
 have hg0 := block_below hv1 (lt_of_heap hg0) hg0
 have hg1 := block_below hv1 (lt_of_heap hg1) hg1
 clear hv1
 go_wp2_with fail
 refine (plus41 (x0 * y2) x1 y1 _ (by omega) (by omega) (by have := (hp02).out; have := (hp11).out; omega)).mono ?_
 rintro e v2 ⟨rfl, hv⟩
 have hB := hB.trans (hv.mono hB.size)
 have hz := block_below hv (lt_of_heap hz) hz
 have hg0 := block_below hv (lt_of_heap hg0) hg0
 have hg1 := block_below hv (lt_of_heap hg1) hg1
 clear hv
 go_wp2_with fail
 refine (plus41 (x0 * y2 + x1 * y1) x2 y0 _ (by omega) (by omega) (by have := (hp02).out; have := (hp11).out; have := (hp20).out; omega)).mono ?_
 rintro e v3 ⟨rfl, hv⟩
 have hB := hB.trans (hv.mono hB.size)
 have hz := block_below hv (lt_of_heap hz) hz
 have hg0 := block_below hv (lt_of_heap hg0) hg0
 have hg1 := block_below hv (lt_of_heap hg1) hg1
 clear hv
 go_wp2_with fail
 refine (plus41 (x0 * y2 + x1 * y1 + x2 * y0) x3 z4 _ (by omega) (by omega) (by have := (hp02).out; have := (hp11).out; have := (hp20).out; have := (hq34).out; omega)).mono ?_
 rintro e v4 ⟨rfl, hv⟩
 have hB := hB.trans (hv.mono hB.size)
 have hz := block_below hv (lt_of_heap hz) hz
 have hg0 := block_below hv (lt_of_heap hg0) hg0
 have hg1 := block_below hv (lt_of_heap hg1) hg1
 clear hv
 go_wp2_with fail
 refine (plus41 (x0 * y2 + x1 * y1 + x2 * y0 + x3 * z4) x4 z3 _ (by omega) (by omega) (by have := (hp02).out; have := (hp11).out; have := (hp20).out; have := (hq34).out; have := (hq43).out; omega)).mono ?_
 rintro e v5 ⟨rfl, hv⟩
 have hB := hB.trans (hv.mono hB.size)
 have hz := block_below hv (lt_of_heap hz) hz
 have hg0 := block_below hv (lt_of_heap hg0) hg0
 have hg1 := block_below hv (lt_of_heap hg1) hg1
 clear hv
 rw [← hs2.out]
 have hal : (v5.alloc (.cells #[.int .u64 0, .int .u64 0] 110)).heap[v5.heap.size]? = some (.cells #[.int .u64 0, .int .u64 0] 110 (0, 0)) := heap_alloc_new _ _
 go_wp2_with (refine wpList_store_row rfl 110 (.tmp 21) (.tmp 109) rfl _ (wdc s2) rfl rfl 110 _ hal h56 rfl (wdc_one _) ?_)
 have hB' : Hid (Below w.heap.size w ((v5.alloc (.cells #[.int .u64 0, .int .u64 0] 110)).setRow v5.heap.size (wdc s2))) := setRow_below (hB.alloc hB.size _) hB.size _
 have hg2' : Hid (((v5.alloc (.cells #[.int .u64 0, .int .u64 0] 110)).setRow v5.heap.size (wdc s2)).heap[v5.heap.size]? = some (.cells (wdc s2) 110 (0, 0))) := setRow_heap _ _ _ _ _ _ hal
 have hz' : Hid (((v5.alloc (.cells #[.int .u64 0, .int .u64 0] 110)).setRow v5.heap.size (wdc s2)).heap[_]? = some _) := (setRow_other _ _ _ _ (by have := lt_of_heap hz; omega)).trans ((heap_alloc_old _ _ (lt_of_heap hz)).trans hz)
 have hg0' : Hid (((v5.alloc (.cells #[.int .u64 0, .int .u64 0] 110)).setRow v5.heap.size (wdc s2)).heap[_]? = some _) := (setRow_other _ _ _ _ (by have := lt_of_heap hg0; omega)).trans ((heap_alloc_old _ _ (lt_of_heap hg0)).trans hg0)
 have hg1' : Hid (((v5.alloc (.cells #[.int .u64 0, .int .u64 0] 110)).setRow v5.heap.size (wdc s2)).heap[_]? = some _) := (setRow_other _ _ _ _ (by have := lt_of_heap hg1; omega)).trans ((heap_alloc_old _ _ (lt_of_heap hg1)).trans hg1)
 obtain ⟨g2, hgn⟩ : ∃ g, g = v5.heap.size := ⟨_, rfl⟩
 rw [← hgn] at hB' hz' hg0' hg1' hg2' ⊢
 generalize ((v5.alloc (.cells #[.int .u64 0, .int .u64 0] 110)).setRow g2 (wdc s2)) = u2 at hB' hz' hg0' hg1' hg2' ⊢
 clear hal hB hz hgn hg0 hg1
 have hB := hB'.out
 have hz := hz'.out
 have hg0 := hg0'.out
 have hg1 := hg1'.out
 have hg2 := hg2'.out
 clear hB' hz' hg0' hg1' hg2'
 refine (plus41_0 x0 y3 _ (by omega) (by omega)).mono ?_
 rintro e v1 ⟨rfl, hv1⟩
 have hB := hB.trans (hv1.mono hB.size)
 have hz := block_below hv1 (lt_of_heap hz) hz
 have hg0 := block_below hv1 (lt_of_heap hg0) hg0
 have hg1 := block_below hv1 (lt_of_heap hg1) hg1
 have hg2 := block_below hv1 (lt_of_heap hg2) hg2
 clear hv1
 go_wp2_with fail
 refine (plus41 (x0 * y3) x1 y2 _ (by omega) (by omega) (by have := (hp03).out; have := (hp12).out; omega)).mono ?_
 rintro e v2 ⟨rfl, hv⟩
 have hB := hB.trans (hv.mono hB.size)
 have hz := block_below hv (lt_of_heap hz) hz
 have hg0 := block_below hv (lt_of_heap hg0) hg0
 have hg1 := block_below hv (lt_of_heap hg1) hg1
 have hg2 := block_below hv (lt_of_heap hg2) hg2
 clear hv
 go_wp2_with fail
 refine (plus41 (x0 * y3 + x1 * y2) x2 y1 _ (by omega) (by omega) (by have := (hp03).out; have := (hp12).out; have := (hp21).out; omega)).mono ?_
 rintro e v3 ⟨rfl, hv⟩
 have hB := hB.trans (hv.mono hB.size)
 have hz := block_below hv (lt_of_heap hz) hz
 have hg0 := block_below hv (lt_of_heap hg0) hg0
 have hg1 := block_below hv (lt_of_heap hg1) hg1
 have hg2 := block_below hv (lt_of_heap hg2) hg2
 clear hv
 go_wp2_with fail
 refine (plus41 (x0 * y3 + x1 * y2 + x2 * y1) x3 y0 _ (by omega) (by omega) (by have := (hp03).out; have := (hp12).out; have := (hp21).out; have := (hp30).out; omega)).mono ?_
 rintro e v4 ⟨rfl, hv⟩
 have hB := hB.trans (hv.mono hB.size)
 have hz := block_below hv (lt_of_heap hz) hz
 have hg0 := block_below hv (lt_of_heap hg0) hg0
 have hg1 := block_below hv (lt_of_heap hg1) hg1
 have hg2 := block_below hv (lt_of_heap hg2) hg2
 clear hv
 go_wp2_with fail
 refine (plus41 (x0 * y3 + x1 * y2 + x2 * y1 + x3 * y0) x4 z4 _ (by omega) (by omega) (by have := (hp03).out; have := (hp12).out; have := (hp21).out; have := (hp30).out; have := (hq44).out; omega)).mono ?_
 rintro e v5 ⟨rfl, hv⟩
 have hB := hB.trans (hv.mono hB.size)
 have hz := block_below hv (lt_of_heap hz) hz
 have hg0 := block_below hv (lt_of_heap hg0) hg0
 have hg1 := block_below hv (lt_of_heap hg1) hg1
 have hg2 := block_below hv (lt_of_heap hg2) hg2
 clear hv
 rw [← hs3.out]
 have hal : (v5.alloc (.cells #[.int .u64 0, .int .u64 0] 110)).heap[v5.heap.size]? = some (.cells #[.int .u64 0, .int .u64 0] 110 (0, 0)) := heap_alloc_new _ _
 go_wp2_with (refine wpList_store_row rfl 110 (.tmp 22) (.tmp 125) rfl _ (wdc s3) rfl rfl 110 _ hal h56 rfl (wdc_one _) ?_)
 have hB' : Hid (Below w.heap.size w ((v5.alloc (.cells #[.int .u64 0, .int .u64 0] 110)).setRow v5.heap.size (wdc s3))) := setRow_below (hB.alloc hB.size _) hB.size _
 have hg3' : Hid (((v5.alloc (.cells #[.int .u64 0, .int .u64 0] 110)).setRow v5.heap.size (wdc s3)).heap[v5.heap.size]? = some (.cells (wdc s3) 110 (0, 0))) := setRow_heap _ _ _ _ _ _ hal
 have hz' : Hid (((v5.alloc (.cells #[.int .u64 0, .int .u64 0] 110)).setRow v5.heap.size (wdc s3)).heap[_]? = some _) := (setRow_other _ _ _ _ (by have := lt_of_heap hz; omega)).trans ((heap_alloc_old _ _ (lt_of_heap hz)).trans hz)
 have hg0' : Hid (((v5.alloc (.cells #[.int .u64 0, .int .u64 0] 110)).setRow v5.heap.size (wdc s3)).heap[_]? = some _) := (setRow_other _ _ _ _ (by have := lt_of_heap hg0; omega)).trans ((heap_alloc_old _ _ (lt_of_heap hg0)).trans hg0)
 have hg1' : Hid (((v5.alloc (.cells #[.int .u64 0, .int .u64 0] 110)).setRow v5.heap.size (wdc s3)).heap[_]? = some _) := (setRow_other _ _ _ _ (by have := lt_of_heap hg1; omega)).trans ((heap_alloc_old _ _ (lt_of_heap hg1)).trans hg1)
 have hg2' : Hid (((v5.alloc (.cells #[.int .u64 0, .int .u64 0] 110)).setRow v5.heap.size (wdc s3)).heap[_]? = some _) := (setRow_other _ _ _ _ (by have := lt_of_heap hg2; omega)).trans ((heap_alloc_old _ _ (lt_of_heap hg2)).trans hg2)
 obtain ⟨g3, hgn⟩ : ∃ g, g = v5.heap.size := ⟨_, rfl⟩
 rw [← hgn] at hB' hz' hg0' hg1' hg2' hg3' ⊢
 generalize ((v5.alloc (.cells #[.int .u64 0, .int .u64 0] 110)).setRow g3 (wdc s3)) = u3 at hB' hz' hg0' hg1' hg2' hg3' ⊢
 clear hal hB hz hgn hg0 hg1 hg2
 have hB := hB'.out
 have hz := hz'.out
 have hg0 := hg0'.out
 have hg1 := hg1'.out
 have hg2 := hg2'.out
 have hg3 := hg3'.out
 clear hB' hz' hg0' hg1' hg2' hg3'
 refine (plus41_0 x0 y4 _ (by omega) (by omega)).mono ?_
 rintro e v1 ⟨rfl, hv1⟩
 have hB := hB.trans (hv1.mono hB.size)
 have hz := block_below hv1 (lt_of_heap hz) hz
 have hg0 := block_below hv1 (lt_of_heap hg0) hg0
 have hg1 := block_below hv1 (lt_of_heap hg1) hg1
 have hg2 := block_below hv1 (lt_of_heap hg2) hg2
 have hg3 := block_below hv1 (lt_of_heap hg3) hg3
 clear hv1
 go_wp2_with fail
 refine (plus41 (x0 * y4) x1 y3 _ (by omega) (by omega) (by have := (hp04).out; have := (hp13).out; omega)).mono ?_
 rintro e v2 ⟨rfl, hv⟩
 have hB := hB.trans (hv.mono hB.size)
 have hz := block_below hv (lt_of_heap hz) hz
 have hg0 := block_below hv (lt_of_heap hg0) hg0
 have hg1 := block_below hv (lt_of_heap hg1) hg1
 have hg2 := block_below hv (lt_of_heap hg2) hg2
 have hg3 := block_below hv (lt_of_heap hg3) hg3
 clear hv
 go_wp2_with fail
 refine (plus41 (x0 * y4 + x1 * y3) x2 y2 _ (by omega) (by omega) (by have := (hp04).out; have := (hp13).out; have := (hp22).out; omega)).mono ?_
 rintro e v3 ⟨rfl, hv⟩
 have hB := hB.trans (hv.mono hB.size)
 have hz := block_below hv (lt_of_heap hz) hz
 have hg0 := block_below hv (lt_of_heap hg0) hg0
 have hg1 := block_below hv (lt_of_heap hg1) hg1
 have hg2 := block_below hv (lt_of_heap hg2) hg2
 have hg3 := block_below hv (lt_of_heap hg3) hg3
 clear hv
 go_wp2_with fail
 refine (plus41 (x0 * y4 + x1 * y3 + x2 * y2) x3 y1 _ (by omega) (by omega) (by have := (hp04).out; have := (hp13).out; have := (hp22).out; have := (hp31).out; omega)).mono ?_
 rintro e v4 ⟨rfl, hv⟩
 have hB := hB.trans (hv.mono hB.size)
 have hz := block_below hv (lt_of_heap hz) hz
 have hg0 := block_below hv (lt_of_heap hg0) hg0
 have hg1 := block_below hv (lt_of_heap hg1) hg1
 have hg2 := block_below hv (lt_of_heap hg2) hg2
 have hg3 := block_below hv (lt_of_heap hg3) hg3
 clear hv
 go_wp2_with fail
 refine (plus41 (x0 * y4 + x1 * y3 + x2 * y2 + x3 * y1) x4 y0 _ (by omega) (by omega) (by have := (hp04).out; have := (hp13).out; have := (hp22).out; have := (hp31).out; have := (hp40).out; omega)).mono ?_
 rintro e v5 ⟨rfl, hv⟩
 have hB := hB.trans (hv.mono hB.size)
 have hz := block_below hv (lt_of_heap hz) hz
 have hg0 := block_below hv (lt_of_heap hg0) hg0
 have hg1 := block_below hv (lt_of_heap hg1) hg1
 have hg2 := block_below hv (lt_of_heap hg2) hg2
 have hg3 := block_below hv (lt_of_heap hg3) hg3
 clear hv
 rw [← hs4.out]
 have hal : (v5.alloc (.cells #[.int .u64 0, .int .u64 0] 110)).heap[v5.heap.size]? = some (.cells #[.int .u64 0, .int .u64 0] 110 (0, 0)) := heap_alloc_new _ _
 go_wp2_with (refine wpList_store_row rfl 110 (.tmp 23) (.tmp 141) rfl _ (wdc s4) rfl rfl 110 _ hal h56 rfl (wdc_one _) ?_)
 have hB' : Hid (Below w.heap.size w ((v5.alloc (.cells #[.int .u64 0, .int .u64 0] 110)).setRow v5.heap.size (wdc s4))) := setRow_below (hB.alloc hB.size _) hB.size _
 have hg4' : Hid (((v5.alloc (.cells #[.int .u64 0, .int .u64 0] 110)).setRow v5.heap.size (wdc s4)).heap[v5.heap.size]? = some (.cells (wdc s4) 110 (0, 0))) := setRow_heap _ _ _ _ _ _ hal
 have hz' : Hid (((v5.alloc (.cells #[.int .u64 0, .int .u64 0] 110)).setRow v5.heap.size (wdc s4)).heap[_]? = some _) := (setRow_other _ _ _ _ (by have := lt_of_heap hz; omega)).trans ((heap_alloc_old _ _ (lt_of_heap hz)).trans hz)
 have hg0' : Hid (((v5.alloc (.cells #[.int .u64 0, .int .u64 0] 110)).setRow v5.heap.size (wdc s4)).heap[_]? = some _) := (setRow_other _ _ _ _ (by have := lt_of_heap hg0; omega)).trans ((heap_alloc_old _ _ (lt_of_heap hg0)).trans hg0)
 have hg1' : Hid (((v5.alloc (.cells #[.int .u64 0, .int .u64 0] 110)).setRow v5.heap.size (wdc s4)).heap[_]? = some _) := (setRow_other _ _ _ _ (by have := lt_of_heap hg1; omega)).trans ((heap_alloc_old _ _ (lt_of_heap hg1)).trans hg1)
 have hg2' : Hid (((v5.alloc (.cells #[.int .u64 0, .int .u64 0] 110)).setRow v5.heap.size (wdc s4)).heap[_]? = some _) := (setRow_other _ _ _ _ (by have := lt_of_heap hg2; omega)).trans ((heap_alloc_old _ _ (lt_of_heap hg2)).trans hg2)
 have hg3' : Hid (((v5.alloc (.cells #[.int .u64 0, .int .u64 0] 110)).setRow v5.heap.size (wdc s4)).heap[_]? = some _) := (setRow_other _ _ _ _ (by have := lt_of_heap hg3; omega)).trans ((heap_alloc_old _ _ (lt_of_heap hg3)).trans hg3)
 obtain ⟨g4, hgn⟩ : ∃ g, g = v5.heap.size := ⟨_, rfl⟩
 rw [← hgn] at hB' hz' hg0' hg1' hg2' hg3' hg4' ⊢
 generalize ((v5.alloc (.cells #[.int .u64 0, .int .u64 0] 110)).setRow g4 (wdc s4)) = u4 at hB' hz' hg0' hg1' hg2' hg3' hg4' ⊢
 clear hal hB hz hgn hg0 hg1 hg2 hg3
 have hB := hB'.out
 have hz := hz'.out
 have hg0 := hg0'.out
 have hg1 := hg1'.out
 have hg2 := hg2'.out
 have hg3 := hg3'.out
 have hg4 := hg4'.out
 clear hB' hz' hg0' hg1' hg2' hg3' hg4'
 refine wp_region_quiet_tail 27 (by kernel_rfl) (by kernel_rfl) ?_
 simp only [List.take_succ_cons, List.take_zero, List.drop_succ_cons, List.drop_zero]
 show wpQuiet _ _ (Cls u4) (fun a' => ∀ w', Cls u4 w' → wpList _ _ _ _ a' w') _ _
 refine wpQuiet_load_row (some 142) rfl rfl 110 (.tmp 19) rfl g0 rfl 110 (wdc s0) (0, 0) _ (fun _ hw => hw.heap hg0) Tryz.underlying110 rfl h56 ?_
 simp only [Act.put, lA, lS, lZ]
 refine wpQuiet_call (some 143) (.int .u64 (r0 : Int)) 98 #[.agg (wdc s0)] rfl rfl (fun _ => by kernel_rfl) (fun w1 hw => cls_call hw (RE0 w1)) ?_
 simp only [Act.put, lA, lS, lZ]
 refine wpQuiet_load_row (some 144) rfl rfl 110 (.tmp 23) rfl g4 rfl 110 (wdc s4) (0, 0) _ (fun _ hw => hw.heap hg4) Tryz.underlying110 rfl h56 ?_
 simp only [Act.put, lA, lS, lZ]
 refine wpQuiet_call (some 145) (.int .u64 (c4 : Int)) 99 #[.agg (wdc s4)] rfl rfl (fun _ => by kernel_rfl) (fun w1 hw => cls_call hw (CA4 w1)) ?_
 simp only [Act.put, lA, lS, lZ]
 refine wpQuiet_run (some 146) (.int .u64 (19 * (c4 : Int))) rfl rfl (fun _ _ => run_mul23 19 (c4 : Int) rfl rfl rfl (by omega) (by omega)) ?_
 simp only [Act.put, lA, lS, lZ]
 refine wpQuiet_run (some 147) (.int .u64 ((r0 : Int) + (19 * (c4 : Int)))) rfl rfl (fun _ _ => run_add23 (r0 : Int) (19 * (c4 : Int)) rfl rfl rfl (by omega) (by omega)) ?_
 simp only [Act.put, lA, lS, lZ]
 refine wpQuiet_load_row (some 148) rfl rfl 110 (.tmp 20) rfl g1 rfl 110 (wdc s1) (0, 0) _ (fun _ hw => hw.heap hg1) Tryz.underlying110 rfl h56 ?_
 simp only [Act.put, lA, lS, lZ]
 refine wpQuiet_call (some 149) (.int .u64 (r1 : Int)) 98 #[.agg (wdc s1)] rfl rfl (fun _ => by kernel_rfl) (fun w1 hw => cls_call hw (RE1 w1)) ?_
 simp only [Act.put, lA, lS, lZ]
 refine wpQuiet_load_row (some 150) rfl rfl 110 (.tmp 19) rfl g0 rfl 110 (wdc s0) (0, 0) _ (fun _ hw => hw.heap hg0) Tryz.underlying110 rfl h56 ?_
 simp only [Act.put, lA, lS, lZ]
 refine wpQuiet_call (some 151) (.int .u64 (c0 : Int)) 99 #[.agg (wdc s0)] rfl rfl (fun _ => by kernel_rfl) (fun w1 hw => cls_call hw (CA0 w1)) ?_
 simp only [Act.put, lA, lS, lZ]
 refine wpQuiet_run (some 152) (.int .u64 ((r1 : Int) + (c0 : Int))) rfl rfl (fun _ _ => run_add23 (r1 : Int) (c0 : Int) rfl rfl rfl (by omega) (by omega)) ?_
 simp only [Act.put, lA, lS, lZ]
 refine wpQuiet_load_row (some 153) rfl rfl 110 (.tmp 21) rfl g2 rfl 110 (wdc s2) (0, 0) _ (fun _ hw => hw.heap hg2) Tryz.underlying110 rfl h56 ?_
 simp only [Act.put, lA, lS, lZ]
 refine wpQuiet_call (some 154) (.int .u64 (r2 : Int)) 98 #[.agg (wdc s2)] rfl rfl (fun _ => by kernel_rfl) (fun w1 hw => cls_call hw (RE2 w1)) ?_
 simp only [Act.put, lA, lS, lZ]
 refine wpQuiet_load_row (some 155) rfl rfl 110 (.tmp 20) rfl g1 rfl 110 (wdc s1) (0, 0) _ (fun _ hw => hw.heap hg1) Tryz.underlying110 rfl h56 ?_
 simp only [Act.put, lA, lS, lZ]
 refine wpQuiet_call (some 156) (.int .u64 (c1 : Int)) 99 #[.agg (wdc s1)] rfl rfl (fun _ => by kernel_rfl) (fun w1 hw => cls_call hw (CA1 w1)) ?_
 simp only [Act.put, lA, lS, lZ]
 refine wpQuiet_run (some 157) (.int .u64 ((r2 : Int) + (c1 : Int))) rfl rfl (fun _ _ => run_add23 (r2 : Int) (c1 : Int) rfl rfl rfl (by omega) (by omega)) ?_
 simp only [Act.put, lA, lS, lZ]
 refine wpQuiet_load_row (some 158) rfl rfl 110 (.tmp 22) rfl g3 rfl 110 (wdc s3) (0, 0) _ (fun _ hw => hw.heap hg3) Tryz.underlying110 rfl h56 ?_
 simp only [Act.put, lA, lS, lZ]
 refine wpQuiet_call (some 159) (.int .u64 (r3 : Int)) 98 #[.agg (wdc s3)] rfl rfl (fun _ => by kernel_rfl) (fun w1 hw => cls_call hw (RE3 w1)) ?_
 simp only [Act.put, lA, lS, lZ]
 refine wpQuiet_load_row (some 160) rfl rfl 110 (.tmp 21) rfl g2 rfl 110 (wdc s2) (0, 0) _ (fun _ hw => hw.heap hg2) Tryz.underlying110 rfl h56 ?_
 simp only [Act.put, lA, lS, lZ]
 refine wpQuiet_call (some 161) (.int .u64 (c2 : Int)) 99 #[.agg (wdc s2)] rfl rfl (fun _ => by kernel_rfl) (fun w1 hw => cls_call hw (CA2 w1)) ?_
 simp only [Act.put, lA, lS, lZ]
 refine wpQuiet_run (some 162) (.int .u64 ((r3 : Int) + (c2 : Int))) rfl rfl (fun _ _ => run_add23 (r3 : Int) (c2 : Int) rfl rfl rfl (by omega) (by omega)) ?_
 simp only [Act.put, lA, lS, lZ]
 refine wpQuiet_load_row (some 163) rfl rfl 110 (.tmp 23) rfl g4 rfl 110 (wdc s4) (0, 0) _ (fun _ hw => hw.heap hg4) Tryz.underlying110 rfl h56 ?_
 simp only [Act.put, lA, lS, lZ]
 refine wpQuiet_call (some 164) (.int .u64 (r4 : Int)) 98 #[.agg (wdc s4)] rfl rfl (fun _ => by kernel_rfl) (fun w1 hw => cls_call hw (RE4 w1)) ?_
 simp only [Act.put, lA, lS, lZ]
 refine wpQuiet_load_row (some 165) rfl rfl 110 (.tmp 22) rfl g3 rfl 110 (wdc s3) (0, 0) _ (fun _ hw => hw.heap hg3) Tryz.underlying110 rfl h56 ?_
 simp only [Act.put, lA, lS, lZ]
 refine wpQuiet_call (some 166) (.int .u64 (c3 : Int)) 99 #[.agg (wdc s3)] rfl rfl (fun _ => by kernel_rfl) (fun w1 hw => cls_call hw (CA3 w1)) ?_
 simp only [Act.put, lA, lS, lZ]
 refine wpQuiet_run (some 167) (.int .u64 ((r4 : Int) + (c3 : Int))) rfl rfl (fun _ _ => run_add23 (r4 : Int) (c3 : Int) rfl rfl rfl (by omega) (by omega)) ?_
 simp only [Act.put, lA, lS, lZ]
 refine wpQuiet_call (some 168) (.agg rv) 97 #[.int .u64 ((r0 : Int) + 19 * (c4 : Int)), .int .u64 ((r1 : Int) + (c0 : Int)), .int .u64 ((r2 : Int) + (c1 : Int)), .int .u64 ((r3 : Int) + (c2 : Int)), .int .u64 ((r4 : Int) + (c3 : Int))] rfl rfl (fun _ => by kernel_rfl) (fun w1 hw => cls_call hw (hc w1)) ?_
 simp only [Act.put, lA, lS, lZ]
 refine wpQuiet_nil ?_
 intro w1 hw
 have hz := hw.heap hz
 have hb := hB.trans (hw.below.mono hB.size)
 refine wpList_store_row rfl 58 (.tmp 4) (.tmp 168) rfl _ rv rfl rfl 58 _ hz (by rw [hrl]; exact info26) (by rw [hrl]; rfl) hrw ?_
 simp only [Act.put]
 go_wp2_with fail
 refine bodyPost_ret (v := .agg rv) ?_ rfl ⟨rfl, setRow_below hb (by omega) _⟩
 exact results_cell_row Tryz.results77 _ _ _ 58 rv (0, 0) _ rfl (setRow_heap _ _ _ _ _ _ hz) Tryz.underlying58 rfl (by rw [hrl]; exact info26)
theorem mul24 (a b : E5) (w : World) (ha : a.wf) (hb : b.wf) : Calls Tryz.prog 77 #[.agg (elc a), .agg (elc b)] w fun e w' => e = .returned (.agg (elc (mulE a b))) ∧ Below w.heap.size w w' := by
 obtain ⟨l0, l1, l2, l3, l4⟩ := sm_lt ha hb
 exact mul24' a.a0 a.a1 a.a2 a.a3 a.a4 b.a0 b.a1 b.a2 b.a3 b.a4 w ha.1 ha.2.1 ha.2.2.1 ha.2.2.2.1 ha.2.2.2.2 hb.1 hb.2.1 hb.2.2.1 hb.2.2.2.1 hb.2.2.2.2 (sm0 a b) (sm1 a b) (sm2 a b) (sm3 a b) (sm4 a b) rfl rfl rfl rfl rfl l0 l1 l2 l3 l4
end Go.Proofs.YtabgihjffjlfiaaGreatDoor
set_option linter.unusedVariables false
namespace Go.Proofs.YtabgihjffjlfiaaGreatDoor
open Go.RowKit Go.Sort Go.BigFrame
set_option maxRecDepth 100000
set_option maxHeartbeats 4000000
def RelL (w wr : World) (g : Nat) (L : List Nat) : Prop :=
 Below w.heap.size w wr ∧ w.heap.size + 1 < g ∧ wr.heap[w.heap.size + 1]? = some (.cells z5 58 (0, 0)) ∧ wr.heap[g]? = some (.cells (ints .u64 L) 58 (0, 0))
theorem RelL.set {w wr : World} {g : Nat} {L : List Nat} (h : RelL w wr g L) (k v : Nat) : RelL w (wr.setCell ⟨g, k, none⟩ (.int .u64 (v : Int))) g (L.set k v) :=
 ⟨h.1.setCell (by have := h.2.1; show w.heap.size ≤ g; omega) _, h.2.1, (heap_setCell_other _ _ _ _ (by have := h.2.1; show w.heap.size + 1 ≠ g; omega)).trans h.2.2.1, set_ints h.2.2.2 _ _⟩
theorem idx24 (s0 s1 s2 s3 s4 k : Nat) (h : k < 5) (w : World) : (Instr.index 56 (.agg #[.int .u64 (s0 : Int), .int .u64 (s1 : Int), .int .u64 (s2 : Int), .int .u64 (s3 : Int), .int .u64 (s4 : Int)]) (.int .i64 (k : Int))).run Tryz.prog w = .ok (.int .u64 (([s0, s1, s2, s3, s4].getD k 0 : Nat) : Int)) w := by
 have hk5 : k = 0 ∨ k = 1 ∨ k = 2 ∨ k = 3 ∨ k = 4 := by omega
 rcases hk5 with rfl | rfl | rfl | rfl | rfl <;> (show _ = _; kernel_rfl)
theorem ovf_le {l : List Nat} (h : ∀ j, l.getD j 0 ≤ 2251799813685266) : ∀ k, ovf l k ≤ 19
 | 0 => by simp [ovf]
 | k + 1 => by have h1 := h k; have h2 := ovf_le h k; unfold ovf; omega
theorem cyf_le {l : List Nat} {c : Nat} (hc : c ≤ 1) (h : ∀ j, l.getD j 0 ≤ 2251799813685266) : ∀ k, cyf l c k ≤ 19
 | 0 => by simp [cyf]; omega
 | k + 1 => by have h1 := h k; have h2 := cyf_le hc h k; unfold cyf; omega
theorem getD5 {s0 s1 s2 s3 s4 : Nat} (l0 : s0 ≤ 2251799813685266) (l1 : s1 ≤ 2251799813685248) (l2 : s2 ≤ 2251799813685248) (l3 : s3 ≤ 2251799813685248) (l4 : s4 ≤ 2251799813685248) : ∀ j, [s0, s1, s2, s3, s4].getD j 0 ≤ 2251799813685266
 | 0 => by simp; omega
 | 1 => by simp; omega
 | 2 => by simp; omega
 | 3 => by simp; omega
 | 4 => by simp; omega
 | j + 5 => by simp
theorem least36' (x0 x1 x2 x3 x4 s0 s1 s2 s3 s4 : Nat) (w : World) (h0 : x0 < 4503599627370496) (h1 : x1 < 4503599627370496) (h2 : x2 < 4503599627370496) (h3 : x3 < 4503599627370496) (h4 : x4 < 4503599627370496)
  (hs : Hid (carE x0 x1 x2 x3 x4 = ⟨s0, s1, s2, s3, s4⟩)) (l0 : s0 ≤ 2251799813685266) (l1 : s1 ≤ 2251799813685248) (l2 : s2 ≤ 2251799813685248) (l3 : s3 ≤ 2251799813685248) (l4 : s4 ≤ 2251799813685248) (l : List Nat) (HL : Hid (l = [s0, s1, s2, s3, s4])) :
  Calls Tryz.prog 93 #[.agg #[.int .u64 (x0 : Int), .int .u64 (x1 : Int), .int .u64 (x2 : Int), .int .u64 (x3 : Int), .int .u64 (x4 : Int)]] w fun e w' =>
   e = .returned (.agg (ints .u64 (lsf l (ovf l 5) 5))) ∧ Below w.heap.size w w' := by
 have hc := fun w1 => carried39 x0 x1 x2 x3 x4 w1 (by omega) (by omega) (by omega) (by omega) (by omega)
 rw [hs.out] at hc
 simp only [elc] at hc
 go_enter Tryz.func93, Tryz.ntmps93
 go_wp2_with fail
 refine (hc _).mono ?_
 rintro e w1 ⟨rfl, hb1⟩
 have hb : Below w.heap.size w w1 := (below2 _ _ _).trans (hb1.mono (by simp; omega))
 have hz : w1.heap[w.heap.size + 1]? = some (.cells z5 58 (0, 0)) := block_below hb1 (by simp) (heap_alloc2_new _ _ _)
 clear hb1
 go_wp2_with fail
 have hlb := getD5 l0 l1 l2 l3 l4
 have hix := fun k h w => idx24 s0 s1 s2 s3 s4 k h w
 have hll : Hid (l.length = 5) := by show l.length = 5; rw [HL.out]; rfl
 have HC : Hid (ovf l 5 ≤ 1) := by show _ ≤ _; rw [HL.out]; rcases ovf5 s0 s1 s2 s3 s4 l0 l1 l2 l3 l4 with ⟨h, _⟩ | ⟨h, _⟩ <;> omega
 rw [← HL.out] at hlb hix
 clear hs hc
 go_loop [4, 28] (fun v i => ∃ k : Nat, k ≤ 5 ∧ i = .int .i64 k ∧ v = .int .u64 (ovf l k : Nat)) (fun _ i => 5 - (intOf i).toNat)
 case atStart => exact ⟨0, by omega, rfl, rfl⟩
 case round =>
  obtain ⟨k, hk, rfl, rfl⟩ := hrel
  by_cases hlt : k < 5
  ·have hov := ovf_le hlb k
   have hx := hlb k
   have hi := hix k hlt
   have HS : Hid (ovf l (k + 1) = (l.getD k 0 + ovf l k) / 2251799813685248) := rfl
   obtain ⟨ov, ho⟩ : ∃ o, o = ovf l k := ⟨_, rfl⟩
   obtain ⟨x, hxe⟩ : ∃ o, o = l.getD k 0 := ⟨_, rfl⟩
   rw [← ho] at HS hov ⊢
   rw [← hxe] at HS hi hx
   clear ho hxe hix hlb
   go_wp2
   go_round
   case rel => exact ⟨k + 1, by omega, by go_num, by rw [HS.out]; simp⟩
   case measure => simp [intOf]; omega
  ·obtain rfl : k = 5 := by omega
   obtain ⟨c, hcc⟩ : ∃ c, c = ovf l 5 := ⟨_, rfl⟩
   have hc1 : c ≤ 1 := by rw [hcc]; exact HC.out
   rw [← hcc]
   have HCC : Hid (c = ovf l 5) := hcc
   clear hcc HC
   go_wp2_with fail
   go_loopw [7, 40] (fun v i wr => ∃ k : Nat, k ≤ 5 ∧ i = .int .i64 k ∧ v = .int .u64 (cyf l c k : Nat) ∧ RelL w wr w1.heap.size (lsf l c k)) (fun _ i _ => 5 - (intOf i).toNat)
   case atStart =>
    refine ⟨0, by omega, rfl, by simp [cyf], ?_⟩
    have hs1 := lt_of_heap hz
    refine ⟨(hb.alloc hb.size _), hs1, (heap_alloc_old _ _ hs1).trans hz, ?_⟩
    show _ = some (Obj.cells (ints .u64 l) 58 (0, 0))
    rw [HL.out]
    exact heap_alloc_new _ _
   case round =>
    obtain ⟨k, hk, rfl, rfl, hR⟩ := hrel
    by_cases hlt : k < 5
    ·have hcy := cyf_le hc1 hlb k
     have hx := hlb k
     have hi := hix k hlt
     have HS : Hid (cyf l c (k + 1) = (l.getD k 0 + cyf l c k) / 2251799813685248) := rfl
     have HR : Hid (RelL w (wr.setCell ⟨w1.heap.size, k, none⟩ (.int .u64 (((l.getD k 0 + cyf l c k) % 2251799813685248 : Nat) : Int))) w1.heap.size (lsf l c (k + 1))) := hR.set k _
     obtain ⟨v3, c3⟩ : ∃ v, wr.cell? ⟨w1.heap.size, k, none⟩ = some v := ⟨_, cell_ints hR.2.2.2 k (by rw [lsf_len, hll.out]; omega)⟩
     have f3 := free_ints hR.2.2.2 k
     obtain ⟨cy, ho⟩ : ∃ o, o = cyf l c k := ⟨_, rfl⟩
     obtain ⟨x, hxe⟩ : ∃ o, o = l.getD k 0 := ⟨_, rfl⟩
     rw [← ho] at HS HR hcy ⊢
     rw [← hxe] at HS HR hi hx
     have ha := and51 (x + cy) (by omega)
     simp only [Int.natCast_add] at ha
     clear ho hxe hix hlb hR hz hb
     go_wp2
     go_roundw
     case rel => exact ⟨k + 1, by omega, by go_num, by rw [HS.out]; simp, by simpa using HR.out⟩
     case measure => simp [intOf]; omega
    ·obtain rfl : k = 5 := by omega
     obtain ⟨rv, hrv⟩ : ∃ r, r = ints .u64 (lsf l c 5) := ⟨_, rfl⟩
     have hrl : rv.size = 5 := by rw [hrv, ints_size, lsf_len]; exact hll.out
     have hr1 : rv.all (·.oneCell') = true := by rw [hrv]; exact ints_one _ _
     obtain ⟨hB, hg, hz2, h5⟩ := hR
     rw [← hrv] at h5
     have HRV : Hid (rv = ints .u64 (lsf l c 5)) := hrv
     clear hrv hix hlb hz hb
     go_wp2_with (first
      | (refine wpList_load_row rfl 58 (.tmp 3) rfl _ rfl 58 rv (0, 0) _ h5 Tryz.underlying58 rfl (by rw [hrl]; exact info26) ?_)
      | (refine wpList_store_row rfl 58 (.tmp 2) (.tmp 56) rfl _ rv rfl rfl 58 _ hz2 (by rw [hrl]; exact info26) (by rw [hrl]; rfl) hr1 ?_))
     refine bodyPost_ret (v := .agg rv) ?_ rfl ⟨by rw [HRV.out, HCC.out], setRow_below hB (by omega) _⟩
     exact results_cell_row Tryz.results93 _ _ _ 58 rv (0, 0) _ rfl (setRow_heap _ _ _ _ _ _ hz2) Tryz.underlying58 rfl (by rw [hrl]; exact info26)
theorem least36 (a : E5) (w : World) (ha : a.wf) : Calls Tryz.prog 93 #[.agg (elc a)] w fun e w' => e = .returned (.agg (elc (leastE a))) ∧ Below w.heap.size w w' := by
 rw [elc_ints (leastE a), ← least_eq ha]
 have hw := ha
 unfold E5.wf at hw
 refine least36' a.a0 a.a1 a.a2 a.a3 a.a4 _ _ _ _ _ w ha.1 ha.2.1 ha.2.2.1 ha.2.2.2.1 ha.2.2.2.2 rfl ?_ ?_ ?_ ?_ ?_ _ rfl
 all_goals omega
end Go.Proofs.YtabgihjffjlfiaaGreatDoor
set_option linter.unusedVariables false
namespace Go.Proofs.YtabgihjffjlfiaaGreatDoor
theorem splitE_get (V i : Nat) (h : i < 5) : (splitE V).list.getD i 0 = V / 2 ^ (51 * i) % 2 ^ 51 := by
 have hk5 : i = 0 ∨ i = 1 ∨ i = 2 ∨ i = 3 ∨ i = 4 := by omega
 rcases hk5 with rfl | rfl | rfl | rfl | rfl <;> simp [splitE, E5.list]
theorem byte2 (U sh : Nat) (h : sh < 51) : (U % 2 ^ 51 / 2 ^ sh + (U / 2 ^ 51 % 2 ^ 51) * 2 ^ (51 - sh)) % 256 = U / 2 ^ sh % 256 := by
 have e : 2 ^ sh * 2 ^ (51 - sh) = 2 ^ 51 := by rw [← Nat.pow_add]; congr 1; omega
 have hp : 0 < 2 ^ sh := Nat.pow_pos (by decide)
 obtain ⟨q, hq⟩ : ∃ q, q = 2 ^ (51 - sh) := ⟨_, rfl⟩
 obtain ⟨r, hr⟩ : ∃ r, r = 2 ^ sh := ⟨_, rfl⟩
 rw [← hq, ← hr] at e
 rw [← hr] at hp
 rw [← hq, ← hr]
 have h1 : U / r = U % 2 ^ 51 / r + q * (U / 2 ^ 51) := by
  have h2 : U = U % 2 ^ 51 + r * (q * (U / 2 ^ 51)) := by
   rw [← Nat.mul_assoc, e]; exact (Nat.mod_add_div U (2 ^ 51)).symm
  rw [← Nat.add_mul_div_left _ _ hp, ← h2]
 obtain ⟨t, ht⟩ : ∃ t, t = U / 2 ^ 51 := ⟨_, rfl⟩
 rw [h1, ← ht]
 have h3 : q * t = t % 2 ^ 51 * q + 256 * (2 ^ 43 * q * (t / 2 ^ 51)) := by
  have h4 : ∀ m d : Nat, q * (m + 2 ^ 51 * d) = m * q + 256 * (2 ^ 43 * q * d) := by intro m d; grind
  have h5 := h4 (t % 2 ^ 51) (t / 2 ^ 51)
  rwa [Nat.mod_add_div t (2 ^ 51)] at h5
 rw [h3, ← Nat.add_assoc, Nat.add_mul_mod_self_left]
theorem or_add (X Y k : Nat) (hX : X < 2 ^ k) (hY : Y % 2 ^ k = 0) : X ||| Y = X + Y := by
 have h1 : Y = 2 ^ k * (Y / 2 ^ k) := by have := Nat.div_add_mod Y (2 ^ k); omega
 rw [Nat.or_comm, h1, ← Nat.two_pow_add_eq_or_of_lt hX, Nat.add_comm]
theorem pow256 (k : Nat) : 256 ^ k = 2 ^ (8 * k) := by rw [Nat.pow_mul]
theorem byte_two (V k a sh x y : Nat) (hE : 8 * k = 51 * a + sh) (hs : sh < 51) (hx : x = V / 2 ^ (51 * a) % 2 ^ 51) (hy : y = V / 2 ^ (51 * (a + 1)) % 2 ^ 51) :
  bits BinOp.or IntKind.u64 (↑x / 2 ^ sh) (IntKind.u64.wrap (↑y * 2 ^ (51 - sh))) % 256 = ((V / 256 ^ k % 256 : Nat) : Int) := by
 have h1 : ((x : Int) / 2 ^ sh) = ((x / 2 ^ sh : Nat) : Int) := by simp
 have h2 : IntKind.u64.wrap ((y : Int) * 2 ^ (51 - sh)) = ((y * 2 ^ (51 - sh) % 2 ^ 64 : Nat) : Int) := by rw [wrapm]; simp
 have hxl : x < 2 ^ 51 := by rw [hx]; exact Nat.mod_lt _ (by decide)
 have hX : x / 2 ^ sh < 2 ^ (51 - sh) := by
  rw [Nat.div_lt_iff_lt_mul (Nat.pow_pos (by decide)), ← Nat.pow_add, show 51 - sh + sh = 51 by omega]; exact hxl
 have hxx : x / 2 ^ sh < 18446744073709551616 := Nat.lt_of_le_of_lt (Nat.div_le_self _ _) (by omega)
 have hY : y * 2 ^ (51 - sh) % 2 ^ 64 % 2 ^ (51 - sh) = 0 := by
  rw [Nat.mod_mod_of_dvd _ (Nat.pow_dvd_pow 2 (by omega)), Nat.mul_mod_left]
 have hYl : y * 2 ^ (51 - sh) % 2 ^ 64 < 2 ^ 64 := Nat.mod_lt _ (by decide)
 rw [h1, h2, bits_or_u64_nat _ _ hxx (by omega), or_add _ _ _ hX hY]
 have h3 : (x / 2 ^ sh + y * 2 ^ (51 - sh) % 2 ^ 64) % 256 = (x / 2 ^ sh + y * 2 ^ (51 - sh)) % 256 := by omega
 have h4 : V / 256 ^ k % 256 = V / 2 ^ (51 * a) / 2 ^ sh % 256 := by rw [pow256, hE, Nat.pow_add, ← Nat.div_div_eq_div_mul]
 have h5 : y = V / 2 ^ (51 * a) / 2 ^ 51 % 2 ^ 51 := by rw [hy, Nat.div_div_eq_div_mul, ← Nat.pow_add, Nat.mul_add]
 rw [h4, ← byte2 _ sh hs, ← h5, ← hx, ← h3]
 simp
theorem byte_one (V k sh x : Nat) (hV : V < 2 ^ 255) (hE : 8 * k = 51 * 4 + sh) (hx : x = V / 2 ^ (51 * 4) % 2 ^ 51) : (x : Int) / 2 ^ sh % 256 = ((V / 256 ^ k % 256 : Nat) : Int) := by
 have h1 : x = V / 2 ^ (51 * 4) := by rw [hx, Nat.mod_eq_of_lt]; omega
 rw [pow256, hE, Nat.pow_add, ← Nat.div_div_eq_div_mul, ← h1]
 simp
end Go.Proofs.YtabgihjffjlfiaaGreatDoor
set_option linter.unusedVariables false
namespace Go.Proofs.YtabgihjffjlfiaaGreatDoor
open Go.RowKit Go.Sort Go.BigFrame
set_option maxRecDepth 100000
set_option maxHeartbeats 4000000
theorem made_u8 (n : Nat) : madeCells #[.int .u8 0] n = ints .u8 (List.replicate n 0) := by
 apply Array.ext'
 rw [madeCells]
 apply List.ext_getElem
 ·simp [ints]
 ·intro i h1 h2
  simp [ints, Nat.mod_one]
theorem heap2_0 (w : World) (a b : Obj) : ((w.alloc a).alloc b).heap[w.heap.size]? = some a := by
 rw [heap_alloc_old _ _ (by rw [size_alloc]; omega), heap_alloc_new]
def RelB (w wr : World) (gs gb V k : Nat) : Prop :=
 Below w.heap.size w wr ∧ w.heap.size ≤ gb ∧ gs ≠ gb ∧ wr.heap[gs]? = some (.cells (ints .u64 (splitE V).list) 58 (0, 0)) ∧ wr.heap[gb]? = some (.cells (ints .u8 (digs 32 (V % 256 ^ k))) 5 (0, 0))
theorem RelB.set {w wr : World} {gs gb V k : Nat} (h : RelB w wr gs gb V k) (hk : k < 32) : RelB w (wr.setCell ⟨gb, k, none⟩ (.int .u8 ((V / 256 ^ k % 256 : Nat) : Int))) gs gb V (k + 1) := by
 refine ⟨h.1.setCell h.2.1 _, h.2.1, h.2.2.1, (heap_setCell_other _ _ _ _ h.2.2.1).trans h.2.2.2.1, ?_⟩
 have := set_ints h.2.2.2.2 k (V / 256 ^ k % 256)
 rw [this, digs_set (Nat.mod_lt _ (pos256 k)) (Nat.mod_lt _ (by decide)) hk, Nat.pow_succ, Nat.mod_mul]
theorem splitE_len (V : Nat) : (splitE V).list.length = 5 := rfl
theorem make32 (w1 : World) : (Instr.makeSlice 22 (.int .i64 32) (.int .i64 32)).run Tryz.prog w1 = .ok (.slice (some ⟨w1.heap.size, 0, none⟩) 32 32) (w1.alloc (.cells (ints .u8 (digs 32 0)) 5)) := by
 have := run_make_row' (P := Tryz.prog) 22 5 (.int .u8 0) 1 Tryz.underlying22 (by kernel_rfl) rfl .i64 .i64 32 (by omega) (by omega) w1
 rw [made_u8, ← digs_zero] at this
 exact this
theorem bytes15' (x0 x1 x2 x3 x4 s0 s1 s2 s3 s4 V : Nat) (w : World) (hle : ∀ w1, Calls Tryz.prog 93 #[.agg #[.int .u64 (x0 : Int), .int .u64 (x1 : Int), .int .u64 (x2 : Int), .int .u64 (x3 : Int), .int .u64 (x4 : Int)]] w1 fun e w' => e = .returned (.agg #[.int .u64 (s0 : Int), .int .u64 (s1 : Int), .int .u64 (s2 : Int), .int .u64 (s3 : Int), .int .u64 (s4 : Int)]) ∧ Below w1.heap.size w1 w') (hs : Hid (splitE V = ⟨s0, s1, s2, s3, s4⟩)) (hV : Hid (V < pp)) :
  Calls Tryz.prog 78 #[.agg #[.int .u64 (x0 : Int), .int .u64 (x1 : Int), .int .u64 (x2 : Int), .int .u64 (x3 : Int), .int .u64 (x4 : Int)]] w fun e w' => ∃ g, e = .returned (.slice (some ⟨g, 0, none⟩) 32 32) ∧ w.heap.size ≤ g ∧ Below w.heap.size w w' ∧ w'.heap[g]? = some (.cells (ints .u8 (digs 32 V)) 5 (0, 0)) := by
 have hmk := make32
 go_enter Tryz.func78, Tryz.ntmps78
 go_wp2_with fail
 refine (hle _).mono ?_
 rintro e w1 ⟨rfl, hb1⟩
 have hb : Below w.heap.size w w1 := (below1 _ _).trans (hb1.mono (by simp))
 clear hb1 hle
 go_wp2_with fail
 have hR0 : RelB w ((w1.alloc (.cells #[.int .u64 (s0 : Int), .int .u64 (s1 : Int), .int .u64 (s2 : Int), .int .u64 (s3 : Int), .int .u64 (s4 : Int)] 58)).alloc (.cells (ints .u8 (digs 32 0)) 5)) w1.heap.size (w1.heap.size + 1) V 0 := by
  refine ⟨(hb.alloc hb.size _).alloc (by rw [size_alloc]; have := hb.size; omega) _, by have := hb.size; omega, by omega, ?_, ?_⟩
  ·rw [hs.out]
   exact heap2_0 _ _ _
  ·rw [Nat.pow_zero, Nat.mod_one]
   exact heap_alloc2_new _ _ _
 have hgs : w.heap.size ≤ w1.heap.size := hb.size
 clear hb hmk
 go_loopw [14] (fun i wr => ∃ k : Nat, k ≤ 32 ∧ i = .int .i64 k ∧ RelB w wr w1.heap.size (w1.heap.size + 1) V k) (fun i _ => 32 - (intOf i).toNat)
 case atStart => exact ⟨0, by omega, rfl, hR0⟩
 case round =>
  obtain ⟨k, hk, rfl, hR⟩ := hrel
  clear hR0
  by_cases hlt : k < 32
  ·obtain ⟨at', hat⟩ : ∃ t, t = 8 * k / 51 := ⟨_, rfl⟩
   obtain ⟨sh, hsh⟩ : ∃ t, t = 8 * k % 51 := ⟨_, rfl⟩
   have iat : 8 * (k : Int) / 51 = (at' : Int) := by omega
   have ish : 8 * (k : Int) % 51 = (sh : Int) := by omega
   have hat5 : at' < 5 := by omega
   have hsh5 : sh < 51 := by omega
   have HE : Hid (8 * k = 51 * at' + sh) := by show _ = _; omega
   obtain ⟨v3, c3⟩ : ∃ v, wr.cell? ⟨w1.heap.size + 1, k, none⟩ = some v := ⟨_, cell_ints hR.2.2.2.2 k (by rw [digs_len]; omega)⟩
   have f3 := free_ints hR.2.2.2.2 k
   have c1 := cell_ints hR.2.2.2.1 at' (by rw [splitE_len]; omega)
   obtain ⟨x, hx⟩ : ∃ t, t = (splitE V).list.getD at' 0 := ⟨_, rfl⟩
   rw [← hx] at c1
   have HX : Hid (x = (splitE V).list.getD at' 0) := hx
   clear hat hsh hx
   by_cases h4 : at' + 1 < 5
   ·have c2 := cell_ints hR.2.2.2.1 (at' + 1) (by rw [splitE_len]; omega)
    obtain ⟨y, hy⟩ : ∃ t, t = (splitE V).list.getD (at' + 1) 0 := ⟨_, rfl⟩
    rw [← hy] at c2
    have HY : Hid (y = (splitE V).list.getD (at' + 1) 0) := hy
    have HN : Hid (RelB w (wr.setCell ⟨w1.heap.size + 1, k, none⟩ (.int .u8 (bits BinOp.or IntKind.u64 (↑x / 2 ^ sh) (IntKind.u64.wrap (↑y * 2 ^ (51 - sh))) % 256))) w1.heap.size (w1.heap.size + 1) V (k + 1)) := by
     show RelB _ _ _ _ _ _
     rw [byte_two V k at' sh x y HE.out hsh5 (by rw [HX.out, splitE_get _ _ hat5]) (by rw [HY.out, splitE_get _ _ h4])]
     exact hR.set hlt
    have hxl : x < 2251799813685248 := by rw [HX.out, splitE_get _ _ hat5]; exact Nat.mod_lt _ (by decide)
    have hyl : y < 2251799813685248 := by rw [HY.out, splitE_get _ _ h4]; exact Nat.mod_lt _ (by decide)
    clear hy hR
    go_wp2
    go_roundw
    case rel => exact ⟨k + 1, by omega, by go_num, HN.out⟩
    case measure => simp [intOf]; omega
   ·obtain rfl : at' = 4 := by omega
    have HN : Hid (RelB w (wr.setCell ⟨w1.heap.size + 1, k, none⟩ (.int .u8 (↑x / 2 ^ sh % 256))) w1.heap.size (w1.heap.size + 1) V (k + 1)) := by
     show RelB _ _ _ _ _ _
     rw [byte_one V k sh x (Nat.lt_trans hV.out pp_lt) HE.out (by rw [HX.out, splitE_get _ _ hat5])]
     exact hR.set hlt
    have hxl : x < 2251799813685248 := by rw [HX.out, splitE_get _ _ hat5]; exact Nat.mod_lt _ (by decide)
    clear hR
    go_wp2
    go_roundw
    case rel => exact ⟨k + 1, by omega, by go_num, HN.out⟩
    case measure => simp [intOf]; omega
  ·obtain rfl : k = 32 := by omega
   obtain ⟨hB, hg, _, _, h5⟩ := hR
   have HV : Hid (V % 256 ^ 32 = V) := Nat.mod_eq_of_lt (Nat.lt_trans hV.out (by decide))
   rw [HV.out] at h5
   go_wp2
   go_ret
   exact ⟨w1.heap.size + 1, rfl, hg, hB, h5⟩
theorem bytes15 (a : E5) (w : World) (ha : a.wf) : Calls Tryz.prog 78 #[.agg (elc a)] w fun e w' => ∃ g, e = .returned (.slice (some ⟨g, 0, none⟩) 32 32) ∧ w.heap.size ≤ g ∧ Below w.heap.size w w' ∧ w'.heap[g]? = some (.cells (ints .u8 (digs 32 (a.val % pp))) 5 (0, 0)) :=
 bytes15' a.a0 a.a1 a.a2 a.a3 a.a4 _ _ _ _ _ (a.val % pp) w (fun w1 => least36 a w1 ha) rfl (Nat.mod_lt _ pp_pos)
end Go.Proofs.YtabgihjffjlfiaaGreatDoor
