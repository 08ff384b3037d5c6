/-
  Plain mathematics of digits of 256 and of limbs of 51 bits: nothing of the program stands here. Rows of words and of bytes in memory: small laws, over any world. The moves of a region that draws its order, one operation at a time (over the library's own law on orders). A region that draws its order: a head of operations that are quiet in a class of worlds, and a tail whose order is forced. A region that draws its order, by what each operation yields: one step for each operation, whatever the order; then a tail of forced order. What is of no pack: bytes as strings, slices cut, rows that the call owns, appends, contracts of one form. Values of JSON as trees, and how they lie in memory. Values of JSON: single operations, comparisons. The reference of JSON: letters, Digits, Quote. Ids: domains, paths, selectors and their sets, as functions of lists of bytes.
-/
import Derived.WalkKit
import Derived.Lib.QuietBelow
import Derived.StillTail
import Derived.StillTactics
import Derived.OrdersHeld
import Derived.BigRegion
import Derived.Deep.MidRow
import Derived.Test.YtbidoiipebokoaaDoorProg
import Derived.Lib.AppendZerosOnto
import Derived.Lib.Strings
import Derived.Laws.BytesString
import Derived.Laws.CopyOwn
import Derived.Laws.AppendOwn
import Derived.Laws.Externs
import Derived.Deep.OwnRows
import Derived.WalkSmall
import Derived.BigQuiet
import Derived.ChangeArms
import Derived.OpenShut
set_option linter.unusedVariables false
namespace Go.Proofs.YtbidoiipebokoaaDoor

/-- 2^255 - 19. -/
abbrev pp : Nat := 57896044618658097711785492504343953926634992332820282019728792003956564819949

/- Digits of 256. -/
def valD : List Nat → Nat
  | [] => 0
  | d :: l => d + 256 * valD l
def digs : Nat → Nat → List Nat
  | 0, _ => []
  | n + 1, v => v % 256 :: digs n (v / 256)
def Dig (l : List Nat) : Prop := ∀ j, l.getD j 0 < 256
theorem digs_len : ∀ n v, (digs n v).length = n
  | 0, _ => rfl
  | n + 1, v => by simp [digs, digs_len n]
theorem digs_get : ∀ n v j, j < n → (digs n v).getD j 0 = v / 256 ^ j % 256
  | 0, _, _, h => by omega
  | n + 1, v, 0, _ => by simp [digs]
  | n + 1, v, j + 1, h => by
    have := digs_get n (v / 256) j (by omega)
    simp only [digs, List.getD_cons_succ, this]
    rw [Nat.div_div_eq_div_mul, Nat.pow_succ, Nat.mul_comm]
theorem digs_dig (n v : Nat) : Dig (digs n v) := fun j => by
  by_cases h : j < n
  · rw [digs_get n v j h]; omega
  · rw [List.getD_eq_getElem?_getD, List.getElem?_eq_none (by rw [digs_len]; omega)]; decide
theorem Dig.tail {d : Nat} {l : List Nat} (h : Dig (d :: l)) : Dig l := fun j => by have := h (j + 1); simpa using this
theorem Dig.head {d : Nat} {l : List Nat} (h : Dig (d :: l)) : d < 256 := by have := h 0; simpa using this
theorem Dig.take {l : List Nat} (h : Dig l) (n : Nat) : Dig (l.take n) := fun j => by
  by_cases hj : j < n
  · rw [show (l.take n).getD j 0 = l.getD j 0 by simp [hj]]; exact h j
  · rw [List.getD_eq_getElem?_getD, List.getElem?_eq_none (by simp; omega)]; decide
theorem Dig.drop {l : List Nat} (h : Dig l) (n : Nat) : Dig (l.drop n) := fun j => by
  have := h (n + j)
  simpa using this
theorem Dig.set {l : List Nat} (h : Dig l) {k v : Nat} (hv : v < 256) : Dig (l.set k v) := fun j => by
  have hj := h j
  simp only [List.getD_eq_getElem?_getD, List.getElem?_set] at *
  split
  · split <;> simp
    · exact hv
  · exact hj
theorem Dig.app {a b : List Nat} (ha : Dig a) (hb : Dig b) : Dig (a ++ b) := fun j => by
  by_cases h : j < a.length
  · have := ha j
    rw [List.getD_eq_getElem?_getD, List.getElem?_append_left h, ← List.getD_eq_getElem?_getD]; exact this
  · have := hb (j - a.length)
    rw [List.getD_eq_getElem?_getD, List.getElem?_append_right (by omega), ← List.getD_eq_getElem?_getD]; exact this
theorem valD_lt : ∀ {l : List Nat}, Dig l → valD l < 256 ^ l.length
  | [], _ => by decide
  | d :: l, h => by
    have h1 := h.head
    have h2 := valD_lt h.tail
    simp only [valD, List.length_cons, Nat.pow_succ]
    omega
theorem valD_digs : ∀ n v, valD (digs n v) = v % 256 ^ n
  | 0, v => by simp [digs, valD, Nat.mod_one]
  | n + 1, v => by
    rw [digs, valD, valD_digs n, Nat.pow_succ, Nat.mul_comm (256 ^ n), Nat.mod_mul]
theorem valD_digs_lt {n v : Nat} (h : v < 256 ^ n) : valD (digs n v) = v := by rw [valD_digs, Nat.mod_eq_of_lt h]
theorem digs_valD : ∀ {l : List Nat}, Dig l → digs l.length (valD l) = l
  | [], _ => rfl
  | d :: l, h => by
    have h1 := h.head
    rw [List.length_cons, digs, valD, show (d + 256 * valD l) % 256 = d by omega, show (d + 256 * valD l) / 256 = valD l by omega, digs_valD h.tail]
theorem valD_append : ∀ (a b : List Nat), valD (a ++ b) = valD a + 256 ^ a.length * valD b
  | [], b => by simp [valD]
  | d :: a, b => by
    simp only [List.cons_append, valD, List.length_cons, Nat.pow_succ, valD_append a b]
    rw [Nat.mul_comm (256 ^ a.length) 256, Nat.mul_assoc]
    omega
theorem digs_app (n m v : Nat) : digs n v ++ digs m (v / 256 ^ n) = digs (n + m) v := by
  induction n generalizing v with
  | zero => simp [digs]
  | succ n ih =>
    rw [digs, List.cons_append, show n + 1 + m = (n + m) + 1 by omega, digs, ← ih (v / 256), Nat.div_div_eq_div_mul, Nat.pow_succ, Nat.mul_comm 256]
theorem valD_set : ∀ (l : List Nat) (k x : Nat), k < l.length → valD (l.set k x) + 256 ^ k * l.getD k 0 = valD l + 256 ^ k * x
  | [], _, _, h => by simp at h
  | d :: l, 0, x, _ => by simp [valD]; omega
  | d :: l, k + 1, x, h => by
    have := valD_set l k x (by simpa using h)
    simp only [List.set_cons_succ, valD, List.getD_cons_succ, Nat.pow_succ]
    rw [Nat.mul_comm (256 ^ k) 256, Nat.mul_assoc, Nat.mul_assoc]
    omega
theorem take_succ' (bs : List Nat) (k : Nat) (h : k < bs.length) : bs.take (k + 1) = bs.take k ++ [bs.getD k 0] := by
  rw [List.take_succ_eq_append_getElem h]; simp [h]
theorem valD_take_succ (l : List Nat) (k : Nat) : valD (l.take (k + 1)) = valD (l.take k) + 256 ^ k * l.getD k 0 := by
  by_cases h : k < l.length
  · rw [take_succ' l k h, valD_append, List.length_take, show min k l.length = k by omega]; simp [valD]
  · rw [List.take_of_length_le (by omega), List.take_of_length_le (by omega), List.getD_eq_getElem?_getD, List.getElem?_eq_none (by omega)]; simp
theorem valD_take_lt {l : List Nat} (h : Dig l) (k : Nat) : valD (l.take k) < 256 ^ k := by
  have h1 := valD_lt (h.take k)
  refine Nat.lt_of_lt_of_le h1 (Nat.pow_le_pow_right (by decide) ?_)
  rw [List.length_take]; omega
theorem valD_take_le (l : List Nat) : ∀ k, valD (l.take k) ≤ valD l := fun k => by
  have := valD_append (l.take k) (l.drop k)
  rw [List.take_append_drop] at this
  omega
theorem valD_rep : ∀ n, valD (List.replicate n 0) = 0
  | 0 => rfl
  | n + 1 => by simp [List.replicate_succ, valD, valD_rep n]
theorem digs_zero (n : Nat) : digs n 0 = List.replicate n 0 := by
  induction n with
  | zero => rfl
  | succ n ih => simp [digs, ih, List.replicate_succ]
theorem pos256 (k : Nat) : 0 < 256 ^ k := Nat.pow_pos (by decide)
/-- A digit is set above all that there is. -/
theorem digs_set {N Y k d : Nat} (hY : Y < 256 ^ k) (hd : d < 256) (hk : k < N) : (digs N Y).set k d = digs N (Y + 256 ^ k * d) := by
  have hq := pos256 k
  have hlt : Y + 256 ^ k * d < 256 ^ N := by
    have h1 : 256 ^ (k + 1) ≤ 256 ^ N := Nat.pow_le_pow_right (by decide) hk
    rw [Nat.pow_succ] at h1
    have h2 : 256 ^ k * d ≤ 256 ^ k * 255 := Nat.mul_le_mul_left _ (by omega)
    omega
  have hYN : Y < 256 ^ N := Nat.lt_of_lt_of_le hY (Nat.pow_le_pow_right (by decide) (by omega))
  have h0 : (digs N Y).getD k 0 = 0 := by rw [digs_get N Y k hk, Nat.div_eq_of_lt hY]
  have hs := valD_set (digs N Y) k d (by rw [digs_len]; exact hk)
  rw [h0, valD_digs_lt hYN] at hs
  have := digs_valD ((digs_dig N Y).set (k := k) hd)
  rw [List.length_set, digs_len] at this
  rw [← this, show valD ((digs N Y).set k d) = Y + 256 ^ k * d by omega]
/-- One digit more of a sum. -/
theorem mod_step (X q d : Nat) : (X + q * d) % (q * 256) = X % q + q * ((X / q + d) % 256) := by
  by_cases hq : 0 < q
  · have h1 : X + q * d = X % q + q * (X / q + d) := by
      have := Nat.mod_add_div X q
      rw [Nat.mul_add]; omega
    rw [h1, Nat.mod_mul, Nat.add_mul_mod_self_left, Nat.mod_mod, Nat.add_mul_div_left _ _ hq, Nat.div_eq_of_lt (Nat.mod_lt _ hq), Nat.zero_add]
  · have : q = 0 := by omega
    subst this; simp
theorem div_step (X q d : Nat) (hq : 0 < q) : (X + q * d) / (q * 256) = (X / q + d) / 256 := by
  rw [← Nat.div_div_eq_div_mul, Nat.add_mul_div_left _ _ hq]
theorem digs_step {N X k d : Nat} (hk : k < N) : (digs N (X % 256 ^ k)).set k ((X / 256 ^ k + d) % 256) = digs N ((X + 256 ^ k * d) % 256 ^ (k + 1)) := by
  rw [Nat.pow_succ, mod_step, digs_set (Nat.mod_lt _ (pos256 k)) (Nat.mod_lt _ (by decide)) hk]
theorem digs_mod (n v : Nat) : digs n (v % 256 ^ n) = digs n v := by
  rw [← valD_digs]
  have := digs_valD (digs_dig n v)
  rwa [digs_len] at this
theorem eq_of_val {a b : List Nat} (ha : Dig a) (hb : Dig b) (hl : a.length = b.length) (h : valD a = valD b) : a = b := by
  rw [← digs_valD ha, ← digs_valD hb, hl, h]
theorem digs_of {l : List Nat} (h : Dig l) {n v : Nat} (hl : l.length = n) (hv : valD l = v) : l = digs n v := by
  subst hl; subst hv; exact (digs_valD h).symm

/- Limbs of 51 bits. -/
structure E5 where
  a0 : Nat
  a1 : Nat
  a2 : Nat
  a3 : Nat
  a4 : Nat
def E5.val (e : E5) : Nat := e.a0 + 2251799813685248 * e.a1 + 5070602400912917605986812821504 * e.a2 + 11417981541647679048466287755595961091061972992 * e.a3 + 25711008708143844408671393477458601640355247900524685364822016 * e.a4
def E5.wf (e : E5) : Prop := e.a0 < 4503599627370496 ∧ e.a1 < 4503599627370496 ∧ e.a2 < 4503599627370496 ∧ e.a3 < 4503599627370496 ∧ e.a4 < 4503599627370496
def E5.list (e : E5) : List Nat := [e.a0, e.a1, e.a2, e.a3, e.a4]
def zeroE : E5 := ⟨0, 0, 0, 0, 0⟩
def carE (l0 l1 l2 l3 l4 : Nat) : E5 :=
  ⟨l0 % 2251799813685248 + 19 * (l4 / 2251799813685248), l1 % 2251799813685248 + l0 / 2251799813685248, l2 % 2251799813685248 + l1 / 2251799813685248, l3 % 2251799813685248 + l2 / 2251799813685248, l4 % 2251799813685248 + l3 / 2251799813685248⟩
theorem carE_val (l0 l1 l2 l3 l4 : Nat) : (carE l0 l1 l2 l3 l4).val + pp * (l4 / 2251799813685248) = (E5.mk l0 l1 l2 l3 l4).val := by
  unfold carE E5.val pp
  simp only
  omega
theorem carE_mod (l0 l1 l2 l3 l4 : Nat) : (carE l0 l1 l2 l3 l4).val % pp = (E5.mk l0 l1 l2 l3 l4).val % pp := by
  rw [← carE_val l0 l1 l2 l3 l4, Nat.add_mul_mod_self_left]
theorem carE_wf {l0 l1 l2 l3 l4 : Nat} (h0 : l0 < 18446744073709551616) (h1 : l1 < 18446744073709551616) (h2 : l2 < 18446744073709551616) (h3 : l3 < 18446744073709551616) (h4 : l4 < 18446744073709551616) : (carE l0 l1 l2 l3 l4).wf := by
  unfold carE E5.wf
  simp only
  omega
def splitE (V : Nat) : E5 := ⟨V % 2251799813685248, V / 2251799813685248 % 2251799813685248, V / 5070602400912917605986812821504 % 2251799813685248, V / 11417981541647679048466287755595961091061972992 % 2251799813685248, V / 25711008708143844408671393477458601640355247900524685364822016 % 2251799813685248⟩
theorem splitE_val (V : Nat) : (splitE V).val = V % 57896044618658097711785492504343953926634992332820282019728792003956564819968 := by
  unfold splitE E5.val
  simp only
  omega
theorem splitE_wf (V : Nat) : (splitE V).wf := by unfold splitE E5.wf; simp only; omega
/- the least form, as the program's two loops find it -/
def ovf (l : List Nat) : Nat → Nat
  | 0 => 19
  | k + 1 => (l.getD k 0 + ovf l k) / 2251799813685248
def cyf (l : List Nat) (c : Nat) : Nat → Nat
  | 0 => 19 * c
  | k + 1 => (l.getD k 0 + cyf l c k) / 2251799813685248
def lsf (l : List Nat) (c : Nat) : Nat → List Nat
  | 0 => l
  | k + 1 => (lsf l c k).set k ((l.getD k 0 + cyf l c k) % 2251799813685248)
theorem lsf_len (l : List Nat) (c : Nat) : ∀ k, (lsf l c k).length = l.length
  | 0 => rfl
  | k + 1 => by simp [lsf, lsf_len l c k]
def smallE (e : E5) : E5 := carE e.a0 e.a1 e.a2 e.a3 e.a4
theorem ovf5 (s0 s1 s2 s3 s4 : Nat) (h0 : s0 ≤ 2251799813685266) (h1 : s1 ≤ 2251799813685248) (h2 : s2 ≤ 2251799813685248) (h3 : s3 ≤ 2251799813685248) (h4 : s4 ≤ 2251799813685248) :
    (ovf [s0, s1, s2, s3, s4] 5 = 0 ∧ (E5.mk s0 s1 s2 s3 s4).val < pp) ∨ (ovf [s0, s1, s2, s3, s4] 5 = 1 ∧ pp ≤ (E5.mk s0 s1 s2 s3 s4).val) := by
  simp only [ovf, List.getD_cons_succ, List.getD_cons_zero, E5.val, pp]
  omega
theorem lsf5 (s0 s1 s2 s3 s4 : Nat) (h0 : s0 ≤ 2251799813685266) (h1 : s1 ≤ 2251799813685248) (h2 : s2 ≤ 2251799813685248) (h3 : s3 ≤ 2251799813685248) (h4 : s4 ≤ 2251799813685248) :
    lsf [s0, s1, s2, s3, s4] (ovf [s0, s1, s2, s3, s4] 5) 5 = (splitE ((E5.mk s0 s1 s2 s3 s4).val % pp)).list := by
  rcases ovf5 s0 s1 s2 s3 s4 h0 h1 h2 h3 h4 with ⟨h, hl⟩ | ⟨h, hl⟩
  · rw [h, Nat.mod_eq_of_lt hl]
    simp only [lsf, cyf, List.getD_cons_succ, List.getD_cons_zero, List.set_cons_succ, List.set_cons_zero, splitE, E5.list, E5.val, pp, List.cons.injEq, and_true] at *
    omega
  · have hm : (E5.mk s0 s1 s2 s3 s4).val % pp = (E5.mk s0 s1 s2 s3 s4).val - pp := by
      rw [Nat.mod_eq_sub_mod hl, Nat.mod_eq_of_lt]
      simp only [E5.val, pp] at *
      omega
    rw [h, hm]
    simp only [lsf, cyf, List.getD_cons_succ, List.getD_cons_zero, List.set_cons_succ, List.set_cons_zero, splitE, E5.list, E5.val, pp, List.cons.injEq, and_true] at *
    omega
def leastE (e : E5) : E5 := splitE (e.val % pp)
theorem least_eq {e : E5} (h : e.wf) : lsf (smallE e).list (ovf (smallE e).list 5) 5 = (leastE e).list := by
  obtain ⟨a0, a1, a2, a3, a4⟩ := e
  unfold E5.wf at h
  simp only at h
  have := lsf5 (a0 % 2251799813685248 + 19 * (a4 / 2251799813685248)) (a1 % 2251799813685248 + a0 / 2251799813685248) (a2 % 2251799813685248 + a1 / 2251799813685248) (a3 % 2251799813685248 + a2 / 2251799813685248) (a4 % 2251799813685248 + a3 / 2251799813685248) (by omega) (by omega) (by omega) (by omega) (by omega)
  show lsf (carE a0 a1 a2 a3 a4).list (ovf (carE a0 a1 a2 a3 a4).list 5) 5 = _
  unfold leastE
  rw [← carE_mod a0 a1 a2 a3 a4]
  exact this
theorem pp_lt : pp < 57896044618658097711785492504343953926634992332820282019728792003956564819968 := by decide
theorem pp_pos : 0 < pp := by decide
theorem leastE_val (e : E5) : (leastE e).val = e.val % pp := by
  unfold leastE
  rw [splitE_val]
  have := Nat.mod_lt e.val pp_pos
  have := pp_lt
  exact Nat.mod_eq_of_lt (by omega)
end Go.Proofs.YtbidoiipebokoaaDoor
namespace Go.Proofs.YtbidoiipebokoaaDoor
open Go.RowKit

def ints (k : IntKind) (l : List Nat) : Array Value := (l.map fun (x : Nat) => Value.int k (x : Int)).toArray
theorem ints_size (k : IntKind) (l : List Nat) : (ints k l).size = l.length := by simp [ints]
theorem ints_get (k : IntKind) (l : List Nat) (j : Nat) (h : j < l.length) : (ints k l)[j]? = some (.int k ((l.getD j 0 : Nat) : Int)) := by
  simp [ints, h]
theorem ints_set (k : IntKind) (l : List Nat) (j v : Nat) : (ints k l).setIfInBounds j (.int k (v : Int)) = ints k (l.set j v) := by
  simp [ints, List.map_set]
theorem cell_ints {w : World} {g t : Nat} {k : IntKind} {l : List Nat} (h : w.heap[g]? = some (.cells (ints k l) t (0, 0))) (j : Nat) (hj : j < l.length) :
    w.cell? ⟨g, j, none⟩ = some (.int k ((l.getD j 0 : Nat) : Int)) := by
  rw [cell_of_row w g j _ t _ h]; exact ints_get k l j hj
theorem free_ints {w : World} {g t : Nat} {cs : Array Value} (h : w.heap[g]? = some (.cells cs t (0, 0))) (j : Nat) : w.frozen? ⟨g, j, none⟩ = false :=
  frozen_of_row w g j _ t h
theorem set_ints {w : World} {g t : Nat} {k : IntKind} {l : List Nat} (h : w.heap[g]? = some (.cells (ints k l) t (0, 0))) (j v : Nat) :
    (w.setCell ⟨g, j, none⟩ (.int k (v : Int))).heap[g]? = some (.cells (ints k (l.set j v)) t (0, 0)) := by
  rw [heap_setCell_same w g j _ t _ h, ints_set]
/-- Bytes that lie in memory. -/
def BytesAt (w : World) (b off : Nat) (bs : List Nat) : Prop := ∀ i, i < bs.length → w.cell? ⟨b, off + i, none⟩ = some (.int .u8 ((bs.getD i 0 : Nat) : Int))
theorem BytesAt.below {w w' : World} {b off B : Nat} {bs : List Nat} (h : BytesAt w b off bs) (hb : Below B w w') (hlt : b < B) : BytesAt w' b off bs :=
  fun i hi => (hb.cell (p := ⟨b, off + i, none⟩) hlt).trans (h i hi)
theorem block_below {w w' : World} {B g : Nat} (hb : Below B w w') (hg : g < B) {o : Obj} (h : w.heap[g]? = some o) : w'.heap[g]? = some o := (hb.block g hg).trans h
theorem lt_of_heap {w : World} {g : Nat} {o : Obj} (h : w.heap[g]? = some o) : g < w.heap.size := by
  by_cases hlt : g < w.heap.size
  · exact hlt
  · rw [Array.getElem?_eq_none (by omega)] at h; cases h
theorem ret_int {k : IntKind} {a b : Int} (h : a = b) : Ending.returned (.int k a) = .returned (.int k b) := by rw [h]
theorem size_alloc (w : World) (o : Obj) : (w.alloc o).heap.size = w.heap.size + 1 := by simp
theorem below3 (w : World) (a b c : Obj) : Below w.heap.size w (((w.alloc a).alloc b).alloc c) :=
  (((Below.refl _ _).alloc (Nat.le_refl _) _).alloc (by rw [size_alloc]; omega) _).alloc (by rw [size_alloc, size_alloc]; omega) _
theorem heap3_0 (w : World) (a b c : Obj) : (((w.alloc a).alloc b).alloc c).heap[w.heap.size]? = some a := by
  rw [heap_alloc_old _ _ (by rw [size_alloc, size_alloc]; omega), heap_alloc_old _ _ (by rw [size_alloc]; omega), heap_alloc_new]
theorem heap3_1 (w : World) (a b c : Obj) : (((w.alloc a).alloc b).alloc c).heap[w.heap.size + 1]? = some b := by
  rw [heap_alloc_old _ _ (by rw [size_alloc, size_alloc]; omega)]; exact heap_alloc2_new w a b
theorem heap3_2 (w : World) (a b c : Obj) : (((w.alloc a).alloc b).alloc c).heap[w.heap.size + 1 + 1]? = some c := by
  have := heap_alloc2_new (w.alloc a) b c
  rw [size_alloc] at this; exact this
theorem below2 (w : World) (a b : Obj) : Below w.heap.size w ((w.alloc a).alloc b) :=
  ((Below.refl _ _).alloc (Nat.le_refl _) _).alloc (by rw [size_alloc]; omega) _
theorem below1 (w : World) (a : Obj) : Below w.heap.size w (w.alloc a) := (Below.refl _ _).alloc (Nat.le_refl _) _
theorem setRow_below {B : Nat} {a w : World} (h : Below B a w) {g : Nat} (hg : B ≤ g) (cs : Array Value) : Below B a (w.setRow g cs) :=
  ⟨h.os, h.tape, h.output, by rw [setRow_size]; exact h.size, fun k hk => (setRow_other w g k cs (by omega)).trans (h.block k hk)⟩
theorem ints_one (k : IntKind) (l : List Nat) : (ints k l).all (·.oneCell') = true := by
  rw [Array.all_eq_true_iff_forall_mem]
  intro v hv
  simp only [ints, List.mem_toArray, List.mem_map] at hv
  obtain ⟨x, _, rfl⟩ := hv
  rfl
theorem wpStill_run {P : Program} {ops : Array Oper} {w : World} {Q : Act → Prop} {o : Oper} {rest : List Oper} {a : Act} (v : Value) (hg : o.guard = none) (hr : (execOp a.eval o).run P w = .ok (.value v) w)
    (h : wpStill P ops w Q rest (a.put o.dst v)) : wpStill P ops w Q (o :: rest) a := by
  refine wpStill_step fun K hK => ?_
  have hw : Region.wanted o (yielded ops a.tmps) = true := by simp [Region.wanted, hg]
  rw [if_pos hw]
  unfold Oper.still
  rw [hr]
  exact ⟨rfl, hK _ h⟩
theorem wpStill_load_row {P : Program} {ops : Array Oper} {w : World} {Q : Act → Prop} {o : Oper} {rest : List Oper} {a : Act} (hg : o.guard = none) (ty : TypeId) (x : Operand) (ho : o.op = .load ty x)
    (g : Nat) (hx : a.eval x = .pointer (some ⟨g, 0, none⟩)) (t : TypeId) (cs : Array Value) (fr : Nat × Nat) (d : TypeDesc) (hgp : w.heap[g]? = some (.cells cs t fr))
    (hu : P.underlying ty = some d) (hd : (match d with | .struct _ | .array _ _ => true | _ => false) = true) (hi : (P.info? ty).map (·.size) = some cs.size)
    (h : wpStill P ops w Q rest (a.put o.dst (.agg cs))) : wpStill P ops w Q (o :: rest) a := by
  refine wpStill_run (.agg cs) hg ?_ h
  unfold execOp
  simp only [ho, hx, Instr.loadAt, Instr.sureAddr, Sem.run_bind, Sem.run_pure, Result.andThen_ok, run_loadVar_row w g t ty cs fr d hgp hu hd hi]
/-- A slice's address leads to these bytes, if there are any. -/
def View (w : World) (a : Option Addr) (bs : List Nat) : Prop := 0 < bs.length → ∃ b off, a = some ⟨b, off, none⟩ ∧ BytesAt w b off bs
theorem View.below {w w' : World} {a : Option Addr} {bs : List Nat} (h : View w a bs) (hb : Below w.heap.size w w') : View w' a bs := fun hp => by
  obtain ⟨b, off, ha, hc⟩ := h hp
  exact ⟨b, off, ha, hc.below hb (block_lt_of_cell (hc 0 hp))⟩
theorem bytes_row {w : World} {g t : Nat} {l : List Nat} (h : w.heap[g]? = some (.cells (ints .u8 l) t (0, 0))) : BytesAt w g 0 l := fun i hi => by
  rw [Nat.zero_add]; exact cell_ints h i hi
theorem ints_append (k : IntKind) (a b : List Nat) : (ints k a).toList ++ (ints k b).toList = (ints k (a ++ b)).toList := by simp [ints]
theorem ints_list (k : IntKind) (l : List Nat) : (ints k l).toList = l.map fun (x : Nat) => Value.int k (x : Int) := by simp [ints]
end Go.Proofs.YtbidoiipebokoaaDoor
namespace Go.Proofs.YtbidoiipebokoaaDoor
open Go.RowKit
variable {P : Program} {ops : Array Oper} {Q : Exit → Act → World → Prop} {S : World → Prop}
theorem wpOp_of_wp {i : Nat} {o : Oper} {K : Act → World → Prop} {a : Act} {w : World} (hi : ops[i]? = some o) (hg : o.guard = none) (h : o.wp P a w K Q) : wpOp P ops Q i K a w := by
  unfold wpOp
  simp only [hi]
  have hw : Region.wanted o (yielded ops a.tmps) = true := by simp [Region.wanted, hg]
  rw [if_pos hw]
  exact .inl h
theorem wp_call {o : Oper} {K : Act → World → Prop} {a : Act} {w : World} {f : FuncId} {args : Array Value} {R : Value → World → Prop} (hr : (execOp a.eval o).run P w = .ok (.enter f args) w)
    (hc : Calls P f args w fun e w' => ∃ v, e = .returned v ∧ R v w') (hk : ∀ v w', R v w' → K (a.put o.dst v) w') : o.wp P a w K Q := by
  unfold Oper.wp
  rw [hr]
  exact hc.mono fun e w' ⟨v, he, hR⟩ => by subst he; exact hk v w' hR
theorem yields_run {o : Oper} {v : Value} {a : Act} (hg : o.guard = none) (h : ∀ w, S w → (execOp a.eval o).run P w = .ok (.value v) w) : YieldsIf P ops S o v a :=
  .inl ⟨by simp [Region.wanted, hg], h⟩
theorem yields_move {o : Oper} {a : Act} (hg : o.guard = none) (x : Operand) (h : o.op = .move x) : YieldsIf P ops S o (a.eval x) a :=
  yields_run hg fun w _ => BigFrame.run_move x h w
theorem yields_load_row {o : Oper} {a : Act} (hg : o.guard = none) (ty : TypeId) (x : Operand) (ho : o.op = .load ty x)
    (g : Nat) (hx : a.eval x = .pointer (some ⟨g, 0, none⟩)) (t : TypeId) (cs : Array Value) (fr : Nat × Nat) (d : TypeDesc) (hgp : ∀ w, S w → w.heap[g]? = some (.cells cs t fr))
    (hu : P.underlying ty = some d) (hd : (match d with | .struct _ | .array _ _ => true | _ => false) = true) (hi : (P.info? ty).map (·.size) = some cs.size) : YieldsIf P ops S o (.agg cs) a :=
  yields_run hg fun w hS => by
    unfold execOp
    simp only [ho, hx, Instr.loadAt, Instr.sureAddr, Sem.run_bind, Sem.run_pure, Result.andThen_ok, run_loadVar_row w g t ty cs fr d (hgp w hS) hu hd hi]
theorem take_at {i : Nat} {v : Value} {fuel : Nat} {listed : Array Bool} {a : Act} {w : World} (dst : Option Tmp) (oi : Oper) (hi : ops[i]? = some oi) (hd : oi.dst = dst)
    (hs : Region.noSelect ops = true) (hf : Region.free .any ops listed i = true) (hr : (Region.ready .any ops listed).contains i = true)
    (hQ : ∀ c a w, Q (.panic c) (a.put oi.dst v) w → Q (.panic c) a w) (hy : YieldsIf P ops S oi v a) (hS : S w)
    (h : wpAnyH P .any ops Q S fuel (listed.setIfInBounds i true) (a.put dst v) w) : wpAnyH P .any ops Q S (fuel + 1) listed a w :=
  wpAnyH_take hi hs hf hr hQ hy hS (by rw [hd]; exact h)
theorem one_at {i : Nat} {fuel : Nat} {listed : Array Bool} {a : Act} {w : World} (hr : Region.ready .any ops listed = [i])
    (h : wpOp P ops Q i (fun a' w' => S w' ∧ wpAnyH P .any ops Q S fuel (listed.setIfInBounds i true) a' w') a w) : wpAnyH P .any ops Q S (fuel + 1) listed a w :=
  wpAnyH_all hr (by simp) fun j hj => by obtain rfl := List.mem_singleton.1 hj; exact h
theorem two_at {i j : Nat} {fuel : Nat} {listed : Array Bool} {a : Act} {w : World} (hr : Region.ready .any ops listed = [i, j])
    (h : wpOp P ops Q i (fun a' w' => S w' ∧ wpAnyH P .any ops Q S fuel (listed.setIfInBounds i true) a' w') a w)
    (h' : wpOp P ops Q j (fun a' w' => S w' ∧ wpAnyH P .any ops Q S fuel (listed.setIfInBounds j true) a' w') a w) : wpAnyH P .any ops Q S (fuel + 1) listed a w :=
  wpAnyH_all hr (by simp) fun k hk => by
    rcases List.mem_cons.1 hk with rfl | hk
    · exact h
    · obtain rfl := List.mem_singleton.1 hk; exact h'
theorem load_at {i : Nat} {o : Oper} {K : Act → World → Prop} {a : Act} {w : World} (dst : Option Tmp) (hi : ops[i]? = some o) (hg : o.guard = none) (hd : o.dst = dst) (ty : TypeId) (x : Operand) (ho : o.op = .load ty x)
    (g : Nat) (hx : a.eval x = .pointer (some ⟨g, 0, none⟩)) (t : TypeId) (cs : Array Value) (fr : Nat × Nat) (d : TypeDesc) (hgp : w.heap[g]? = some (.cells cs t fr))
    (hu : P.underlying ty = some d) (hdd : (match d with | .struct _ | .array _ _ => true | _ => false) = true) (hin : (P.info? ty).map (·.size) = some cs.size)
    (h : K (a.put dst (.agg cs)) w) : wpOp P ops Q i K a w :=
  wpOp_of_wp hi hg (wp_load_row ty x ho g hx t cs fr d hgp hu hdd hin (by rw [hd]; exact h))
theorem call_at {i : Nat} {o : Oper} {K : Act → World → Prop} {a : Act} {w : World} (dst : Option Tmp) (hi : ops[i]? = some o) (hg : o.guard = none) (hd : o.dst = dst) (f : FuncId) (args : Array Value) {R : Value → World → Prop}
    (hr : (execOp a.eval o).run P w = .ok (.enter f args) w) (hc : Calls P f args w fun e w' => ∃ v, e = .returned v ∧ R v w') (hk : ∀ v w', R v w' → K (a.put dst v) w') : wpOp P ops Q i K a w :=
  wpOp_of_wp hi hg (wp_call hr hc (by rw [hd]; exact hk))
theorem store_at {i : Nat} {o : Oper} {K : Act → World → Prop} {a : Act} {w : World} (hi : ops[i]? = some o) (hg : o.guard = none) (hd : o.dst = none) (ty : TypeId) (x y : Operand) (ho : o.op = .store ty x y)
    (g : Nat) (cells : Array Value) (hx : a.eval x = .pointer (some ⟨g, 0, none⟩)) (hy : a.eval y = .agg cells) (t : TypeId) (old : Array Value) (hgp : w.heap[g]? = some (.cells old t (0, 0))) (hin : (P.info? ty).map (·.size) = some cells.size)
    (hold : old.size = cells.size) (h1 : cells.all (·.oneCell') = true) (h : K a (w.setRow g cells)) : wpOp P ops Q i K a w :=
  wpOp_of_wp hi hg (wp_store_row ty x y ho g cells hx hy t old hgp hin hold h1 (by rw [hd]; exact h))
theorem run_at {i : Nat} {o : Oper} {K : Act → World → Prop} {a : Act} {w : World} (dst : Option Tmp) (v : Value) (hi : ops[i]? = some o) (hg : o.guard = none) (hd : o.dst = dst) (hr : (execOp a.eval o).run P w = .ok (.value v) w) (h : K (a.put dst v) w) : wpOp P ops Q i K a w := by
  refine wpOp_of_wp hi hg ?_
  unfold Oper.wp
  rw [hr]
  subst hd
  exact h
theorem run_convertO {ρ : Operand → Value} {s t : TypeId} {x : Operand} {w : World} {v : Value} {o : Oper} (hr : (convert s t (ρ x)).run P w = .ok v w) (ho : o.op = .convert s t x) : (execOp ρ o).run P w = .ok (.value v) w := by
  unfold execOp
  rw [ho]
  simp only [Sem.run_bind, hr, Result.andThen_ok, Sem.run_pure]
end Go.Proofs.YtbidoiipebokoaaDoor
set_option linter.unusedVariables false
namespace Go.Proofs.YtbidoiipebokoaaDoor
open Go.RowKit Go.Sort
section
variable {P : Program} {ops : Array Oper} {md : Region.Mode} {C : World → Prop}
/-- Whatever order is picked among the first n; then L. -/
def wpHQ (P : Program) (md : Region.Mode) (ops : Array Oper) (C : World → Prop) (n : Nat) (L : Array Bool → Act → Prop) : Nat → Array Bool → Act → Prop
  | 0, listed, a => L listed a
  | f + 1, listed, a => Region.ready md ops listed ≠ [] ∧ ∀ i ∈ Region.ready md ops listed, i < n ∧ qOp P ops C i (wpHQ P md ops C n L f (listed.setIfInBounds i true)) a
theorem any_of_HQ {n g : Nat} {L : Array Bool → Act → Prop} {Q' : Exit → Act → World → Prop} (hL : ∀ listed a w, C w → L listed a → wpAny P md ops Q' g listed a w) :
    ∀ (f : Nat) (listed : Array Bool) (a : Act) (w : World), C w → wpHQ P md ops C n L f listed a → wpAny P md ops Q' (f + g) listed a w
  | 0, _, _, _, hw, h => by rw [Nat.zero_add]; exact hL _ _ _ hw h
  | f + 1, _, _, _, hw, h => by
    rw [show f + 1 + g = (f + g) + 1 by omega]
    exact ⟨fun h0 => absurd h0 h.1, fun i hi => wpOp_of_qOp hw (fun a' w' hw' h' => any_of_HQ hL f _ a' w' hw' h') (h.2 i hi).2⟩
theorem HQ_first {n i : Nat} {oi : Oper} {v : Value} {L : Array Bool → Act → Prop} (hi : ops[i]? = some oi) (hsel : ∀ (j : Nat) (o : Oper) cs b, ops[j]? = some o → o.op ≠ .select cs b)
    (hs : Region.sinkB md ops n = true) (hc : Region.chainB md ops n = true) (hn : n < ops.size) (hin : i < n) (hdone : ∀ listed a, L listed a → ∀ j ∈ Region.ready md ops listed, n ≤ j) (f : Nat) :
    ∀ (listed : Array Bool) (a : Act), HeadInv md ops n listed →
      (∀ j oj, ops[j]? = some oj → j ≠ i → listed.getD j true = false → (∀ e ∈ oj.after, Region.binds md e = true → e.on ≠ i) → oi.apart ops oj = true) →
      i ∈ Region.ready md ops listed → YieldsIn P ops C oi v a → wpHQ P md ops C n L f (listed.setIfInBounds i true) (a.put oi.dst v) → wpHQ P md ops C n L (f + 1) listed a := by
  have small : ∀ {listed : Array Bool}, HeadInv md ops n listed → i ∈ Region.ready md ops listed → ∀ j ∈ Region.ready md ops listed, j < n := fun {listed} inv hr j hj =>
    Nat.lt_of_not_le fun h => tail_waits hs hc hn inv _ i rfl hin (mem_ready.1 hr).1 j h hj
  induction f with
  | zero =>
    intro listed a inv _ hr hy H
    refine ⟨fun h => absurd hr (by rw [h]; exact List.not_mem_nil), fun j hj => ⟨small inv hr j hj, ?_⟩⟩
    by_cases e : j = i
    · rw [e]; exact hy.qOp hi H
    · have h1 := hdone _ _ H j (ready_mono hj e)
      have h2 := small inv hr j hj
      omega
  | succ f ih =>
    intro listed a inv hf hr hy H
    refine ⟨fun h => absurd hr (by rw [h]; exact List.not_mem_nil), fun j hj => ⟨small inv hr j hj, ?_⟩⟩
    by_cases e : j = i
    · rw [e]; exact hy.qOp hi H
    · obtain ⟨hju, oj, hoj, hw⟩ := mem_ready.1 hj
      have hno : ∀ d ∈ oj.after, Region.binds md d = true → d.on ≠ i := fun d hd hb he => by
        have := hw d hd hb
        rw [he, getD_both (mem_ready.1 hr).1] at this; cases this
      have h2 := qOp_put hoj (hf j oj hoj e hju hno) (fun cs b => hsel i oi cs b hi) (fun cs b => hsel j oj cs b hoj) hy (H.2 j (ready_mono hj e)).2
      refine qOp_mono (fun a' h3 => ih (listed.setIfInBounds j true) a' (inv.set hj (small inv hr j hj)) (fun k ok hk hki hku hkn => hf k ok hk hki ?_ hkn) (ready_mono hr (Ne.symm e)) h3.1 ?_) h2
      · by_cases ejk : j = k
        · rw [← ejk]; exact hju
        · rwa [getD_set_ne true ejk] at hku
      · rw [Array.setIfInBounds_comm _ _ e]; exact h3.2
theorem HQ_lex {n g : Nat} {Lq : Act → Prop} (hsel : Region.noSelect ops = true) (hs : Region.sinkB md ops n = true) (hc : Region.chainB md ops n = true) (hn : n < ops.size) :
    ∀ (l : List Oper) (k : Nat) (listed : Array Bool) (a : Act), (∀ j, j < l.length → l[j]? = ops[k + j]?) → k + l.length = n → HeadInv md ops n listed →
    Region.lexHead md ops g l.length k listed = true → wpQuiet P ops C Lq l a → wpHQ P md ops C n (fun listed' a' => Region.seqB md ops g n listed' = true ∧ Lq a') l.length listed a
  | [], k, listed, a, _, hk, _, hB, h => by
    obtain rfl : k = n := by simpa using hk
    exact ⟨by simpa [Region.lexHead] using hB, h⟩
  | o :: l, k, listed, a, hl, hk, inv, hB, h => by
    have h0 : ops[k]? = some o := by simpa using (hl 0 (by simp)).symm
    simp only [List.length_cons, Region.lexHead, Bool.and_eq_true] at hB hk
    have hr : k ∈ Region.ready md ops listed := by simpa using hB.1.1
    obtain ⟨v, hy, hK⟩ := yieldsIn_of_qOp (K := wpQuiet P ops C Lq l) h0 (by unfold qOp; simp only [h0]; exact h)
    exact HQ_first h0 (Region.noSelect_spec hsel) hs hc hn (by omega) (fun _ _ hL => seqB_ready hL.1) l.length listed a inv (Region.free_spec h0 hB.1.2) hr hy
      (HQ_lex hsel hs hc hn l (k + 1) _ _ (fun j hj => by have := hl (j + 1) (by simp; omega); simpa [Nat.add_assoc, Nat.add_comm 1 j] using this) (by omega) (inv.set hr (by omega)) hB.2 hK)
theorem wp_region_quiet_tail {id : Nat} {Q : Exit → Act → World → Prop} {a : Act} {w : World} {l : List Oper} (n : Nat) (hm : P.follows .mixedOrders = true) (hB : Region.lexTailB .any l.toArray n = true)
    (h : wpQuiet P l.toArray (fun w' => ∃ p : Regrown, w' = grow (redrawn w p.d) p.os) (fun a' => ∀ w', (∃ p : Regrown, w' = grow (redrawn w p.d) p.os) → wpList P l.toArray Q (l.drop n) a' w') (l.take n) a) : (Code.region id l.toArray true).wp P Q a w := by
  simp only [Region.lexTailB, Bool.and_eq_true, decide_eq_true_eq] at hB
  obtain ⟨⟨⟨⟨hsel, hn⟩, hs⟩, hc⟩, hlex⟩ := hB
  have hn' : n < l.length := by simpa using hn
  have htl : (l.take n).length = n := by simp; omega
  have hdl : (l.drop n).length = l.toArray.size - n := by simp
  have inv0 : HeadInv .any l.toArray n (Array.replicate l.toArray.size false) :=
    ⟨by simp, fun j oj _ hl => (by rw [getD_replicate_false] at hl; cases hl), fun t _ ht => getD_in (by simpa using ht) (getD_replicate_false _ _)⟩
  have H := HQ_lex (md := .any) (g := l.toArray.size - n) hsel hs hc hn (l.take n) 0 _ a (fun j hj => by
    have hj' : j < n := by rw [htl] at hj; exact hj
    simp [hj']) (by simpa using htl) inv0 (by rw [htl]; exact hlex) h
  refine wp_region_any hm ?_
  have := any_of_HQ (Q' := Q) (g := l.toArray.size - n) (fun listed a' w' hw' hL => by
    have := wpAny_of_seq (md := .any) (Q' := Q) (l.drop n) n listed a' w' (fun j => by simp [List.getElem?_drop]) (by rw [hdl]; exact hL.1) (hL.2 w' hw')
    rwa [hdl] at this) _ _ _ { w with drawn := w.drawn + 1 } ⟨⟨w.drawn + 1, #[]⟩, by rw [grow_empty]; rfl⟩ H
  rw [htl, show n + (l.toArray.size - n) = l.toArray.size by omega] at this
  exact this
/- single steps of the lexical walk -/
theorem wpQuiet_run {Q : Act → Prop} {o : Oper} {rest : List Oper} {a : Act} (dst : Option Tmp) (v : Value) (hd : o.dst = dst) (hw : Region.wanted o (yielded ops a.tmps) = true) (hr : ∀ w, C w → (execOp a.eval o).run P w = .ok (.value v) w)
    (h : wpQuiet P ops C Q rest (a.put dst v)) : wpQuiet P ops C Q (o :: rest) a := by
  refine wpQuiet_step fun K hK => ?_
  rw [if_pos hw]
  refine ⟨v, fun w hC => ?_, by rw [hd]; exact hK _ h⟩
  unfold Oper.quietAt
  rw [hr w hC]
  exact ⟨rfl, rfl⟩
theorem wpQuiet_call {Q : Act → Prop} {o : Oper} {rest : List Oper} {a : Act} (dst : Option Tmp) (v : Value) (f : FuncId) (args : Array Value) (hd : o.dst = dst) (hw : Region.wanted o (yielded ops a.tmps) = true)
    (hr : ∀ w, (execOp a.eval o).run P w = .ok (.enter f args) w) (hc : ∀ w, C w → Calls P f args w fun e w' => e = .returned v ∧ C w')
    (h : wpQuiet P ops C Q rest (a.put dst v)) : wpQuiet P ops C Q (o :: rest) a := by
  refine wpQuiet_step fun K hK => ?_
  rw [if_pos hw]
  refine ⟨v, fun w hC => ?_, by rw [hd]; exact hK _ h⟩
  unfold Oper.quietAt
  rw [hr w]
  exact ⟨rfl, hc w hC⟩
theorem wpQuiet_load_row {Q : Act → Prop} {o : Oper} {rest : List Oper} {a : Act} (dst : Option Tmp) (hd : o.dst = dst) (hw : Region.wanted o (yielded ops a.tmps) = true) (ty : TypeId) (x : Operand) (ho : o.op = .load ty x)
    (g : Nat) (hx : a.eval x = .pointer (some ⟨g, 0, none⟩)) (t : TypeId) (cs : Array Value) (fr : Nat × Nat) (d : TypeDesc) (hgp : ∀ w, C w → w.heap[g]? = some (.cells cs t fr))
    (hu : P.underlying ty = some d) (hdd : (match d with | .struct _ | .array _ _ => true | _ => false) = true) (hi : (P.info? ty).map (·.size) = some cs.size)
    (h : wpQuiet P ops C Q rest (a.put dst (.agg cs))) : wpQuiet P ops C Q (o :: rest) a := by
  refine wpQuiet_run dst (.agg cs) hd hw (fun w hC => ?_) h
  unfold execOp
  simp only [ho, hx, Instr.loadAt, Instr.sureAddr, Sem.run_bind, Sem.run_pure, Result.andThen_ok, run_loadVar_row w g t ty cs fr d (hgp w hC) hu hdd hi]
theorem wpQuiet_not {Q : Act → Prop} {o : Oper} {rest : List Oper} {a : Act} (dst : Option Tmp) (hd : o.dst = dst) (hw : Region.wanted o (yielded ops a.tmps) = false)
    (h : wpQuiet P ops C Q rest (a.put dst undef)) : wpQuiet P ops C Q (o :: rest) a := by
  refine wpQuiet_step fun K hK => ?_
  rw [if_neg (by rw [hw]; decide), hd]
  exact hK _ h
def Cls (u w : World) : Prop := ∃ p : Regrown, w = grow (redrawn u p.d) p.os
theorem Cls.below {u w : World} (h : Cls u w) : Below u.heap.size u w := by obtain ⟨p, rfl⟩ := h; exact below_regrown _ _ _
theorem Cls.heap {u w : World} (h : Cls u w) {g : Nat} {o : Obj} (hg : u.heap[g]? = some o) : w.heap[g]? = some o := block_below h.below (lt_of_heap hg) hg
theorem cls_call {f : FuncId} {args : Array Value} {u w : World} {v : Value} (hw : Cls u w) (h : Calls P f args w fun e w' => e = .returned v ∧ Below w.heap.size w w') : Calls P f args w fun e w' => e = .returned v ∧ Cls u w' :=
  h.mono fun _ _ ⟨he, hb⟩ => ⟨he, regrown_of_below (hw.below.trans (hb.mono hw.below.size))⟩
end
end Go.Proofs.YtbidoiipebokoaaDoor
set_option linter.unusedVariables false
namespace Go.Proofs.YtbidoiipebokoaaDoor
open Go.RowKit Go.Sort
section
variable {P : Program}
/-- An operation ends with a value and a world that R allows. -/
def Does (P : Program) (o : Oper) (ρ : Operand → Value) (w : World) (R : Value → World → Prop) : Prop :=
  (∃ v w', (execOp ρ o).run P w = .ok (.value v) w' ∧ R v w') ∨ (∃ f args, (execOp ρ o).run P w = .ok (.enter f args) w ∧ Calls P f args w fun e w' => ∃ v, e = .returned v ∧ R v w')
theorem Does.wp {o : Oper} {a : Act} {w : World} {R : Value → World → Prop} {K : Act → World → Prop} {Q : Exit → Act → World → Prop} (h : Does P o a.eval w R) (hk : ∀ v w', R v w' → K (a.put o.dst v) w') : o.wp P a w K Q := by
  unfold Oper.wp
  rcases h with ⟨v, w', hr, hR⟩ | ⟨f, args, hr, hc⟩
  · rw [hr]; exact hk v w' hR
  · rw [hr]
    exact hc.mono fun e w' ⟨v, he, hR⟩ => by subst he; exact hk v w' hR
def upd {α : Type} (f : Nat → α) (i : Nat) (v : α) : Nat → α := fun j => if j = i then v else f j
theorem upd_same {α : Type} (f : Nat → α) (i : Nat) (v : α) : upd f i v i = v := by simp [upd]
theorem upd_ne {α : Type} (f : Nat → α) {i j : Nat} (v : α) (h : j ≠ i) : upd f i v j = f j := by simp [upd, h]
def acts (vs : Nat → Value) (ls : Nat → Bool) : List Oper → Nat → Act → Act
  | [], _, a => a
  | o :: l, k, a => acts vs ls l (k + 1) (if ls k = true then a.put o.dst (vs k) else a)
def dsB (m : Nat) : List Oper → Bool
  | [] => true
  | o :: l => (match o.dst with | some d => decide (d < m) && l.all (fun o' => o'.dst != some d) | none => false) && dsB m l
theorem acts_congr {vs vs' : Nat → Value} {ls ls' : Nat → Bool} : ∀ (l : List Oper) (k : Nat) (a : Act), (∀ j, k ≤ j → vs j = vs' j ∧ ls j = ls' j) → acts vs ls l k a = acts vs' ls' l k a
  | [], _, _, _ => rfl
  | o :: l, k, a, h => by
    unfold acts
    rw [(h k (Nat.le_refl _)).1, (h k (Nat.le_refl _)).2]
    exact acts_congr l (k + 1) _ fun j hj => h j (by omega)
theorem put_comm (a : Act) {d e : Nat} (h : d ≠ e) (v x : Value) : (a.put (some d) v).put (some e) x = (a.put (some e) x).put (some d) v := by
  simp only [Act.put]
  rw [Array.setIfInBounds_comm _ _ h]
theorem acts_put {vs : Nat → Value} {ls : Nat → Bool} {d : Nat} {v : Value} {m : Nat} : ∀ (l : List Oper) (k : Nat) (a : Act), dsB m l = true → l.all (fun o' => o'.dst != some d) = true → (acts vs ls l k a).put (some d) v = acts vs ls l k (a.put (some d) v)
  | [], _, _, _, _ => rfl
  | o :: l, k, a, hm, h => by
    unfold dsB at hm
    rw [Bool.and_eq_true] at hm
    rw [List.all_cons, Bool.and_eq_true] at h
    unfold acts
    rw [acts_put l (k + 1) _ hm.2 h.2]
    congr 1
    split
    · cases ho : o.dst with
      | none => simp [ho] at hm
      | some e =>
        have : e ≠ d := by
          intro he
          have h1 := h.1
          simp [ho, he] at h1
        exact put_comm a this _ _
    · rfl
theorem acts_set {vs : Nat → Value} {ls : Nat → Bool} {v : Value} {m : Nat} : ∀ (l : List Oper) (k i : Nat) (a : Act) (o : Oper), dsB m l = true → l[i]? = some o → ls (k + i) = false →
    (acts vs ls l k a).put o.dst v = acts (upd vs (k + i) v) (upd ls (k + i) true) l k a
  | [], _, _, _, _, _, h, _ => by simp at h
  | o' :: l, k, 0, a, o, hm, h, hl => by
    obtain rfl : o' = o := by simpa using h
    unfold dsB at hm
    rw [Bool.and_eq_true] at hm
    rw [Nat.add_zero] at hl ⊢
    unfold acts
    rw [hl, upd_same, upd_same]
    cases ho : o'.dst with
    | none => simp [ho] at hm
    | some e =>
      simp only [ho, Bool.and_eq_true] at hm
      simp only [if_true, Bool.false_eq_true, if_false]
      rw [acts_put l (k + 1) _ hm.2 hm.1.2]
      exact acts_congr l (k + 1) _ fun j hj => ⟨(upd_ne _ _ (by omega)).symm, (upd_ne _ _ (by omega)).symm⟩
  | o' :: l, k, i + 1, a, o, hm, h, hl => by
    unfold dsB at hm
    rw [Bool.and_eq_true] at hm
    unfold acts
    rw [upd_ne _ _ (by omega), upd_ne _ _ (by omega), show k + (i + 1) = k + 1 + i by omega] at *
    exact acts_set l (k + 1) i _ o hm.2 (by simpa using h) hl
theorem put_size (a : Act) (d : Option Nat) (v : Value) : (a.put d v).tmps.size = a.tmps.size := by cases d <;> simp [Act.put]
theorem acts_size {vs : Nat → Value} {ls : Nat → Bool} : ∀ (l : List Oper) (k : Nat) (a : Act), (acts vs ls l k a).tmps.size = a.tmps.size
  | [], _, _ => rfl
  | o :: l, k, a => by
    unfold acts
    rw [acts_size l]
    split
    · exact put_size _ _ _
    · rfl
theorem acts_other {vs : Nat → Value} {ls : Nat → Bool} {s : Nat} : ∀ (l : List Oper) (k : Nat) (a : Act), l.all (fun o' => o'.dst != some s) = true → (acts vs ls l k a).tmps[s]? = a.tmps[s]?
  | [], _, _, _ => rfl
  | o :: l, k, a, h => by
    rw [List.all_cons, Bool.and_eq_true] at h
    unfold acts
    rw [acts_other l (k + 1) _ h.2]
    split
    · cases ho : o.dst with
      | none => rfl
      | some e =>
        have he : e ≠ s := by
          intro he
          have h1 := h.1
          simp [ho, he] at h1
        simp only [Act.put]
        rw [Array.getElem?_setIfInBounds_ne he]
    · rfl
theorem acts_at {vs : Nat → Value} {ls : Nat → Bool} {m d : Nat} : ∀ (l : List Oper) (k i : Nat) (a : Act) (o : Oper), a.tmps.size = m → dsB m l = true → l[i]? = some o → o.dst = some d → ls (k + i) = true →
    (acts vs ls l k a).tmps[d]? = some (vs (k + i))
  | [], _, _, _, _, _, _, h, _, _ => by simp at h
  | o' :: l, k, 0, a, o, hs, hm, h, hd, hl => by
    obtain rfl : o' = o := by simpa using h
    unfold dsB at hm
    rw [Bool.and_eq_true] at hm
    rw [Nat.add_zero] at hl ⊢
    simp only [hd, Bool.and_eq_true, decide_eq_true_eq] at hm
    unfold acts
    rw [acts_other l (k + 1) _ hm.1.2, if_pos hl, hd]
    simp only [Act.put]
    rw [Array.getElem?_setIfInBounds_self_of_lt (by rw [hs]; exact hm.1.1)]
  | o' :: l, k, i + 1, a, o, hs, hm, h, hd, hl => by
    unfold dsB at hm
    rw [Bool.and_eq_true] at hm
    unfold acts
    rw [show k + (i + 1) = k + 1 + i by omega] at *
    refine acts_at l (k + 1) i _ o ?_ hm.2 (by simpa using h) hd hl
    split
    · rw [put_size]; exact hs
    · exact hs
/- counting -/
def cnt : Nat → (Nat → Bool) → Nat
  | 0, _ => 0
  | n + 1, p => cnt n p + (if p n = true then 0 else 1)
theorem cnt_congr : ∀ (n : Nat) {p q : Nat → Bool}, (∀ j, j < n → p j = q j) → cnt n p = cnt n q
  | 0, _, _, _ => rfl
  | n + 1, p, q, h => by
    unfold cnt
    rw [cnt_congr n fun j hj => h j (by omega), h n (by omega)]
theorem cnt_set : ∀ (n : Nat) {p : Nat → Bool} {i : Nat}, i < n → p i = false → cnt n (upd p i true) + 1 = cnt n p
  | 0, _, _, h, _ => by omega
  | n + 1, p, i, h, hp => by
    unfold cnt
    by_cases hi : i = n
    · subst hi
      rw [upd_same, hp, cnt_congr i (q := p) fun j hj => upd_ne _ _ (by omega)]
      simp
    · rw [upd_ne _ _ (by omega)]
      have := cnt_set n (p := p) (i := i) (by omega) hp
      omega
theorem cnt_zero : ∀ (n : Nat) {p : Nat → Bool}, cnt n p = 0 → ∀ j, j < n → p j = true
  | 0, _, _, j, h => by omega
  | n + 1, p, h, j, hj => by
    unfold cnt at h
    by_cases hi : j = n
    · subst hi
      cases hp : p j with
      | true => rfl
      | false => rw [hp] at h; simp at h
    · exact cnt_zero n (by omega) j (by omega)
theorem cnt_pos : ∀ (n : Nat) {p : Nat → Bool}, cnt n p ≠ 0 → ∃ j, j < n ∧ p j = false ∧ ∀ k, k < j → p k = true
  | 0, _, h => absurd rfl h
  | n + 1, p, h => by
    by_cases h0 : cnt n p = 0
    · refine ⟨n, by omega, ?_, cnt_zero n h0⟩
      unfold cnt at h
      cases hp : p n with
      | false => rfl
      | true => rw [hp, h0] at h; simp at h
    · obtain ⟨j, h1, h2, h3⟩ := cnt_pos n h0
      exact ⟨j, by omega, h2, h3⟩
theorem cnt_all : ∀ (n : Nat), cnt n (fun _ => false) = n
  | 0 => rfl
  | n + 1 => by unfold cnt; rw [cnt_all n]; simp
def ordB (l : List Oper) : Nat → Bool
  | 0 => true
  | n + 1 => ordB l n && (match l[n]? with | some o => o.after.all (fun e => decide (e.on < n)) | none => false)
theorem ordB_spec {l : List Oper} : ∀ (n : Nat), ordB l n = true → ∀ j, j < n → ∃ o, l[j]? = some o ∧ ∀ e ∈ o.after, e.on < j
  | 0, _, j, h => by omega
  | n + 1, h, j, hj => by
    unfold ordB at h
    rw [Bool.and_eq_true] at h
    by_cases hi : j = n
    · subst hi
      cases ho : l[j]? with
      | none => simp [ho] at h
      | some o =>
        rw [ho] at h
        refine ⟨o, rfl, fun e he => ?_⟩
        have := Array.all_eq_true'.1 h.2 e he
        simpa using this
    · exact ordB_spec n h.1 j (by omega)
def fullB (n s : Nat) : Array Bool := ((List.range s).map fun j => decide (j < n)).toArray
/-- The region may be walked so: n operations in any order, then the others in theirs. -/
def headB (l : List Oper) (m n : Nat) : Bool :=
  dsB m (l.take n) && ordB l n && (decide (n = l.length) || (decide (n < l.length) && Region.sinkB .any l.toArray n && Region.chainB .any l.toArray n)) && Region.seqB .any l.toArray (l.length - n) n (fullB n l.length)
def depB (l : List Oper) (k j d : Nat) : Bool :=
  (match l[k]? with | some o => o.after.any (fun e => Region.binds .any e && e.on == j) | none => false) && (match l[j]? with | some o => o.dst == some d | none => false)
def freeB (l : List Oper) (n s : Nat) : Bool := (l.take n).all (fun o' => o'.dst != some s)
def Step (P : Program) (l : List Oper) (V : Nat → Value → World → Prop) (k : Nat) (o : Oper) (a : Act) (w : World) : Prop :=
  (Region.wanted o (yielded l.toArray a.tmps) = true ∧ Does P o a.eval w (fun v w' => Below w.heap.size w w' ∧ V k v w')) ∨ (Region.wanted o (yielded l.toArray a.tmps) = false ∧ V k undef w)
def OpsOK (P : Program) (l : List Oper) (dep : Nat → Nat → Nat → Bool) (n : Nat) (V : Nat → Value → World → Prop) (u : World) (a0 : Act) : List Oper → Nat → Prop
  | [], _ => True
  | o :: r, k => (∀ a w, Below u.heap.size u w → (∀ s, freeB l n s = true → a.eval (.tmp s) = a0.eval (.tmp s)) → (∀ j d, dep k j d = true → V j (a.eval (.tmp d)) w) → Step P l V k o a w) ∧ OpsOK P l dep n V u a0 r (k + 1)
theorem OpsOK.at {l : List Oper} {dep : Nat → Nat → Nat → Bool} {n : Nat} {V : Nat → Value → World → Prop} {u : World} {a0 : Act} : ∀ (r : List Oper) (k i : Nat) (o : Oper), OpsOK P l dep n V u a0 r k → r[i]? = some o →
    ∀ a w, Below u.heap.size u w → (∀ s, freeB l n s = true → a.eval (.tmp s) = a0.eval (.tmp s)) → (∀ j d, dep (k + i) j d = true → V j (a.eval (.tmp d)) w) → Step P l V (k + i) o a w
  | [], _, _, _, _, h => by simp at h
  | o' :: r, k, 0, o, h, ho => by
    obtain rfl : o' = o := by simpa using ho
    exact h.1
  | o' :: r, k, i + 1, o, h, ho => by
    have := OpsOK.at r (k + 1) i o h.2 (by simpa using ho)
    rw [show k + (i + 1) = k + 1 + i by omega]
    exact this
def FinAll (V : Nat → Value → World → Prop) (w : World) (K : Act → Prop) : List Oper → Nat → Act → Prop
  | [], _, a => K a
  | o :: l, k, a => ∀ v, V k v w → FinAll V w K l (k + 1) (a.put o.dst v)
theorem FinAll.acts {V : Nat → Value → World → Prop} {w : World} {K : Act → Prop} {vs : Nat → Value} {ls : Nat → Bool} : ∀ (l : List Oper) (k : Nat) (a : Act), FinAll V w K l k a → (∀ j, j < l.length → ls (k + j) = true ∧ V (k + j) (vs (k + j)) w) → K (acts vs ls l k a)
  | [], _, _, h, _ => h
  | o :: l, k, a, h, hV => by
    have h0 := hV 0 (by simp)
    rw [Nat.add_zero] at h0
    unfold Go.Proofs.YtbidoiipebokoaaDoor.acts
    rw [if_pos h0.1]
    exact FinAll.acts l (k + 1) _ (h _ h0.2) fun j hj => by
      have := hV (j + 1) (by simp; omega)
      rwa [show k + (j + 1) = k + 1 + j by omega] at this
theorem eval_of {a : Act} {t : Nat} {v : Value} (h : a.tmps[t]? = some v) : a.eval (.tmp t) = v := by
  simp only [Act.eval]
  rw [Array.getD_eq_getD_getElem?, h]; rfl
theorem getD_upd {listed : Array Bool} {i : Nat} (hi : i < listed.size) : (fun j => (listed.setIfInBounds i true).getD j false) = upd (fun j => listed.getD j false) i true := by
  funext j
  by_cases h : j = i
  · subst h
    rw [upd_same, Array.getD_eq_getD_getElem?, Array.getElem?_setIfInBounds_self_of_lt hi]; rfl
  · rw [upd_ne _ _ h, Array.getD_eq_getD_getElem?, Array.getD_eq_getD_getElem?, Array.getElem?_setIfInBounds_ne (Ne.symm h)]
theorem any_inv {l : List Oper} {n : Nat} {V : Nat → Value → World → Prop} {u : World} {a0 : Act} {Q : Exit → Act → World → Prop} (hst : ∀ j v w w', Below w.heap.size w w' → V j v w → V j v w')
    (hB : headB l a0.tmps.size n = true) (hop : OpsOK P l (depB l) n V u a0 (l.take n) 0) (hfin : ∀ w, Below u.heap.size u w → FinAll V w (fun a => wpList P l.toArray Q (l.drop n) a w) (l.take n) 0 a0) :
    ∀ (f : Nat) (listed : Array Bool) (a : Act) (w : World), cnt n (fun j => listed.getD j false) = f → HeadInv .any l.toArray n listed → Below u.heap.size u w →
      (∃ vs, a = acts vs (fun j => listed.getD j false) (l.take n) 0 a0 ∧ ∀ j, j < n → listed.getD j false = true → V j (vs j) w) → wpAny P .any l.toArray Q (f + (l.length - n)) listed a w := by
  simp only [headB, Bool.and_eq_true, Bool.or_eq_true, decide_eq_true_eq] at hB
  obtain ⟨⟨⟨hds, hord⟩, htl⟩, hseq⟩ := hB
  have hnl : n ≤ l.length := by rcases htl with h | h <;> omega
  have htk : (l.take n).length = n := by simp; omega
  intro f
  induction f with
  | zero =>
    intro listed a w hc inv hw ⟨vs, ha, hV⟩
    have hall := cnt_zero n hc
    have hfull : listed = fullB n l.length := by
      apply Array.ext
      · rw [inv.size]; simp [fullB]
      · intro i h1 h2
        have hsz := inv.size
        simp only [List.size_toArray] at hsz
        simp only [fullB, List.getElem_toArray, List.getElem_map, List.getElem_range]
        by_cases hi : i < n
        · have := hall i hi
          simp only [Array.getD_eq_getD_getElem?, Array.getElem?_eq_getElem h1, Option.getD_some] at this
          rw [this]; simp [hi]
        · have := inv.tail i (by omega) (by simp; omega)
          simp only [Array.getD_eq_getD_getElem?, Array.getElem?_eq_getElem h1, Option.getD_some] at this
          rw [this]; simp [hi]
    have hK := (hfin w hw).acts (vs := vs) (ls := fun j => listed.getD j false) (l.take n) 0 a0 fun j hj => by
      rw [htk] at hj
      rw [Nat.zero_add]
      exact ⟨hall j hj, hV j hj (hall j hj)⟩
    rw [← ha] at hK
    have := wpAny_of_seq (md := .any) (Q' := Q) (l.drop n) n listed a w (fun j => by simp [List.getElem?_drop]) (by rw [hfull, List.length_drop]; exact hseq) hK
    rw [List.length_drop] at this
    rw [Nat.zero_add]; exact this
  | succ f ih =>
    intro listed a w hc inv hw ⟨vs, ha, hV⟩
    obtain ⟨j0, hj0, hun, hbefore⟩ := cnt_pos n (p := fun j => listed.getD j false) (by omega)
    have hsz := inv.size
    simp only [List.size_toArray] at hsz
    rw [show f + 1 + (l.length - n) = (f + (l.length - n)) + 1 by omega]
    refine ⟨fun h0 => ?_, fun i hi => ?_⟩
    · obtain ⟨o, ho, hbe⟩ := ordB_spec n hord j0 hj0
      have : j0 ∈ Region.ready .any l.toArray listed := mem_ready.2 ⟨getD_in (by omega) hun, o, by simpa using ho, fun e he _ => hbefore e.on (hbe e he)⟩
      rw [h0] at this; cases this
    · have hin : i < n := by
        rcases htl with h | h
        · obtain ⟨_, o, ho, _⟩ := mem_ready.1 hi
          have := (Array.getElem?_eq_some_iff.1 ho).1
          simp only [List.size_toArray] at this
          omega
        · exact Nat.lt_of_not_le fun hge => tail_waits h.1.2 h.2 (by simp; exact h.1.1) inv _ j0 rfl hj0 (getD_in (by omega) hun) i hge hi
      obtain ⟨hiu, o, ho, hdep⟩ := mem_ready.1 hi
      have hol : l[i]? = some o := by simpa using ho
      have hot : (l.take n)[i]? = some o := by rw [List.getElem?_take_of_lt hin]; exact hol
      have hS := hop.at (l.take n) 0 i o hot a w hw (fun s hs => by
        have := acts_other (vs := vs) (ls := fun j => listed.getD j false) (l.take n) 0 a0 hs
        rw [← ha] at this
        simp only [Act.eval, Array.getD_eq_getD_getElem?, this]) (fun j d hjd => by
        rw [Nat.zero_add] at hjd
        simp only [depB, hol, Bool.and_eq_true] at hjd
        obtain ⟨e, he, hb⟩ := Array.any_eq_true'.1 hjd.1
        simp only [Bool.and_eq_true, beq_iff_eq] at hb
        cases hoj : l[j]? with
        | none => simp [hoj] at hjd
        | some oj =>
          have hjd2 : oj.dst = some d := by simpa [hoj] using hjd.2
          have hjl : listed.getD j false = true := by rw [← hb.2]; exact hdep e he hb.1
          obtain ⟨o2, ho2, hbe⟩ := ordB_spec n hord i hin
          obtain rfl : o2 = o := Option.some.inj (ho2.symm.trans hol)
          have hji : j < i := by rw [← hb.2]; exact hbe e he
          have hjt : (l.take n)[j]? = some oj := by rw [List.getElem?_take_of_lt (by omega)]; exact hoj
          have hat := acts_at (vs := vs) (ls := fun j => listed.getD j false) (l.take n) 0 j a0 oj rfl hds hjt hjd2 (by rw [Nat.zero_add]; exact hjl)
          rw [← ha, Nat.zero_add] at hat
          rw [eval_of hat]
          exact hV j (by omega) hjl)
      rw [Nat.zero_add] at hS
      have next : ∀ v w', Below w.heap.size w w' → V i v w' → wpAny P .any l.toArray Q (f + (l.length - n)) (listed.setIfInBounds i true) (a.put o.dst v) w' := fun v w' hb hv => by
        have hil : i < listed.size := by omega
        have hif : listed.getD i false = false := getD_both hiu
        refine ih _ _ w' ?_ (inv.set hi hin) (hw.trans (hb.mono hw.size)) ⟨upd vs i v, ?_, fun j hj hjl => ?_⟩
        · rw [getD_upd hil]
          have := cnt_set n (p := fun j => listed.getD j false) hin hif
          omega
        · rw [ha, getD_upd hil]
          have := acts_set (vs := vs) (ls := fun j => listed.getD j false) (v := v) (l.take n) 0 i a0 o hds hot (by rw [Nat.zero_add]; exact hif)
          rw [Nat.zero_add] at this
          exact this
        · by_cases hji : j = i
          · subst hji; rw [upd_same]; exact hv
          · rw [upd_ne _ _ hji]
            have h2 := congrFun (getD_upd hil) j
            simp only [hjl] at h2
            rw [upd_ne _ _ hji] at h2
            exact hst j _ w w' hb (hV j hj h2.symm)
      unfold wpOp
      simp only [ho]
      rcases hS with ⟨hwt, hD⟩ | ⟨hwt, hu⟩
      · rw [if_pos hwt]
        exact .inl (hD.wp fun v w' h => next v w' h.1 h.2)
      · rw [if_neg (by rw [hwt]; decide)]
        exact next _ w (Below.refl _ _) hu
theorem wp_region_inv {id : Nat} {l : List Oper} {Q : Exit → Act → World → Prop} {a0 : Act} {u : World} (n : Nat) (V : Nat → Value → World → Prop) (hm : P.follows .mixedOrders = true) (hst : ∀ j v w w', Below w.heap.size w w' → V j v w → V j v w')
    (hB : headB l a0.tmps.size n = true) (hop : OpsOK P l (depB l) n V u a0 (l.take n) 0) (hfin : ∀ w, Below u.heap.size u w → FinAll V w (fun a => wpList P l.toArray Q (l.drop n) a w) (l.take n) 0 a0) : (Code.region id l.toArray true).wp P Q a0 u := by
  refine wp_region_any hm ?_
  have hnl : n ≤ l.length := by
    simp only [headB, Bool.and_eq_true, Bool.or_eq_true, decide_eq_true_eq] at hB
    rcases hB.1.2 with h | h <;> omega
  have inv0 : HeadInv .any l.toArray n (Array.replicate l.toArray.size false) :=
    ⟨by simp, fun j oj _ hl => (by rw [getD_replicate_false] at hl; cases hl), fun t _ ht => getD_in (by simpa using ht) (getD_replicate_false _ _)⟩
  have h0 : (fun j => (Array.replicate l.toArray.size false).getD j false) = fun _ => false := funext fun j => getD_replicate_false _ _
  have a00 : ∀ (r : List Oper) (k : Nat) (a : Act), acts (fun _ => undef) (fun _ => false) r k a = a := by
    intro r
    induction r with
    | nil => intro k a; rfl
    | cons o r ih => intro k a; unfold acts; simp only [Bool.false_eq_true, if_false]; exact ih _ _
  have := any_inv hst hB hop hfin n (Array.replicate l.toArray.size false) a0 { u with drawn := u.drawn + 1 } (by rw [h0, cnt_all]) inv0 (Below.refl _ _).drew ⟨fun _ => undef, by rw [h0, a00], fun j _ h => by rw [getD_replicate_false] at h; cases h⟩
  rw [show n + (l.length - n) = l.toArray.size by simp; omega] at this
  exact this
/- the same where two operations lay blocks: these are two -/
def newPtr (w : World) : Value := .pointer (some ⟨w.heap.size, 0, none⟩)
def Apart (v v' : Value) : Prop := ∀ g g', v = .pointer (some ⟨g, 0, none⟩) → v' = .pointer (some ⟨g', 0, none⟩) → g ≠ g'
theorem Does.more {o : Oper} {ρ : Operand → Value} {w : World} {R : Value → World → Prop} (h : Does P o ρ w R) (E : Value → World → Prop)
    (he : ∀ v w', ((execOp ρ o).run P w = .ok (.value v) w' ∨ ∃ f args, (execOp ρ o).run P w = .ok (.enter f args) w) → E v w') : Does P o ρ w (fun v w' => R v w' ∧ E v w') := by
  rcases h with ⟨v, w', hr, hR⟩ | ⟨f, args, hr, hc⟩
  · exact .inl ⟨v, w', hr, hR, he v w' (.inl hr)⟩
  · exact .inr ⟨f, args, hr, hc.mono fun e w' ⟨v, h1, h2⟩ => ⟨v, h1, h2, he v w' (.inr ⟨f, args, hr⟩)⟩⟩
theorem any_inv2 {pi pj di dj : Nat} {l : List Oper} {n : Nat} {V : Nat → Value → World → Prop} {u : World} {a0 : Act} {Q : Exit → Act → World → Prop} (hst : ∀ j v w w', Below w.heap.size w w' → V j v w → V j v w')
    (hB : headB l a0.tmps.size n = true) (hop : OpsOK P l (depB l) n V u a0 (l.take n) 0) (hne : pi ≠ pj) (hpi : pi < n) (hpj : pj < n) (hal : ∀ i, i = pi ∨ i = pj → ∃ o ob, l[i]? = some o ∧ ∀ ρ w, (execOp ρ o).run P w = .ok (.value (newPtr w)) (World.alloc w ob)) (hap : ∀ i, i = pi ∨ i = pj → ∀ v w g, V i v w → v = .pointer (some ⟨g, 0, none⟩) → g < w.heap.size)
    (hguard : ∀ i o, (i = pi ∨ i = pj) → l[i]? = some o → o.guard = none) (hdi : (l[pi]?).bind (·.dst) = some di) (hdj : (l[pj]?).bind (·.dst) = some dj)
    (hfin : ∀ w, Below u.heap.size u w → FinAll V w (fun a => (∀ g g', a.eval (.tmp di) = .pointer (some ⟨g, 0, none⟩) → a.eval (.tmp dj) = .pointer (some ⟨g', 0, none⟩) → g ≠ g') → wpList P l.toArray Q (l.drop n) a w) (l.take n) 0 a0) :
    ∀ (f : Nat) (listed : Array Bool) (a : Act) (w : World), cnt n (fun j => listed.getD j false) = f → HeadInv .any l.toArray n listed → Below u.heap.size u w →
      (∃ vs, a = acts vs (fun j => listed.getD j false) (l.take n) 0 a0 ∧ (∀ j, j < n → listed.getD j false = true → V j (vs j) w) ∧ (listed.getD pi false = true → listed.getD pj false = true → Apart (vs pi) (vs pj))) → wpAny P .any l.toArray Q (f + (l.length - n)) listed a w := by
  simp only [headB, Bool.and_eq_true, Bool.or_eq_true, decide_eq_true_eq] at hB
  obtain ⟨⟨⟨hds, hord⟩, htl⟩, hseq⟩ := hB
  have hnl : n ≤ l.length := by rcases htl with h | h <;> omega
  have htk : (l.take n).length = n := by simp; omega
  intro f
  induction f with
  | zero =>
    intro listed a w hc inv hw ⟨vs, ha, hV, hpr⟩
    have hall := cnt_zero n hc
    have hfull : listed = fullB n l.length := by
      apply Array.ext
      · rw [inv.size]; simp [fullB]
      · intro i h1 h2
        have hsz := inv.size
        simp only [List.size_toArray] at hsz
        simp only [fullB, List.getElem_toArray, List.getElem_map, List.getElem_range]
        by_cases hi : i < n
        · have := hall i hi
          simp only [Array.getD_eq_getD_getElem?, Array.getElem?_eq_getElem h1, Option.getD_some] at this
          rw [this]; simp [hi]
        · have := inv.tail i (by omega) (by simp; omega)
          simp only [Array.getD_eq_getD_getElem?, Array.getElem?_eq_getElem h1, Option.getD_some] at this
          rw [this]; simp [hi]
    have hK := (hfin w hw).acts (vs := vs) (ls := fun j => listed.getD j false) (l.take n) 0 a0 fun j hj => by
      rw [htk] at hj
      rw [Nat.zero_add]
      exact ⟨hall j hj, hV j hj (hall j hj)⟩
    rw [← ha] at hK
    have at1 : ∀ p d, p < n → (l[p]?).bind (·.dst) = some d → a.eval (.tmp d) = vs p := fun p d hp hd => by
      cases hop : l[p]? with
      | none => simp [hop] at hd
      | some op =>
        have hd2 : op.dst = some d := by simpa [hop] using hd
        have hjt : (l.take n)[p]? = some op := by rw [List.getElem?_take_of_lt hp]; exact hop
        have hat := acts_at (vs := vs) (ls := fun j => listed.getD j false) (l.take n) 0 p a0 op rfl hds hjt hd2 (by rw [Nat.zero_add]; exact hall p hp)
        rw [← ha, Nat.zero_add] at hat
        exact eval_of hat
    replace hK := hK (fun g g' h1 h2 => hpr (hall pi hpi) (hall pj hpj) g g' (by rw [← at1 pi di hpi hdi]; exact h1) (by rw [← at1 pj dj hpj hdj]; exact h2))
    have := wpAny_of_seq (md := .any) (Q' := Q) (l.drop n) n listed a w (fun j => by simp [List.getElem?_drop]) (by rw [hfull, List.length_drop]; exact hseq) hK
    rw [List.length_drop] at this
    rw [Nat.zero_add]; exact this
  | succ f ih =>
    intro listed a w hc inv hw ⟨vs, ha, hV, hpr⟩
    obtain ⟨j0, hj0, hun, hbefore⟩ := cnt_pos n (p := fun j => listed.getD j false) (by omega)
    have hsz := inv.size
    simp only [List.size_toArray] at hsz
    rw [show f + 1 + (l.length - n) = (f + (l.length - n)) + 1 by omega]
    refine ⟨fun h0 => ?_, fun i hi => ?_⟩
    · obtain ⟨o, ho, hbe⟩ := ordB_spec n hord j0 hj0
      have : j0 ∈ Region.ready .any l.toArray listed := mem_ready.2 ⟨getD_in (by omega) hun, o, by simpa using ho, fun e he _ => hbefore e.on (hbe e he)⟩
      rw [h0] at this; cases this
    · have hin : i < n := by
        rcases htl with h | h
        · obtain ⟨_, o, ho, _⟩ := mem_ready.1 hi
          have := (Array.getElem?_eq_some_iff.1 ho).1
          simp only [List.size_toArray] at this
          omega
        · exact Nat.lt_of_not_le fun hge => tail_waits h.1.2 h.2 (by simp; exact h.1.1) inv _ j0 rfl hj0 (getD_in (by omega) hun) i hge hi
      obtain ⟨hiu, o, ho, hdep⟩ := mem_ready.1 hi
      have hol : l[i]? = some o := by simpa using ho
      have hot : (l.take n)[i]? = some o := by rw [List.getElem?_take_of_lt hin]; exact hol
      have hS := hop.at (l.take n) 0 i o hot a w hw (fun s hs => by
        have := acts_other (vs := vs) (ls := fun j => listed.getD j false) (l.take n) 0 a0 hs
        rw [← ha] at this
        simp only [Act.eval, Array.getD_eq_getD_getElem?, this]) (fun j d hjd => by
        rw [Nat.zero_add] at hjd
        simp only [depB, hol, Bool.and_eq_true] at hjd
        obtain ⟨e, he, hb⟩ := Array.any_eq_true'.1 hjd.1
        simp only [Bool.and_eq_true, beq_iff_eq] at hb
        cases hoj : l[j]? with
        | none => simp [hoj] at hjd
        | some oj =>
          have hjd2 : oj.dst = some d := by simpa [hoj] using hjd.2
          have hjl : listed.getD j false = true := by rw [← hb.2]; exact hdep e he hb.1
          obtain ⟨o2, ho2, hbe⟩ := ordB_spec n hord i hin
          obtain rfl : o2 = o := Option.some.inj (ho2.symm.trans hol)
          have hji : j < i := by rw [← hb.2]; exact hbe e he
          have hjt : (l.take n)[j]? = some oj := by rw [List.getElem?_take_of_lt (by omega)]; exact hoj
          have hat := acts_at (vs := vs) (ls := fun j => listed.getD j false) (l.take n) 0 j a0 oj rfl hds hjt hjd2 (by rw [Nat.zero_add]; exact hjl)
          rw [← ha, Nat.zero_add] at hat
          rw [eval_of hat]
          exact hV j (by omega) hjl)
      rw [Nat.zero_add] at hS
      have next : ∀ v w', Below w.heap.size w w' → V i v w' → ((i = pi ∨ i = pj) → v = newPtr w) → wpAny P .any l.toArray Q (f + (l.length - n)) (listed.setIfInBounds i true) (a.put o.dst v) w' := fun v w' hb hv hnw => by
        have hil : i < listed.size := by omega
        have hif : listed.getD i false = false := getD_both hiu
        refine ih _ _ w' ?_ (inv.set hi hin) (hw.trans (hb.mono hw.size)) ⟨upd vs i v, ?_, fun j hj hjl => ?_, ?_⟩
        · rw [getD_upd hil]
          have := cnt_set n (p := fun j => listed.getD j false) hin hif
          omega
        · rw [ha, getD_upd hil]
          have := acts_set (vs := vs) (ls := fun j => listed.getD j false) (v := v) (l.take n) 0 i a0 o hds hot (by rw [Nat.zero_add]; exact hif)
          rw [Nat.zero_add] at this
          exact this
        · by_cases hji : j = i
          · subst hji; rw [upd_same]; exact hv
          · rw [upd_ne _ _ hji]
            have h2 := congrFun (getD_upd hil) j
            simp only [hjl] at h2
            rw [upd_ne _ _ hji] at h2
            exact hst j _ w w' hb (hV j hj h2.symm)
        · have h2 := getD_upd hil
          rw [congrFun h2 pi, congrFun h2 pj]
          by_cases e1 : i = pi
          · have e2 : pj ≠ i := by omega
            rw [← e1, upd_same, upd_same, upd_ne _ _ e2, upd_ne _ _ e2]
            intro _ hl g g' h3 h4
            have h5 := hap pj (.inr rfl) _ w g' (hV pj hpj hl) h4
            rw [hnw (.inl e1)] at h3
            have h6 : w.heap.size = g := by simpa [newPtr] using h3
            omega
          · by_cases e2 : i = pj
            · have e3 : pi ≠ i := fun h => e1 h.symm
              rw [← e2, upd_same, upd_same, upd_ne _ _ e3, upd_ne _ _ e3]
              intro hl _ g g' h3 h4
              have h5 := hap pi (.inl rfl) _ w g (hV pi hpi hl) h3
              rw [hnw (.inr e2)] at h4
              have h6 : w.heap.size = g' := by simpa [newPtr] using h4
              omega
            · have e3 : pi ≠ i := fun h => e1 h.symm
              have e4 : pj ≠ i := fun h => e2 h.symm
              rw [upd_ne _ _ e3, upd_ne _ _ e3, upd_ne _ _ e4, upd_ne _ _ e4]
              exact hpr
      unfold wpOp
      simp only [ho]
      rcases hS with ⟨hwt, hD⟩ | ⟨hwt, hu⟩
      · rw [if_pos hwt]
        refine .inl ((hD.more (fun v _ => ((i = pi ∨ i = pj) → v = newPtr w)) fun v w' hr hi2 => ?_).wp fun v w' h => next v w' h.1.1 h.1.2 h.2)
        obtain ⟨o2, ob, ho2, hrun⟩ := hal i hi2
        obtain rfl : o2 = o := Option.some.inj (ho2.symm.trans hol)
        rcases hr with hr | ⟨f, args, hr⟩
        · rw [hrun] at hr
          have : newPtr w = v := by injection hr with h1 h2; injection h1
          exact this.symm
        · rw [hrun] at hr
          injection hr with h1 h2; injection h1
      · rw [if_neg (by rw [hwt]; decide)]
        refine next _ w (Below.refl _ _) hu fun hi2 => ?_
        exact absurd (hguard i o hi2 hol) (by simp [Region.wanted] at hwt ⊢; intro hg; rw [hg] at hwt; simp at hwt)
theorem wp_region_inv2 {pi pj di dj : Nat} {id : Nat} {l : List Oper} {Q : Exit → Act → World → Prop} {a0 : Act} {u : World} (n : Nat) (V : Nat → Value → World → Prop) (hm : P.follows .mixedOrders = true) (hst : ∀ j v w w', Below w.heap.size w w' → V j v w → V j v w')
    (hB : headB l a0.tmps.size n = true) (hop : OpsOK P l (depB l) n V u a0 (l.take n) 0) (hne : pi ≠ pj) (hpi : pi < n) (hpj : pj < n) (hal : ∀ i, i = pi ∨ i = pj → ∃ o ob, l[i]? = some o ∧ ∀ ρ w, (execOp ρ o).run P w = .ok (.value (newPtr w)) (World.alloc w ob)) (hap : ∀ i, i = pi ∨ i = pj → ∀ v w g, V i v w → v = .pointer (some ⟨g, 0, none⟩) → g < w.heap.size)
    (hguard : ∀ i o, (i = pi ∨ i = pj) → l[i]? = some o → o.guard = none) (hdi : (l[pi]?).bind (·.dst) = some di) (hdj : (l[pj]?).bind (·.dst) = some dj)
    (hfin : ∀ w, Below u.heap.size u w → FinAll V w (fun a => (∀ g g', a.eval (.tmp di) = .pointer (some ⟨g, 0, none⟩) → a.eval (.tmp dj) = .pointer (some ⟨g', 0, none⟩) → g ≠ g') → wpList P l.toArray Q (l.drop n) a w) (l.take n) 0 a0) : (Code.region id l.toArray true).wp P Q a0 u := by
  refine wp_region_any hm ?_
  have hnl : n ≤ l.length := by
    simp only [headB, Bool.and_eq_true, Bool.or_eq_true, decide_eq_true_eq] at hB
    rcases hB.1.2 with h | h <;> omega
  have inv0 : HeadInv .any l.toArray n (Array.replicate l.toArray.size false) :=
    ⟨by simp, fun j oj _ hl => (by rw [getD_replicate_false] at hl; cases hl), fun t _ ht => getD_in (by simpa using ht) (getD_replicate_false _ _)⟩
  have h0 : (fun j => (Array.replicate l.toArray.size false).getD j false) = fun _ => false := funext fun j => getD_replicate_false _ _
  have a00 : ∀ (r : List Oper) (k : Nat) (a : Act), acts (fun _ => undef) (fun _ => false) r k a = a := by
    intro r
    induction r with
    | nil => intro k a; rfl
    | cons o r ih => intro k a; unfold acts; simp only [Bool.false_eq_true, if_false]; exact ih _ _
  have := any_inv2 hst hB hop hne hpi hpj hal hap hguard hdi hdj hfin n (Array.replicate l.toArray.size false) a0 { u with drawn := u.drawn + 1 } (by rw [h0, cnt_all]) inv0 (Below.refl _ _).drew ⟨fun _ => undef, by rw [h0, a00], fun j _ h => (by rw [getD_replicate_false] at h; cases h), fun h => (by rw [getD_replicate_false] at h; cases h)⟩
  rw [show n + (l.length - n) = l.toArray.size by simp; omega] at this
  exact this
/- the same for a region in the order of its text -/
def depP (l : List Oper) (k j d : Nat) : Bool := decide (j < k) && (match l[j]? with | some o => o.dst == some d | none => false)
theorem list_inv {l : List Oper} {n : Nat} {V : Nat → Value → World → Prop} {u : World} {a0 : Act} {Q : Exit → Act → World → Prop} (hst : ∀ j v w w', Below w.heap.size w w' → V j v w → V j v w')
    (hds : dsB a0.tmps.size (l.take n) = true) (hnl : n ≤ l.length) (hop : OpsOK P l (depP l) n V u a0 (l.take n) 0) (hfin : ∀ w, Below u.heap.size u w → FinAll V w (fun a => wpList P l.toArray Q (l.drop n) a w) (l.take n) 0 a0) :
    ∀ (f k : Nat) (a : Act) (w : World), k + f = n → Below u.heap.size u w → (∃ vs, a = acts vs (fun j => decide (j < k)) (l.take n) 0 a0 ∧ ∀ j, j < k → V j (vs j) w) → wpList P l.toArray Q (l.drop k) a w := by
  have htk : (l.take n).length = n := by simp; omega
  intro f
  induction f with
  | zero =>
    intro k a w hk hw ⟨vs, ha, hV⟩
    obtain rfl : k = n := by omega
    have hK := (hfin w hw).acts (vs := vs) (ls := fun j => decide (j < k)) (l.take k) 0 a0 fun j hj => by
      rw [htk] at hj
      rw [Nat.zero_add]
      exact ⟨by simp [hj], hV j hj⟩
    rw [← ha] at hK
    exact hK
  | succ f ih =>
    intro k a w hk hw ⟨vs, ha, hV⟩
    have hkl : k < l.length := by omega
    obtain ⟨o, hol⟩ : ∃ o, l[k]? = some o := ⟨l[k], by simp [hkl]⟩
    have hot : (l.take n)[k]? = some o := by rw [List.getElem?_take_of_lt (by omega)]; exact hol
    have hS := hop.at (l.take n) 0 k o hot a w hw (fun s hs => by
        have := acts_other (vs := vs) (ls := fun j => decide (j < k)) (l.take n) 0 a0 hs
        rw [← ha] at this
        simp only [Act.eval, Array.getD_eq_getD_getElem?, this]) (fun j d hjd => by
        rw [Nat.zero_add] at hjd
        simp only [depP, Bool.and_eq_true, decide_eq_true_eq] at hjd
        cases hoj : l[j]? with
        | none => simp [hoj] at hjd
        | some oj =>
          have hjd2 : oj.dst = some d := by simpa [hoj] using hjd.2
          have hjt : (l.take n)[j]? = some oj := by rw [List.getElem?_take_of_lt (by omega)]; exact hoj
          have hat := acts_at (vs := vs) (ls := fun j => decide (j < k)) (l.take n) 0 j a0 oj rfl hds hjt hjd2 (by rw [Nat.zero_add]; simp [hjd.1])
          rw [← ha, Nat.zero_add] at hat
          rw [eval_of hat]
          exact hV j hjd.1)
    rw [Nat.zero_add] at hS
    have hupd : upd (fun j => decide (j < k)) k true = fun j => decide (j < k + 1) := by
      funext j
      by_cases h : j = k
      · subst h; rw [upd_same]; simp
      · rw [upd_ne _ _ h]; congr 1; apply propext; omega
    have next : ∀ v w', Below w.heap.size w w' → V k v w' → wpList P l.toArray Q (l.drop (k + 1)) (a.put o.dst v) w' := fun v w' hb hv => by
      refine ih (k + 1) _ w' (by omega) (hw.trans (hb.mono hw.size)) ⟨upd vs k v, ?_, fun j hj => ?_⟩
      · rw [ha]
        have := acts_set (vs := vs) (ls := fun j => decide (j < k)) (v := v) (l.take n) 0 k a0 o hds hot (by rw [Nat.zero_add]; simp)
        rw [Nat.zero_add, hupd] at this
        exact this
      · by_cases hjk : j = k
        · subst hjk; rw [upd_same]; exact hv
        · rw [upd_ne _ _ hjk]
          exact hst j _ w w' hb (hV j (by omega))
    have hdr : l.drop k = o :: l.drop (k + 1) := by
      rw [List.drop_eq_getElem_cons hkl]
      have : l[k] = o := by simpa [hkl] using hol
      rw [this]
    rw [hdr]
    show if Region.wanted o (yielded l.toArray a.tmps) then _ else _
    rcases hS with ⟨hwt, hD⟩ | ⟨hwt, hu⟩
    · rw [if_pos hwt]
      exact .inl (hD.wp fun v w' h => next v w' h.1 h.2)
    · rw [if_neg (by rw [hwt]; decide)]
      exact next _ w (Below.refl _ _) hu
theorem wp_plain_inv {id : Nat} {l : List Oper} {Q : Exit → Act → World → Prop} {a0 : Act} {u : World} (n : Nat) (V : Nat → Value → World → Prop) (hst : ∀ j v w w', Below w.heap.size w w' → V j v w → V j v w')
    (hB : (dsB a0.tmps.size (l.take n) && decide (n ≤ l.length)) = true) (hop : OpsOK P l (depP l) n V u a0 (l.take n) 0) (hfin : ∀ w, Below u.heap.size u w → FinAll V w (fun a => wpList P l.toArray Q (l.drop n) a w) (l.take n) 0 a0) : (Code.region id l.toArray false).wp P Q a0 u := by
  rw [Bool.and_eq_true, decide_eq_true_eq] at hB
  have a00 : ∀ (r : List Oper) (k : Nat) (a : Act), acts (fun _ => undef) (fun j => decide (j < 0)) r k a = a := by
    intro r
    induction r with
    | nil => intro k a; rfl
    | cons o r ih => intro k a; unfold acts; simp only [Nat.not_lt_zero, decide_false, Bool.false_eq_true, if_false]; exact ih _ _
  exact wp_region_lit (list_inv hst hB.1 hB.2 hop hfin n 0 a0 u (by omega) (Below.refl _ _) ⟨fun _ => undef, (a00 _ _ _).symm, fun j h => by omega⟩)
/-- What holds of a value goes on to hold where memory grows. -/
def Stb (R : Value → World → Prop) : Prop := ∀ v w w', Below w.heap.size w w' → R v w → R v w'
def AllStb : List (Value → World → Prop) → Prop
  | [] => True
  | R :: l => Stb R ∧ AllStb l
def specs (l : List (Value → World → Prop)) (j : Nat) : Value → World → Prop := l.getD j (fun _ _ => True)
theorem specs_stb : ∀ {l : List (Value → World → Prop)}, AllStb l → ∀ j v w w', Below w.heap.size w w' → specs l j v w → specs l j v w'
  | [], _, j, v, w, w', _, _ => by simp [specs]
  | R :: l, h, 0, v, w, w', hb, hv => h.1 v w w' hb hv
  | R :: l, h, j + 1, v, w, w', hb, hv => by
    have := specs_stb h.2 j v w w' hb (by simpa [specs] using hv)
    simpa [specs] using this
/- single steps -/
theorem Step.plain {l : List Oper} {V : Nat → Value → World → Prop} {k : Nat} {o : Oper} {a : Act} {w : World} (hg : o.guard = none) (h : Does P o a.eval w (fun v w' => Below w.heap.size w w' ∧ V k v w')) : Step P l V k o a w :=
  .inl ⟨by simp [Region.wanted, hg], h⟩
theorem undef_ne (c : Bool) : undef ≠ .bool c := by unfold undef; intro h; cases h
theorem yielded_at {l : List Oper} {a : Act} {j d : Nat} {c : Bool} (hd : (l[j]?).bind (·.dst) = some d) (he : a.eval (.tmp d) = .bool c) : yielded l.toArray a.tmps j = some c := by
  unfold yielded
  rw [List.getElem?_toArray, hd]
  simp only [Act.eval, Array.getD_eq_getD_getElem?] at he
  simp only [Option.bind_some]
  cases ht : a.tmps[d]? with
  | none => rw [ht] at he; exact absurd he (undef_ne c)
  | some v => rw [ht] at he; simp only [Option.getD_some] at he; rw [he]
theorem Step.yes {l : List Oper} {V : Nat → Value → World → Prop} {k : Nat} {o : Oper} {a : Act} {w : World} (j d : Nat) (b : Bool) (hg : o.guard = some (j, b)) (hd : (l[j]?).bind (·.dst) = some d) (he : a.eval (.tmp d) = .bool b)
    (h : Does P o a.eval w (fun v w' => Below w.heap.size w w' ∧ V k v w')) : Step P l V k o a w :=
  .inl ⟨by simp [Region.wanted, hg, yielded_at hd he], h⟩
theorem Step.no {l : List Oper} {V : Nat → Value → World → Prop} {k : Nat} {o : Oper} {a : Act} {w : World} (j d : Nat) (b : Bool) (hg : o.guard = some (j, b)) (hd : (l[j]?).bind (·.dst) = some d) (he : a.eval (.tmp d) = .bool (!b))
    (h : V k undef w) : Step P l V k o a w :=
  .inr ⟨by simp [Region.wanted, hg, yielded_at hd he], h⟩
theorem Does.run {o : Oper} {ρ : Operand → Value} {w : World} {R : Value → World → Prop} (v : Value) (hr : (execOp ρ o).run P w = .ok (.value v) w) (h : R v w) : Does P o ρ w (fun v w' => Below w.heap.size w w' ∧ R v w') :=
  .inl ⟨v, w, hr, Below.refl _ _, h⟩
theorem Does.new {o : Oper} {ρ : Operand → Value} {w : World} {R : Value → World → Prop} (v : Value) (ob : Obj) (hr : (execOp ρ o).run P w = .ok (.value v) (w.alloc ob)) (h : R v (w.alloc ob)) : Does P o ρ w (fun v w' => Below w.heap.size w w' ∧ R v w') :=
  .inl ⟨v, _, hr, below1 _ _, h⟩
theorem Does.call {o : Oper} {ρ : Operand → Value} {w : World} {R : Value → World → Prop} (f : FuncId) (args : Array Value) (hr : (execOp ρ o).run P w = .ok (.enter f args) w) (hc : Calls P f args w fun e w' => ∃ v, e = .returned v ∧ (Below w.heap.size w w' ∧ R v w')) : Does P o ρ w (fun v w' => Below w.heap.size w w' ∧ R v w') :=
  .inr ⟨f, args, hr, hc⟩
end
end Go.Proofs.YtbidoiipebokoaaDoor
set_option linter.unusedVariables false
namespace Go.Proofs.YtbidoiipebokoaaDoor
open Go.RowKit Go.Sort Go.BigFrame
set_option maxRecDepth 100000
set_option maxHeartbeats 2000000
def strOf (bs : List Nat) : ByteArray := bs.foldl (fun r n => r.push (UInt8.ofNat n)) ByteArray.empty
theorem strOf_fold (bs : List Nat) : (bs.map fun (x : Nat) => (x : Int)).foldl (fun r n => r.push (UInt8.ofNat n.toNat)) ByteArray.empty = strOf bs := by
  unfold strOf
  rw [List.foldl_map]; rfl
theorem strOf_data (bs : List Nat) : ∀ r : ByteArray, (bs.foldl (fun r n => r.push (UInt8.ofNat n)) r).data.toList = r.data.toList ++ bs.map UInt8.ofNat := by
  induction bs with
  | nil => intro r; simp
  | cons b t ih => intro r; rw [List.foldl_cons, ih]; simp [ByteArray.push]
theorem strOf_inj {x y : List Nat} (hx : ∀ j, x.getD j 0 < 256) (hy : ∀ j, y.getD j 0 < 256) (h : strOf x = strOf y) : x = y := by
  have e1 := strOf_data x ByteArray.empty
  have e2 := strOf_data y ByteArray.empty
  have h' : (strOf x).data.toList = (strOf y).data.toList := by rw [h]
  unfold strOf at h'
  rw [e1, e2] at h'
  have h2 : x.map UInt8.ofNat = y.map UInt8.ofNat := by simpa using h'
  have hl : x.length = y.length := by simpa using congrArg List.length h2
  apply List.ext_getElem hl
  intro i h1 h3
  have h4 : (x.map UInt8.ofNat)[i]'(by simpa using h1) = (y.map UInt8.ofNat)[i]'(by simpa using h3) := by simp only [h2]
  simp only [List.getElem_map] at h4
  have a := hx i
  have b := hy i
  simp [h1] at a
  simp [h3] at b
  have := congrArg UInt8.toNat h4
  simp at this
  omega
theorem strOf_eq {x y : List Nat} (hx : ∀ j, x.getD j 0 < 256) (hy : ∀ j, y.getD j 0 < 256) : ((strOf x).toList == (strOf y).toList) = decide (x = y) := by
  rw [Bool.eq_iff_iff, beq_iff_eq, decide_eq_true_eq]
  constructor
  · intro h
    refine strOf_inj hx hy ?_
    rw [Lib.toList_data, Lib.toList_data] at h
    exact WideShapes.bytes_inj h
  · rintro rfl; rfl
theorem loadCells_view {w : World} {b off : Nat} {bs : List Nat} (h : BytesAt w b off bs) : (loadCells ⟨b, off, none⟩ bs.length).run Tryd.prog w = .ok ((bs.map fun (x : Nat) => (x : Int)).map (Value.int .u8)).toArray w := by
  have := run_loadCells_list (P := Tryd.prog) w ⟨b, off, none⟩ ((bs.map fun (x : Nat) => (x : Int)).map (Value.int .u8)) (fun j v hv => by
    have hj : j < bs.length := by
      by_cases h : j < bs.length
      · exact h
      · rw [List.getElem?_eq_none (by simp; omega)] at hv; cases hv
    rw [Addr.add_mid, h j hj, ← hv]; simp [hj])
  simpa using this
theorem View.take {w : World} {a : Option Addr} {bs : List Nat} (h : View w a bs) (n : Nat) : View w a (bs.take n) := fun hp => by
  obtain ⟨b, off, rfl, hb⟩ := h (by simp at hp; omega)
  refine ⟨b, off, rfl, fun i hi => ?_⟩
  have hi' : i < n ∧ i < bs.length := by simp at hi; omega
  rw [show (bs.take n).getD i 0 = bs.getD i 0 by simp [hi'.1]]
  exact hb i hi'.2
theorem sub_getD (bs : List Nat) (a n j : Nat) (h : j < n) : ((bs.drop a).take n).getD j 0 = bs.getD (a + j) 0 := by
  simp [h]
theorem sub_bytes {w : World} {b off : Nat} {bs : List Nat} (h : BytesAt w b off bs) (a n : Nat) (hn : a + n ≤ bs.length) : BytesAt w b (off + a) ((bs.drop a).take n) := by
  intro i hi
  have hi' : i < n := by simp at hi; omega
  rw [sub_getD bs a n i hi', Nat.add_assoc]
  exact h (a + i) (by omega)
def cutA (a : Option Addr) (l m : Nat) : Option Addr := if m = l then a else a.map (·.add l)
theorem size5 : ∀ w, (sizeOf 5).run Tryd.prog w = .ok 1 w := fun _ => by kernel_rfl
theorem View.cut {w : World} {a : Option Addr} {bs : List Nat} (h : View w a bs) (l n cap : Nat) (hn : l + n ≤ bs.length) (hc : bs.length ≤ cap) : View w (cutA a l cap) ((bs.drop l).take n) := fun hp => by
  have hn0 : 0 < n := by simp at hp; omega
  obtain ⟨b, off, rfl, hb⟩ := h (by omega)
  refine ⟨b, off + l, ?_, sub_bytes hb l n hn⟩
  unfold cutA
  rw [if_neg (by omega)]
  simp [Addr.add_mid]
def IntsAt (w : World) (b off : Nat) (l : List Nat) : Prop := ∀ i, i < l.length → w.cell? ⟨b, off + i, none⟩ = some (.int .i64 ((l.getD i 0 : Nat) : Int))
theorem IntsAt.below {w w' : World} {b off B : Nat} {l : List Nat} (h : IntsAt w b off l) (hb : Below B w w') (hlt : b < B) : IntsAt w' b off l :=
  fun i hi => (hb.cell (p := ⟨b, off + i, none⟩) hlt).trans (h i hi)
/-- A slice's address leads to these ints, if there are any. -/
def IView (w : World) (a : Option Addr) (l : List Nat) : Prop := 0 < l.length → ∃ b off, a = some ⟨b, off, none⟩ ∧ IntsAt w b off l
theorem IView.below {w w' : World} {a : Option Addr} {l : List Nat} (h : IView w a l) (hb : Below w.heap.size w w') : IView w' a l := fun hp => by
  obtain ⟨b, off, ha, hc⟩ := h hp
  exact ⟨b, off, ha, hc.below hb (block_lt_of_cell (hc 0 hp))⟩
theorem ints_row {w : World} {g t : Nat} {l : List Nat} (h : w.heap[g]? = some (.cells (ints .i64 l) t (0, 0))) : IntsAt w g 0 l := fun i hi => by
  rw [Nat.zero_add]; exact cell_ints h i hi
def iv (l : List Nat) : List Value := l.map fun (x : Nat) => Value.int .i64 (x : Int)
def bv (l : List Nat) : List Value := l.map fun (x : Nat) => Value.int .u8 (x : Int)
theorem one_int {n : Int} : ∀ u ∈ [Value.int .i64 n], u.oneCell' = true := fun u hu => by rw [List.mem_singleton.1 hu]; rfl
theorem one_byte {n : Int} : ∀ u ∈ [Value.int .u8 n], u.oneCell' = true := fun u hu => by rw [List.mem_singleton.1 hu]; rfl
theorem own_slice {w : World} {base t n : Nat} {v : Value} {xs : List Value} (h : w.ownsRow base t 1 v n xs) : ∃ a cap, v = .slice a n cap ∧ n ≤ cap ∧ cap ≤ 9223372036854775807 := by
  rcases h.2 with ⟨h1, h0⟩ | ⟨g, cap, cur, hv, _, _, h1, h2, _⟩
  · exact ⟨none, 0, by rw [h1, h0], by omega, by omega⟩
  · exact ⟨_, _, hv, h1, by unfold maxLen at h2; omega⟩
theorem own_iview {w : World} {B n c t : Nat} {a : Option Addr} {l : List Nat} (h : w.ownsRow B t 1 (.slice a n c) n (iv l)) : IView w a l ∧ l.length = n := by
  have hl : l.length = n := by have := h.1; simp [iv] at this; omega
  refine ⟨fun hp => ?_, hl⟩
  rcases h.2 with ⟨h1, h0⟩ | ⟨g, cap, cur, hv, _⟩
  · omega
  · cases hv
    refine ⟨g, 0, rfl, fun i hi => ?_⟩
    rw [Nat.zero_add, h.cellAt i (by omega)]
    simp [iv, hi]
theorem own_bview {w : World} {B n c t : Nat} {a : Option Addr} {l : List Nat} (h : w.ownsRow B t 1 (.slice a n c) n (bv l)) : View w a l ∧ l.length = n := by
  have hl : l.length = n := by have := h.1; simp [bv] at this; omega
  refine ⟨fun hp => ?_, hl⟩
  rcases h.2 with ⟨h1, h0⟩ | ⟨g, cap, cur, hv, _⟩
  · omega
  · cases hv
    refine ⟨g, 0, rfl, fun i hi => ?_⟩
    rw [Nat.zero_add, h.cellAt i (by omega)]
    simp [bv, hi]
theorem own_on {w w1 : World} {B n t : Nat} {v : Value} {xs : List Value} (h : w.ownsRow B t 1 v n xs) (hb : Below w.heap.size w w1) : w1.ownsRow B t 1 v n xs := by
  refine ⟨h.1, ?_⟩
  rcases h.2 with h1 | ⟨g, cap, cur, hv, h2, h3, h4⟩
  · exact .inl h1
  · exact .inr ⟨g, cap, cur, hv, h2, block_below hb (lt_of_heap h3) h3, h4⟩
theorem info_parts {t : TypeId} {z : Value} {s b : Nat} (h : (Tryd.prog.info? t).map (fun i => (i.zero, i.size, i.bytes)) = some (some z, s, b)) : ∃ i0, Tryd.prog.info? t = some i0 ∧ i0.zero = some z ∧ i0.size = s ∧ i0.bytes = b := by
  obtain ⟨i0, hi, hz⟩ := Option.map_eq_some_iff.1 h
  simp only [Prod.mk.injEq] at hz
  exact ⟨i0, hi, hz.1, hz.2.1, hz.2.2⟩
theorem info3 : ∃ i0, Tryd.prog.info? 3 = some i0 ∧ i0.zero = some (.int .i64 0) ∧ i0.size = 1 ∧ i0.bytes = 8 := info_parts (by kernel_rfl)
theorem info5 : ∃ i0, Tryd.prog.info? 5 = some i0 ∧ i0.zero = some (.int .u8 0) ∧ i0.size = 1 ∧ i0.bytes = 1 := info_parts (by kernel_rfl)
theorem news_one (w : World) (v : Value) (t : TypeId) : ∀ (j : Nat) u, [v][j]? = some u → (w.alloc (.cells #[v] t)).cell? ((⟨w.heap.size, 0, none⟩ : Addr).add j) = some u := by
  intro j u hj
  match j, hj with
  | 0, hj =>
    obtain rfl : v = u := by simpa using hj
    rw [Addr.add_mid, cell_of_row _ _ _ _ _ _ (heap_alloc_new _ _)]; rfl
theorem iv_snoc (l : List Nat) (x : Nat) : iv l ++ [.int .i64 (x : Int)] = iv (l ++ [x]) := by simp [iv]
theorem bv_snoc (l : List Nat) (x : Nat) : bv l ++ [.int .u8 (x : Int)] = bv (l ++ [x]) := by simp [bv]
theorem size3 : ∀ w, (sizeOf 3).run Tryd.prog w = .ok 1 w := fun _ => by kernel_rfl
theorem run_sliceO {ρ : Operand → Value} {t : TypeId} {x : Operand} {lo hi mx : Option Operand} {w : World} {v : Value} {o : Oper}
    (hr : (Instr.sliceAt t (ρ x) (lo.map ρ) (hi.map ρ) (mx.map ρ)).run Tryd.prog w = .ok v w) (ho : o.op = .slice t x lo hi mx) : (execOp ρ o).run Tryd.prog w = .ok (.value v) w := by
  unfold execOp
  rw [ho]
  simp only [Sem.run_bind, hr, Result.andThen_ok, Sem.run_pure]
theorem IView.take {w : World} {a : Option Addr} {l : List Nat} (h : IView w a l) (n : Nat) : IView w a (l.take n) := fun hp => by
  obtain ⟨b, off, rfl, hb⟩ := h (by simp at hp; omega)
  refine ⟨b, off, rfl, fun i hi => ?_⟩
  have hi' : i < n ∧ i < l.length := by simp at hi; omega
  rw [show (l.take n).getD i 0 = l.getD i 0 by simp [hi'.1]]
  exact hb i hi'.2
theorem IView.drop {w : World} {b off : Nat} {l : List Nat} (h : IntsAt w b off l) (n : Nat) : IntsAt w b (off + n) (l.drop n) := fun i hi => by
  have hi' : n + i < l.length := by simp at hi; omega
  have := h (n + i) hi'
  rw [← Nat.add_assoc] at this
  rw [this]
  simp
theorem dig_lt {l : List Nat} (h : ∀ x ∈ l, x < 256) : Dig l := fun j => by
  by_cases hj : j < l.length
  · have := h l[j] (List.getElem_mem hj)
    simpa [hj] using this
  · rw [List.getD_eq_getElem?_getD, List.getElem?_eq_none (by omega)]; decide
theorem getD_set2 (m : List Nat) (i j x : Nat) (hi : i < m.length) : (m.set i x).getD j 0 = if j = i then x else m.getD j 0 := by
  simp only [List.getD_eq_getElem?_getD, List.getElem?_set]
  by_cases h : j = i
  · subst h; simp [hi]
  · simp [h, Ne.symm h]
def Ret (f : FuncId) (args : Array Value) (w : World) (R : Value → World → Prop) : Prop := Calls Tryd.prog f args w fun e w' => ∃ v, e = .returned v ∧ (Below w.heap.size w w' ∧ R v w')
/-- Just this value. -/
def Is (x v : Value) (_ : World) : Prop := v = x
theorem Is.stb (x : Value) : Stb (Is x) := fun _ _ _ _ h => h
/-- A pointer to a block laid since. -/
def Box (lo : Nat) (cs : Array Value) (t : TypeId) (v : Value) (w : World) : Prop := ∃ g, v = .pointer (some ⟨g, 0, none⟩) ∧ lo ≤ g ∧ w.heap[g]? = some (.cells cs t (0, 0))
theorem Box.stb (lo : Nat) (cs : Array Value) (t : TypeId) : Stb (Box lo cs t) := fun _ _ _ hb ⟨g, h1, h2, h3⟩ => ⟨g, h1, h2, block_below hb (lt_of_heap h3) h3⟩
/-- Bytes in a row of their own. -/
def Own (lo : Nat) (l : List Nat) (v : Value) (w : World) : Prop := ∃ g, v = .slice (some ⟨g, 0, none⟩) l.length l.length ∧ lo ≤ g ∧ w.heap[g]? = some (.cells (ints .u8 l) 5 (0, 0))
theorem Own.stb (lo : Nat) (l : List Nat) : Stb (Own lo l) := fun _ _ _ hb ⟨g, h1, h2, h3⟩ => ⟨g, h1, h2, block_below hb (lt_of_heap h3) h3⟩
/-- Bytes, wherever they lie. -/
def Bts (l : List Nat) (v : Value) (w : World) : Prop := ∃ a cap, v = .slice a l.length cap ∧ l.length ≤ cap ∧ cap ≤ 9223372036854775807 ∧ View w a l
theorem Bts.stb (l : List Nat) : Stb (Bts l) := fun _ _ _ hb ⟨a, c, h1, h2, h3, h4⟩ => ⟨a, c, h1, h2, h3, h4.below hb⟩
theorem Own.bts {lo : Nat} {l : List Nat} {v : Value} {w : World} (h : Own lo l v w) (hl : l.length ≤ 1000) : Bts l v w := by
  obtain ⟨g, h1, h2, h3⟩ := h
  exact ⟨_, _, h1, Nat.le_refl _, by omega, fun _ => ⟨g, 0, rfl, bytes_row h3⟩⟩
def Tup2 (R1 R2 : Value → World → Prop) (v : Value) (w : World) : Prop := ∃ v1 v2, v = .tuple #[v1, v2] ∧ R1 v1 w ∧ R2 v2 w
theorem Tup2.stb {R1 R2 : Value → World → Prop} (h1 : Stb R1) (h2 : Stb R2) : Stb (Tup2 R1 R2) := fun _ w w' hb ⟨v1, v2, h, a, b⟩ => ⟨v1, v2, h, h1 v1 w w' hb a, h2 v2 w w' hb b⟩
/-- Bytes in a row of their own, which may have room behind. -/
def OwnC (lo : Nat) (l : List Nat) (v : Value) (w : World) : Prop :=
  ∃ g cap cur, v = .slice (some ⟨g, 0, none⟩) l.length cap ∧ lo ≤ g ∧ w.heap[g]? = some (.cells cur 5 (0, 0)) ∧ l.length ≤ cap ∧ cap ≤ 9223372036854775807 ∧ ∀ i, i < l.length → cur[i]? = some (.int .u8 ((l.getD i 0 : Nat) : Int))
theorem OwnC.stb (lo : Nat) (l : List Nat) : Stb (OwnC lo l) := fun _ _ _ hb ⟨g, c, cur, h1, h2, h3, h4⟩ => ⟨g, c, cur, h1, h2, block_below hb (lt_of_heap h3) h3, h4⟩
theorem bytesAt_cur {w : World} {g : Nat} {cur : Array Value} {t : Nat} {fr : Nat × Nat} {l : List Nat} (h : w.heap[g]? = some (.cells cur t fr)) (hc : ∀ i, i < l.length → cur[i]? = some (.int .u8 ((l.getD i 0 : Nat) : Int))) : BytesAt w g 0 l := fun i hi => by
  rw [Nat.zero_add, cell_of_row w g i _ t _ h]; exact hc i hi
theorem OwnC.bts {lo : Nat} {l : List Nat} {v : Value} {w : World} (h : OwnC lo l v w) : Bts l v w := by
  obtain ⟨g, c, cur, h1, h2, h3, h4, h5, h6⟩ := h
  exact ⟨_, _, h1, h4, h5, fun _ => ⟨g, 0, rfl, bytesAt_cur h3 h6⟩⟩
theorem own_C {w : World} {lo n : Nat} {v : Value} {l : List Nat} (hn : l.length = n) (h0 : 0 < n) (h : w.ownsRow lo 5 1 v n (bv l)) : OwnC lo l v w := by
  obtain ⟨_, h | ⟨g, cap, cur, h1, h2, h3, h4, h5, h6, h7⟩⟩ := h
  · omega
  · subst hn
    refine ⟨g, cap, cur, h1, h2, h3, h4, by unfold maxLen at h5; omega, fun i hi => ?_⟩
    have := congrArg (fun x : List Value => x[i]?) h7
    rw [List.getElem?_take_of_lt (by omega), Array.getElem?_toList] at this
    rw [this]
    simp [bv, hi]
theorem OwnC.lo {lo lo' : Nat} {l : List Nat} {v : Value} {w : World} (h : OwnC lo l v w) (hl : lo' ≤ lo) : OwnC lo' l v w := by
  obtain ⟨g, c, cur, h1, h2, h3⟩ := h
  exact ⟨g, c, cur, h1, by omega, h3⟩
theorem Own.C {lo : Nat} {l : List Nat} {v : Value} {w : World} (h : Own lo l v w) (hl : l.length ≤ 1000) : OwnC lo l v w := by
  obtain ⟨g, h1, h2, h3⟩ := h
  exact ⟨g, _, _, h1, h2, h3, Nat.le_refl _, by omega, fun i hi => ints_get _ _ i hi⟩
/-- A byte is set. -/
theorem cur_set {w : World} {g : Nat} {cur : Array Value} {l : List Nat} (h : w.heap[g]? = some (.cells cur 5 (0, 0))) (hc : ∀ i, i < l.length → cur[i]? = some (.int .u8 ((l.getD i 0 : Nat) : Int))) (k x : Nat) (hk : k < l.length) :
    (w.setCell ⟨g, k, none⟩ (.int .u8 (x : Int))).heap[g]? = some (.cells (cur.setIfInBounds k (.int .u8 (x : Int))) 5 (0, 0)) ∧ ∀ i, i < (l.set k x).length → (cur.setIfInBounds k (.int .u8 (x : Int)))[i]? = some (.int .u8 (((l.set k x).getD i 0 : Nat) : Int)) := by
  refine ⟨heap_setCell_same w g k _ 5 _ h, fun i hi => ?_⟩
  rw [List.length_set] at hi
  have hks : k < cur.size := by
    have := hc k hk
    exact (Array.getElem?_eq_some_iff.1 this).1
  rw [getD_set2 _ _ _ _ hk]
  by_cases e : i = k
  · subst e
    rw [Array.getElem?_setIfInBounds_self_of_lt hks, if_pos rfl]
  · rw [Array.getElem?_setIfInBounds_ne (Ne.symm e), if_neg e]; exact hc i hi
theorem news_view {w : World} {p : Addr} {bs : List Nat} (h : View w (some p) bs) : ∀ (j : Nat) u, (bv bs)[j]? = some u → w.cell? (p.add j) = some u := by
  intro j u hj
  have hj' : j < bs.length := by
    by_cases h : j < bs.length
    · exact h
    · rw [List.getElem?_eq_none (by simp [bv]; omega)] at hj; cases hj
  obtain ⟨b, off, e, hc⟩ := h (by omega)
  injection e with e
  rw [e, Addr.add_mid, hc j hj', ← hj]
  simp [bv, hj']
theorem bv_one {l : List Nat} : ∀ u ∈ bv l, u.oneCell' = true := fun u hu => by
  obtain ⟨x, _, rfl⟩ := List.mem_map.1 hu; rfl
theorem Bts.form {l : List Nat} {v : Value} {w : World} (h : Bts l v w) : ∃ a c, v = .slice a l.length c := by
  obtain ⟨a, c, h1, _⟩ := h; exact ⟨a, c, h1⟩
theorem Bts.parts {l : List Nat} {a : Option Addr} {n c : Nat} {w : World} (h : Bts l (.slice a n c) w) : l.length = n ∧ n ≤ c ∧ c ≤ 9223372036854775807 ∧ View w a l := by
  obtain ⟨a', c', h1, h2, h3, h4⟩ := h
  injection h1 with e1 e2 e3
  subst e1 e2 e3
  exact ⟨rfl, h2, h3, h4⟩
theorem strRefl (l : List Nat) : ((strOf l).toList == (strOf l).toList) = true := by simp
theorem btsNil {v : Value} {w : World} (h : v = .slice none 0 0) : Bts [] v w := ⟨none, 0, h, Nat.le_refl _, by decide, fun h => absurd h (by simp)⟩
theorem cell_cur {w : World} {g v : Nat} {cur : Array Value} {l : List Nat} (h : w.heap[g]? = some (.cells cur 5 (0, 0))) (hc : ∀ i, i < l.length → cur[i]? = some (.int .u8 ((l.getD i 0 : Nat) : Int))) (i : Nat) (hi : i < l.length) (hv : l.getD i 0 = v) : w.cell? ⟨g, i, none⟩ = some (.int .u8 (v : Int)) := by
  rw [cell_of_row w g i _ 5 _ h, hc i hi, hv]
end Go.Proofs.YtbidoiipebokoaaDoor
set_option linter.unusedVariables false
namespace Go.Proofs.YtbidoiipebokoaaDoor
open Go.RowKit Go.Sort Go.BigFrame
set_option maxRecDepth 100000
set_option maxHeartbeats 2000000
/-- A value's parts, its Kids being of a kind. -/
structure JN (K : Type) where
  kind : Int
  num : Int
  text : List Nat
  names : List (List Nat)
  kids : List K
/-- Values, told so deep; what is deeper is not told. -/
def J : Nat → Type
  | 0 => Unit
  | n + 1 => JN (J n)
/-- A string of bytes. -/
structure Str (s : ByteArray) (bs : List Nat) : Prop where
  size : s.size = bs.length
  at' : ∀ i (h : i < s.size), (s[i]'h).toNat = bs.getD i 0
  dig : Dig bs
theorem str_of (s : ByteArray) : Str s (s.data.toList.map UInt8.toNat) := by
  refine ⟨by simp, fun i h => ?_, dig_lt (fun x hx => ?_)⟩
  · have h2 : i < s.data.toList.length := by simpa using h
    rw [List.getD_eq_getElem?_getD, List.getElem?_map, List.getElem?_eq_getElem h2]
    rfl
  · obtain ⟨c, _, rfl⟩ := List.mem_map.1 hx
    exact c.toNat_lt
/-- A list of strings. -/
def SRow (ns : List (List Nat)) (v : Value) (w : World) : Prop := ∃ a cap, v = .slice a ns.length cap ∧ ns.length ≤ cap ∧ cap ≤ 9223372036854775807 ∧
  (0 < ns.length → ∃ b off, a = some ⟨b, off, none⟩ ∧ ∀ i, i < ns.length → ∃ s, w.cell? ⟨b, off + i, none⟩ = some (.string s) ∧ Str s (ns.getD i []))
/-- Five cells in a row. -/
def At5 (w : World) (b off : Nat) (cs : List Value) : Prop := cs.length = 5 ∧ ∀ k, k < 5 → w.cell? ⟨b, off + k, none⟩ = cs[k]?
/-- A list of values. -/
def KRow {K : Type} (R : K → List Value → World → Prop) (ks : List K) (v : Value) (w : World) : Prop := ∃ a cap, v = .slice a ks.length cap ∧ ks.length ≤ cap ∧ cap ≤ 9223372036854775807 ∧
  (0 < ks.length → ∃ b off, a = some ⟨b, off, none⟩ ∧ ∀ i (h : i < ks.length), ∃ cs, At5 w b (off + i * 5) cs ∧ R (ks[i]'h) cs w)
/-- Five cells that are a value. -/
def JC : (n : Nat) → J n → List Value → World → Prop
  | 0, _, _, _ => True
  | n + 1, j, cs, w => ∃ s nv kv, cs = [.int .i64 (JN.kind j), .int .i64 (JN.num j), .string s, nv, kv] ∧ Str s (JN.text j) ∧ SRow (JN.names j) nv w ∧ KRow (JC n) (JN.kids j) kv w ∧
    (-9223372036854775808 ≤ JN.kind j ∧ JN.kind j ≤ 9223372036854775807) ∧ (-9223372036854775808 ≤ JN.num j ∧ JN.num j ≤ 9223372036854775807)
def JV {n : Nat} (j : J n) (v : Value) (w : World) : Prop := ∃ cs, v = .agg cs.toArray ∧ cs.length = 5 ∧ JC n j cs w
theorem SRow.stb (ns : List (List Nat)) : Stb (SRow ns) := fun v w w' hb ⟨a, cap, h1, h2, h3, h4⟩ => ⟨a, cap, h1, h2, h3, fun hp => by
  obtain ⟨b, off, ha, hc⟩ := h4 hp
  refine ⟨b, off, ha, fun i hi => ?_⟩
  obtain ⟨s, hs, hS⟩ := hc i hi
  exact ⟨s, (hb.cell (p := ⟨b, off + i, none⟩) (block_lt_of_cell hs)).trans hs, hS⟩⟩
theorem cell_some_lt {w : World} {b off : Nat} {v : Value} (h : w.cell? ⟨b, off, none⟩ = some v) : b < w.heap.size := block_lt_of_cell h
theorem At5.below {w w' : World} {b off : Nat} {cs : List Value} (h : At5 w b off cs) (hb : Below w.heap.size w w') : At5 w' b off cs := ⟨h.1, fun k hk => by
  have h1 := h.2 k hk
  rw [List.getElem?_eq_getElem (by rw [h.1]; exact hk)] at h1
  rw [hb.cell (p := ⟨b, off + k, none⟩) (block_lt_of_cell h1), h.2 k hk]⟩
theorem JC.below : ∀ (n : Nat) (j : J n) (cs : List Value) (w w' : World), Below w.heap.size w w' → JC n j cs w → JC n j cs w'
  | 0, _, _, _, _, _, _ => trivial
  | n + 1, j, cs, w, w', hb, ⟨s, nv, kv, h1, h2, h3, ⟨a, cap, k1, k2, k3, k4⟩, h5⟩ => ⟨s, nv, kv, h1, h2, SRow.stb _ _ _ _ hb h3, ⟨a, cap, k1, k2, k3, fun hp => by
      obtain ⟨b, off, ha, hc⟩ := k4 hp
      refine ⟨b, off, ha, fun i hi => ?_⟩
      obtain ⟨cs, hs, hR⟩ := hc i hi
      exact ⟨cs, hs.below hb, JC.below n _ _ _ _ hb hR⟩⟩, h5⟩
theorem JV.stb {n : Nat} (j : J n) : Stb (JV j) := fun v w w' hb ⟨cs, h1, h2, h3⟩ => ⟨cs, h1, h2, JC.below n j cs w w' hb h3⟩
/- values that came in -/
section
variable {H : Type} {enc : TypeId × Value → H} {w : World} {base : Nat} {spare : Nat → Bool} {held : Bool}
theorem cells_get {a : Addr} {n : Nat} {l : List Value} (h : w.cells? base a n = some l) : l.length = n ∧ ∀ k, k < n → w.cell? (a.add k) = l[k]? := by
  unfold World.cells? at h
  split at h
  · exact ⟨by simpa using mapM_some_length h, fun k hk => mapM_some_get h k k (by simp [hk])⟩
  · cases h
theorem addr_plain {a : Addr} {v : Value} (h : w.cell? (a.add 0) = some v) : ∃ b off, a = ⟨b, off, none⟩ := by
  obtain ⟨b, off, spot⟩ := a
  have hspot : spot = none := by simpa [Addr.add] using World.cell?_spot h
  subst hspot
  exact ⟨b, off, rfl⟩
theorem choose_list {α : Type} (P : Nat → α → Prop) : ∀ n, (∀ i, i < n → ∃ x, P i x) → ∃ l : List α, l.length = n ∧ ∀ i (h : i < l.length), P i (l[i]'h)
  | 0, _ => ⟨[], rfl, fun i h => absurd h (by simp)⟩
  | n + 1, h => by
    obtain ⟨l, hl, hp⟩ := choose_list P n fun i hi => h i (by omega)
    obtain ⟨x, hx⟩ := h n (by omega)
    refine ⟨l ++ [x], by simp [hl], fun i hi => ?_⟩
    by_cases hin : i < l.length
    · rw [List.getElem_append_left hin]; exact hp i hin
    · obtain rfl : i = n := by simp [hl] at hi; omega
      rw [List.getElem_append_right (by omega)]
      simpa using hx
theorem i64_of_wf {n : Int} (h : (Lit.int .i64 n).wf = true) : -9223372036854775808 ≤ n ∧ n ≤ 9223372036854775807 := by
  have := bounds_i64 h
  omega
end
end Go.Proofs.YtbidoiipebokoaaDoor
set_option linter.unusedVariables false
namespace Go.Proofs.YtbidoiipebokoaaDoor
open Go.RowKit Go.Sort Go.BigFrame
set_option maxRecDepth 100000
set_option maxHeartbeats 2000000
/-- Told to its end. -/
def Full : (n : Nat) → J n → Prop
  | 0, _ => False
  | n + 1, j => ∀ k ∈ JN.kids j, Full n k
def j5 (k m : Int) (s : ByteArray) (nv kv : Value) : List Value := [.int .i64 k, .int .i64 m, .string s, nv, kv]
theorem Str.eq {s : ByteArray} {bs : List Nat} (h : Str s bs) : s = strOf bs := by
  obtain ⟨h1, h2, h3⟩ := h
  have ha : strOf bs = ⟨(bs.map UInt8.ofNat).toArray⟩ := by
    have h := strOf_data bs ByteArray.empty
    have h2 : (strOf bs).data.toList = bs.map UInt8.ofNat := by unfold strOf; rw [h]; simp
    have h3 : (strOf bs).data = (bs.map UInt8.ofNat).toArray := by rw [← h2]
    show ByteArray.mk (strOf bs).data = _
    rw [h3]
  rw [ha]
  have e : s.data.toList = bs.map UInt8.ofNat := by
    apply List.ext_getElem
    · simpa using h1
    · intro i a b
      have hs : i < s.size := by simpa using a
      have hb : i < bs.length := by omega
      have h4 := h2 i hs
      have h5 : (s.data.toList[i]'a).toNat = (s[i]'hs).toNat := rfl
      have h6 : bs.getD i 0 = bs[i]'hb := by simp [hb]
      rw [List.getElem_map]
      apply UInt8.toNat_inj.1
      rw [h5, h4, h6, UInt8.toNat_ofNat', Nat.mod_eq_of_lt]
      have := h3 i
      rw [h6] at this
      omega
  have e2 : s.data = (bs.map UInt8.ofNat).toArray := by rw [← e]
  show ByteArray.mk s.data = _
  rw [e2]
theorem str_eq_iff {s t : ByteArray} {x y : List Nat} (hs : Str s x) (ht : Str t y) : (s.toList == t.toList) = decide (x = y) := by
  rw [hs.eq, ht.eq]; exact strOf_eq hs.dig ht.dig
theorem str_ne_iff {s t : ByteArray} {x y : List Nat} (hs : Str s x) (ht : Str t y) : (s.toList != t.toList) = decide (x ≠ y) := by
  unfold bne
  rw [str_eq_iff hs ht]; simp
section
variable {ρ : Operand → Value} {o : Oper} {x y : Operand} {w : World}
theorem ldS {p : Addr} {v : Value} (ho : o.op = .load 33 x) (hx : ρ x = .pointer (some p)) (hc : w.cell? p = some v) : (execOp ρ o).run Tryd.prog w = .ok (.value v) w := by
  simp [execOp, ho, hx, go_sem, hc, Instr.loadAt, Instr.sureAddr]
theorem run_assignO {P : Program} {ρ : Operand → Value} {o : Oper} (x : Operand) (ho : o.op = .assign x) (w : World) : (execOp ρ o).run P w = .ok (.value (ρ x)) w := by
  unfold execOp
  rw [ho]
  rfl
theorem dMove {R : Value → World → Prop} (ho : o.op = .move x) (h : R (ρ x) w) : Does Tryd.prog o ρ w (fun v w' => Below w.heap.size w w' ∧ R v w') :=
  Does.run _ (BigFrame.run_move x ho w) h
theorem dAssign {R : Value → World → Prop} (ho : o.op = .assign x) (h : R (ρ x) w) : Does Tryd.prog o ρ w (fun v w' => Below w.heap.size w w' ∧ R v w') :=
  Does.run _ (run_assignO x ho w) h
end
end Go.Proofs.YtbidoiipebokoaaDoor
set_option linter.unusedVariables false
namespace Go.Proofs.YtbidoiipebokoaaDoor
open Go.RowKit Go.Sort Go.BigFrame
set_option maxRecDepth 100000
set_option maxHeartbeats 2000000
theorem strOf_arr (X : List Nat) : strOf X = ⟨(X.map UInt8.ofNat).toArray⟩ := by
  have h := strOf_data X ByteArray.empty
  have h2 : (strOf X).data.toList = X.map UInt8.ofNat := by unfold strOf; rw [h]; simp
  have h3 : (strOf X).data = (X.map UInt8.ofNat).toArray := by rw [← h2]
  show ByteArray.mk (strOf X).data = _
  rw [h3]
theorem strOf_app (x y : List Nat) : strOf (x ++ y) = strOf x ++ strOf y := by
  rw [strOf_arr, strOf_arr, strOf_arr, List.map_append]
  apply ByteArray.ext
  simp
theorem mem_of_dig {l : List Nat} (h : Dig l) : ∀ x ∈ l, x < 256 := fun x hx => by
  obtain ⟨j, hj, rfl⟩ := List.getElem_of_mem hx
  have := h j
  rwa [show l.getD j 0 = l[j] by simp [hj]] at this
theorem str_strOf {E : List Nat} (hd : Dig E) : Str (strOf E) E := by
  have h := str_of (strOf E)
  have e : (strOf E).data.toList.map UInt8.toNat = E := by
    rw [strOf_arr]
    show (List.map UInt8.toNat ((E.map UInt8.ofNat).toArray).toList) = E
    rw [List.toList_toArray, List.map_map]
    conv => rhs; rw [← List.map_id E]
    apply List.map_congr_left
    intro x hx
    have := mem_of_dig hd x hx
    show (UInt8.ofNat x).toNat = x
    rw [UInt8.toNat_ofNat', Nat.mod_eq_of_lt (by omega)]
  rwa [e] at h
theorem Str.app {s t : ByteArray} {x y : List Nat} (hs : Str s x) (ht : Str t y) : Str (s ++ t) (x ++ y) := by
  rw [hs.eq, ht.eq, ← strOf_app]
  exact str_strOf (hs.dig.app ht.dig)
/-- Are all bytes 0 to 126? -/
def lettersB (bs : List Nat) : Bool := bs.all (fun x => decide (x ≤ 126))
/- digits -/
def digF : Nat → Nat → List Nat
  | 0, _ => []
  | f + 1, n => if n ≤ 9 then [48 + n] else digF f (n / 10) ++ [48 + n % 10]
/-- A number's digits. -/
def digN (n : Nat) : List Nat := digF 20 n
def digT (n : Int) : List Nat := if n < 0 then 45 :: digN (-n).toNat else digN n.toNat
theorem digF_dig : ∀ f n, Dig (digF f n)
  | 0, _ => fun j => by simp [digF]
  | f + 1, n => by
    unfold digF
    split
    · exact dig_lt (fun x hx => by rw [List.mem_singleton.1 hx]; omega)
    · exact (digF_dig f _).app (dig_lt (fun x hx => by rw [List.mem_singleton.1 hx]; omega))
theorem digF_len : ∀ f n, (digF f n).length ≤ f
  | 0, _ => Nat.le_refl _
  | f + 1, n => by
    unfold digF
    split
    · simp
    · rw [List.length_append]; have := digF_len f (n / 10); simp; omega
theorem digN_dig (n : Nat) : Dig (digN n) := digF_dig 20 n
theorem digN_len (n : Nat) : (digN n).length ≤ 20 := digF_len 20 n
/- strings as they are written -/
def hexD (n : Nat) : Nat := if n < 10 then 48 + n else 87 + n
def quoC (c : Nat) : List Nat := if c < 32 then [92, 117, 48, 48, hexD (c / 16), hexD (c % 16)] else if c = 34 ∨ c = 92 then [92, c] else [c]
def quoI : List Nat → List Nat
  | [] => []
  | c :: l => quoC c ++ quoI l
/-- A text as it is written. -/
def quoT (bs : List Nat) : List Nat := 34 :: (quoI bs ++ [34])
theorem quoI_app : ∀ a b, quoI (a ++ b) = quoI a ++ quoI b
  | [], b => rfl
  | x :: a, b => by show quoC x ++ quoI (a ++ b) = quoC x ++ quoI a ++ quoI b; rw [quoI_app a b, List.append_assoc]
theorem quoC_dig {c : Nat} (h : c < 256) : Dig (quoC c) := by
  have : ∀ c < 256, ∀ x ∈ quoC c, x < 256 := by decide
  exact dig_lt (this c h)
theorem quoC_len (c : Nat) : (quoC c).length ≤ 6 := by
  unfold quoC
  split
  · simp
  · split <;> simp
theorem quoI_dig : ∀ {l : List Nat}, Dig l → Dig (quoI l)
  | [], _ => fun j => by simp [quoI]
  | c :: l, h => (quoC_dig h.head).app (quoI_dig h.tail)
theorem quoI_len : ∀ (l : List Nat), (quoI l).length ≤ 6 * l.length
  | [] => Nat.zero_le _
  | c :: l => by
    show (quoC c ++ quoI l).length ≤ _
    rw [List.length_append, List.length_cons]
    have := quoC_len c
    have := quoI_len l
    omega
theorem quoT_dig {l : List Nat} (h : Dig l) : Dig (quoT l) := Dig.app (a := [34]) (dig_lt (by simp)) ((quoI_dig h).app (dig_lt (by simp)))
def hexS : ByteArray := ⟨#[48, 49, 50, 51, 52, 53, 54, 55, 56, 57, 97, 98, 99, 100, 101, 102]⟩
theorem hex_cut {k : Nat} (h : k < 16) : hexS.extract k (k + 1) = strOf [hexD k] := by
  have : ∀ k < 16, hexS.extract k (k + 1) = strOf [hexD k] := by decide
  exact this k h
theorem extract_one {s : ByteArray} {bs : List Nat} (h : Str s bs) {k : Nat} (hk : k < s.size) : s.extract k (k + 1) = strOf [bs.getD k 0] := by
  have e : (s.extract k (k + 1)).data = #[s[k]'hk] := by
    have e1 : (s.extract k (k + 1)).data = s.data.extract k (k + 1) := by simp
    rw [e1]
    have hk2 : k < s.data.size := hk
    apply Array.ext
    · simp; omega
    · intro i h1 h2
      have hi : i = 0 := by simpa using h2
      subst hi
      rw [Array.getElem_extract]
      rfl
  rw [strOf_arr]
  have h2 : UInt8.ofNat (bs.getD k 0) = s[k]'hk := by
    rw [← h.at' k hk]; simp
  show ByteArray.mk (s.extract k (k + 1)).data = _
  rw [e]
  simp only [List.map_cons, List.map_nil, h2]
section
variable {ρ : Operand → Value} {o : Oper} {x y z : Operand} {w : World}
theorem catO {s t : ByteArray} (ho : o.op = .binOp .add 9 x y 9) (hx : ρ x = .string s) (hy : ρ y = .string t) (hl : s.size + t.size ≤ 9223372036854775807) : (execOp ρ o).run Tryd.prog w = .ok (.value (.string (s ++ t))) w := by
  have h : ¬ (s.size + t.size > 9223372036854775807) := by omega
  simp [execOp, ho, hx, hy, go_sem, h]
theorem cutO {s : ByteArray} {a b : Nat} (ho : o.op = .slice 9 x (some y) (some z) none) (hx : ρ x = .string s) (hy : ρ y = .int .i64 (a : Int)) (hz : ρ z = .int .i64 (b : Int)) (h1 : a ≤ b) (h2 : b ≤ s.size) : (execOp ρ o).run Tryd.prog w = .ok (.value (.string (s.extract a b))) w := by
  simp [execOp, ho, hx, hy, hz, go_sem, h1, h2]
theorem cutI {s : ByteArray} {a b : Nat} (h1 : a ≤ b) (h2 : b ≤ s.size) (w : World) : (Instr.slice 9 (.string s) (some (.int .i64 (a : Int))) (some (.int .i64 (b : Int))) none).run Tryd.prog w = .ok (.string (s.extract a b)) w := by
  simp [go_sem, h1, h2]
theorem quoO {n k : Nat} (hk : 0 < k) (hn : n < 9223372036854775808) (ho : o.op = .binOp .quo 3 x y 3) (hx : ρ x = .int .i64 (n : Int)) (hy : ρ y = .int .i64 (k : Int)) : (execOp ρ o).run Tryd.prog w = .ok (.value (.int .i64 ((n / k : Nat) : Int))) w := by
  have h0 : ¬ k = 0 := by omega
  have h1 : n / k ≤ n := Nat.div_le_self _ _
  have h2 : IntKind.i64.wrap ((n : Int) / (k : Int)) = (n : Int) / (k : Int) := by
    rw [show (n : Int) / (k : Int) = ((n / k : Nat) : Int) by simp]
    generalize n / k = q at h1
    rw [IntKind.wrap_i64]; omega
  simp [execOp, ho, hx, hy, go_sem, h0, h2]
theorem remO {n k : Nat} (hk : 0 < k) (hn : n < 9223372036854775808) (ho : o.op = .binOp .rem 3 x y 3) (hx : ρ x = .int .i64 (n : Int)) (hy : ρ y = .int .i64 (k : Int)) : (execOp ρ o).run Tryd.prog w = .ok (.value (.int .i64 ((n % k : Nat) : Int))) w := by
  have h0 : ¬ k = 0 := by omega
  have h1 : n % k ≤ n := Nat.mod_le _ _
  have h2 : IntKind.i64.wrap ((n : Int) % (k : Int)) = (n : Int) % (k : Int) := by
    rw [show (n : Int) % (k : Int) = ((n % k : Nat) : Int) by simp]
    generalize n % k = q at h1
    rw [IntKind.wrap_i64]; omega
  have h3 : (n : Int).tmod (k : Int) = (n : Int) % (k : Int) := Int.tmod_eq_emod_of_nonneg (by omega)
  simp [execOp, ho, hx, hy, go_sem, h0, h3]
theorem addO {n k r : Nat} (hr : n + k = r) (hb : r < 9223372036854775808) (ho : o.op = .binOp .add 3 x y 3) (hx : ρ x = .int .i64 (n : Int)) (hy : ρ y = .int .i64 (k : Int)) : (execOp ρ o).run Tryd.prog w = .ok (.value (.int .i64 (r : Int))) w := by
  have e : (n : Int) + (k : Int) = (r : Int) := by omega
  have e2 : IntKind.i64.wrap (r : Int) = (r : Int) := by rw [IntKind.wrap_i64]; omega
  simp [execOp, ho, hx, hy, go_sem, e, e2]
end
end Go.Proofs.YtbidoiipebokoaaDoor
set_option linter.unusedVariables false
set_option linter.unusedSimpArgs false
namespace Go.Proofs.YtbidoiipebokoaaDoor
def inB (c : Nat) (l : List Nat) : Bool := l.any (fun x => x == c)
def ofB (l some : List Nat) (most : Nat) : Bool := l.all (fun c => inB c some) && (decide (1 ≤ l.length) && decide (l.length ≤ most))
def abK : List Nat := [97, 98, 99, 100, 101, 102, 103, 104, 105, 106, 107, 108, 109, 110, 111, 112, 113, 114, 115, 116, 117, 118, 119, 120, 121, 122]
def abU : List Nat := [65, 66, 67, 68, 69, 70, 71, 72, 73, 74, 75, 76, 77, 78, 79, 80, 81, 82, 83, 84, 85, 86, 87, 88, 89, 90]
def abN : List Nat := [48, 49, 50, 51, 52, 53, 54, 55, 56, 57]
def abD : List Nat := abK ++ abN ++ [46, 45]
def abP : List Nat := abK ++ abU ++ abN ++ [46, 45, 95]
def preI : List Nat := [115, 112, 105, 102, 102, 101, 58, 47, 47]
def preA : List Nat := [47, 97, 103, 101, 110, 116, 47]
def domB (l : List Nat) : Bool := ofB l abD 16 && (!inB (l.getD 0 0) [46, 45] && !inB (l.getD (l.length - 1) 0) [46, 45])
/-- What stands between the strokes. -/
def segs : List Nat → List (List Nat)
  | [] => [[]]
  | c :: l => if c = 47 then [] :: segs l else match segs l with
    | [] => [[c]]
    | w :: ws => (c :: w) :: ws
def segB (w : List Nat) : Bool := ofB w abP 40 && (!(w == [46]) && !(w == [46, 46]))
def pathB (l : List Nat) : Bool := (decide (2 ≤ l.length) && decide (l.length ≤ 40)) && (l.getD 0 0 == 47 && (segs (l.drop 1)).all segB)
def agentB (l : List Nat) : Bool := pathB l && (decide (8 ≤ l.length) && (l.take 7 == preA && !inB 47 (l.drop 7)))
def upTo (c : Nat) (l : List Nat) : List Nat := l.takeWhile (fun x => x != c)
def fromC (c : Nat) (l : List Nat) : List Nat := l.dropWhile (fun x => x != c)
def parseL (l : List Nat) : Option (List Nat × List Nat) :=
  if 9 ≤ l.length ∧ l.take 9 = preI ∧ domB (upTo 47 (l.drop 9)) = true ∧ pathB (fromC 47 (l.drop 9)) = true then some (upTo 47 (l.drop 9), fromC 47 (l.drop 9)) else none
def vis (l : List Nat) : Bool := l.all (fun c => decide (33 ≤ c) && decide (c ≤ 126))
def selB (l : List Nat) : Bool := decide (fromC 58 l ≠ []) && (ofB (upTo 58 l) abK 8 && (vis ((fromC 58 l).drop 1) && (decide (1 ≤ ((fromC 58 l).drop 1).length) && decide (((fromC 58 l).drop 1).length ≤ 16))))
/-- Bytes in their order. -/
def ltN : List Nat → List Nat → Bool
  | _, [] => false
  | [], _ :: _ => true
  | a :: x, b :: y => decide (a < b) || (a == b && ltN x y)
theorem ltN_irr : ∀ a, ltN a a = false
  | [] => rfl
  | a :: x => by simp [ltN, ltN_irr x]
theorem ltN_tr : ∀ {a b c}, ltN a b = true → ltN b c = true → ltN a c = true
  | _, [], _, h, _ => by simp [ltN] at h
  | _, _ :: _, [], _, h => by simp [ltN] at h
  | [], _ :: _, _ :: _, _, _ => rfl
  | a :: x, b :: y, c :: z, h1, h2 => by
    simp only [ltN, Bool.or_eq_true, Bool.and_eq_true, decide_eq_true_eq, beq_iff_eq] at *
    rcases h1 with h1 | ⟨rfl, h1⟩
    · rcases h2 with h2 | ⟨rfl, h2⟩
      · exact .inl (by omega)
      · exact .inl h1
    · rcases h2 with h2 | ⟨rfl, h2⟩
      · exact .inl h2
      · exact .inr ⟨rfl, ltN_tr h1 h2⟩
theorem ltN_tot : ∀ a b, ltN a b = true ∨ a = b ∨ ltN b a = true
  | [], [] => .inr (.inl rfl)
  | [], _ :: _ => .inl rfl
  | _ :: _, [] => .inr (.inr rfl)
  | a :: x, b :: y => by
    simp only [ltN, Bool.or_eq_true, Bool.and_eq_true, decide_eq_true_eq, beq_iff_eq]
    rcases Nat.lt_trichotomy a b with h | h | h
    · exact .inl (.inl h)
    · subst h
      rcases ltN_tot x y with h | h | h
      · exact .inl (.inr ⟨rfl, h⟩)
      · subst h; exact .inr (.inl rfl)
      · exact .inr (.inr (.inr ⟨rfl, h⟩))
    · exact .inr (.inr (.inl h))
theorem ltN_nil (a : List Nat) (h : a ≠ []) : ltN [] a = true := by
  cases a with
  | nil => exact absurd rfl h
  | cons => rfl
theorem ltN_asym {a b : List Nat} (h : ltN a b = true) : ltN b a = false := by
  cases hb : ltN b a with
  | false => rfl
  | true => have := ltN_tr h hb; rw [ltN_irr] at this; cases this
/-- Rising, each once. -/
def Rise (l : List (List Nat)) : Prop := l.Pairwise (fun a b => ltN a b = true)
theorem rise_eq : ∀ {a b : List (List Nat)}, Rise a → Rise b → (∀ x, x ∈ a ↔ x ∈ b) → a = b
  | [], [], _, _, _ => rfl
  | [], y :: b, _, _, h => by have := (h y).2 (by simp); cases this
  | x :: a, [], _, _, h => by have := (h x).1 (by simp); cases this
  | x :: a, y :: b, ha, hb, h => by
    have ha' := List.pairwise_cons.1 ha
    have hb' := List.pairwise_cons.1 hb
    have e : x = y := by
      rcases List.mem_cons.1 ((h x).1 (by simp)) with h1 | h1
      · exact h1
      · rcases List.mem_cons.1 ((h y).2 (by simp)) with h2 | h2
        · exact h2.symm
        · have q1 := ha'.1 y h2
          have q2 := hb'.1 x h1
          rw [ltN_asym q1] at q2; cases q2
    subst e
    rw [rise_eq ha'.2 hb'.2 (fun z => ?_)]
    constructor
    · intro hz
      rcases List.mem_cons.1 ((h z).1 (List.mem_cons_of_mem _ hz)) with h1 | h1
      · subst h1; have := ha'.1 z hz; rw [ltN_irr] at this; cases this
      · exact h1
    · intro hz
      rcases List.mem_cons.1 ((h z).2 (List.mem_cons_of_mem _ hz)) with h1 | h1
      · subst h1; have := hb'.1 z hz; rw [ltN_irr] at this; cases this
      · exact h1
/-- One more, in its place. -/
def insN (x : List Nat) : List (List Nat) → List (List Nat)
  | [] => [x]
  | y :: l => if ltN x y = true then x :: y :: l else if x = y then y :: l else y :: insN x l
def setL (l : List (List Nat)) : List (List Nat) := l.foldr insN []
theorem mem_insN (x z : List Nat) : ∀ l, z ∈ insN x l ↔ z = x ∨ z ∈ l
  | [] => by simp [insN]
  | y :: l => by
    unfold insN
    split
    · simp
    · split
      · rename_i h; subst h; simp
      · simp only [List.mem_cons, mem_insN x z l]
        constructor
        · rintro (h | h | h)
          · exact .inr (.inl h)
          · exact .inl h
          · exact .inr (.inr h)
        · rintro (h | h | h)
          · exact .inr (.inl h)
          · exact .inl h
          · exact .inr (.inr h)
theorem rise_insN (x : List Nat) : ∀ {l}, Rise l → Rise (insN x l)
  | [], _ => List.pairwise_singleton _ _
  | y :: l, h => by
    have h' := List.pairwise_cons.1 h
    unfold insN
    split
    · rename_i hx
      refine List.pairwise_cons.2 ⟨fun z hz => ?_, h⟩
      rcases List.mem_cons.1 hz with e | hz
      · subst e; exact hx
      · exact ltN_tr hx (h'.1 z hz)
    · split
      · exact h
      · rename_i h1 h2
        refine List.pairwise_cons.2 ⟨fun z hz => ?_, rise_insN x h'.2⟩
        rcases (mem_insN x z l).1 hz with e | hz
        · subst e
          rcases ltN_tot z y with h | h | h
          · exact absurd h h1
          · exact absurd h h2
          · exact h
        · exact h'.1 z hz
theorem rise_setL : ∀ l, Rise (setL l)
  | [] => List.Pairwise.nil
  | x :: l => rise_insN x (rise_setL l)
theorem mem_setL (z : List Nat) : ∀ l, z ∈ setL l ↔ z ∈ l
  | [] => by simp [setL]
  | x :: l => by
    show z ∈ insN x (setL l) ↔ _
    rw [mem_insN, mem_setL z l]; simp
theorem setL_of {l out : List (List Nat)} (h : Rise out) (hm : ∀ x, x ∈ out ↔ x ∈ l) : out = setL l := rise_eq h (rise_setL l) (fun x => (hm x).trans (mem_setL x l).symm)
theorem insN_len (x : List Nat) : ∀ l, (insN x l).length ≤ l.length + 1
  | [] => by simp [insN]
  | y :: l => by
    unfold insN
    split
    · simp
    · split
      · simp
      · have := insN_len x l; simp; omega
theorem setL_len : ∀ l, (setL l).length ≤ l.length
  | [] => by simp [setL]
  | x :: l => by
    have h1 := insN_len x (setL l)
    have h2 := setL_len l
    show (insN x (setL l)).length ≤ _
    simp; omega
/-- The set of texts, or what is told in its place. -/
def setR (l : List (List Nat)) : Except Int (List (List Nat)) := if l.all selB = true then (if (setL l).length ≤ 4 then .ok (setL l) else .error 4) else .error 13
/- what stands ahead of a byte -/
theorem segs_none : ∀ {w : List Nat}, 47 ∉ w → segs w = [w]
  | [], _ => rfl
  | c :: w, h => by
    have hc : ¬ c = 47 := fun e => h (by simp [e])
    have hw : 47 ∉ w := fun e => h (by simp [e])
    simp [segs, hc, segs_none hw]
theorem segs_app : ∀ {w : List Nat} (r : List Nat), 47 ∉ w → segs (w ++ 47 :: r) = w :: segs r
  | [], r, _ => by simp [segs]
  | c :: w, r, h => by
    have hc : ¬ c = 47 := fun e => h (by simp [e])
    have hw : 47 ∉ w := fun e => h (by simp [e])
    simp [segs, hc, segs_app r hw]
theorem upTo_app {c : Nat} : ∀ {w : List Nat} (r : List Nat), c ∉ w → upTo c (w ++ c :: r) = w ∧ fromC c (w ++ c :: r) = c :: r
  | [], r, _ => by simp [upTo, fromC]
  | x :: w, r, h => by
    have hc : (x != c) = true := by simp; exact fun e => h (by simp [e])
    have hw : c ∉ w := fun e => h (by simp [e])
    have := upTo_app r hw
    simp only [upTo, fromC] at this
    simp [upTo, fromC, hc, this]
theorem upTo_none {c : Nat} : ∀ {w : List Nat}, c ∉ w → upTo c w = w ∧ fromC c w = []
  | [], _ => by simp [upTo, fromC]
  | x :: w, h => by
    have hc : (x != c) = true := by simp; exact fun e => h (by simp [e])
    have hw : c ∉ w := fun e => h (by simp [e])
    have := upTo_none hw
    simp only [upTo, fromC] at this
    simp [upTo, fromC, hc, this]
theorem inB_iff {c : Nat} {l : List Nat} : inB c l = true ↔ c ∈ l := by
  unfold inB
  simp
end Go.Proofs.YtbidoiipebokoaaDoor
