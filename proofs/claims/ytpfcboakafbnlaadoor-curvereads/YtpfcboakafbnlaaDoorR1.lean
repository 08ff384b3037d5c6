/-
  The reference: rows of ints; P, Less.
-/
import Derived.Test.YtpfcboakafbnlaaDoorI
import Derived.Laws.AppendOwn
set_option linter.unusedVariables false
namespace Go.Proofs.YtpfcboakafbnlaaDoor
open Go.RowKit Go.Sort Go.BigFrame
set_option maxRecDepth 100000
set_option maxHeartbeats 2000000
def IntsAt (w : World) (b off : Nat) (l : List Nat) : Prop := ∀ i, i < l.length → w.cell? ⟨b, off + i, none⟩ = some (.int .i64 ((l.getD i 0 : Nat) : Int))
theorem IntsAt.below {w w' : World} {b off B : Nat} {l : List Nat} (h : IntsAt w b off l) (hb : Below B w w') (hlt : b < B) : IntsAt w' b off l :=
  fun i hi => (hb.cell (p := ⟨b, off + i, none⟩) hlt).trans (h i hi)
/-- A slice's address leads to these ints, if there are any. -/
def IView (w : World) (a : Option Addr) (l : List Nat) : Prop := 0 < l.length → ∃ b off, a = some ⟨b, off, none⟩ ∧ IntsAt w b off l
theorem IView.below {w w' : World} {a : Option Addr} {l : List Nat} (h : IView w a l) (hb : Below w.heap.size w w') : IView w' a l := fun hp => by
  obtain ⟨b, off, ha, hc⟩ := h hp
  exact ⟨b, off, ha, hc.below hb (block_lt_of_cell (hc 0 hp))⟩
theorem ints_row {w : World} {g t : Nat} {l : List Nat} (h : w.heap[g]? = some (.cells (ints .i64 l) t (0, 0))) : IntsAt w g 0 l := fun i hi => by
  rw [Nat.zero_add]; exact cell_ints h i hi
/-- A value that is a slice of these ints. -/
def IRow (w : World) (v : Value) (l : List Nat) : Prop := ∃ a cap, v = .slice a l.length cap ∧ l.length ≤ cap ∧ cap ≤ 9223372036854775807 ∧ IView w a l
theorem IRow.below {w w' : World} {v : Value} {l : List Nat} (h : IRow w v l) (hb : Below w.heap.size w w') : IRow w' v l := by
  obtain ⟨a, cap, h1, h2, h3, h4⟩ := h
  exact ⟨a, cap, h1, h2, h3, h4.below hb⟩
theorem irow_of {w : World} {g n t : Nat} {l : List Nat} (h : w.heap[g]? = some (.cells (ints .i64 l) t (0, 0))) (hl : l.length = n) (hn : n ≤ 100000) : IRow w (.slice (some ⟨g, 0, none⟩) n n) l :=
  ⟨_, n, by rw [hl], by omega, by omega, fun _ => ⟨g, 0, rfl, ints_row h⟩⟩
theorem made_i64 (n : Nat) : madeCells #[.int .i64 0] n = ints .i64 (List.replicate n 0) := by
  apply Array.ext'
  rw [madeCells]
  apply List.ext_getElem
  · simp [ints]
  · intro i h1 h2
    simp [ints, Nat.mod_one]
theorem make31 (n : Nat) (hn : n ≤ 100000) (w1 : World) : (Instr.makeSlice 33 (.int .i64 (n : Int)) (.int .i64 (n : Int))).run Tryd.prog w1 = .ok (.slice (some ⟨w1.heap.size, 0, none⟩) n n) (w1.alloc (.cells (ints .i64 (digs n 0)) 3)) := by
  have := run_make_row' (P := Tryd.prog) 33 3 (.int .i64 0) 8 Tryd.underlying33 (by kernel_rfl) rfl .i64 .i64 n (by omega) (by omega) w1
  rw [made_i64, ← digs_zero] at this
  exact this
theorem alloc_row (w : World) (l : List Nat) (t : TypeId) : (w.alloc (.cells (ints .i64 l) t)).heap[w.heap.size]? = some (.cells (ints .i64 l) t (0, 0)) := heap_alloc_new _ _
/-- A row of one's own under work. -/
def RelR (w wr : World) (g : Nat) (l : List Nat) : Prop := Below w.heap.size w wr ∧ w.heap.size ≤ g ∧ wr.heap[g]? = some (.cells (ints .i64 l) 3 (0, 0))
theorem RelR.set {w wr : World} {g : Nat} {l : List Nat} (h : RelR w wr g l) (k v : Nat) : RelR w (wr.setCell ⟨g, k, none⟩ (.int .i64 (v : Int))) g (l.set k v) :=
  ⟨h.1.setCell h.2.1 _, h.2.1, set_ints h.2.2 _ _⟩
theorem RelR.at {w wr : World} {g : Nat} {l : List Nat} (h : RelR w wr g l) (k : Nat) (hk : k < l.length) : wr.cell? ⟨g, k, none⟩ = some (.int .i64 ((l.getD k 0 : Nat) : Int)) := cell_ints h.2.2 k hk
theorem RelR.free {w wr : World} {g : Nat} {l : List Nat} (h : RelR w wr g l) (k : Nat) : wr.frozen? ⟨g, k, none⟩ = false := free_ints h.2.2 k
theorem RelR.drew {w wr : World} {g : Nat} {l : List Nat} (h : RelR w wr g l) : RelR w wr.drew g l := ⟨h.1.drew, h.2.1, h.2.2⟩
/- P -/
def pk (k : Nat) : List Nat := List.replicate k 255 ++ List.replicate (32 - k) 0
theorem pk_len {k : Nat} (h : k ≤ 32) : (pk k).length = 32 := by simp [pk]; omega
theorem pk_set {k : Nat} (h : k < 32) : (pk k).set k 255 = pk (k + 1) := by
  unfold pk
  rw [List.set_append_right _ _ (by simp), show 32 - k = (32 - (k + 1)) + 1 by omega, List.replicate_succ]
  simp [List.replicate_succ', List.append_assoc]
theorem pk_end : ((pk 32).set 0 237).set 31 127 = digs 32 pp := by decide
theorem p12 (w : World) : Calls Tryd.prog 36 #[] w fun e w' => ∃ g, e = .returned (.slice (some ⟨g, 0, none⟩) 32 32) ∧ RelR w w' g (digs 32 pp) := by
  have hmk := make31 32 (by omega)
  simp only [Int.cast_ofNat_Int] at hmk
  go_enter Tryd.func36, Tryd.ntmps36
  go_wp2_with fail
  have hR0 : RelR w (w.alloc (.cells (ints .i64 (digs 32 0)) 3)) w.heap.size (pk 0) := ⟨below1 _ _, Nat.le_refl _, by rw [show pk 0 = digs 32 0 from rfl]; exact alloc_row _ _ _⟩
  go_loopw [2] (fun i wr => ∃ k : Nat, k ≤ 32 ∧ i = .int .i64 k ∧ RelR w wr w.heap.size (pk k)) (fun i _ => 32 - (intOf i).toNat)
  case atStart => exact ⟨0, by omega, rfl, hR0⟩
  case round =>
    obtain ⟨k, hk, rfl, hR⟩ := hrel
    clear hR0 hmk
    by_cases hlt : k < 32
    · have c1 := hR.at k (by rw [pk_len hk]; omega)
      have f1 := hR.free k
      have HN : Hid (RelR w (wr.setCell ⟨w.heap.size, k, none⟩ (.int .i64 255)) w.heap.size (pk (k + 1))) := by
        show RelR _ _ _ _
        rw [← pk_set hlt]; exact hR.set k 255
      clear hR
      go_wp2
      go_roundw
      case rel => exact ⟨k + 1, by omega, by go_num, HN.out⟩
      case measure => simp [intOf]; omega
    · obtain rfl : k = 32 := by omega
      have c0 := hR.at 0 (by rw [pk_len hk]; omega)
      have f0 := hR.free 0
      have hR1 : RelR w (wr.setCell ⟨w.heap.size, 0, none⟩ (.int .i64 237)) w.heap.size ((pk 32).set 0 237) := hR.set 0 237
      have c1 := hR1.at 31 (by decide)
      have f1 := hR1.free 31
      have HR2 : Hid (RelR w ((wr.setCell ⟨w.heap.size, 0, none⟩ (.int .i64 237)).setCell ⟨w.heap.size, 31, none⟩ (.int .i64 127)) w.heap.size (digs 32 pp)) := by
        show RelR _ _ _ _
        rw [← pk_end]; exact hR1.set 31 127
      clear hR hR1
      go_wp2
      go_ret
      exact ⟨w.heap.size, rfl, HR2.out⟩
/- Less -/
theorem less_at {a b : List Nat} {i : Nat} (ha : Dig a) (hb : Dig b) (he : valD (a.drop (i + 1)) = valD (b.drop (i + 1))) (hne : a.getD i 0 ≠ b.getD i 0) : (a.getD i 0 < b.getD i 0) ↔ valD a < valD b := by
  have h1 : ∀ l : List Nat, Dig l → valD l = valD (l.take i) + 256 ^ i * (l.getD i 0 + 256 * valD (l.drop (i + 1))) := fun l hl => by
    by_cases h : i ≤ l.length
    · have := valD_append (l.take i) (l.drop i)
      rw [List.take_append_drop, List.length_take, show min i l.length = i by omega, drop_val l i] at this
      exact this
    · rw [List.take_of_length_le (by omega), List.drop_of_length_le (by omega), List.getD_eq_getElem?_getD, List.getElem?_eq_none (by omega)]; simp [valD]
  have ea := h1 a ha
  have eb := h1 b hb
  have la := valD_take_lt ha i
  have lb := valD_take_lt hb i
  rw [ea, eb, he]
  obtain ⟨q, hq⟩ : ∃ q, q = 256 ^ i := ⟨_, rfl⟩
  obtain ⟨T, hT⟩ : ∃ T, T = 256 * valD (b.drop (i + 1)) := ⟨_, rfl⟩
  rw [← hq, ← hT, Nat.mul_add, Nat.mul_add]
  rw [← hq] at la lb
  obtain ⟨x, hx⟩ : ∃ x, x = a.getD i 0 := ⟨_, rfl⟩
  obtain ⟨y, hy⟩ : ∃ y, y = b.getD i 0 := ⟨_, rfl⟩
  rw [← hx, ← hy] at hne ⊢
  constructor
  · intro h
    have : q * (x + 1) ≤ q * y := Nat.mul_le_mul_left _ h
    rw [Nat.mul_add] at this
    omega
  · intro h
    by_cases hlt : x < y
    · exact hlt
    · have : q * (y + 1) ≤ q * x := Nat.mul_le_mul_left _ (by omega)
      rw [Nat.mul_add] at this
      omega
theorem getD_out {l : List Nat} {i : Nat} (h : l.length ≤ i) : l.getD i 0 = 0 := by rw [List.getD_eq_getElem?_getD, List.getElem?_eq_none h]; rfl
theorem less10 (a : Option Addr) (la ca : Nat) (x : List Nat) (b : Option Addr) (lb cb : Nat) (y : List Nat) (w : World) (hx : Hid (x.length = la)) (hy : Hid (y.length = lb)) (hla : la ≤ 100000) (hlb : lb ≤ 100000)
    (ha : IView w a x) (hb : IView w b y) (dx : Dig x) (dy : Dig y) :
    Calls Tryd.prog 35 #[.slice a la ca, .slice b lb cb] w fun e w' => e = .returned (.bool (decide (valD x < valD y))) ∧ w' = w := by
  go_enter Tryd.func35, Tryd.ntmps35
  go_wp2_with fail
  go_loop [5] (fun i => ∃ j : Nat, j ≤ la + lb + 1 ∧ i = .int .i64 ((j : Int) - 1) ∧ valD (x.drop j) = valD (y.drop j)) (fun i => (intOf i + 1).toNat)
  case atStart => exact ⟨la + lb + 1, Nat.le_refl _, by go_num, by rw [List.drop_of_length_le (by rw [hx.out]; omega), List.drop_of_length_le (by rw [hy.out]; omega)]⟩
  case round =>
    obtain ⟨j, hj, rfl, he⟩ := hrel
    have HE : Hid (valD (x.drop j) = valD (y.drop j)) := he
    clear he
    by_cases hj0 : j = 0
    · subst hj0
      have hf : Hid (decide (valD x < valD y) = false) := by
        have := HE.out
        rw [List.drop_zero, List.drop_zero] at this
        show _ = _
        rw [decide_eq_false_iff_not]; omega
      go_wp2
      go_ret
      exact ⟨ret_bool hf.out.symm, rfl⟩
    · obtain ⟨i, rfl⟩ : ∃ i, j = i + 1 := ⟨j - 1, by omega⟩
      have eI : (((i + 1 : Nat) : Int) - 1) = (i : Int) := by omega
      rw [eI]
      clear eI hj0
      have hxx : Hid (valD (x.drop i) = x.getD i 0 + 256 * valD (x.drop (i + 1))) := drop_val x i
      have hyy : Hid (valD (y.drop i) = y.getD i 0 + 256 * valD (y.drop (i + 1))) := drop_val y i
      have hless : Hid (x.getD i 0 ≠ y.getD i 0 → ((x.getD i 0 < y.getD i 0) ↔ valD x < valD y)) := fun h => less_at dx dy HE.out h
      have hdx := dx i
      have hdy := dy i
      by_cases h1 : i < la
      all_goals by_cases h2 : i < lb
      · obtain ⟨g1, o1, rfl, hc1⟩ := ha (by rw [hx.out]; omega)
        obtain ⟨g2, o2, rfl, hc2⟩ := hb (by rw [hy.out]; omega)
        have k1 := hc1 i (by rw [hx.out]; omega)
        have k2 := hc2 i (by rw [hy.out]; omega)
        obtain ⟨u, hu⟩ : ∃ u, u = x.getD i 0 := ⟨_, rfl⟩
        obtain ⟨v, hv⟩ : ∃ v, v = y.getD i 0 := ⟨_, rfl⟩
        rw [← hu] at k1 hxx hless
        rw [← hv] at k2 hyy hless
        clear hc1 hc2 hu hv hdx hdy
        by_cases huv : u = v
        · subst huv
          go_wp2
          go_round
          case rel => exact ⟨i, by omega, rfl, by rw [hxx.out, hyy.out, HE.out]⟩
          case measure => simp [intOf]
        · have hne : ((u : Int) != (v : Int)) = true := by simp; omega
          go_wp2
          go_ret
          refine ⟨ret_bool (b := decide (valD x < valD y)) ?_, rfl⟩
          have := hless.out huv
          rw [Bool.eq_iff_iff]; simp; omega
      · obtain ⟨g1, o1, rfl, hc1⟩ := ha (by rw [hx.out]; omega)
        have k1 := hc1 i (by rw [hx.out]; omega)
        rw [getD_out (l := y) (by rw [hy.out]; omega)] at hyy hless
        obtain ⟨u, hu⟩ : ∃ u, u = x.getD i 0 := ⟨_, rfl⟩
        rw [← hu] at k1 hxx hless
        clear hc1 hu hdx hdy
        by_cases huv : u = 0
        · subst huv
          go_wp2
          go_round
          case rel => exact ⟨i, by omega, rfl, by rw [hxx.out, hyy.out, HE.out]⟩
          case measure => simp [intOf]
        · have hne : ((u : Int) != 0) = true := by simp; omega
          go_wp2
          go_ret
          refine ⟨ret_bool (b := decide (valD x < valD y)) ?_, rfl⟩
          have := hless.out huv
          rw [Bool.eq_iff_iff]; simp; omega
      · obtain ⟨g2, o2, rfl, hc2⟩ := hb (by rw [hy.out]; omega)
        have k2 := hc2 i (by rw [hy.out]; omega)
        rw [getD_out (l := x) (by rw [hx.out]; omega)] at hxx hless
        obtain ⟨v, hv⟩ : ∃ v, v = y.getD i 0 := ⟨_, rfl⟩
        rw [← hv] at k2 hyy hless
        clear hc2 hv hdx hdy
        by_cases huv : v = 0
        · subst huv
          go_wp2
          go_round
          case rel => exact ⟨i, by omega, rfl, by rw [hxx.out, hyy.out, HE.out]⟩
          case measure => simp [intOf]
        · have hne : ((0 : Int) != (v : Int)) = true := by simp; omega
          go_wp2
          go_ret
          refine ⟨ret_bool (b := decide (valD x < valD y)) ?_, rfl⟩
          have := hless.out (fun h => huv h.symm)
          rw [Bool.eq_iff_iff]; simp; omega
      · rw [getD_out (l := x) (by rw [hx.out]; omega)] at hxx
        rw [getD_out (l := y) (by rw [hy.out]; omega)] at hyy
        go_wp2
        go_round
        case rel => exact ⟨i, by omega, rfl, by rw [hxx.out, hyy.out, HE.out]⟩
        case measure => simp [intOf]
end Go.Proofs.YtpfcboakafbnlaaDoor
