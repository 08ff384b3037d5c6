/-
  The walks of few, bytes.Equal, lives and tailOf.
-/
import Derived.Test.YtjnoohhjnnafcaaA
import Derived.Deep.MidRow
import Derived.Lib.Strings
import Derived.Lib.SlBytesConst
import Derived.Laws.CopyOwn
set_option linter.unusedVariables false
namespace Go.Proofs.Ytjnoohhjnnafcaa
open Go.RowKit Go.Sort Go.BigFrame
set_option maxRecDepth 100000
set_option maxHeartbeats 2000000
def strOf (bs : List Nat) : ByteArray := bs.foldl (fun r n => r.push (UInt8.ofNat n)) ByteArray.empty
theorem strOf_fold (bs : List Nat) : (bs.map fun (x : Nat) => (x : Int)).foldl (fun r n => r.push (UInt8.ofNat n.toNat)) ByteArray.empty = strOf bs := by
  unfold strOf
  rw [List.foldl_map]; rfl
theorem strOf_data (bs : List Nat) : ∀ r : ByteArray, (bs.foldl (fun r n => r.push (UInt8.ofNat n)) r).data.toList = r.data.toList ++ bs.map UInt8.ofNat := by
  induction bs with
  | nil => intro r; simp
  | cons b t ih => intro r; rw [List.foldl_cons, ih]; simp [ByteArray.push]
theorem strOf_inj {x y : List Nat} (hx : ∀ j, x.getD j 0 < 256) (hy : ∀ j, y.getD j 0 < 256) (h : strOf x = strOf y) : x = y := by
  have e1 := strOf_data x ByteArray.empty
  have e2 := strOf_data y ByteArray.empty
  have h' : (strOf x).data.toList = (strOf y).data.toList := by rw [h]
  unfold strOf at h'
  rw [e1, e2] at h'
  have h2 : x.map UInt8.ofNat = y.map UInt8.ofNat := by simpa using h'
  have hl : x.length = y.length := by simpa using congrArg List.length h2
  apply List.ext_getElem hl
  intro i h1 h3
  have h4 : (x.map UInt8.ofNat)[i]'(by simpa using h1) = (y.map UInt8.ofNat)[i]'(by simpa using h3) := by simp only [h2]
  simp only [List.getElem_map] at h4
  have a := hx i
  have b := hy i
  simp [h1] at a
  simp [h3] at b
  have := congrArg UInt8.toNat h4
  simp at this
  omega
theorem strOf_eq {x y : List Nat} (hx : ∀ j, x.getD j 0 < 256) (hy : ∀ j, y.getD j 0 < 256) : ((strOf x).toList == (strOf y).toList) = decide (x = y) := by
  rw [Bool.eq_iff_iff, beq_iff_eq, decide_eq_true_eq]
  constructor
  · intro h
    refine strOf_inj hx hy ?_
    rw [Lib.toList_data, Lib.toList_data] at h
    exact WideShapes.bytes_inj h
  · rintro rfl; rfl
theorem loadCells_view {w : World} {b off : Nat} {bs : List Nat} (h : BytesAt w b off bs) : (loadCells ⟨b, off, none⟩ bs.length).run Try.prog w = .ok ((bs.map fun (x : Nat) => (x : Int)).map (Value.int .u8)).toArray w := by
  have := run_loadCells_list (P := Try.prog) w ⟨b, off, none⟩ ((bs.map fun (x : Nat) => (x : Int)).map (Value.int .u8)) (fun j v hv => by
    have hj : j < bs.length := by
      by_cases h : j < bs.length
      · exact h
      · rw [List.getElem?_eq_none (by simp; omega)] at hv; cases hv
    rw [Addr.add_mid, h j hj, ← hv]; simp [hj])
  simpa using this
theorem toString_view {w : World} {a : Option Addr} {len cap : Nat} {bs : List Nat} (hl : bs.length = len) (h : View w a bs) : (convert 22 9 (.slice a len cap)).run Try.prog w = .ok (.string (strOf bs)) w := by
  rw [run_convert_bytes_string w 22 9 5 a len cap Try.underlying22 Try.underlying5 Try.underlying9]
  cases a with
  | none =>
    have : bs = [] := by
      cases bs with
      | nil => rfl
      | cons x r => obtain ⟨b, off, h', _⟩ := h (by simp); cases h'
    subst this; rfl
  | some ad =>
    rw [run_bytesToString w ad len cap (bs.map fun (x : Nat) => (x : Int)) ?_, strOf_fold]
    by_cases hp : 0 < bs.length
    · obtain ⟨b, off, h', hb⟩ := h hp
      cases h'
      rw [← hl]; exact loadCells_view hb
    · have : bs = [] := List.length_eq_zero_iff.1 (by omega)
      subst this; subst hl; rfl
theorem equal18 (a : Option Addr) (la ca : Nat) (x : List Nat) (b : Option Addr) (lb cb : Nat) (y : List Nat) (w : World) (hx : x.length = la) (hy : y.length = lb) (ha : View w a x) (hb : View w b y) (hx2 : ∀ j, x.getD j 0 < 256) (hy2 : ∀ j, y.getD j 0 < 256) :
    Calls Try.prog 18 #[.slice a la ca, .slice b lb cb] w fun e w' => e = .returned (.bool (decide (x = y))) ∧ w' = w := by
  have h1 := toString_view (cap := ca) hx ha
  have h2 := toString_view (cap := cb) hy hb
  have HE : Hid (((strOf x).toList == (strOf y).toList) = decide (x = y)) := strOf_eq hx2 hy2
  clear hx hy
  go_enter Try.func18, Try.ntmps18
  go_wp2
  go_ret
  refine ⟨?_, rfl⟩
  rw [← HE.out]; rfl
theorem few8 (a : Option Addr) (len cap : Nat) (w : World) (hc : len ≤ cap) :
    Calls Try.prog 8 #[.slice a len cap] w fun e w' => e = .returned (.slice a (min len 400) cap) ∧ w' = w := by
  by_cases h : 400 < len
  · rw [show min len 400 = 400 by omega]
    go_enter Try.func8, Try.ntmps8
    go_wp2
    go_ret
    exact ⟨rfl, rfl⟩
  · rw [show min len 400 = len by omega]
    go_enter Try.func8, Try.ntmps8
    go_wp2
    go_ret
    exact ⟨rfl, rfl⟩
def nine : List Nat := [49, 50, 51, 52, 53, 54, 55, 56, 57]
theorem crc_nine : crcOf nine = 3421780262 := by kernel_rfl
theorem nine_lt (j : Nat) : nine.getD j 0 < 256 := by
  by_cases h : j < 9
  · have : j = 0 ∨ j = 1 ∨ j = 2 ∨ j = 3 ∨ j = 4 ∨ j = 5 ∨ j = 6 ∨ j = 7 ∨ j = 8 := by omega
    rcases this with rfl | rfl | rfl | rfl | rfl | rfl | rfl | rfl | rfl <;> decide
  · rw [List.getD_eq_getElem?_getD, List.getElem?_eq_none (by show 9 ≤ j; omega)]; decide
theorem lives11 (w : World) : Calls Try.prog 11 #[] w fun e w' => e = .returned (.bool true) ∧ Below w.heap.size w w' := by
  have hcv : (convert 22 22 (.slice (some ⟨w.heap.size, 0, none⟩) 9 9)).run Try.prog (w.alloc (.cells #[.int .u8 49, .int .u8 50, .int .u8 51, .int .u8 52, .int .u8 53, .int .u8 54, .int .u8 55, .int .u8 56, .int .u8 57] 5)) = .ok (.slice (some ⟨w.heap.size, 0, none⟩) 9 9) (w.alloc (.cells (ints .u8 nine) 5 (9, 10))) := Lib.run_convert_bytes_const (P := Try.prog) w 22 5 (ints .u8 nine) 9 9 Try.underlying22 Try.underlying5
  have hn : BytesAt (w.alloc (.cells (ints .u8 nine) 5 (9, 10))) w.heap.size 0 nine := fun i hi => by
    rw [Nat.zero_add, cell_of_row _ _ _ _ _ _ (heap_alloc_new _ _)]; exact ints_get _ _ i hi
  have hs := sum9 (some ⟨w.heap.size, 0, none⟩) 9 9 nine (w.alloc (.cells (ints .u8 nine) 5 (9, 10))) rfl (by omega) (by omega) nine_lt (fun _ => ⟨_, _, rfl, hn⟩)
  rw [crc_nine] at hs
  clear hn
  go_enter Try.func11, Try.ntmps11
  go_wp2_with fail
  refine hs.mono ?_
  rintro e w' ⟨rfl, rfl⟩
  go_wp2
  go_ret
  exact ⟨rfl, below1 _ _⟩
theorem shr8 (L k : Nat) : (L : Int) / 2 ^ (8 * k) % (256 : Int) = (((L >>> (8 * k)) % 256 : Nat) : Int) := by
  rw [Nat.shiftRight_eq_div_pow]; simp
def zz (c k : Nat) : List Nat := tailN c k ++ List.replicate (4 - k) 0
theorem zz_len (c k : Nat) (h : k ≤ 4) : (zz c k).length = 4 := by simp [zz, tailN_len]; omega
theorem zz_set (c k : Nat) (h : k < 4) : (zz c k).set k (c >>> (8 * k) % 256) = zz c (k + 1) := by
  have : k = 0 ∨ k = 1 ∨ k = 2 ∨ k = 3 := by omega
  rcases this with rfl | rfl | rfl | rfl <;> rfl
theorem heap2_0 (w : World) (a b : Obj) : ((w.alloc a).alloc b).heap[w.heap.size]? = some a := by
  rw [heap_alloc_old _ _ (by rw [size_alloc]; omega), heap_alloc_new]
def RelT (w wr : World) (l : List Nat) : Prop :=
  Below w.heap.size w wr ∧ wr.heap[w.heap.size]? = some (.cells (ints .u8 [0, 0, 0, 0]) 34 (0, 0)) ∧ wr.heap[w.heap.size + 1]? = some (.cells (ints .u8 l) 34 (0, 0))
theorem tailOf17 (a : Option Addr) (len cap : Nat) (bs : List Nat) (w : World) (hlen : bs.length = len) (hcap : len ≤ cap) (hcap2 : cap ≤ 9223372036854775807) (hb : ∀ j, bs.getD j 0 < 256) (hv : View w a bs) :
    Calls Try.prog 17 #[.slice a len cap] w fun e w' => e = .returned (.agg (ints .u8 (tail4 (crcOf bs)))) ∧ Below w.heap.size w w' := by
  have hs := fun w1 (h : Below w.heap.size w w1) => sum9 a len cap bs w1 hlen hcap hcap2 hb (hv.below h)
  obtain ⟨c, hc⟩ : ∃ c, c = crcOf bs := ⟨_, rfl⟩
  have hcl : c < 4294967296 := by rw [hc]; exact crc_lt _
  rw [← hc] at hs ⊢
  clear hc hlen
  have h4 : (Try.prog.info? 34).map (·.size) = some 4 := by kernel_rfl
  go_enter Try.func17, Try.ntmps17
  go_wp2_with fail
  refine (hs _ (below1 _ _)).mono ?_
  intro e w1 ⟨he, hw1⟩
  subst he
  rw [hw1]
  clear hw1 hs
  go_wp2_with fail
  have hR0 : RelT w (((w.alloc (.cells (ints .u8 [0, 0, 0, 0]) 34)).alloc (.cells (ints .u8 [0, 0, 0, 0]) 34))) (zz c 0) :=
    ⟨below2 _ _ _, heap2_0 _ _ _, heap_alloc2_new _ _ _⟩
  go_loopw [8] (fun i wr => ∃ k : Nat, k ≤ 4 ∧ i = .int .i64 k ∧ RelT w wr (zz c k)) (fun i _ => 4 - (intOf i).toNat)
  case atStart => exact ⟨0, by omega, rfl, hR0⟩
  case round =>
    obtain ⟨k, hk, rfl, hR⟩ := hrel
    clear hR0
    by_cases hlt : k < 4
    · obtain ⟨v3, c3⟩ : ∃ v, wr.cell? ⟨w.heap.size + 1, k, none⟩ = some v := ⟨_, cell_ints hR.2.2 k (by rw [zz_len _ _ hk]; omega)⟩
      have f3 := free_ints hR.2.2 k
      have HN : Hid (RelT w (wr.setCell ⟨w.heap.size + 1, k, none⟩ (.int .u8 (((c >>> (8 * k)) % 256 : Nat) : Int))) (zz c (k + 1))) :=
        ⟨hR.1.setCell (Nat.le_succ _) _, (heap_setCell_other _ _ _ _ (by simp)).trans hR.2.1, by rw [← zz_set _ _ hlt]; exact set_ints hR.2.2 _ _⟩
      clear hR
      go_wp2
      go_roundw
      case rel => exact ⟨k + 1, by omega, by go_num, by rw [shr8]; exact HN.out⟩
      case measure => simp [intOf]; omega
    · obtain rfl : k = 4 := by omega
      have e4 : zz c 4 = tail4 c := rfl
      rw [e4] at hR
      obtain ⟨rv, hrv⟩ : ∃ x, x = ints .u8 (tail4 c) := ⟨_, rfl⟩
      have h1 := hR.2.2
      have h0 := hR.2.1
      rw [← hrv] at h1
      have hrl : rv.size = 4 := by rw [hrv]; rfl
      have hr1 : rv.all (·.oneCell') = true := by rw [hrv]; exact ints_one _ _
      have hz : (ints .u8 [0, 0, 0, 0]).size = 4 := rfl
      have HRV : Hid (rv = ints .u8 (tail4 c)) := hrv
      clear e4 hrv
      go_wp2_with (first
        | (refine wpList_load_row rfl 34 (.tmp 4) rfl _ rfl 34 rv (0, 0) _ h1 Try.underlying34 rfl (by rw [hrl]; exact h4) ?_)
        | (refine wpList_store_row rfl 34 (.tmp 2) (.tmp 19) rfl _ rv rfl rfl 34 _ h0 (by rw [hrl]; exact h4) (by rw [hrl]; exact hz) hr1 ?_))
      refine bodyPost_ret (v := .agg rv) ?_ rfl ⟨by rw [HRV.out], setRow_below hR.1 (by omega) _⟩
      exact results_cell_row Try.results17 _ _ _ 34 rv (0, 0) _ rfl (setRow_heap _ _ _ _ _ _ h0) Try.underlying34 rfl (by rw [hrl]; exact h4)
end Go.Proofs.Ytjnoohhjnnafcaa
