/-
  The walk of Open.
-/
import Derived.Test.YtjnoohhjnnafcaaC
set_option linter.unusedVariables false
namespace Go.Proofs.Ytjnoohhjnnafcaa
open Go.RowKit Go.Sort Go.BigFrame
set_option maxRecDepth 100000
set_option maxHeartbeats 2000000
theorem View.take {w : World} {a : Option Addr} {bs : List Nat} (h : View w a bs) (n : Nat) : View w a (bs.take n) := fun hp => by
  obtain ⟨b, off, rfl, hb⟩ := h (by simp at hp; omega)
  refine ⟨b, off, rfl, fun i hi => ?_⟩
  have hi' : i < n ∧ i < bs.length := by simp at hi; omega
  rw [show (bs.take n).getD i 0 = bs.getD i 0 by simp [hi'.1]]
  exact hb i hi'.2
theorem drop_lt {bs : List Nat} (n : Nat) (hb : ∀ j, bs.getD j 0 < 256) (j : Nat) : (bs.drop n).getD j 0 < 256 := by
  have := hb (n + j)
  simpa using this
theorem open14_short (a : Option Addr) (len cap : Nat) (w : World) (h : len < 4) :
    Calls Try.prog 14 #[.slice a len cap] w fun e w' => e = .returned (.tuple #[.slice none 0 0, .int .i64 3]) ∧ w' = w := by
  go_enter Try.func14, Try.ntmps14
  go_wp2
  go_ret2
  exact ⟨rfl, rfl⟩
theorem open14 (a : Option Addr) (len cap : Nat) (bs : List Nat) (w : World) (hlen0 : bs.length = len) (h4l : 4 ≤ len) (hcap : len ≤ cap) (hcap2 : cap ≤ 9223372036854775807) (hl4 : len ≤ 2000) (hb : ∀ j, bs.getD j 0 < 256) (hv : View w a bs) :
    Calls Try.prog 14 #[.slice a len cap] w fun e w' => Below w.heap.size w w' ∧
      ((goodB bs = false ∧ e = .returned (.tuple #[.slice none 0 0, .int .i64 5])) ∨
       (goodB bs = true ∧ ∃ g, e = .returned (.tuple #[.slice (some ⟨g, 0, none⟩) (len - 4) (len - 4), .int .i64 0]) ∧ w.heap.size ≤ g ∧ w'.heap[g]? = some (.cells (ints .u8 (bs.take (len - 4))) 5 (0, 0)))) := by
  obtain ⟨n, hn⟩ : ∃ n, n = len - 4 := ⟨_, rfl⟩
  rw [← hn]
  have hlen : Hid (bs.length = len) := hlen0
  have HN : Hid (n + 4 = len) := by show n + 4 = len; omega
  have hnl : n ≤ len := by omega
  have hI : (len : Int) - 4 = (n : Int) := by omega
  have htl : (bs.take n).length = n := by rw [List.length_take, hlen0]; omega
  have hT := tailOf17 a n cap (bs.take n) w htl (by omega) hcap2 (take_lt n hb) (hv.take n)
  have HG : Hid (goodB bs = decide (bs.drop n = tail4 (crcOf (bs.take n)))) := by
    show goodB bs = _
    unfold goodB
    rw [hlen0, ← hn]
  clear hlen0 hn htl
  have h1 : (Try.prog.info? 5).map (·.size) = some 1 := by kernel_rfl
  have h4 : (Try.prog.info? 34).map (·.size) = some 4 := by kernel_rfl
  have hz4 : (ints .u8 zero4).size = 4 := rfl
  obtain ⟨tv, htv⟩ : ∃ t, t = tail4 (crcOf (bs.take n)) := ⟨_, rfl⟩
  have htl : tv.length = 4 := by rw [htv]; rfl
  have htb : ∀ j, tv.getD j 0 < 256 := by rw [htv]; exact tail4_lt _
  have HTV : Hid (tv = tail4 (crcOf (bs.take n))) := htv
  rw [← htv] at hT HG
  obtain ⟨rv, hrv⟩ : ∃ x, x = ints .u8 tv := ⟨_, rfl⟩
  have hrl : rv.size = 4 := by rw [hrv, ints_size, htl]
  have hr1 : rv.all (·.oneCell') = true := by rw [hrv]; exact ints_one _ _
  have HRV : Hid (rv = ints .u8 tv) := hrv
  rw [← hrv] at hT
  clear htv hrv
  go_enter Try.func14, Try.ntmps14
  go_wp2_with fail
  refine hT.mono ?_
  rintro e w3 ⟨rfl, hB4⟩
  have hal : (w3.alloc (.cells (ints .u8 zero4) 34)).heap[w3.heap.size]? = some (.cells (ints .u8 zero4) 34 (0, 0)) := heap_alloc_new _ _
  have HW4 : Hid (Below w.heap.size w ((w3.alloc (.cells (ints .u8 zero4) 34)).setRow w3.heap.size rv) ∧ ((w3.alloc (.cells (ints .u8 zero4) 34)).setRow w3.heap.size rv).heap[w3.heap.size]? = some (.cells rv 34 (0, 0))) :=
    ⟨setRow_below (hB4.alloc hB4.size _) hB4.size _, setRow_heap _ _ _ _ _ _ hal⟩
  clear hT hB4
  go_wp2_with (refine wpList_store_row rfl 34 (.tmp 5) (.tmp 15) rfl _ rv rfl rfl 34 _ hal (by rw [hrl]; exact h4) (by rw [hrl]; exact hz4) hr1 ?_)
  simp only [Act.put]
  obtain ⟨w4, hw4⟩ : ∃ x, x = (w3.alloc (.cells (ints .u8 zero4) 34)).setRow w3.heap.size rv := ⟨_, rfl⟩
  show Code.wp _ _ _ _ ((w3.alloc (.cells (ints .u8 zero4) 34)).setRow w3.heap.size rv)
  rw [← hw4] at HW4 ⊢
  obtain ⟨hB4, ht4⟩ := HW4.out
  clear HW4 hw4 hal
  have hB4' : Below w.heap.size w w4.drew := hB4.drew
  have hvt : View w4.drew (some ⟨w3.heap.size, 0, none⟩) tv := fun _ => ⟨w3.heap.size, 0, rfl, by rw [HRV.out] at ht4; exact fun i hi => by rw [Nat.zero_add, cell_of_row w4.drew _ _ _ _ _ ht4]; exact ints_get _ _ i hi⟩
  have hdl : (bs.drop n).length = len - n := by rw [List.length_drop, hlen.out]
  have hvd : View w4.drew (cutA a n cap) (bs.drop n) := by
    have := (hv.below hB4').cut n (len - n) cap (by rw [hlen.out]; omega) (by rw [hlen.out]; omega)
    rwa [List.take_of_length_le (by rw [hdl]; omega)] at this
  have hE := equal18 (cutA a n cap) (len - n) (cap - n) (bs.drop n) (some ⟨w3.heap.size, 0, none⟩) 4 4 tv w4.drew hdl htl hvd hvt (drop_lt n hb) htb
  rw [← HG.out] at hE
  clear hvt hvd hdl
  have h34 : ∀ w', (Instr.sliceAt 34 (.pointer (some ⟨w3.heap.size, 0, none⟩)) none none none).run Try.prog w' = .ok (.slice (some ⟨w3.heap.size, 0, none⟩) 4 4) w' := fun _ => by kernel_rfl
  refine wp_region_still_tail 4 (by kernel_rfl) (by kernel_rfl) ?_
  simp only [List.take_succ_cons, List.take_zero, List.drop_succ_cons, List.drop_zero]
  show wpStill _ _ w4.drew (fun a' => wpList _ _ _ _ a' w4.drew) _ _
  refine wpStill_run _ rfl (run_move (.tmp 0) rfl _) ?_
  simp only [Act.put, List.setIfInBounds_toArray, List.set_cons_succ, List.set_cons_zero]
  refine wpStill_run _ rfl (run_move (.tmp 4) rfl _) ?_
  simp only [Act.put, List.setIfInBounds_toArray, List.set_cons_succ, List.set_cons_zero]
  refine wpStill_run (.slice (cutA a n cap) (len - n) (cap - n)) rfl ?c1 ?_
  case c1 => exact run_sliceO (run_cut_l a len cap n _ (by omega)) rfl
  simp only [Act.put, List.setIfInBounds_toArray, List.set_cons_succ, List.set_cons_zero]
  refine wpStill_run (.slice (some ⟨w3.heap.size, 0, none⟩) 4 4) rfl ?c2 ?_
  case c2 => exact run_sliceO (h34 _) rfl
  simp only [Act.put, List.setIfInBounds_toArray, List.set_cons_succ, List.set_cons_zero]
  refine wpStill_nil ?_
  clear h34
  go_wp2_with fail
  refine hE.mono ?_
  intro e w5 ⟨he, hw5⟩
  subst he
  rw [hw5]
  clear hE hw5
  by_cases hg : goodB bs = true
  · rw [hg]
    have hmk := fun w1 => run_make_row' (P := Try.prog) 22 5 (.int .u8 0) 1 Try.underlying22 (by kernel_rfl) rfl .i64 .i64 n (by omega) (by omega) w1
    simp only [made_ints] at hmk
    obtain ⟨z, hz⟩ : ∃ z, z = List.replicate n 0 := ⟨_, rfl⟩
    rw [← hz] at hmk
    have hzl : z.length = n := by rw [hz]; simp
    have hzn : z.drop n = [] := by rw [hz]; simp
    have HZ : Hid (z.length = n ∧ z.drop n = []) := ⟨hzl, hzn⟩
    clear hz hzl hzn
    have hgn : (w4.drew.alloc (.cells (ints .u8 z) 5)).heap[w4.drew.heap.size]? = some (.cells (ints .u8 z).toList.toArray 5 (0, 0)) := heap_alloc_new _ _
    have hB2 : Below w.heap.size w (w4.drew.alloc (.cells (ints .u8 z) 5)) := hB4'.alloc hB4'.size _
    have htn : (bs.take n).length = n := by rw [List.length_take, hlen.out]; omega
    have hcl : (ints .u8 (bs.take n)).toList.length = Nat.min len n := by rw [ints_toList_len, htn]; show n = min len n; omega
    have hfit : 0 + (ints .u8 (bs.take n)).toList.length ≤ (ints .u8 z).toList.length := by rw [ints_toList_len, ints_toList_len, htn, HZ.out.1]; omega
    have hpos := copyFrom ((hv.below hB2).take n)
    have hbg : w.heap.size ≤ w4.drew.heap.size := hB4'.size
    clear htn
    go_wp2_with (refine wpList_copy_splice rfl (.tmp 24) (.tmp 25) 22 22 rfl 5 Try.underlying22 h1 _ _ _ _ _ _ rfl rfl w4.drew.heap.size 0 (ints .u8 z).toList 5 hgn (ints .u8 (bs.take n)).toList hcl (fun h => ⟨rfl, hpos h⟩) hfit (ints_u8_one _) w.heap.size w hB2 hbg ?_; intro w6 hw6 hB6)
    go_ret2
    refine ⟨hB6, .inr ⟨hg, w4.heap.size, rfl, hbg, ?_⟩⟩
    have h5 := hw6.out
    rw [splice_ints] at h5
    refine h5.trans ?_
    rw [List.take_zero, List.nil_append, Nat.zero_add, List.length_take, hlen.out, show min n len = n by omega, HZ.out.2, List.append_nil]
  · have hg' : goodB bs = false := by simpa using hg
    rw [hg']
    clear hg
    go_wp2
    go_ret2
    exact ⟨hB4', .inl ⟨hg', rfl⟩⟩
end Go.Proofs.Ytjnoohhjnnafcaa
