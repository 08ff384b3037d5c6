/-
  The walk of Seal.
-/
import Derived.Test.YtjnoohhjnnafcaaB
import Derived.StillTail
import Derived.StillTactics
import Derived.Deep.OwnRows
set_option linter.unusedVariables false
namespace Go.Proofs.Ytjnoohhjnnafcaa
open Go.RowKit Go.Sort Go.BigFrame
set_option maxRecDepth 100000
set_option maxHeartbeats 2000000
def cutA (a : Option Addr) (l m : Nat) : Option Addr := if m = l then a else a.map (·.add l)
theorem size5 : ∀ w, (sizeOf 5).run Try.prog w = .ok 1 w := fun _ => by kernel_rfl
theorem elem22 : Try.prog.elem 22 = 5 := by kernel_rfl
theorem run_cut_h (a : Option Addr) (len cap h : Nat) (w : World) (hh : h ≤ cap) : (Instr.sliceAt 22 (.slice a len cap) none (some (.int .i64 (h : Int))) none).run Try.prog w = .ok (.slice (cutA a 0 cap) h cap) w := by
  have hu : Try.prog.underlying 22 = some (.slice (Try.prog.elem 22)) := by rw [elem22]; exact Try.underlying22
  rw [run_sliceAt_slice w 22 _ _ _ _ hu, run_slice_h w 22 a len cap hu .i64 _ (by omega) (by omega), elem22, size5]
  simp [Result.andThen, sliced, cutA]
theorem run_cut_l (a : Option Addr) (len cap l : Nat) (w : World) (hl : l ≤ len) : (Instr.sliceAt 22 (.slice a len cap) (some (.int .i64 (l : Int))) none none).run Try.prog w = .ok (.slice (cutA a l cap) (len - l) (cap - l)) w := by
  have hu : Try.prog.underlying 22 = some (.slice (Try.prog.elem 22)) := by rw [elem22]; exact Try.underlying22
  rw [run_sliceAt_slice w 22 _ _ _ _ hu, run_slice_l w 22 a len cap hu .i64 _ (by omega) (by omega), elem22, size5]
  simp [Result.andThen, sliced, cutA]
theorem sub_getD (bs : List Nat) (a n j : Nat) (h : j < n) : ((bs.drop a).take n).getD j 0 = bs.getD (a + j) 0 := by
  simp [h]
theorem sub_bytes {w : World} {b off : Nat} {bs : List Nat} (h : BytesAt w b off bs) (a n : Nat) (hn : a + n ≤ bs.length) : BytesAt w b (off + a) ((bs.drop a).take n) := by
  intro i hi
  have hi' : i < n := by simp at hi; omega
  rw [sub_getD bs a n i hi', Nat.add_assoc]
  exact h (a + i) (by omega)
theorem View.cut {w : World} {a : Option Addr} {bs : List Nat} (h : View w a bs) (l n cap : Nat) (hn : l + n ≤ bs.length) (hc : bs.length ≤ cap) : View w (cutA a l cap) ((bs.drop l).take n) := fun hp => by
  have hn0 : 0 < n := by simp at hp; omega
  obtain ⟨b, off, rfl, hb⟩ := h (by omega)
  refine ⟨b, off + l, ?_, sub_bytes hb l n hn⟩
  unfold cutA
  rw [if_neg (by omega)]
  simp [Addr.add_mid]
theorem run_lenO {ρ : Operand → Value} {o : Oper} {x : Operand} {a : Option Addr} {len cap : Nat} {w : World} (ho : o.op = .call { callee := .builtin .len, args := #[x], argTypes := #[22] }) (hx : ρ x = .slice a len cap) :
    (execOp ρ o).run Try.prog w = .ok (.value (.int .i64 (len : Int))) w := by
  simp [execOp, ho, resolve, invoke, hx, go_sem]
theorem run_sliceO {ρ : Operand → Value} {t : TypeId} {x : Operand} {lo hi mx : Option Operand} {w : World} {v : Value} {o : Oper}
    (hr : (Instr.sliceAt t (ρ x) (lo.map ρ) (hi.map ρ) (mx.map ρ)).run Try.prog w = .ok v w) (ho : o.op = .slice t x lo hi mx) : (execOp ρ o).run Try.prog w = .ok (.value v) w := by
  unfold execOp
  rw [ho]
  simp only [Sem.run_bind, hr, Result.andThen_ok, Sem.run_pure]
def CopyFrom (w : World) (a : Option Addr) (rest : List Nat) : Prop := 0 < (ints .u8 rest).toList.length → ∃ ad, a = some ad ∧ ∀ j v, (ints .u8 rest).toList[j]? = some v → w.cell? (ad.add j) = some v
theorem copyFrom {w : World} {a : Option Addr} {rest : List Nat} (hv : View w a rest) : CopyFrom w a rest := by
  intro h0
  obtain ⟨b, off, ha, hc⟩ := hv (by simpa [ints] using h0)
  refine ⟨_, ha, fun j v hj => ?_⟩
  have hj' : j < rest.length := by
    by_cases h : j < rest.length
    · exact h
    · rw [ints_list, List.getElem?_eq_none (by simp; omega)] at hj; cases hj
  rw [Addr.add_mid, hc j hj']
  rw [← hj, ints_list]
  simp [hj']
theorem made_ints (n : Nat) : madeCells #[.int .u8 0] n = ints .u8 (List.replicate n 0) := by
  apply Array.ext'
  rw [madeCells]
  apply List.ext_getElem
  · simp [ints]
  · intro i h1 h2
    simp [ints, Nat.mod_one]
theorem ints_u8_one (l : List Nat) : ∀ v ∈ (ints .u8 l).toList, v.oneCell' = true := fun v hv => by rw [ints_list] at hv; obtain ⟨x, _, rfl⟩ := List.mem_map.1 hv; rfl
theorem ints_toList_len (l : List Nat) : (ints .u8 l).toList.length = l.length := by simp [ints]
theorem splice_ints (z rest : List Nat) (o : Nat) : (splice (ints .u8 z).toList o (ints .u8 rest).toList).toArray = ints .u8 (z.take o ++ rest ++ z.drop (o + rest.length)) := by
  simp [splice, ints]
def zero4 : List Nat := [0, 0, 0, 0]
theorem seal12 (a : Option Addr) (len cap : Nat) (bs : List Nat) (w : World) (hlen0 : bs.length = len) (hcap : len ≤ cap) (hcap2 : cap ≤ 9223372036854775807) (hl4 : len ≤ 1000) (hb : ∀ j, bs.getD j 0 < 256) (hv : View w a bs) :
    Calls Try.prog 12 #[.slice a len cap] w fun e w' => ∃ g, e = .returned (.slice (some ⟨g, 0, none⟩) (len + 4) (len + 4)) ∧ w.heap.size ≤ g ∧ Below w.heap.size w w' ∧ w'.heap[g]? = some (.cells (ints .u8 (sealed bs)) 5 (0, 0)) := by
  have hT := fun w1 (h : Below w.heap.size w w1) => tailOf17 a len cap bs w1 hlen0 hcap hcap2 hb (hv.below h)
  have hlen : Hid (bs.length = len) := hlen0
  clear hlen0
  have hmk := fun w1 => run_make_row' (P := Try.prog) 22 5 (.int .u8 0) 1 Try.underlying22 (by kernel_rfl) rfl .i64 .i64 (len + 4) (by omega) (by omega) w1
  have ec : ((len + 4 : Nat) : Int) = (len : Int) + 4 := by omega
  simp only [ec, made_ints] at hmk
  have h1 : (Try.prog.info? 5).map (·.size) = some 1 := by kernel_rfl
  obtain ⟨z, hz⟩ : ∃ z, z = List.replicate (len + 4) 0 := ⟨_, rfl⟩
  rw [← hz] at hmk
  have HZ : Hid (z = List.replicate (len + 4) 0) := hz
  clear hz ec
  have hgn : (w.alloc (.cells (ints .u8 z) 5)).heap[w.heap.size]? = some (.cells (ints .u8 z).toList.toArray 5 (0, 0)) := heap_alloc_new _ _
  have hB2 : Below w.heap.size w (w.alloc (.cells (ints .u8 z) 5)) := below1 _ _
  have hcl : (ints .u8 bs).toList.length = Nat.min len (len + 4) := by rw [ints_toList_len, hlen.out]; show len = min len (len + 4); omega
  have hfit : 0 + (ints .u8 bs).toList.length ≤ (ints .u8 z).toList.length := by rw [ints_toList_len, ints_toList_len, hlen.out, HZ.out]; simp
  have hpos := copyFrom (hv.below hB2)
  go_enter Try.func12, Try.ntmps12
  go_wp2_with (refine wpList_copy_splice rfl (.tmp 9) (.tmp 10) 22 22 rfl 5 Try.underlying22 h1 _ _ _ _ _ _ rfl rfl w.heap.size 0 (ints .u8 z).toList 5 hgn (ints .u8 bs).toList hcl (fun h => ⟨rfl, hpos h⟩) hfit (ints_u8_one _) w.heap.size w hB2 (Nat.le_refl _) ?_; intro w2 hw2 hB3)
  refine (hT w2 hB3).mono ?_
  rintro e w3 ⟨rfl, hb3⟩
  obtain ⟨tv, htv⟩ : ∃ t, t = tail4 (crcOf bs) := ⟨_, rfl⟩
  have HTV : Hid (tv = tail4 (crcOf bs)) := htv
  have htl : tv.length = 4 := by rw [htv]; rfl
  rw [← htv]
  obtain ⟨rv, hrv⟩ : ∃ x, x = ints .u8 tv := ⟨_, rfl⟩
  have hrl : rv.size = 4 := by rw [hrv, ints_size, htl]
  have hr1 : rv.all (·.oneCell') = true := by rw [hrv]; exact ints_one _ _
  have HRV : Hid (rv = ints .u8 tv) := hrv
  rw [← hrv]
  have hw2' := hw2.out
  rw [splice_ints] at hw2'
  have e1 : z.take 0 ++ bs ++ z.drop (0 + bs.length) = bs ++ zero4 := by
    rw [HZ.out, hlen.out]; simp [zero4]
  rw [e1] at hw2'
  have hw3 : w3.heap[w.heap.size]? = some (.cells (ints .u8 (bs ++ zero4)) 5 (0, 0)) := block_below hb3 (lt_of_heap hw2') hw2'
  have hB4 : Below w.heap.size w w3 := hB3.trans (hb3.mono hB3.size)
  have h4 : (Try.prog.info? 34).map (·.size) = some 4 := by kernel_rfl
  have hz4 : (ints .u8 zero4).size = 4 := rfl
  have hgs : w.heap.size < w3.heap.size := lt_of_heap hw3
  have hal : (w3.alloc (.cells (ints .u8 zero4) 34)).heap[w3.heap.size]? = some (.cells (ints .u8 zero4) 34 (0, 0)) := heap_alloc_new _ _
  have HW4 : Hid (Below w.heap.size w ((w3.alloc (.cells (ints .u8 zero4) 34)).setRow w3.heap.size rv) ∧ ((w3.alloc (.cells (ints .u8 zero4) 34)).setRow w3.heap.size rv).heap[w.heap.size]? = some (.cells (ints .u8 (bs ++ zero4)) 5 (0, 0)) ∧ ((w3.alloc (.cells (ints .u8 zero4) 34)).setRow w3.heap.size rv).heap[w3.heap.size]? = some (.cells rv 34 (0, 0))) :=
    ⟨setRow_below (hB4.alloc hB4.size _) hB4.size _, (setRow_other _ _ _ _ (by omega)).trans ((heap_alloc_old _ _ (by omega)).trans hw3), setRow_heap _ _ _ _ _ _ hal⟩
  clear htv hrv hw2 hw2' e1 hmk hT hgn hB2 hcl hfit hpos hB3 hb3 hw3 hB4
  go_wp2_with (refine wpList_store_row rfl 34 (.tmp 4) (.tmp 13) rfl _ rv rfl rfl 34 _ hal (by rw [hrl]; exact h4) (by rw [hrl]; exact hz4) hr1 ?_)
  simp only [Act.put]
  obtain ⟨w4, hw4⟩ : ∃ x, x = (w3.alloc (.cells (ints .u8 zero4) 34)).setRow w3.heap.size rv := ⟨_, rfl⟩
  show Code.wp _ _ _ _ ((w3.alloc (.cells (ints .u8 zero4) 34)).setRow w3.heap.size rv)
  rw [← hw4] at HW4 ⊢
  obtain ⟨hB4, hg4, ht4⟩ := HW4.out
  clear HW4 hw4 hal
  have hgn : w4.drew.heap[w.heap.size]? = some (.cells (ints .u8 (bs ++ zero4)).toList.toArray 5 (0, 0)) := hg4
  have hcl : (ints .u8 tv).toList.length = Nat.min 4 (len + 4 - len) := by rw [ints_toList_len, htl]; show 4 = min 4 (len + 4 - len); omega
  have hfit : len + (ints .u8 tv).toList.length ≤ (ints .u8 (bs ++ zero4)).toList.length := by rw [ints_toList_len, ints_toList_len, htl]; simp [hlen.out, zero4]
  have hpos : CopyFrom w4.drew (some ⟨w3.heap.size, 0, none⟩) tv := copyFrom (fun _ => ⟨w3.heap.size, 0, rfl, by rw [HRV.out] at ht4; exact fun i hi => by rw [Nat.zero_add, cell_of_row w4.drew _ _ _ _ _ ht4]; exact ints_get _ _ i hi⟩)
  have hda : cutA (some ⟨w.heap.size, 0, none⟩) len (len + 4) = some ⟨w.heap.size, len, none⟩ := by unfold cutA; rw [if_neg (by omega)]; simp [Addr.add_mid]
  have hB4' : Below w.heap.size w w4.drew := hB4.drew
  have h34 : ∀ w', (Instr.sliceAt 34 (.pointer (some ⟨w3.heap.size, 0, none⟩)) none none none).run Try.prog w' = .ok (.slice (some ⟨w3.heap.size, 0, none⟩) 4 4) w' := fun _ => by kernel_rfl
  refine wp_region_still_tail 5 (by kernel_rfl) (by kernel_rfl) ?_
  simp only [List.take_succ_cons, List.take_zero, List.drop_succ_cons, List.drop_zero]
  show wpStill _ _ w4.drew (fun a' => wpList _ _ _ _ a' w4.drew) _ _
  refine wpStill_run _ rfl (run_move (.tmp 3) rfl _) ?_
  simp only [Act.put, List.setIfInBounds_toArray, List.set_cons_succ, List.set_cons_zero]
  refine wpStill_run _ rfl (run_move (.tmp 0) rfl _) ?_
  simp only [Act.put, List.setIfInBounds_toArray, List.set_cons_succ, List.set_cons_zero]
  refine wpStill_run (.int .i64 (len : Int)) rfl (run_lenO rfl rfl) ?_
  simp only [Act.put, List.setIfInBounds_toArray, List.set_cons_succ, List.set_cons_zero]
  refine wpStill_run (.slice (cutA (some ⟨w.heap.size, 0, none⟩) len (len + 4)) (len + 4 - len) (len + 4 - len)) rfl ?c1 ?_
  case c1 => exact run_sliceO (run_cut_l (some ⟨w.heap.size, 0, none⟩) (len + 4) (len + 4) len _ (by omega)) rfl
  simp only [Act.put, List.setIfInBounds_toArray, List.set_cons_succ, List.set_cons_zero]
  refine wpStill_run (.slice (some ⟨w3.heap.size, 0, none⟩) 4 4) rfl ?c2 ?_
  case c2 => exact run_sliceO (h34 _) rfl
  simp only [Act.put, List.setIfInBounds_toArray, List.set_cons_succ, List.set_cons_zero]
  refine wpStill_nil ?_
  refine wpList_copy_splice rfl (.tmp 17) (.tmp 18) 22 22 rfl 5 Try.underlying22 h1 _ _ _ _ _ _ rfl rfl w.heap.size len (ints .u8 (bs ++ zero4)).toList 5 hgn (ints .u8 tv).toList hcl (fun h => ⟨hda, hpos h⟩) hfit (ints_u8_one _) w.heap.size w hB4' (Nat.le_refl _) ?_
  intro w5 hw5 hB5
  simp only [Act.put, List.setIfInBounds_toArray, List.set_cons_succ, List.set_cons_zero]
  clear hgn hcl hfit hpos hB4' h34 hda hB4 hg4 ht4
  go_wp2
  go_ret
  refine ⟨w.heap.size, rfl, Nat.le_refl _, hB5, ?_⟩
  have h5 := hw5.out
  rw [splice_ints] at h5
  rw [h5]
  congr 2
  rw [HTV.out, tail4_len]
  unfold sealed
  congr 1
  have e2 : (bs ++ zero4).take len = bs := by rw [← hlen.out]; simp
  have e3 : (bs ++ zero4).drop (len + 4) = [] := by rw [List.drop_of_length_le]; simp [hlen.out, zero4]
  rw [e2, e3, List.append_nil]
end Go.Proofs.Ytjnoohhjnnafcaa
