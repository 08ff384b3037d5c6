/-
  Rows of one's own with room behind; bytes.Clone.
-/
import Derived.Test.YtpfcboakafbnlaaDoorN9
set_option linter.unusedVariables false
namespace Go.Proofs.YtpfcboakafbnlaaDoor
open Go.RowKit Go.Sort Go.BigFrame
set_option maxRecDepth 100000
set_option maxHeartbeats 2000000
/-- Bytes in a row of their own, which may have room behind. -/
def OwnC (lo : Nat) (l : List Nat) (v : Value) (w : World) : Prop :=
  ∃ g cap cur, v = .slice (some ⟨g, 0, none⟩) l.length cap ∧ lo ≤ g ∧ w.heap[g]? = some (.cells cur 5 (0, 0)) ∧ l.length ≤ cap ∧ cap ≤ 9223372036854775807 ∧ ∀ i, i < l.length → cur[i]? = some (.int .u8 ((l.getD i 0 : Nat) : Int))
theorem OwnC.stb (lo : Nat) (l : List Nat) : Stb (OwnC lo l) := fun _ _ _ hb ⟨g, c, cur, h1, h2, h3, h4⟩ => ⟨g, c, cur, h1, h2, block_below hb (lt_of_heap h3) h3, h4⟩
theorem bytesAt_cur {w : World} {g : Nat} {cur : Array Value} {t : Nat} {fr : Nat × Nat} {l : List Nat} (h : w.heap[g]? = some (.cells cur t fr)) (hc : ∀ i, i < l.length → cur[i]? = some (.int .u8 ((l.getD i 0 : Nat) : Int))) : BytesAt w g 0 l := fun i hi => by
  rw [Nat.zero_add, cell_of_row w g i _ t _ h]; exact hc i hi
theorem OwnC.bts {lo : Nat} {l : List Nat} {v : Value} {w : World} (h : OwnC lo l v w) : Bts l v w := by
  obtain ⟨g, c, cur, h1, h2, h3, h4, h5, h6⟩ := h
  exact ⟨_, _, h1, h4, h5, fun _ => ⟨g, 0, rfl, bytesAt_cur h3 h6⟩⟩
theorem own_C {w : World} {lo n : Nat} {v : Value} {l : List Nat} (hn : l.length = n) (h0 : 0 < n) (h : w.ownsRow lo 5 1 v n (bv l)) : OwnC lo l v w := by
  obtain ⟨_, h | ⟨g, cap, cur, h1, h2, h3, h4, h5, h6, h7⟩⟩ := h
  · omega
  · subst hn
    refine ⟨g, cap, cur, h1, h2, h3, h4, by unfold maxLen at h5; omega, fun i hi => ?_⟩
    have := congrArg (fun x : List Value => x[i]?) h7
    rw [List.getElem?_take_of_lt (by omega), Array.getElem?_toList] at this
    rw [this]
    simp [bv, hi]
theorem OwnC.lo {lo lo' : Nat} {l : List Nat} {v : Value} {w : World} (h : OwnC lo l v w) (hl : lo' ≤ lo) : OwnC lo' l v w := by
  obtain ⟨g, c, cur, h1, h2, h3⟩ := h
  exact ⟨g, c, cur, h1, by omega, h3⟩
theorem Own.C {lo : Nat} {l : List Nat} {v : Value} {w : World} (h : Own lo l v w) (hl : l.length ≤ 1000) : OwnC lo l v w := by
  obtain ⟨g, h1, h2, h3⟩ := h
  exact ⟨g, _, _, h1, h2, h3, Nat.le_refl _, by omega, fun i hi => ints_get _ _ i hi⟩
/-- A byte is set. -/
theorem cur_set {w : World} {g : Nat} {cur : Array Value} {l : List Nat} (h : w.heap[g]? = some (.cells cur 5 (0, 0))) (hc : ∀ i, i < l.length → cur[i]? = some (.int .u8 ((l.getD i 0 : Nat) : Int))) (k x : Nat) (hk : k < l.length) :
    (w.setCell ⟨g, k, none⟩ (.int .u8 (x : Int))).heap[g]? = some (.cells (cur.setIfInBounds k (.int .u8 (x : Int))) 5 (0, 0)) ∧ ∀ i, i < (l.set k x).length → (cur.setIfInBounds k (.int .u8 (x : Int)))[i]? = some (.int .u8 (((l.set k x).getD i 0 : Nat) : Int)) := by
  refine ⟨heap_setCell_same w g k _ 5 _ h, fun i hi => ?_⟩
  rw [List.length_set] at hi
  have hks : k < cur.size := by
    have := hc k hk
    exact (Array.getElem?_eq_some_iff.1 this).1
  rw [getD_set2 _ _ _ _ hk]
  by_cases e : i = k
  · subst e
    rw [Array.getElem?_setIfInBounds_self_of_lt hks, if_pos rfl]
  · rw [Array.getElem?_setIfInBounds_ne (Ne.symm e), if_neg e]; exact hc i hi
theorem news_view {w : World} {p : Addr} {bs : List Nat} (h : View w (some p) bs) : ∀ (j : Nat) u, (bv bs)[j]? = some u → w.cell? (p.add j) = some u := by
  intro j u hj
  have hj' : j < bs.length := by
    by_cases h : j < bs.length
    · exact h
    · rw [List.getElem?_eq_none (by simp [bv]; omega)] at hj; cases hj
  obtain ⟨b, off, e, hc⟩ := h (by omega)
  injection e with e
  rw [e, Addr.add_mid, hc j hj', ← hj]
  simp [bv, hj']
theorem bv_one {l : List Nat} : ∀ u ∈ bv l, u.oneCell' = true := fun u hu => by
  obtain ⟨x, _, rfl⟩ := List.mem_map.1 hu; rfl
theorem cClone {v : Value} {l : List Nat} (w : World) (h : Bts l v w) (h0 : 0 < l.length) (hl : l.length ≤ 1000) : Ret 29 #[v] w (OwnC w.heap.size l) := by
  obtain ⟨a, cap, rfl, hcap, hcap2, hv⟩ := h
  obtain ⟨i0, hi, hz0, hz1, hz2⟩ := info5
  obtain ⟨gx, off, rfl, hc⟩ := id (hv h0)
  obtain ⟨len, hlen⟩ : ∃ n, n = l.length := ⟨_, rfl⟩
  have HLEN : Hid (l.length = len) := hlen.symm
  rw [← hlen] at hcap h0 hl ⊢
  clear hlen hc
  have hown : (w.alloc (.cells #[] 5)).ownsRow w.heap.size 5 1 (.slice (some ⟨w.heap.size, 0, none⟩) 0 0) 0 [] := ⟨by simp, .inr ⟨w.heap.size, 0, #[], rfl, Nat.le_refl _, heap_alloc_new _ _, Nat.le_refl _, by decide, rfl, rfl⟩⟩
  have hv2 := news_view (hv.below (below1 w (.cells #[] 5)))
  have hm1 : 0 + len ≤ maxLen := by unfold maxLen; omega
  have hm2 : (0 + len) * 1 ≤ 140737488355328 := by omega
  have hbl : (bv l).length = len * 1 := by simp [bv, HLEN.out]
  have hm3 : w.heap.size ≤ (w.alloc (.cells #[] 5)).heap.size := by simp
  have hnil : ∀ w1, (binOp .eql 22 (.slice (some ⟨gx, off, none⟩) len cap) (.slice none 0 0)).run Tryd.prog w1 = .ok (.bool false) w1 := fun w1 => by kernel_rfl
  unfold Ret
  go_enter Tryd.func29, Tryd.ntmps29
  go_wp2_with (at_builtin; refine wpList_append_own _ rfl (.tmp 5) (.tmp 6) 22 rfl w.heap.size 5 i0 (.int .u8 0) 1 1 Tryd.underlying22 hi hz0 hz1 hz2 rfl (by decide) (.slice (some ⟨w.heap.size, 0, none⟩) 0 0) 0 [] rfl hown ⟨gx, off, none⟩ len cap (bv l) rfl hbl hv2 bv_one hm1 hm2 hm3 ?_; intro v2 w2 hown2 hgrow2 _)
  rw [Nat.zero_add, List.nil_append] at hown2
  have hB2 : Below w.heap.size w w2 := ((Below.refl _ _).alloc (Nat.le_refl _) _).grown hgrow2 hm3 (fun j hj => (hown.lt j hj).1)
  have hC := own_C HLEN.out (by omega) hown2
  clear hgrow2 hown2 hv2 hown hm1 hm2 hm3 hbl
  go_wp2
  go_ret
  exact ⟨_, rfl, hB2, hC⟩
end Go.Proofs.YtpfcboakafbnlaaDoor
