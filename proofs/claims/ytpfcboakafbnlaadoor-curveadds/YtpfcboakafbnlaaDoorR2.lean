/-
  The reference: Digits, Bytes.
-/
import Derived.Test.YtpfcboakafbnlaaDoorR1
set_option linter.unusedVariables false
namespace Go.Proofs.YtpfcboakafbnlaaDoor
open Go.RowKit Go.Sort Go.BigFrame
set_option maxRecDepth 100000
set_option maxHeartbeats 2000000
def iv (l : List Nat) : List Value := l.map fun (x : Nat) => Value.int .i64 (x : Int)
def bv (l : List Nat) : List Value := l.map fun (x : Nat) => Value.int .u8 (x : Int)
theorem one_int {n : Int} : ∀ u ∈ [Value.int .i64 n], u.oneCell' = true := fun u hu => by rw [List.mem_singleton.1 hu]; rfl
theorem one_byte {n : Int} : ∀ u ∈ [Value.int .u8 n], u.oneCell' = true := fun u hu => by rw [List.mem_singleton.1 hu]; rfl
theorem own_slice {w : World} {base t n : Nat} {v : Value} {xs : List Value} (h : w.ownsRow base t 1 v n xs) : ∃ a cap, v = .slice a n cap ∧ n ≤ cap ∧ cap ≤ 9223372036854775807 := by
  rcases h.2 with ⟨h1, h0⟩ | ⟨g, cap, cur, hv, _, _, h1, h2, _⟩
  · exact ⟨none, 0, by rw [h1, h0], by omega, by omega⟩
  · exact ⟨_, _, hv, h1, by unfold maxLen at h2; omega⟩
theorem own_iview {w : World} {B n c t : Nat} {a : Option Addr} {l : List Nat} (h : w.ownsRow B t 1 (.slice a n c) n (iv l)) : IView w a l ∧ l.length = n := by
  have hl : l.length = n := by have := h.1; simp [iv] at this; omega
  refine ⟨fun hp => ?_, hl⟩
  rcases h.2 with ⟨h1, h0⟩ | ⟨g, cap, cur, hv, _⟩
  · omega
  · cases hv
    refine ⟨g, 0, rfl, fun i hi => ?_⟩
    rw [Nat.zero_add, h.cellAt i (by omega)]
    simp [iv, hi]
theorem own_bview {w : World} {B n c t : Nat} {a : Option Addr} {l : List Nat} (h : w.ownsRow B t 1 (.slice a n c) n (bv l)) : View w a l ∧ l.length = n := by
  have hl : l.length = n := by have := h.1; simp [bv] at this; omega
  refine ⟨fun hp => ?_, hl⟩
  rcases h.2 with ⟨h1, h0⟩ | ⟨g, cap, cur, hv, _⟩
  · omega
  · cases hv
    refine ⟨g, 0, rfl, fun i hi => ?_⟩
    rw [Nat.zero_add, h.cellAt i (by omega)]
    simp [bv, hi]
theorem own_on {w w1 : World} {B n t : Nat} {v : Value} {xs : List Value} (h : w.ownsRow B t 1 v n xs) (hb : Below w.heap.size w w1) : w1.ownsRow B t 1 v n xs := by
  refine ⟨h.1, ?_⟩
  rcases h.2 with h1 | ⟨g, cap, cur, hv, h2, h3, h4⟩
  · exact .inl h1
  · exact .inr ⟨g, cap, cur, hv, h2, block_below hb (lt_of_heap h3) h3, h4⟩
theorem info_parts {t : TypeId} {z : Value} {s b : Nat} (h : (Tryd.prog.info? t).map (fun i => (i.zero, i.size, i.bytes)) = some (some z, s, b)) : ∃ i0, Tryd.prog.info? t = some i0 ∧ i0.zero = some z ∧ i0.size = s ∧ i0.bytes = b := by
  obtain ⟨i0, hi, hz⟩ := Option.map_eq_some_iff.1 h
  simp only [Prod.mk.injEq] at hz
  exact ⟨i0, hi, hz.1, hz.2.1, hz.2.2⟩
theorem info3 : ∃ i0, Tryd.prog.info? 3 = some i0 ∧ i0.zero = some (.int .i64 0) ∧ i0.size = 1 ∧ i0.bytes = 8 := info_parts (by kernel_rfl)
theorem info5 : ∃ i0, Tryd.prog.info? 5 = some i0 ∧ i0.zero = some (.int .u8 0) ∧ i0.size = 1 ∧ i0.bytes = 1 := info_parts (by kernel_rfl)
theorem news_one (w : World) (v : Value) (t : TypeId) : ∀ (j : Nat) u, [v][j]? = some u → (w.alloc (.cells #[v] t)).cell? ((⟨w.heap.size, 0, none⟩ : Addr).add j) = some u := by
  intro j u hj
  match j, hj with
  | 0, hj =>
    obtain rfl : v = u := by simpa using hj
    rw [Addr.add_mid, cell_of_row _ _ _ _ _ _ (heap_alloc_new _ _)]; rfl
theorem iv_snoc (l : List Nat) (x : Nat) : iv l ++ [.int .i64 (x : Int)] = iv (l ++ [x]) := by simp [iv]
theorem bv_snoc (l : List Nat) (x : Nat) : bv l ++ [.int .u8 (x : Int)] = bv (l ++ [x]) := by simp [bv]
theorem digits11 (a : Option Addr) (len cap : Nat) (bs : List Nat) (w : World) (hlen : Hid (bs.length = len)) (hcap : len ≤ cap) (hl : len ≤ 10000) (hd : Dig bs) (hv : View w a bs) :
    Calls Tryd.prog 28 #[.slice a len cap] w fun e w' => ∃ v, e = .returned v ∧ Below w.heap.size w w' ∧ w'.ownsRow w.heap.size 3 1 v len (iv bs) := by
  obtain ⟨i0, hi, hz0, hz1, hz2⟩ := info3
  go_enter Tryd.func28, Tryd.ntmps28
  go_wp2_with fail
  go_loopw [3, 4] (fun v i wr => ∃ k : Nat, k ≤ len ∧ i = .int .i64 k ∧ Below w.heap.size w wr ∧ wr.ownsRow w.heap.size 3 1 v k (iv (bs.take k))) (fun _ i _ => len - (intOf i).toNat)
  case atStart => exact ⟨0, by omega, rfl, Below.refl _ _, World.ownsRow_nil _ _ _ _⟩
  case round =>
    obtain ⟨k, hk, rfl, hB, hown⟩ := hrel
    by_cases hlt : k < len
    · obtain ⟨g, off, rfl, hc⟩ := hv (by rw [hlen.out]; omega)
      have hck0 := hc k (by rw [hlen.out]; omega)
      have hgx := block_lt_of_cell hck0
      have hck := (hB.cell (p := ⟨g, off + k, none⟩) hgx).trans hck0
      obtain ⟨c, hcc⟩ : ∃ c, c = bs.getD k 0 := ⟨_, rfl⟩
      rw [← hcc] at hck
      have hcl : c < 256 := by rw [hcc]; exact hd k
      have HT : Hid (bs.take (k + 1) = bs.take k ++ [c]) := by show _ = _; rw [hcc]; exact take_succ' bs k (by rw [hlen.out]; omega)
      clear hck0 hc hcc
      have hown' := hown.alloc (.cells #[.int .i64 (c : Int)] 3)
      have hm1 : k + 1 ≤ maxLen := by unfold maxLen; omega
      have hm2 : (k + 1) * 8 ≤ 140737488355328 := by omega
      have hm3 : w.heap.size ≤ (wr.alloc (.cells #[.int .i64 (c : Int)] 3)).heap.size := by have := hB.size; simp; omega
      go_wp2_with (at_builtin; refine wpList_append_own _ rfl (.tmp 11) (.tmp 17) 33 rfl w.heap.size 3 i0 (.int .i64 0) 1 8 Tryd.underlying33 hi hz0 hz1 hz2 rfl (by decide) u3 k (iv (bs.take k)) rfl hown' ⟨wr.heap.size, 0, none⟩ 1 1 [.int .i64 (c : Int)] rfl rfl (news_one _ _ _) one_int hm1 hm2 hm3 ?_; intro v2 w2 hown2 hgrow2 _)
      have hB2 : Below w.heap.size w w2 := (hB.alloc hB.size _).grown hgrow2 hm3 (fun j hj => (hown.lt j hj).1)
      rw [iv_snoc, ← HT.out] at hown2
      go_roundw
      case rel => first | exact ⟨k + 1, by omega, by go_num, hB2, hown2⟩ | ((repeat apply Exists.intro); exact ⟨⟨k + 1, by omega, by go_num, hB2, hown2⟩, rfl⟩)
      case measure => simp [intOf]; omega
    · obtain rfl : k = len := by omega
      have HT : Hid (bs.take k = bs) := List.take_of_length_le (by rw [hlen.out]; exact Nat.le_refl _)
      rw [HT.out] at hown
      obtain ⟨a3, c3, rfl, _⟩ := own_slice hown
      go_wp2_with fail
      go_ret
      exact ⟨_, rfl, hB, hown⟩
theorem digs_snoc (n v : Nat) : digs n v ++ [v / 256 ^ n % 256] = digs (n + 1) v := by
  have := digs_app n 1 v
  rw [← this]; simp [digs]
/-- Bytes of an int row: always 32. -/
theorem bytes31 (a : Option Addr) (len cap : Nat) (l : List Nat) (w : World) (hlen : Hid (l.length = len)) (hl : len ≤ 10000) (hd : Dig l) (hv : IView w a l) :
    Calls Tryd.prog 21 #[.slice a len cap] w fun e w' => ∃ v, e = .returned v ∧ Below w.heap.size w w' ∧ w'.ownsRow w.heap.size 5 1 v 32 (bv (digs 32 (valD l))) := by
  obtain ⟨i0, hi, hz0, hz1, hz2⟩ := info5
  go_enter Tryd.func21, Tryd.ntmps21
  go_wp2_with fail
  go_loopw [3, 4] (fun v i wr => ∃ k : Nat, k ≤ 32 ∧ i = .int .i64 k ∧ Below w.heap.size w wr ∧ wr.ownsRow w.heap.size 5 1 v k (bv (digs k (valD l)))) (fun _ i _ => 32 - (intOf i).toNat)
  case atStart => exact ⟨0, by omega, rfl, Below.refl _ _, World.ownsRow_nil _ _ _ _⟩
  case round =>
    obtain ⟨k, hk, rfl, hB, hown⟩ := hrel
    by_cases hlt : k < 32
    · obtain ⟨c, hcc⟩ : ∃ c, c = l.getD k 0 := ⟨_, rfl⟩
      have hcl : c < 256 := by rw [hcc]; exact hd k
      have HT : Hid (digs (k + 1) (valD l) = digs k (valD l) ++ [c]) := by
        show _ = _
        rw [← digs_snoc]
        congr 2
        rw [hcc]
        by_cases h : k < l.length
        · have := digs_get l.length (valD l) k h
          rw [digs_valD hd] at this
          exact this.symm
        · rw [getD_out (by omega), Nat.div_eq_of_lt (Nat.lt_of_lt_of_le (valD_lt hd) (Nat.pow_le_pow_right (by decide) (by omega)))]
      have hown' := hown.alloc (.cells #[.int .u8 (c : Int)] 5)
      have hm1 : k + 1 ≤ maxLen := by unfold maxLen; omega
      have hm2 : (k + 1) * 1 ≤ 140737488355328 := by omega
      have hm3 : w.heap.size ≤ (wr.alloc (.cells #[.int .u8 (c : Int)] 5)).heap.size := by have := hB.size; simp; omega
      by_cases h2 : k < len
      · obtain ⟨g, off, rfl, hc⟩ := hv (by rw [hlen.out]; omega)
        have hck0 := hc k (by rw [hlen.out]; omega)
        have hgx := block_lt_of_cell hck0
        have hck := (hB.cell (p := ⟨g, off + k, none⟩) hgx).trans hck0
        rw [← hcc] at hck
        clear hck0 hc hcc
        go_wp2_with (at_builtin; refine wpList_append_own _ rfl (.tmp 18) (.tmp 21) 22 rfl w.heap.size 5 i0 (.int .u8 0) 1 1 Tryd.underlying22 hi hz0 hz1 hz2 rfl (by decide) u3 k _ rfl hown' ⟨wr.heap.size, 0, none⟩ 1 1 [.int .u8 (c : Int)] rfl rfl (news_one _ _ _) one_byte hm1 hm2 hm3 ?_; intro v2 w2 hown2 hgrow2 _)
        have hB2 : Below w.heap.size w w2 := (hB.alloc hB.size _).grown hgrow2 hm3 (fun j hj => (hown.lt j hj).1)
        rw [bv_snoc, ← HT.out] at hown2
        go_roundw
        case rel => first | exact ⟨k + 1, by omega, by go_num, hB2, hown2⟩ | ((repeat apply Exists.intro); exact ⟨⟨k + 1, by omega, by go_num, hB2, hown2⟩, rfl⟩)
        case measure => simp [intOf]; omega
      · obtain rfl : c = 0 := by rw [hcc]; exact getD_out (by rw [hlen.out]; omega)
        clear hcc
        simp only [Int.natCast_zero] at hown' hm3
        go_wp2_with (at_builtin; refine wpList_append_own _ rfl (.tmp 18) (.tmp 21) 22 rfl w.heap.size 5 i0 (.int .u8 0) 1 1 Tryd.underlying22 hi hz0 hz1 hz2 rfl (by decide) u3 k _ rfl hown' ⟨wr.heap.size, 0, none⟩ 1 1 [.int .u8 0] rfl rfl (news_one _ _ _) one_byte hm1 hm2 hm3 ?_; intro v2 w2 hown2 hgrow2 _)
        have hB2 : Below w.heap.size w w2 := (hB.alloc hB.size _).grown hgrow2 hm3 (fun j hj => (hown.lt j hj).1)
        have e0 := bv_snoc (digs k (valD l)) 0
        rw [← HT.out] at e0
        have hown3 : w2.ownsRow w.heap.size 5 1 v2 (k + 1) (bv (digs (k + 1) (valD l))) := by rw [← e0]; exact hown2
        go_roundw
        case rel => first | exact ⟨k + 1, by omega, by go_num, hB2, hown3⟩ | ((repeat apply Exists.intro); exact ⟨⟨k + 1, by omega, by go_num, hB2, hown3⟩, rfl⟩)
        case measure => simp [intOf]; omega
    · obtain rfl : k = 32 := by omega
      obtain ⟨a3, c3, rfl, _⟩ := own_slice hown
      go_wp2_with fail
      go_ret
      exact ⟨_, rfl, hB, hown⟩
end Go.Proofs.YtpfcboakafbnlaaDoor
