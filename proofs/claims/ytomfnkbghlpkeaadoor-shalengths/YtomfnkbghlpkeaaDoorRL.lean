/-
  The walk of the law ShaLengths.
-/
import Derived.Test.YtomfnkbghlpkeaaDoorRT
set_option linter.unusedVariables false
namespace Go.Proofs.YtomfnkbghlpkeaaDoor
open Go.RowKit Go.Sort Go.BigFrame
set_option maxRecDepth 100000
set_option maxHeartbeats 2000000
theorem own_view {w : World} {B n c : Nat} {a : Option Addr} {l : List Nat} (h : w.ownsRow B 5 1 (.slice a n c) n (bv l)) : n ≤ c ∧ c ≤ 9223372036854775807 ∧ View w a l := by
  have h' := h
  rcases h.2 with ⟨h1, h0⟩ | ⟨g, cap, cur, hv, hb, hg, hnc, hcm, _⟩
  · cases h1
    exact ⟨Nat.le_refl _, by omega, fun hp => by have := own_len h'; omega⟩
  · cases hv
    exact ⟨hnc, by unfold maxLen at hcm; omega, view_own h'⟩
theorem shaLengths5 (x y : Int) (w : World) (hx0 : -9223372036854775808 ≤ x) (hx1 : x ≤ 9223372036854775807) (hy0 : 0 ≤ y) (hy1 : y ≤ 255) (ht : Tabs w) :
    Calls Tryd.prog 5 #[.int .i64 x, .int .u8 y] w fun e w' => e = .returned (.bool true) ∧ Below w.heap.size w w' := by
  have h5i : (Tryd.prog.info? 5).map (fun i => (i.zero, i.size, i.bytes)) = some (some (.int .u8 0), 1, 1) := by kernel_rfl
  obtain ⟨i0, hi0, hz0, hz1, hz2⟩ := info_parts h5i
  obtain ⟨yb, rfl⟩ : ∃ yb : Nat, y = (yb : Int) := ⟨y.toNat, by omega⟩
  by_cases hneg : x < 0
  · obtain ⟨N, rfl⟩ : ∃ N : Nat, x = -(N : Int) - 1 := ⟨(-(x + 1)).toNat, by omega⟩
    have hNb : N ≤ 9223372036854775807 := by omega
    have w1 : IntKind.i64.wrap (-(N : Int) - 1 + 1) = -(N : Int) := by simp [IntKind.wrap, IntKind.bits, IntKind.signed]; omega
    have w2 : IntKind.i64.wrap (-(N : Int)) = -(N : Int) := by simp [IntKind.wrap, IntKind.bits, IntKind.signed]; omega
    have w3 : IntKind.i64.wrap ((N : Int)) = (N : Int) := by simp [IntKind.wrap, IntKind.bits, IntKind.signed]; omega
    go_enter Tryd.func5, Tryd.ntmps5
    go_wp2_with fail
    have hk : N % 301 < 301 := Nat.mod_lt _ (by decide)
    obtain ⟨K, hK⟩ : ∃ k, k = N % 301 := ⟨_, rfl⟩
    have hKi : (N : Int) % 301 = (K : Int) := by omega
    rw [← hK] at hk
    have HKI : Hid (K = N % 301) := hK
    clear hK
    go_loopw [6, 5] (fun v6 v5 wr => ∃ i : Nat, i ≤ K ∧ v6 = .int .i64 (i : Int) ∧ Below w.heap.size w wr ∧ ∃ a c, v5 = .slice a i c ∧ wr.ownsRow w.heap.size 5 1 (.slice a i c) i (bv (List.replicate i yb))) (fun i _ _ => K - (intOf i).toNat)
    case atStart => exact ⟨0, by omega, rfl, Below.refl _ _, none, 0, rfl, World.ownsRow_nil _ _ _ _⟩
    case round =>
      obtain ⟨i, hi, rfl, hB, a, c, rfl, hown⟩ := hrel
      by_cases hlt : i < K
      · have hsz := hB.size
        go_wp2_with (at_builtin; refine wpList_append_own _ rfl (.tmp 20) (.tmp 22) 22 rfl w.heap.size 5 i0 (.int .u8 0) 1 1 Tryd.underlying22 hi0 hz0 hz1 hz2 rfl (by decide) _ _ _ rfl (hown.alloc _) ⟨wr.heap.size, 0, none⟩ 1 1 [.int .u8 (yb : Int)] rfl rfl (news_one _ _ _) one_byte (by unfold maxLen; omega) (by omega) (by simp; omega) ?_; intro v' w1 hown' hgrow _; obtain ⟨a', c', rfl⟩ := own_slice hown')
        have hlt1 := hown.lt
        have HE : Hid (bv (List.replicate i yb) ++ [.int .u8 (yb : Int)] = bv (List.replicate (i + 1) yb)) := by
          show bv (List.replicate i yb) ++ [.int .u8 (yb : Int)] = bv (List.replicate (i + 1) yb)
          rw [List.replicate_succ']; simp [bv]
        rw [HE.out] at hown'
        have hBn := (hB.alloc hB.size _).grown hgrow (by simp; omega) (fun k hk => (hlt1 k hk).1)
        clear hown hgrow hB hlt1
        go_roundw
        case rel => first | exact ⟨i + 1, by omega, by go_num, hBn, _, _, rfl, hown'⟩ | ((repeat apply Exists.intro); exact ⟨⟨i + 1, by omega, by go_num, hBn, _, _, rfl, hown'⟩, rfl⟩)
        case measure => simp [intOf]; omega
      · obtain rfl : i = K := by omega
        obtain ⟨hc1, hc2, hv⟩ := own_view hown
        obtain ⟨l, hl⟩ : ∃ l, l = List.replicate i yb := ⟨_, rfl⟩
        rw [← hl] at hv
        have hll : l.length = i := by rw [hl]; simp
        have hlb : ∀ j, l.getD j 0 < 256 := by rw [hl]; exact all_getD (by decide) fun z hz => by rw [List.eq_of_mem_replicate hz]; omega
        have HLL : Hid (l.length = i) := hll
        have htr := ht.below hB
        clear hl hll hown
        have s1 := sum256 a i c l wr HLL.out hlb hc1 hc2 (by omega) hv htr
        go_wp2_with fail
        refine s1.mono ?_
        rintro e w1 ⟨g1, B1, rfl, hb1, hB1, ho1⟩
        go_wp2_with fail
        refine (rsum256 a i c l w1 HLL.out hlb (by omega) (hv.below hb1)).mono ?_
        rintro e w2 ⟨v2, rfl, B2, hB2, hb2, ho2⟩
        obtain ⟨g2, c2, rfl, _, _⟩ := own_formT ho2 (by omega)
        have hl1 : (dig sh32 HS KS l).length = 32 := own_len ho1
        have hs := same9 (some ⟨g1, 0, none⟩) 32 32 (dig sh32 HS KS l) (some ⟨g2, 0, none⟩) 32 c2 (dig sh32 HS KS l) w2 hl1 hl1 ((view_own ho1).below hb2) (view_own ho2)
        rw [show ((strOf (dig sh32 HS KS l)).toList == (strOf (dig sh32 HS KS l)).toList) = true from beq_self_eq_true _] at hs
        have hbx := hb1.trans (hb2.mono hb1.size)
        clear hb1 hb2 ho1 ho2 hl1 hB1 hB2 s1
        go_wp2_with fail
        refine hs.mono ?_
        rintro e w3 ⟨rfl, rfl⟩
        clear hs
        have hv3 := hv.below hbx
        have ht3 := htr.below hbx
        have s2 := sum512 a i c l w3 HLL.out hlb hc1 hc2 (by omega) hv3 ht3
        go_wp2_with fail
        refine s2.mono ?_
        rintro e w4 ⟨g4, B4, rfl, hb4, hB4, ho4⟩
        go_wp2_with fail
        refine (rsum512 a i c l w4 HLL.out hlb (by omega) (hv3.below hb4)).mono ?_
        rintro e w5 ⟨v5, rfl, B5, hB5, hb5, ho5⟩
        obtain ⟨g5, c5, rfl, _, _⟩ := own_formT ho5 (by omega)
        have hl4 : (dig sh64 HS KS l).length = 64 := own_len ho4
        have hs := same9 (some ⟨g4, 0, none⟩) 64 64 (dig sh64 HS KS l) (some ⟨g5, 0, none⟩) 64 c5 (dig sh64 HS KS l) w5 hl4 hl4 ((view_own ho4).below hb5) (view_own ho5)
        rw [show ((strOf (dig sh64 HS KS l)).toList == (strOf (dig sh64 HS KS l)).toList) = true from beq_self_eq_true _] at hs
        have hby := hb4.trans (hb5.mono hb4.size)
        clear hb4 hb5 ho4 ho5 hl4 hB4 hB5 s2
        go_wp2_with fail
        refine hs.mono ?_
        rintro e w6 ⟨rfl, rfl⟩
        clear hs
        have hbz : Below w.heap.size w w6 := (hB.trans (hbx.mono hB.size)).trans (hby.mono (Nat.le_trans hB.size hbx.size))
        go_wp2_with fail
        refine (lives12 _ (ht.below hbz)).mono ?_
        rintro e w7 ⟨rfl, hb7⟩
        go_wp2
        go_ret
        exact ⟨rfl, hbz.trans (hb7.mono hbz.size)⟩
  · obtain ⟨N, rfl⟩ : ∃ N : Nat, x = (N : Int) := ⟨x.toNat, by omega⟩
    go_enter Tryd.func5, Tryd.ntmps5
    go_wp2_with fail
    have hk : N % 301 < 301 := Nat.mod_lt _ (by decide)
    obtain ⟨K, hK⟩ : ∃ k, k = N % 301 := ⟨_, rfl⟩
    have hKi : (N : Int) % 301 = (K : Int) := by omega
    rw [← hK] at hk
    have HKI : Hid (K = N % 301) := hK
    clear hK
    go_loopw [6, 5] (fun v6 v5 wr => ∃ i : Nat, i ≤ K ∧ v6 = .int .i64 (i : Int) ∧ Below w.heap.size w wr ∧ ∃ a c, v5 = .slice a i c ∧ wr.ownsRow w.heap.size 5 1 (.slice a i c) i (bv (List.replicate i yb))) (fun i _ _ => K - (intOf i).toNat)
    case atStart => exact ⟨0, by omega, rfl, Below.refl _ _, none, 0, rfl, World.ownsRow_nil _ _ _ _⟩
    case round =>
      obtain ⟨i, hi, rfl, hB, a, c, rfl, hown⟩ := hrel
      by_cases hlt : i < K
      · have hsz := hB.size
        go_wp2_with (at_builtin; refine wpList_append_own _ rfl (.tmp 20) (.tmp 22) 22 rfl w.heap.size 5 i0 (.int .u8 0) 1 1 Tryd.underlying22 hi0 hz0 hz1 hz2 rfl (by decide) _ _ _ rfl (hown.alloc _) ⟨wr.heap.size, 0, none⟩ 1 1 [.int .u8 (yb : Int)] rfl rfl (news_one _ _ _) one_byte (by unfold maxLen; omega) (by omega) (by simp; omega) ?_; intro v' w1 hown' hgrow _; obtain ⟨a', c', rfl⟩ := own_slice hown')
        have hlt1 := hown.lt
        have HE : Hid (bv (List.replicate i yb) ++ [.int .u8 (yb : Int)] = bv (List.replicate (i + 1) yb)) := by
          show bv (List.replicate i yb) ++ [.int .u8 (yb : Int)] = bv (List.replicate (i + 1) yb)
          rw [List.replicate_succ']; simp [bv]
        rw [HE.out] at hown'
        have hBn := (hB.alloc hB.size _).grown hgrow (by simp; omega) (fun k hk => (hlt1 k hk).1)
        clear hown hgrow hB hlt1
        go_roundw
        case rel => first | exact ⟨i + 1, by omega, by go_num, hBn, _, _, rfl, hown'⟩ | ((repeat apply Exists.intro); exact ⟨⟨i + 1, by omega, by go_num, hBn, _, _, rfl, hown'⟩, rfl⟩)
        case measure => simp [intOf]; omega
      · obtain rfl : i = K := by omega
        obtain ⟨hc1, hc2, hv⟩ := own_view hown
        obtain ⟨l, hl⟩ : ∃ l, l = List.replicate i yb := ⟨_, rfl⟩
        rw [← hl] at hv
        have hll : l.length = i := by rw [hl]; simp
        have hlb : ∀ j, l.getD j 0 < 256 := by rw [hl]; exact all_getD (by decide) fun z hz => by rw [List.eq_of_mem_replicate hz]; omega
        have HLL : Hid (l.length = i) := hll
        have htr := ht.below hB
        clear hl hll hown
        have s1 := sum256 a i c l wr HLL.out hlb hc1 hc2 (by omega) hv htr
        go_wp2_with fail
        refine s1.mono ?_
        rintro e w1 ⟨g1, B1, rfl, hb1, hB1, ho1⟩
        go_wp2_with fail
        refine (rsum256 a i c l w1 HLL.out hlb (by omega) (hv.below hb1)).mono ?_
        rintro e w2 ⟨v2, rfl, B2, hB2, hb2, ho2⟩
        obtain ⟨g2, c2, rfl, _, _⟩ := own_formT ho2 (by omega)
        have hl1 : (dig sh32 HS KS l).length = 32 := own_len ho1
        have hs := same9 (some ⟨g1, 0, none⟩) 32 32 (dig sh32 HS KS l) (some ⟨g2, 0, none⟩) 32 c2 (dig sh32 HS KS l) w2 hl1 hl1 ((view_own ho1).below hb2) (view_own ho2)
        rw [show ((strOf (dig sh32 HS KS l)).toList == (strOf (dig sh32 HS KS l)).toList) = true from beq_self_eq_true _] at hs
        have hbx := hb1.trans (hb2.mono hb1.size)
        clear hb1 hb2 ho1 ho2 hl1 hB1 hB2 s1
        go_wp2_with fail
        refine hs.mono ?_
        rintro e w3 ⟨rfl, rfl⟩
        clear hs
        have hv3 := hv.below hbx
        have ht3 := htr.below hbx
        have s2 := sum512 a i c l w3 HLL.out hlb hc1 hc2 (by omega) hv3 ht3
        go_wp2_with fail
        refine s2.mono ?_
        rintro e w4 ⟨g4, B4, rfl, hb4, hB4, ho4⟩
        go_wp2_with fail
        refine (rsum512 a i c l w4 HLL.out hlb (by omega) (hv3.below hb4)).mono ?_
        rintro e w5 ⟨v5, rfl, B5, hB5, hb5, ho5⟩
        obtain ⟨g5, c5, rfl, _, _⟩ := own_formT ho5 (by omega)
        have hl4 : (dig sh64 HS KS l).length = 64 := own_len ho4
        have hs := same9 (some ⟨g4, 0, none⟩) 64 64 (dig sh64 HS KS l) (some ⟨g5, 0, none⟩) 64 c5 (dig sh64 HS KS l) w5 hl4 hl4 ((view_own ho4).below hb5) (view_own ho5)
        rw [show ((strOf (dig sh64 HS KS l)).toList == (strOf (dig sh64 HS KS l)).toList) = true from beq_self_eq_true _] at hs
        have hby := hb4.trans (hb5.mono hb4.size)
        clear hb4 hb5 ho4 ho5 hl4 hB4 hB5 s2
        go_wp2_with fail
        refine hs.mono ?_
        rintro e w6 ⟨rfl, rfl⟩
        clear hs
        have hbz : Below w.heap.size w w6 := (hB.trans (hbx.mono hB.size)).trans (hby.mono (Nat.le_trans hB.size hbx.size))
        go_wp2_with fail
        refine (lives12 _ (ht.below hbz)).mono ?_
        rintro e w7 ⟨rfl, hb7⟩
        go_wp2
        go_ret
        exact ⟨rfl, hbz.trans (hb7.mono hbz.size)⟩
end Go.Proofs.YtomfnkbghlpkeaaDoor
