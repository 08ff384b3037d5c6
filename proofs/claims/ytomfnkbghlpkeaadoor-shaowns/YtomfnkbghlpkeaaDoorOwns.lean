/-
  The walk of the law ShaOwns.
-/
import Derived.Test.YtomfnkbghlpkeaaDoorEq
set_option linter.unusedVariables false
namespace Go.Proofs.YtomfnkbghlpkeaaDoor
open Go.RowKit Go.Sort Go.BigFrame
set_option maxRecDepth 100000
set_option maxHeartbeats 2000000
theorem own_len {w : World} {g B n : Nat} {xs : List Value} (h : w.ownsRow B 5 1 (.slice (some ⟨g, 0, none⟩) n n) n xs) : xs.length = n := by have := h.1; omega
theorem own_view {w : World} {g B n : Nat} {l : List Nat} (h : w.ownsRow B 5 1 (.slice (some ⟨g, 0, none⟩) n n) n (bv l)) : l.length = n ∧ BytesAt w g 0 l := by
  have hl : l.length = n := by have := own_len h; simpa [bv] using this
  refine ⟨hl, fun i hi => ?_⟩
  rw [Nat.zero_add]
  exact own_cell h i (by omega) _ (by simp [hi])
theorem own_some {w : World} {g B n : Nat} {xs : List Value} (h : w.ownsRow B 5 1 (.slice (some ⟨g, 0, none⟩) n n) n xs) (j : Nat) (hj : j < n) : ∃ v, w.cell? ⟨g, j, none⟩ = some v := by
  rw [h.cellAt j (by omega)]
  exact ⟨xs[j]'(by have := own_len h; omega), List.getElem?_eq_getElem _⟩
theorem shaOwns7 (a : Option Addr) (la ca : Nat) (x : List Nat) (w : World) (hx : x.length = la) (hca : la ≤ ca) (hcm : ca ≤ 9223372036854775807) (hx256 : ∀ j, x.getD j 0 < 256) (ha : View w a x) (ht : Tabs w) :
    Calls Tryd.prog 7 #[.slice a la ca] w fun e w' => e = .returned (.bool true) ∧ Below w.heap.size w w' := by
  have e1 : (x.take 400).length = min la 400 := by rw [List.length_take, hx]; omega
  obtain ⟨bs, hbs⟩ : ∃ b, b = x.take 400 := ⟨_, rfl⟩
  have hv : View w a bs := by rw [hbs]; exact ha.take _
  have hb256 : ∀ j, bs.getD j 0 < 256 := by rw [hbs]; exact take_lt _ _ hx256
  have hfa := few8 a la ca w hca
  obtain ⟨na, hna⟩ : ∃ n, n = min la 400 := ⟨_, rfl⟩
  have hl : bs.length = na := by rw [hbs, hna]; exact e1
  have hn4 : na ≤ 400 := by omega
  have hnc : na ≤ ca := by omega
  rw [← hna] at hfa
  clear hbs hna e1 hx ha hx256
  have hl' : Hid (bs.length = na) := hl
  clear hl
  have hw0 := toString_view (cap := ca) hl'.out hv
  go_enter Tryd.func7, Tryd.ntmps7
  go_wp2_with fail
  refine hfa.mono ?_
  intro e w' ⟨he, hw'⟩
  subst he
  rw [hw']
  clear hfa hw'
  go_wp2_with fail
  refine (sum256 a na ca bs w hl'.out hb256 hnc hcm (by omega) hv ht).mono ?_
  rintro e w1 ⟨g1, B1, rfl, hb1, hB1, ho1⟩
  clear hw0
  go_wp2_with fail
  refine (sum512 a na ca bs w1 hl'.out hb256 hnc hcm (by omega) (hv.below hb1) (ht.below hb1)).mono ?_
  rintro e w2 ⟨g2, B2, rfl, hb2, hB2, ho2⟩
  have hlt1 := own_lt ho1
  have ho1' : w2.ownsRow B1 5 1 (.slice (some ⟨g1, 0, none⟩) 32 32) 32 (bv (dig sh32 HS KS bs)) := by
    refine ho1.kept (row := none) ⟨hb2.os, hb2.tape, hb2.output, hb2.size, fun k hk _ => hb2.block k hk⟩ (.inr (by simp [Value.ownBlock]))
  obtain ⟨l1, v1⟩ := own_view ho1'
  obtain ⟨l2, v2⟩ := own_view ho2
  have s1 := toString_view (w := w2) (a := some ⟨g1, 0, none⟩) (cap := 32) l1 (fun _ => ⟨g1, 0, rfl, v1⟩)
  have s2 := toString_view (w := w2) (a := some ⟨g2, 0, none⟩) (cap := 64) l2 (fun _ => ⟨g2, 0, rfl, v2⟩)
  have hg12 : g1 < B2 := Nat.lt_of_lt_of_le hlt1.2 hB2
  have hB02 : Below w.heap.size w w2 := hb1.trans (hb2.mono hb1.size)
  have hwg1 : w.heap.size ≤ g1 := Nat.le_trans hB1 hlt1.1
  have hwg2 : w.heap.size ≤ g2 := Nat.le_trans (by have := hb1.size; omega) (own_lt ho2).1
  clear l1 l2 v1 v2 ho1 hlt1 hb1 hb2 hB1 hB2
  obtain ⟨st1, hs1⟩ : ∃ s, s = strOf (dig sh32 HS KS bs) := ⟨_, rfl⟩
  obtain ⟨st2, hs2⟩ : ∃ s, s = strOf (dig sh64 HS KS bs) := ⟨_, rfl⟩
  rw [← hs1] at s1
  rw [← hs2] at s2
  have HS1 : Hid (st1 = strOf (dig sh32 HS KS bs)) := hs1
  have HS2 : Hid (st2 = strOf (dig sh64 HS KS bs)) := hs2
  clear hs1 hs2
  go_wp2_with fail
  go_loopw [8] (fun i wr => ∃ k : Nat, k ≤ 32 ∧ i = .int .i64 (k : Int) ∧ Below w.heap.size w wr ∧ (∃ xs, wr.ownsRow B1 5 1 (.slice (some ⟨g1, 0, none⟩) 32 32) 32 xs) ∧ wr.ownsRow B2 5 1 (.slice (some ⟨g2, 0, none⟩) 64 64) 64 (bv (dig sh64 HS KS bs))) (fun i _ => 32 - (intOf i).toNat)
  case atStart => exact ⟨0, by omega, rfl, hB02, ⟨_, ho1'⟩, ho2⟩
  case round =>
    obtain ⟨k, hk, rfl, hBr, ⟨xs, hor⟩, ho2r⟩ := hrel
    clear s1 s2 ho1' ho2 hB02
    by_cases hlt : k < 32
    · obtain ⟨v, hc⟩ := own_some hor k hlt
      have hf := hor.frozenAt k
      have HN : Hid (Below w.heap.size w (wr.setCell ⟨g1, k, none⟩ (.int .u8 7)) ∧ (∃ xs, (wr.setCell ⟨g1, k, none⟩ (.int .u8 7)).ownsRow B1 5 1 (.slice (some ⟨g1, 0, none⟩) 32 32) 32 xs) ∧ (wr.setCell ⟨g1, k, none⟩ (.int .u8 7)).ownsRow B2 5 1 (.slice (some ⟨g2, 0, none⟩) 64 64) 64 (bv (dig sh64 HS KS bs))) :=
        ⟨hBr.setCell hwg1 _, ⟨_, (hor.stored k _).1⟩, ownsRow_setCell_below ho2r hg12 _⟩
      clear hBr hor ho2r
      go_wp2_with fail
      go_roundw
      case rel => exact ⟨k + 1, by omega, by go_num, HN.out.1, HN.out.2.1, HN.out.2.2⟩
      case measure => simp [intOf]; omega
    · obtain rfl : k = 32 := by omega
      clear hor
      go_wp2_with fail
      go_loopw [9] (fun i wr => ∃ k : Nat, k ≤ 64 ∧ i = .int .i64 (k : Int) ∧ Below w.heap.size w wr ∧ (∃ xs, wr.ownsRow B2 5 1 (.slice (some ⟨g2, 0, none⟩) 64 64) 64 xs)) (fun i _ => 64 - (intOf i).toNat)
      case atStart => exact ⟨0, by omega, rfl, hBr, ⟨_, ho2r⟩⟩
      case round =>
        obtain ⟨k, hk, rfl, hBr, ⟨xs, hor⟩⟩ := hrel
        clear ho2r
        by_cases hlt : k < 64
        · obtain ⟨v, hc⟩ := own_some hor k hlt
          have hf := hor.frozenAt k
          have HN : Hid (Below w.heap.size w (wr.setCell ⟨g2, k, none⟩ (.int .u8 7)) ∧ (∃ xs, (wr.setCell ⟨g2, k, none⟩ (.int .u8 7)).ownsRow B2 5 1 (.slice (some ⟨g2, 0, none⟩) 64 64) 64 xs)) :=
            ⟨hBr.setCell hwg2 _, ⟨_, (hor.stored k _).1⟩⟩
          clear hBr hor
          go_wp2_with fail
          go_roundw
          case rel => exact ⟨k + 1, by omega, by go_num, HN.out.1, HN.out.2⟩
          case measure => simp [intOf]; omega
        · obtain rfl : k = 64 := by omega
          clear hor
          go_wp2_with fail
          refine (sum256 a na ca bs wr hl'.out hb256 hnc hcm (by omega) (hv.below hBr) (ht.below hBr)).mono ?_
          rintro e w5 ⟨g5, B5, rfl, hb5, hB5, ho5⟩
          have hB5' : Below w.heap.size w w5 := hBr.trans (hb5.mono hBr.size)
          have s5 := toString_view (w := w5) (a := some ⟨g5, 0, none⟩) (cap := 32) (own_view ho5).1 (fun _ => ⟨g5, 0, rfl, (own_view ho5).2⟩)
          rw [← HS1.out] at s5
          clear hBr hb5 ho5 hB5
          go_wp2_with fail
          refine (sum512 a na ca bs w5 hl'.out hb256 hnc hcm (by omega) (hv.below hB5') (ht.below hB5')).mono ?_
          rintro e w6 ⟨g6, B6, rfl, hb6, hB6, ho6⟩
          have hB6' : Below w.heap.size w w6 := hB5'.trans (hb6.mono hB5'.size)
          have s6 := toString_view (w := w6) (a := some ⟨g6, 0, none⟩) (cap := 64) (own_view ho6).1 (fun _ => ⟨g6, 0, rfl, (own_view ho6).2⟩)
          rw [← HS2.out] at s6
          have s7 := toString_view (cap := ca) hl'.out (hv.below hB6')
          clear hB5' hb6 ho6 hB6 s5
          go_wp2_with fail
          refine (lives12 _ (ht.below hB6')).mono ?_
          rintro e w7 ⟨rfl, hb7⟩
          go_wp2
          go_ret
          exact ⟨rfl, hB6'.trans (hb7.mono hB6'.size)⟩
end Go.Proofs.YtomfnkbghlpkeaaDoor
