/-
  The walks of the laws CrcSums and CrcSeals.
-/
import Derived.Test.YtjnoohhjnnafcaaE
set_option linter.unusedVariables false
namespace Go.Proofs.Ytjnoohhjnnafcaa
open Go.RowKit Go.Sort Go.BigFrame
set_option maxRecDepth 100000
set_option maxHeartbeats 2000000
theorem crcSums3 (a : Option Addr) (la ca : Nat) (x : List Nat) (w : World) (hx : x.length = la) (hb : ∀ j, x.getD j 0 < 256) (hca : la ≤ ca) (hcm : ca ≤ 9223372036854775807) (ha : View w a x) :
    Calls Try.prog 3 #[.slice a la ca] w fun e w' => e = .returned (.bool true) ∧ Below w.heap.size w w' := by
  have e1 : (x.take 400).length = min la 400 := by rw [List.length_take, hx]; omega
  have h9 := sum9 a (min la 400) ca (x.take 400) w e1 (by omega) hcm (take_lt _ hb) (ha.take _)
  have h10 := refSum10 a (min la 400) ca (x.take 400) w e1 (by omega) hcm (take_lt _ hb) (ha.take _)
  have hfa := few8 a la ca w hca
  obtain ⟨na, hna⟩ : ∃ n, n = min la 400 := ⟨_, rfl⟩
  rw [← hna] at h9 h10 hfa
  obtain ⟨c, hc⟩ : ∃ c, c = crcOf (x.take 400) := ⟨_, rfl⟩
  rw [← hc] at h9 h10
  clear hna hc e1 hx
  go_enter Try.func3, Try.ntmps3
  go_wp2_with fail
  refine hfa.mono ?_
  rintro e w' ⟨rfl, rfl⟩
  go_wp2_with fail
  refine h9.mono ?_
  rintro e w' ⟨rfl, rfl⟩
  go_wp2_with fail
  refine h10.mono ?_
  rintro e w' ⟨rfl, rfl⟩
  go_wp2_with fail
  refine (lives11 _).mono ?_
  rintro e w' ⟨rfl, hB⟩
  go_wp2
  go_ret
  exact ⟨rfl, hB⟩
theorem str_block {w : World} {g n c : Nat} {l : List Nat} (h : w.heap[g]? = some (.cells (ints .u8 l) 5 (0, 0))) (hl : l.length = n) : (convert 22 9 (.slice (some ⟨g, 0, none⟩) n c)).run Try.prog w = .ok (.string (strOf l)) w :=
  toString_view hl (fun _ => ⟨g, 0, rfl, bytes_row h⟩)
theorem str_nil (w : World) : (convert 22 9 (.slice none 0 0)).run Try.prog w = .ok (.string (strOf [])) w :=
  toString_view (bs := []) rfl (fun h => absurd h (by simp))
theorem str_at {w w' : World} {g n c : Nat} {l : List Nat} (h : BytesAt w g 0 l) (hl : l.length = n) (hn : 0 < n) (hb : Below w.heap.size w w') : (convert 22 9 (.slice (some ⟨g, 0, none⟩) n c)).run Try.prog w' = .ok (.string (strOf l)) w' :=
  toString_view hl (fun _ => ⟨g, 0, rfl, h.below hb (block_lt_of_cell (h 0 (by omega)))⟩)
theorem crcSeals4 (a : Option Addr) (la ca : Nat) (x : List Nat) (w : World) (hx : x.length = la) (hx2 : ∀ j, x.getD j 0 < 256) (hca : la ≤ ca) (hcm : ca ≤ 9223372036854775807) (ha : View w a x) :
    Calls Try.prog 4 #[.slice a la ca] w fun e w' => e = .returned (.bool true) ∧ Below w.heap.size w w' := by
  have e1 : (x.take 400).length = min la 400 := by rw [List.length_take, hx]; omega
  obtain ⟨bs, hbs⟩ : ∃ b, b = x.take 400 := ⟨_, rfl⟩
  have hv : View w a bs := by rw [hbs]; exact ha.take _
  have hb : ∀ j, bs.getD j 0 < 256 := by rw [hbs]; exact take_lt _ hx2
  have hfa := few8 a la ca w hca
  obtain ⟨na, hna⟩ : ∃ n, n = min la 400 := ⟨_, rfl⟩
  have hl : bs.length = na := by rw [hbs, hna]; exact e1
  have hn4 : na ≤ 400 := by omega
  have hnc : na ≤ ca := by omega
  rw [← hna] at hfa
  clear hbs hna e1 hx ha hx2
  have hl' : Hid (bs.length = na) := hl
  clear hl
  go_enter Try.func4, Try.ntmps4
  go_wp2_with fail
  refine hfa.mono ?_
  intro e w' ⟨he, hw'⟩
  subst he
  rw [hw']
  clear hfa hw'
  go_wp2_with fail
  refine (seal12 a na ca bs w hl'.out hnc hcm (by omega) hb hv).mono ?_
  rintro e w1 ⟨g1, rfl, hg1, hb1, ho1⟩
  have hv1 := bytes_row ho1
  go_wp2_with fail
  refine (refSeal13 a na ca bs w1 hl'.out hnc hcm (by omega) hb (hv.below hb1)).mono ?_
  rintro e w2 ⟨g2, c2, rfl, hg2, hb2, ho2⟩
  obtain ⟨hsl, hv2⟩ := own_view ho2
  have hb02 : Below w.heap.size w w2 := hb1.trans (hb2.mono hb1.size)
  have s1 := fun w' (h : Below w2.heap.size w2 w') => str_at (c := na + 4) hv1 hsl (by omega) (hb2.trans (h.mono hb2.size))
  have s2 := fun w' (h : Below w2.heap.size w2 w') => str_at (c := c2) hv2 hsl (by omega) h
  clear ho1 ho2 hv1 hv2 hg1 hg2 hb1 hb2 hsl
  by_cases h4 : na < 4
  · go_wp2_with fail
    refine (open14_short a na ca w2 h4).mono ?_
    intro e w' ⟨he, hw'⟩
    subst he
    rw [hw']
    clear hw'
    go_wp2_with fail
    refine (refOpen15_short a na ca w2 h4).mono ?_
    intro e w' ⟨he, hw'⟩
    subst he
    rw [hw']
    clear hw'
    have t1 := s1 w2 (Below.refl _ _)
    have t2 := s2 w2 (Below.refl _ _)
    have t3 := str_nil w2
    clear s1 s2
    go_wp2_with fail
    refine (lives11 _).mono ?_
    rintro e w5 ⟨rfl, hb5⟩
    go_wp2
    go_ret
    exact ⟨rfl, hb02.trans (hb5.mono hb02.size)⟩
  · go_wp2_with fail
    refine (open14 a na ca bs w2 hl'.out (by omega) hnc hcm (by omega) hb (hv.below hb02)).mono ?_
    rintro e w3 ⟨hb3, hres⟩
    have hb03 : Below w.heap.size w w3 := hb02.trans (hb3.mono hb02.size)
    rcases hres with ⟨hg, rfl⟩ | ⟨hg, g3, rfl, hg3, ho3⟩
    · go_wp2_with fail
      refine (refOpen15 a na ca bs w3 hl'.out (by omega) hnc hcm (by omega) hb (hv.below hb03)).mono ?_
      rintro e w4 ⟨hb4, hres⟩
      have hb04 : Below w.heap.size w w4 := hb03.trans (hb4.mono hb03.size)
      have hb24 : Below w2.heap.size w2 w4 := hb3.trans (hb4.mono hb3.size)
      have t1 := s1 w4 hb24
      have t2 := s2 w4 hb24
      have t3 := str_nil w4
      clear s1 s2
      rcases hres with ⟨_, rfl⟩ | ⟨hg', _⟩
      · clear hb03 hb02 hb3 hb4 hb24
        go_wp2_with fail
        refine (lives11 _).mono ?_
        rintro e w5 ⟨rfl, hb5⟩
        go_wp2
        go_ret
        exact ⟨rfl, hb04.trans (hb5.mono hb04.size)⟩
      · rw [hg] at hg'; cases hg'
    · go_wp2_with fail
      refine (refOpen15 a na ca bs w3 hl'.out (by omega) hnc hcm (by omega) hb (hv.below hb03)).mono ?_
      rintro e w4 ⟨hb4, hres⟩
      have hb04 : Below w.heap.size w w4 := hb03.trans (hb4.mono hb03.size)
      have hb24 : Below w2.heap.size w2 w4 := hb3.trans (hb4.mono hb3.size)
      have t1 := s1 w4 hb24
      have t2 := s2 w4 hb24
      have htl : (bs.take (na - 4)).length = na - 4 := by rw [List.length_take, hl'.out]; omega
      have t3 := str_block (c := na - 4) (block_below hb4 (lt_of_heap ho3) ho3) htl
      have t4 := toString_view (cap := ca) htl ((hv.below hb04).take _)
      clear s1 s2
      rcases hres with ⟨hg', _⟩ | ⟨_, rfl⟩
      · rw [hg] at hg'; cases hg'
      · clear hb03 hb02 hb3 hb4 hb24 htl ho3
        go_wp2_with fail
        refine (lives11 _).mono ?_
        rintro e w5 ⟨rfl, hb5⟩
        go_wp2
        go_ret
        exact ⟨rfl, hb04.trans (hb5.mono hb04.size)⟩
end Go.Proofs.Ytjnoohhjnnafcaa
