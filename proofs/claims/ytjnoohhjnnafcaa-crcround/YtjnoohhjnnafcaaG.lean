/-
  The walks of the laws CrcRound, CrcOwns and CrcTwo.
-/
import Derived.Test.YtjnoohhjnnafcaaF
set_option linter.unusedVariables false
namespace Go.Proofs.Ytjnoohhjnnafcaa
open Go.RowKit Go.Sort Go.BigFrame
set_option maxRecDepth 100000
set_option maxHeartbeats 2000000
theorem run_eqlStrO {ρ : Operand → Value} {x y : Operand} {w : World} {s t : ByteArray} {o : Oper} (ho : o.op = .binOp .eql 9 x y 9) (hx : ρ x = .string s) (hy : ρ y = .string t) : (execOp ρ o).run Try.prog w = .ok (.value (.bool (s.toList == t.toList))) w := by
  simp [execOp, ho, hx, hy, go_sem]
theorem xor_u8_lt {a b : Nat} (ha : a < 256) (hb : b < 256) : a ^^^ b < 256 := Nat.xor_lt_two_pow (n := 8) ha hb
theorem crcRound5_pos (a : Option Addr) (la ca : Nat) (x : List Nat) (A by_ : Nat) (w : World) (hx : x.length = la) (hx2 : ∀ j, x.getD j 0 < 256) (hca : la ≤ ca) (hcm : ca ≤ 9223372036854775807) (ha : View w a x) (hA : A ≤ 9223372036854775807) (hby : by_ < 256) :
    Calls Try.prog 5 #[.slice a la ca, .int .i64 ((A : Int)), .int .u8 (by_ : Int)] w fun e w' => e = .returned (.bool true) ∧ Below w.heap.size w w' := by
  have e1 : (x.take 400).length = min la 400 := by rw [List.length_take, hx]; omega
  obtain ⟨bs, hbs⟩ : ∃ b, b = x.take 400 := ⟨_, rfl⟩
  have hv : View w a bs := by rw [hbs]; exact ha.take _
  have hb : ∀ j, bs.getD j 0 < 256 := by rw [hbs]; exact take_lt _ hx2
  have hfa := few8 a la ca w hca
  obtain ⟨na, hna⟩ : ∃ n, n = min la 400 := ⟨_, rfl⟩
  have hl : bs.length = na := by rw [hbs, hna]; exact e1
  have hn4 : na ≤ 400 := by omega
  have hnc : na ≤ ca := by omega
  rw [← hna] at hfa
  clear hbs hna e1 hx ha hx2
  have hl' : Hid (bs.length = na) := hl
  clear hl
  go_enter Try.func5, Try.ntmps5
  go_wp2_with fail
  refine hfa.mono ?_
  intro e w' ⟨he, hw'⟩
  subst he
  rw [hw']
  clear hfa hw'
  go_wp2_with fail
  refine (seal12 a na ca bs w hl'.out hnc hcm (by omega) hb hv).mono ?_
  rintro e w1 ⟨g1, rfl, hg1, hb1, ho1⟩
  obtain ⟨sl, hsl⟩ : ∃ s, s = sealed bs := ⟨_, rfl⟩
  have hsl4 : sl.length = na + 4 := by rw [hsl, sealed_len, hl'.out]
  have hsb : ∀ j, sl.getD j 0 < 256 := by rw [hsl]; exact sealed_lt hb
  have HSL : Hid (sl = sealed bs) := hsl
  rw [← hsl] at ho1
  have hgood : goodB sl = true := by rw [hsl]; exact good_sealed bs
  have htk : sl.take (na + 4 - 4) = bs := by have := take_sealed bs; rwa [sealed_len, hl'.out, ← hsl] at this
  have HSL4 : Hid (sl.length = na + 4) := hsl4
  clear hsl hsl4
  go_wp2_with fail
  refine (open14 (some ⟨g1, 0, none⟩) (na + 4) (na + 4) sl w1 HSL4.out (by omega) (Nat.le_refl _) (by omega) (by omega) hsb (fun _ => ⟨g1, 0, rfl, bytes_row ho1⟩)).mono ?_
  rintro e w2 ⟨hb2, hres⟩
  rcases hres with ⟨hg', _⟩ | ⟨_, g2, rfl, hg2, ho2⟩
  · rw [hgood] at hg'; cases hg'
  rw [htk] at ho2
  rw [show na + 4 - 4 = na by omega]
  have hb02 : Below w.heap.size w w2 := hb1.trans (hb2.mono hb1.size)
  have t1 := str_block (c := na) ho2 hl'.out
  have t2 := toString_view (cap := ca) hl'.out (hv.below hb02)
  have ho1' := block_below hb2 (lt_of_heap ho1) ho1
  clear hgood htk ho2 hb1 hb2 ho1 hg2
  obtain ⟨st, hst⟩ : ∃ s, s = strOf bs := ⟨_, rfl⟩
  rw [← hst] at t1 t2
  clear hst
  by_cases hby0 : by_ = 0
  · subst hby0
    go_wp2_with fail
    refine (lives11 _).mono ?_
    rintro e w5 ⟨rfl, hb5⟩
    go_wp2
    go_ret
    exact ⟨rfl, hb02.trans (hb5.mono hb02.size)⟩
  · have hbp : ((by_ : Int) == 0) = false := by simp; omega
    obtain ⟨k, hk⟩ : ∃ k, k = A % (na + 4) := ⟨_, rfl⟩
    have hkl : k < na + 4 := by rw [hk]; exact Nat.mod_lt _ (by omega)
    have hkI : (A : Int) % ((na : Int) + 4) = (k : Int) := by rw [hk]; simp
    have HBY : Hid (by_ ≠ 0) := hby0
    clear hk hby0
    obtain ⟨y, hy⟩ : ∃ y, y = sl.getD k 0 := ⟨_, rfl⟩
    have hyl : y < 256 := by rw [hy]; exact hsb k
    have hck : w2.cell? ⟨g1, k, none⟩ = some (.int .u8 (y : Int)) := by rw [hy]; exact cell_ints ho1' k (by rw [HSL4.out]; exact hkl)
    have hfk := free_ints ho1' k
    have HN := set_ints ho1' k (y ^^^ by_)
    have hxv : bits .xor .u8 (y : Int) (by_ : Int) = ((y ^^^ by_ : Nat) : Int) := u8_xor_nat y by_ hyl hby
    have hb03 : Below w.heap.size w (w2.setCell ⟨g1, k, none⟩ (.int .u8 ((y ^^^ by_ : Nat) : Int))) := hb02.setCell hg1 _
    have hbad : goodB (sl.set k (y ^^^ by_)) = false := by
      rw [HSL.out]
      refine bad_sealed hb (xor_u8_lt hyl hby) (by rw [hl'.out]; exact hkl) ?_
      rw [← HSL.out, ← hy]; exact xor_ne HBY.out
    have hO := open14 (some ⟨g1, 0, none⟩) (na + 4) (na + 4) (sl.set k (y ^^^ by_)) _ (by rw [List.length_set]; exact HSL4.out) (by omega) (Nat.le_refl _) (by omega) (by omega) (set_lt hsb (xor_u8_lt hyl hby)) (fun _ => ⟨g1, 0, rfl, bytes_row HN⟩)
    clear HN hy ho1'
    go_wp2_with fail
    refine hO.mono ?_
    rintro e w4 ⟨hb4, hres⟩
    have hb04 : Below w.heap.size w w4 := hb03.trans (hb4.mono hb03.size)
    rcases hres with ⟨_, rfl⟩ | ⟨hg', _⟩
    · clear hb03 hb4 hO hck hfk hb02 t1 t2
      go_wp2_with fail
      refine (lives11 _).mono ?_
      rintro e w5 ⟨rfl, hb5⟩
      go_wp2
      go_ret
      exact ⟨rfl, hb04.trans (hb5.mono hb04.size)⟩
    · rw [hbad] at hg'; cases hg'
theorem crcRound5_neg (a : Option Addr) (la ca : Nat) (x : List Nat) (A by_ : Nat) (w : World) (hx : x.length = la) (hx2 : ∀ j, x.getD j 0 < 256) (hca : la ≤ ca) (hcm : ca ≤ 9223372036854775807) (ha : View w a x) (hA : A ≤ 9223372036854775807) (hby : by_ < 256) (z : Int) (hz : z < 0) (hz2 : -9223372036854775808 ≤ z) (hzA : -(z + 1) = (A : Int)) :
    Calls Try.prog 5 #[.slice a la ca, .int .i64 (z), .int .u8 (by_ : Int)] w fun e w' => e = .returned (.bool true) ∧ Below w.heap.size w w' := by
  have e1 : (x.take 400).length = min la 400 := by rw [List.length_take, hx]; omega
  obtain ⟨bs, hbs⟩ : ∃ b, b = x.take 400 := ⟨_, rfl⟩
  have hv : View w a bs := by rw [hbs]; exact ha.take _
  have hb : ∀ j, bs.getD j 0 < 256 := by rw [hbs]; exact take_lt _ hx2
  have hfa := few8 a la ca w hca
  obtain ⟨na, hna⟩ : ∃ n, n = min la 400 := ⟨_, rfl⟩
  have hl : bs.length = na := by rw [hbs, hna]; exact e1
  have hn4 : na ≤ 400 := by omega
  have hnc : na ≤ ca := by omega
  rw [← hna] at hfa
  clear hbs hna e1 hx ha hx2
  have hl' : Hid (bs.length = na) := hl
  clear hl
  go_enter Try.func5, Try.ntmps5
  go_wp2_with fail
  refine hfa.mono ?_
  intro e w' ⟨he, hw'⟩
  subst he
  rw [hw']
  clear hfa hw'
  go_wp2_with fail
  refine (seal12 a na ca bs w hl'.out hnc hcm (by omega) hb hv).mono ?_
  rintro e w1 ⟨g1, rfl, hg1, hb1, ho1⟩
  obtain ⟨sl, hsl⟩ : ∃ s, s = sealed bs := ⟨_, rfl⟩
  have hsl4 : sl.length = na + 4 := by rw [hsl, sealed_len, hl'.out]
  have hsb : ∀ j, sl.getD j 0 < 256 := by rw [hsl]; exact sealed_lt hb
  have HSL : Hid (sl = sealed bs) := hsl
  rw [← hsl] at ho1
  have hgood : goodB sl = true := by rw [hsl]; exact good_sealed bs
  have htk : sl.take (na + 4 - 4) = bs := by have := take_sealed bs; rwa [sealed_len, hl'.out, ← hsl] at this
  have HSL4 : Hid (sl.length = na + 4) := hsl4
  clear hsl hsl4
  go_wp2_with fail
  refine (open14 (some ⟨g1, 0, none⟩) (na + 4) (na + 4) sl w1 HSL4.out (by omega) (Nat.le_refl _) (by omega) (by omega) hsb (fun _ => ⟨g1, 0, rfl, bytes_row ho1⟩)).mono ?_
  rintro e w2 ⟨hb2, hres⟩
  rcases hres with ⟨hg', _⟩ | ⟨_, g2, rfl, hg2, ho2⟩
  · rw [hgood] at hg'; cases hg'
  rw [htk] at ho2
  rw [show na + 4 - 4 = na by omega]
  have hb02 : Below w.heap.size w w2 := hb1.trans (hb2.mono hb1.size)
  have t1 := str_block (c := na) ho2 hl'.out
  have t2 := toString_view (cap := ca) hl'.out (hv.below hb02)
  have ho1' := block_below hb2 (lt_of_heap ho1) ho1
  clear hgood htk ho2 hb1 hb2 ho1 hg2
  obtain ⟨st, hst⟩ : ∃ s, s = strOf bs := ⟨_, rfl⟩
  rw [← hst] at t1 t2
  clear hst
  by_cases hby0 : by_ = 0
  · subst hby0
    go_wp2_with fail
    refine (lives11 _).mono ?_
    rintro e w5 ⟨rfl, hb5⟩
    go_wp2
    go_ret
    exact ⟨rfl, hb02.trans (hb5.mono hb02.size)⟩
  · have hbp : ((by_ : Int) == 0) = false := by simp; omega
    obtain ⟨k, hk⟩ : ∃ k, k = A % (na + 4) := ⟨_, rfl⟩
    have hkl : k < na + 4 := by rw [hk]; exact Nat.mod_lt _ (by omega)
    have hkI : (A : Int) % ((na : Int) + 4) = (k : Int) := by rw [hk]; simp
    have HBY : Hid (by_ ≠ 0) := hby0
    clear hk hby0
    obtain ⟨y, hy⟩ : ∃ y, y = sl.getD k 0 := ⟨_, rfl⟩
    have hyl : y < 256 := by rw [hy]; exact hsb k
    have hck : w2.cell? ⟨g1, k, none⟩ = some (.int .u8 (y : Int)) := by rw [hy]; exact cell_ints ho1' k (by rw [HSL4.out]; exact hkl)
    have hfk := free_ints ho1' k
    have HN := set_ints ho1' k (y ^^^ by_)
    have hxv : bits .xor .u8 (y : Int) (by_ : Int) = ((y ^^^ by_ : Nat) : Int) := u8_xor_nat y by_ hyl hby
    have hb03 : Below w.heap.size w (w2.setCell ⟨g1, k, none⟩ (.int .u8 ((y ^^^ by_ : Nat) : Int))) := hb02.setCell hg1 _
    have hbad : goodB (sl.set k (y ^^^ by_)) = false := by
      rw [HSL.out]
      refine bad_sealed hb (xor_u8_lt hyl hby) (by rw [hl'.out]; exact hkl) ?_
      rw [← HSL.out, ← hy]; exact xor_ne HBY.out
    have hO := open14 (some ⟨g1, 0, none⟩) (na + 4) (na + 4) (sl.set k (y ^^^ by_)) _ (by rw [List.length_set]; exact HSL4.out) (by omega) (Nat.le_refl _) (by omega) (by omega) (set_lt hsb (xor_u8_lt hyl hby)) (fun _ => ⟨g1, 0, rfl, bytes_row HN⟩)
    clear HN hy ho1'
    go_wp2_with fail
    refine hO.mono ?_
    rintro e w4 ⟨hb4, hres⟩
    have hb04 : Below w.heap.size w w4 := hb03.trans (hb4.mono hb03.size)
    rcases hres with ⟨_, rfl⟩ | ⟨hg', _⟩
    · clear hb03 hb4 hO hck hfk hb02 t1 t2
      go_wp2_with fail
      refine (lives11 _).mono ?_
      rintro e w5 ⟨rfl, hb5⟩
      go_wp2
      go_ret
      exact ⟨rfl, hb04.trans (hb5.mono hb04.size)⟩
    · rw [hbad] at hg'; cases hg'
theorem crcRound5 (a : Option Addr) (la ca : Nat) (x : List Nat) (z b : Int) (w : World) (hx : x.length = la) (hx2 : ∀ j, x.getD j 0 < 256) (hca : la ≤ ca) (hcm : ca ≤ 9223372036854775807) (ha : View w a x) (hz1 : -9223372036854775808 ≤ z) (hz2 : z ≤ 9223372036854775807) (hb1 : 0 ≤ b) (hb2 : b ≤ 255) :
    Calls Try.prog 5 #[.slice a la ca, .int .i64 z, .int .u8 b] w fun e w' => e = .returned (.bool true) ∧ Below w.heap.size w w' := by
  obtain ⟨y, rfl⟩ := Int.eq_ofNat_of_zero_le hb1
  by_cases h : 0 ≤ z
  · obtain ⟨A, rfl⟩ := Int.eq_ofNat_of_zero_le h
    exact crcRound5_pos a la ca x A y w hx hx2 hca hcm ha (by omega) (by omega)
  · exact crcRound5_neg a la ca x (-(z + 1)).toNat y w hx hx2 hca hcm ha (by omega) (by omega) z (by omega) hz1 (by omega)
theorem crcOwns6 (a : Option Addr) (la ca : Nat) (x : List Nat) (w : World) (hx : x.length = la) (hx2 : ∀ j, x.getD j 0 < 256) (hca : la ≤ ca) (hcm : ca ≤ 9223372036854775807) (ha : View w a x) :
    Calls Try.prog 6 #[.slice a la ca] w fun e w' => e = .returned (.bool true) ∧ Below w.heap.size w w' := by
  have e1 : (x.take 400).length = min la 400 := by rw [List.length_take, hx]; omega
  obtain ⟨bs, hbs⟩ : ∃ b, b = x.take 400 := ⟨_, rfl⟩
  have hv : View w a bs := by rw [hbs]; exact ha.take _
  have hb : ∀ j, bs.getD j 0 < 256 := by rw [hbs]; exact take_lt _ hx2
  have hfa := few8 a la ca w hca
  obtain ⟨na, hna⟩ : ∃ n, n = min la 400 := ⟨_, rfl⟩
  have hl : bs.length = na := by rw [hbs, hna]; exact e1
  have hn4 : na ≤ 400 := by omega
  have hnc : na ≤ ca := by omega
  rw [← hna] at hfa
  clear hbs hna e1 hx ha hx2
  have hl' : Hid (bs.length = na) := hl
  clear hl
  have s0 := fun w' (h : Below w.heap.size w w') => toString_view (cap := ca) hl'.out (hv.below h)
  obtain ⟨st, hst⟩ : ∃ s, s = strOf bs := ⟨_, rfl⟩
  rw [← hst] at s0
  clear hst
  have t0 := s0 w (Below.refl _ _)
  go_enter Try.func6, Try.ntmps6
  go_wp2_with fail
  refine hfa.mono ?_
  intro e w' ⟨he, hw'⟩
  subst he
  rw [hw']
  clear hfa hw'
  go_wp2_with fail
  refine (seal12 a na ca bs w hl'.out hnc hcm (by omega) hb hv).mono ?_
  rintro e w1 ⟨g1, rfl, hg1, hb1, ho1⟩
  clear t0
  obtain ⟨sl, hsl⟩ : ∃ s, s = sealed bs := ⟨_, rfl⟩
  have hsl4 : sl.length = na + 4 := by rw [hsl, sealed_len, hl'.out]
  have hsb : ∀ j, sl.getD j 0 < 256 := by rw [hsl]; exact sealed_lt hb
  rw [← hsl] at ho1
  have hgood : goodB sl = true := by rw [hsl]; exact good_sealed bs
  have HSL : Hid (sl = sealed bs) := hsl
  have HSL4 : Hid (sl.length = na + 4) := hsl4
  clear hsl hsl4
  have s1 := fun (w' : World) (h : Hid (w'.heap[g1]? = some (.cells (ints .u8 sl) 5 (0, 0)))) => str_block (c := na + 4) h.out HSL4.out
  obtain ⟨ss, hss⟩ : ∃ s, s = strOf sl := ⟨_, rfl⟩
  rw [← hss] at s1
  have HSS : Hid (ss = strOf (sealed bs)) := by show ss = _; rw [hss, HSL.out]
  clear hss
  have t1 := s1 w1 ho1
  go_wp2_with fail
  refine (open14 (some ⟨g1, 0, none⟩) (na + 4) (na + 4) sl w1 HSL4.out (by omega) (Nat.le_refl _) (by omega) (by omega) hsb (fun _ => ⟨g1, 0, rfl, bytes_row ho1⟩)).mono ?_
  rintro e w2 ⟨hb2, hres⟩
  rcases hres with ⟨hg', _⟩ | ⟨_, g2, rfl, hg2, ho2⟩
  · rw [hgood] at hg'; cases hg'
  have e4 : na + 4 - 4 = na := by omega
  rw [e4] at ho2 ⊢
  have hb02 : Below w.heap.size w w2 := hb1.trans (hb2.mono hb1.size)
  have ho1' := block_below hb2 (lt_of_heap ho1) ho1
  have hg12 : g1 < g2 := Nat.lt_of_lt_of_le (lt_of_heap ho1) hg2
  have hwg2 : w.heap.size ≤ g2 := by omega
  have htl : (sl.take na).length = na := by rw [List.length_take, HSL4.out]; omega
  have HO2 : Hid (∃ l : List Nat, l.length = na ∧ w2.heap[g2]? = some (.cells (ints .u8 l) 5 (0, 0))) := ⟨_, htl, ho2⟩
  have HO1 : Hid (w2.heap[g1]? = some (.cells (ints .u8 sl) 5 (0, 0))) := ho1'
  clear t1 hgood hb1 hb2 ho1 ho1' ho2 hg2 e4 htl
  go_wp2_with fail
  go_loopw [8] (fun i wr => ∃ k : Nat, k ≤ na ∧ i = .int .i64 (k : Int) ∧ Below w.heap.size w wr ∧ Hid (∃ l : List Nat, l.length = na ∧ wr.heap[g2]? = some (.cells (ints .u8 l) 5 (0, 0))) ∧ Hid (wr.heap[g1]? = some (.cells (ints .u8 sl) 5 (0, 0)))) (fun i _ => na - (intOf i).toNat)
  case atStart => exact ⟨0, by omega, rfl, hb02, HO2, HO1⟩
  case round =>
    obtain ⟨k, hk, rfl, hBr, HO2r, HO1r⟩ := hrel
    clear HO2 HO1 hb02
    by_cases hlt : k < na
    · obtain ⟨l, hll, hol⟩ := HO2r.out
      have hc := cell_ints hol k (by omega)
      obtain ⟨v, hv0⟩ : ∃ v, v = Value.int .u8 ((l.getD k 0 : Nat) : Int) := ⟨_, rfl⟩
      rw [← hv0] at hc
      have hf := free_ints hol k
      have HN : Hid (Below w.heap.size w (wr.setCell ⟨g2, k, none⟩ (.int .u8 9)) ∧ Hid (∃ l : List Nat, l.length = na ∧ (wr.setCell ⟨g2, k, none⟩ (.int .u8 9)).heap[g2]? = some (.cells (ints .u8 l) 5 (0, 0))) ∧ Hid ((wr.setCell ⟨g2, k, none⟩ (.int .u8 9)).heap[g1]? = some (.cells (ints .u8 sl) 5 (0, 0)))) :=
        ⟨hBr.setCell hwg2 _, ⟨l.set k 9, by rw [List.length_set]; exact hll, set_ints hol k 9⟩, (heap_setCell_other _ _ _ _ (show g1 ≠ g2 by omega)).trans HO1r.out⟩
      clear hv0 hol hll HO2r HO1r hBr
      go_wp2_with fail
      go_roundw
      case rel => exact ⟨k + 1, by omega, by go_num, HN.out.1, HN.out.2.1, HN.out.2.2⟩
      case measure => simp [intOf]; omega
    · obtain rfl : k = na := by omega
      have t1 := s1 wr HO1r
      go_wp2_with fail
      clear t1
      have HO1x : Hid (∃ l : List Nat, l.length = k + 4 ∧ wr.heap[g1]? = some (.cells (ints .u8 l) 5 (0, 0))) := ⟨sl, HSL4.out, HO1r.out⟩
      go_loopw [9] (fun i wr => ∃ j : Nat, j ≤ k + 4 ∧ i = .int .i64 (j : Int) ∧ Below w.heap.size w wr ∧ Hid (∃ l : List Nat, l.length = k + 4 ∧ wr.heap[g1]? = some (.cells (ints .u8 l) 5 (0, 0)))) (fun i _ => k + 4 - (intOf i).toNat)
      case atStart => exact ⟨0, by omega, rfl, hBr, HO1x⟩
      case round =>
        obtain ⟨j, hj, rfl, hBr, HO1r⟩ := hrel
        clear HO1x
        by_cases hlt2 : j < k + 4
        · obtain ⟨l, hll, hol⟩ := HO1r.out
          have hc := cell_ints hol j (by omega)
          obtain ⟨v, hv0⟩ : ∃ v, v = Value.int .u8 ((l.getD j 0 : Nat) : Int) := ⟨_, rfl⟩
          rw [← hv0] at hc
          have hf := free_ints hol j
          have HN : Hid (Below w.heap.size w (wr.setCell ⟨g1, j, none⟩ (.int .u8 7)) ∧ Hid (∃ l : List Nat, l.length = k + 4 ∧ (wr.setCell ⟨g1, j, none⟩ (.int .u8 7)).heap[g1]? = some (.cells (ints .u8 l) 5 (0, 0)))) :=
            ⟨hBr.setCell hg1 _, ⟨l.set j 7, by rw [List.length_set]; exact hll, set_ints hol j 7⟩⟩
          clear hv0 hol hll HO1r hBr
          go_wp2_with fail
          go_roundw
          case rel => exact ⟨j + 1, by omega, by go_num, HN.out.1, HN.out.2⟩
          case measure => simp [intOf]; omega
        · obtain rfl : j = k + 4 := by omega
          have t0 := s0 wr hBr
          go_wp2_with fail
          refine (seal12 a k ca bs wr hl'.out hnc hcm (by omega) hb (hv.below hBr)).mono ?_
          rintro e w5 ⟨g5, rfl, hg5, hb5, ho5⟩
          have t5 := str_block (c := k + 4) ho5 (by rw [sealed_len, hl'.out])
          rw [← HSS.out] at t5
          have hb05 : Below w.heap.size w w5 := hBr.trans (hb5.mono hBr.size)
          clear t0 ho5 hb5 hBr
          go_wp2_with fail
          refine (lives11 _).mono ?_
          rintro e w6 ⟨rfl, hb6⟩
          go_wp2
          go_ret
          exact ⟨rfl, hb05.trans (hb6.mono hb05.size)⟩
theorem tail_str {c d : Nat} (hc : c < 4294967296) (hd : d < 4294967296) : ((strOf (tail4 c)).toList == (strOf (tail4 d)).toList) = decide (c = d) := by
  rw [strOf_eq (tail4_lt _) (tail4_lt _), decide_eq_decide]
  exact ⟨fun h => tail4_inj hc hd h, fun h => by rw [h]⟩
theorem drop_sealed (bs : List Nat) (n : Nat) (h : bs.length = n) : (sealed bs).drop n = tail4 (crcOf bs) := by subst h; simp [sealed]
theorem crcTwo7 (a : Option Addr) (la ca : Nat) (x0 : List Nat) (b : Option Addr) (lb cb : Nat) (y0 : List Nat) (w : World) (hx : x0.length = la) (hy : y0.length = lb) (hxb0 : ∀ j, x0.getD j 0 < 256) (hyb0 : ∀ j, y0.getD j 0 < 256) (hca : la ≤ ca) (hcb : lb ≤ cb) (hcm : ca ≤ 9223372036854775807) (hdm : cb ≤ 9223372036854775807) (ha : View w a x0) (hb : View w b y0) :
    Calls Try.prog 7 #[.slice a la ca, .slice b lb cb] w fun e w' => e = .returned (.bool true) ∧ Below w.heap.size w w' := by
  have e1 : (x0.take 400).length = min la 400 := by rw [List.length_take, hx]; omega
  have e2 : (y0.take 400).length = min lb 400 := by rw [List.length_take, hy]; omega
  obtain ⟨x, hx1⟩ : ∃ b, b = x0.take 400 := ⟨_, rfl⟩
  obtain ⟨y, hy1⟩ : ∃ b, b = y0.take 400 := ⟨_, rfl⟩
  have hvx : View w a x := by rw [hx1]; exact ha.take _
  have hvy : View w b y := by rw [hy1]; exact hb.take _
  have hxb : ∀ j, x.getD j 0 < 256 := by rw [hx1]; exact take_lt _ hxb0
  have hyb : ∀ j, y.getD j 0 < 256 := by rw [hy1]; exact take_lt _ hyb0
  have hfa := few8 a la ca w hca
  have hfb := few8 b lb cb w hcb
  obtain ⟨na, hna⟩ : ∃ n, n = min la 400 := ⟨_, rfl⟩
  obtain ⟨nb, hnb⟩ : ∃ n, n = min lb 400 := ⟨_, rfl⟩
  have hlx : Hid (x.length = na) := by show x.length = na; rw [hx1, hna]; exact e1
  have hly : Hid (y.length = nb) := by show y.length = nb; rw [hy1, hnb]; exact e2
  have hn4 : na ≤ 400 := by omega
  have hm4 : nb ≤ 400 := by omega
  have hnc : na ≤ ca := by omega
  have hnd : nb ≤ cb := by omega
  rw [← hna] at hfa
  rw [← hnb] at hfb
  clear hx1 hy1 hna hnb e1 e2 hx hy ha hb hxb0 hyb0
  obtain ⟨cx, hcx⟩ : ∃ c, c = crcOf x := ⟨_, rfl⟩
  obtain ⟨cy, hcy⟩ : ∃ c, c = crcOf y := ⟨_, rfl⟩
  have hcxl : cx < 4294967296 := by rw [hcx]; exact crc_lt _
  have hcyl : cy < 4294967296 := by rw [hcy]; exact crc_lt _
  have HCX : Hid (cx = crcOf x) := hcx
  have HCY : Hid (cy = crcOf y) := hcy
  clear hcx hcy
  have HT : Hid (((strOf (tail4 cx)).toList == (strOf (tail4 cy)).toList) = decide (cx = cy)) := tail_str hcxl hcyl
  have HS : Hid (((strOf x).toList == (strOf y).toList) = decide (x = y)) := strOf_eq hxb hyb
  go_enter Try.func7, Try.ntmps7
  go_wp2_with fail
  refine hfa.mono ?_
  intro e w' ⟨he, hw'⟩
  subst he
  rw [hw']
  clear hfa hw'
  go_wp2_with fail
  refine hfb.mono ?_
  intro e w' ⟨he, hw'⟩
  subst he
  rw [hw']
  clear hfb hw'
  go_wp2_with fail
  refine (seal12 a na ca x w hlx.out hnc hcm (by omega) hxb hvx).mono ?_
  rintro e w1 ⟨g1, rfl, hg1, hb1, ho1⟩
  go_wp2_with fail
  refine (seal12 b nb cb y w1 hly.out hnd hdm (by omega) hyb (hvy.below hb1)).mono ?_
  rintro e w2 ⟨g2, rfl, hg2, hb2, ho2⟩
  have hb02 : Below w.heap.size w w2 := hb1.trans (hb2.mono hb1.size)
  have hb02' : Below w.heap.size w w2.drew := hb02.drew
  have ho1' : w2.drew.heap[g1]? = some (.cells (ints .u8 (sealed x)) 5 (0, 0)) := block_below hb2 (lt_of_heap ho1) ho1
  have ho2' : w2.drew.heap[g2]? = some (.cells (ints .u8 (sealed y)) 5 (0, 0)) := ho2
  have t1 : (convert 22 9 (.slice (cutA (some ⟨g1, 0, none⟩) na (na + 4)) (na + 4 - na) (na + 4 - na))).run Try.prog w2.drew = .ok (.string (strOf (tail4 cx))) w2.drew := by
    have hv1 : View w2.drew (some ⟨g1, 0, none⟩) (sealed x) := fun _ => ⟨g1, 0, rfl, bytes_row ho1'⟩
    have := hv1.cut na 4 (na + 4) (by rw [sealed_len, hlx.out]; omega) (by rw [sealed_len, hlx.out]; omega)
    rw [drop_sealed x na hlx.out, List.take_of_length_le (by rw [tail4_len]; omega), ← HCX.out] at this
    exact toString_view (by rw [tail4_len]; omega) this
  have t2 : (convert 22 9 (.slice (cutA (some ⟨g2, 0, none⟩) nb (nb + 4)) (nb + 4 - nb) (nb + 4 - nb))).run Try.prog w2.drew = .ok (.string (strOf (tail4 cy))) w2.drew := by
    have hv1 : View w2.drew (some ⟨g2, 0, none⟩) (sealed y) := fun _ => ⟨g2, 0, rfl, bytes_row ho2'⟩
    have := hv1.cut nb 4 (nb + 4) (by rw [sealed_len, hly.out]; omega) (by rw [sealed_len, hly.out]; omega)
    rw [drop_sealed y nb hly.out, List.take_of_length_le (by rw [tail4_len]; omega), ← HCY.out] at this
    exact toString_view (by rw [tail4_len]; omega) this
  have t3 := toString_view (cap := ca) hlx.out (hvx.below hb02')
  have t4 := toString_view (cap := cb) hly.out (hvy.below hb02')
  clear ho1 ho2 ho1' ho2' hb1 hb2 hg1 hg2
  go_wp2_with fail
  refine wp_region_still_tail 11 (by kernel_rfl) (by kernel_rfl) ?_
  simp only [List.take_succ_cons, List.take_zero, List.drop_succ_cons, List.drop_zero]
  show wpStill _ _ w2.drew (fun a' => wpList _ _ _ _ a' w2.drew) _ _
  refine wpStill_run _ rfl (run_move (.tmp 5) rfl _) ?_
  simp only [Act.put, List.setIfInBounds_toArray, List.set_cons_succ, List.set_cons_zero]
  refine wpStill_run _ rfl (run_move (.tmp 0) rfl _) ?_
  simp only [Act.put, List.setIfInBounds_toArray, List.set_cons_succ, List.set_cons_zero]
  refine wpStill_run (.int .i64 (na : Int)) rfl (run_lenO rfl rfl) ?_
  simp only [Act.put, List.setIfInBounds_toArray, List.set_cons_succ, List.set_cons_zero]
  refine wpStill_run (.slice (cutA (some ⟨g1, 0, none⟩) na (na + 4)) (na + 4 - na) (na + 4 - na)) rfl ?c1 ?_
  case c1 => exact run_sliceO (run_cut_l (some ⟨g1, 0, none⟩) (na + 4) (na + 4) na _ (by omega)) rfl
  simp only [Act.put, List.setIfInBounds_toArray, List.set_cons_succ, List.set_cons_zero]
  refine wpStill_run (.string (strOf (tail4 cx))) rfl (run_convertO t1 rfl) ?_
  simp only [Act.put, List.setIfInBounds_toArray, List.set_cons_succ, List.set_cons_zero]
  refine wpStill_run _ rfl (run_move (.tmp 6) rfl _) ?_
  simp only [Act.put, List.setIfInBounds_toArray, List.set_cons_succ, List.set_cons_zero]
  refine wpStill_run _ rfl (run_move (.tmp 1) rfl _) ?_
  simp only [Act.put, List.setIfInBounds_toArray, List.set_cons_succ, List.set_cons_zero]
  refine wpStill_run (.int .i64 (nb : Int)) rfl (run_lenO rfl rfl) ?_
  simp only [Act.put, List.setIfInBounds_toArray, List.set_cons_succ, List.set_cons_zero]
  refine wpStill_run (.slice (cutA (some ⟨g2, 0, none⟩) nb (nb + 4)) (nb + 4 - nb) (nb + 4 - nb)) rfl ?c2 ?_
  case c2 => exact run_sliceO (run_cut_l (some ⟨g2, 0, none⟩) (nb + 4) (nb + 4) nb _ (by omega)) rfl
  simp only [Act.put, List.setIfInBounds_toArray, List.set_cons_succ, List.set_cons_zero]
  refine wpStill_run (.string (strOf (tail4 cy))) rfl (run_convertO t2 rfl) ?_
  simp only [Act.put, List.setIfInBounds_toArray, List.set_cons_succ, List.set_cons_zero]
  refine wpStill_run (.bool (decide (cx = cy))) rfl ?c3 ?_
  case c3 => rw [← HT.out]; exact run_eqlStrO (x := .tmp 34) (y := .tmp 39) rfl rfl rfl
  simp only [Act.put, List.setIfInBounds_toArray, List.set_cons_succ, List.set_cons_zero]
  refine wpStill_nil ?_
  clear t1 t2 HT
  obtain ⟨sx, hsx⟩ : ∃ s, s = strOf x := ⟨_, rfl⟩
  obtain ⟨sy, hsy⟩ : ∃ s, s = strOf y := ⟨_, rfl⟩
  rw [← hsx] at t3 HS
  rw [← hsy] at t4 HS
  clear hsx hsy
  by_cases hcc : cx = cy
  · have d1 : decide (cx = cy) = true := by simpa using hcc
    have d2 : ((cx : Int) == (cy : Int)) = true := by rw [hcc]; simp
    rw [d1]
    by_cases hxy : x = y
    · have d3 : (sx.toList == sy.toList) = true := by rw [HS.out]; simpa using hxy
      clear hcc d1 hxy
      go_wp2_with fail
      refine (sum9 a na ca x w2.drew hlx.out hnc hcm hxb (hvx.below hb02')).mono ?_
      intro e w' ⟨he, hw'⟩
      subst he
      rw [hw']
      clear hw'
      go_wp2_with fail
      refine (sum9 b nb cb y w2.drew hly.out hnd hdm hyb (hvy.below hb02')).mono ?_
      intro e w' ⟨he, hw'⟩
      subst he
      rw [hw']
      clear hw'
      rw [← HCX.out, ← HCY.out]
      go_wp2_with fail
      refine (lives11 _).mono ?_
      rintro e w6 ⟨rfl, hb6⟩
      go_wp2
      go_ret
      exact ⟨rfl, hb02'.trans (hb6.mono hb02'.size)⟩
    · have d3 : (sx.toList == sy.toList) = false := by rw [HS.out]; simpa using hxy
      clear hcc d1 hxy
      go_wp2_with fail
      refine (sum9 a na ca x w2.drew hlx.out hnc hcm hxb (hvx.below hb02')).mono ?_
      intro e w' ⟨he, hw'⟩
      subst he
      rw [hw']
      clear hw'
      go_wp2_with fail
      refine (sum9 b nb cb y w2.drew hly.out hnd hdm hyb (hvy.below hb02')).mono ?_
      intro e w' ⟨he, hw'⟩
      subst he
      rw [hw']
      clear hw'
      rw [← HCX.out, ← HCY.out]
      go_wp2_with fail
      refine (lives11 _).mono ?_
      rintro e w6 ⟨rfl, hb6⟩
      go_wp2
      go_ret
      exact ⟨rfl, hb02'.trans (hb6.mono hb02'.size)⟩
  · have d1 : decide (cx = cy) = false := by simpa using hcc
    have d2 : ((cx : Int) == (cy : Int)) = false := by simp; omega
    rw [d1]
    have hxy : x ≠ y := fun h => hcc (by rw [HCX.out, HCY.out, h])
    have d3 : (sx.toList == sy.toList) = false := by rw [HS.out]; simpa using hxy
    clear hcc d1 hxy
    go_wp2_with fail
    refine (sum9 a na ca x w2.drew hlx.out hnc hcm hxb (hvx.below hb02')).mono ?_
    intro e w' ⟨he, hw'⟩
    subst he
    rw [hw']
    clear hw'
    go_wp2_with fail
    refine (sum9 b nb cb y w2.drew hly.out hnd hdm hyb (hvy.below hb02')).mono ?_
    intro e w' ⟨he, hw'⟩
    subst he
    rw [hw']
    clear hw'
    rw [← HCX.out, ← HCY.out]
    go_wp2_with fail
    refine (lives11 _).mono ?_
    rintro e w6 ⟨rfl, hb6⟩
    go_wp2
    go_ret
    exact ⟨rfl, hb02'.trans (hb6.mono hb02'.size)⟩
end Go.Proofs.Ytjnoohhjnnafcaa
