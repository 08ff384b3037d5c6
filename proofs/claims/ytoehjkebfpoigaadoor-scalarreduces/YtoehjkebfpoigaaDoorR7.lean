/-
  The reference: L, cut, Reduce, MulAdd, Is.
-/
import Derived.Test.YtoehjkebfpoigaaDoorR6
import Derived.Test.YtoehjkebfpoigaaDoorWG
import Derived.Deep.RegionHeld
set_option linter.unusedVariables false
namespace Go.Proofs.YtoehjkebfpoigaaDoor
open Go.RowKit Go.Sort Go.BigFrame
set_option maxRecDepth 100000
set_option maxHeartbeats 2000000
def T252 : Nat := 7237005577332262213973186563042994240829374041602535252466099000494570602496
theorem T252_eq : T252 = 256 ^ 31 * 16 := by decide
theorem T252_start : (digs 32 0).set 31 16 = digs 32 (T252 + sv 38 % 256 ^ 0) := by decide
theorem T252_end {n : Nat} (h : sv 38 < 256 ^ n) : T252 + sv 38 % 256 ^ n = LL := by
  rw [Nat.mod_eq_of_lt h]; decide
theorem T252_lt (k : Nat) (S : Nat) (hk : k ≤ 31) : T252 + S % 256 ^ k < 256 ^ 32 := by
  have h1 := Nat.mod_lt S (pos256 k)
  have h2 : 256 ^ k ≤ 256 ^ 31 := Nat.pow_le_pow_right (by decide) hk
  have : T252 + 256 ^ 31 < 256 ^ 32 := by decide
  omega
theorem T252_get (k S : Nat) (hk : k < 31) : (digs 32 (T252 + S % 256 ^ k)).getD k 0 = 0 := by
  have e : T252 = 256 ^ k * (256 ^ (30 - k) * 256 * 16) := by
    rw [T252_eq, ← Nat.mul_assoc, ← Nat.mul_assoc, ← Nat.pow_add, ← Nat.pow_succ]
    congr 2
    omega
  rw [digs_get _ _ _ (by omega), e, Nat.mul_add_div (pos256 k), Nat.div_eq_of_lt (Nat.mod_lt _ (pos256 k))]
  omega
theorem T252_step (k S : Nat) (hk : k < 31) : (digs 32 (T252 + S % 256 ^ k)).set k (S / 256 ^ k % 256) = digs 32 (T252 + S % 256 ^ (k + 1)) := by
  have hs := valD_set (digs 32 (T252 + S % 256 ^ k)) k (S / 256 ^ k % 256) (by rw [digs_len]; omega)
  rw [T252_get k S hk, valD_digs_lt (T252_lt k S (by omega))] at hs
  refine digs_of ((digs_dig _ _).set (Nat.mod_lt _ (by decide))) (by rw [List.length_set, digs_len]) ?_
  rw [Nat.pow_succ, Nat.mod_mul]
  omega
theorem ref_L17 (w : World) : Calls Tryd.prog 17 #[] w fun e w' => ∃ g, e = .returned (.slice (some ⟨g, 0, none⟩) 32 32) ∧ RelR w w' g (digs 32 LL) := by
  have hmk := make30 32 (by omega)
  simp only [Int.cast_ofNat_Int] at hmk
  have hR0 : RelR w (w.alloc (.cells (ints .i64 (digs 32 0)) 3)) w.heap.size (digs 32 0) := ⟨below1 _ _, Nat.le_refl _, alloc_row _ _ _⟩
  have c0 := hR0.at 31 (by rw [digs_len]; omega)
  have f0 := hR0.free 31
  have hR1 : RelR w (w.alloc (.cells ((ints .i64 (digs 32 0)).setIfInBounds 31 (.int .i64 16)) 3)) w.heap.size (digs 32 (T252 + sv 38 % 256 ^ 0)) := by
    have e := ints_set .i64 (digs 32 0) 31 16
    rw [T252_start] at e
    exact ⟨below1 _ _, Nat.le_refl _, by rw [← e]; exact heap_alloc_new _ _⟩
  clear hR0
  go_enter Tryd.func17, Tryd.ntmps17
  go_wp2_with fail
  generalize (w.alloc (.cells ((ints .i64 (digs 32 0)).setIfInBounds 31 (.int .i64 16)) 3)) = w1 at hR1 ⊢
  generalize hgo : w.heap.size = go at *
  clear c0 f0 hmk
  refine (small29 w1).mono ?_
  rintro e w2 ⟨v, rfl, g2, n, cap, rfl, hnc, hcap, hn1, hmin, hvl, hB2, hg2, hrow⟩
  have hn16 := relS_len (Nat.le_refl _) hmin
  have hgl := lt_of_heap hR1.2.2
  have hR2 : RelR w w2 go (digs 32 (T252 + sv 38 % 256 ^ 0)) := by
    have hs1 : w.heap.size ≤ w1.heap.size := hR1.1.size
    exact ⟨hR1.1.trans (hB2.mono hs1), hR1.2.1, block_below hB2 hgl hR1.2.2⟩
  have hne : g2 ≠ go := by omega
  have HVL : Hid (sv 38 < 256 ^ n) := hvl
  have HG : Hid (w.heap.size = go) := hgo
  clear hmin hvl hB2 hR1 hgl hg2 hgo
  go_wp2_with fail
  go_loopw [3] (fun i wr => ∃ k : Nat, k ≤ n ∧ i = .int .i64 k ∧ RelR w wr go (digs 32 (T252 + sv 38 % 256 ^ k)) ∧ IntsAt wr g2 0 (digs n (sv 38))) (fun i _ => n - (intOf i).toNat)
  case atStart => exact ⟨0, by omega, rfl, hR2, hrow⟩
  case round =>
    obtain ⟨k, hk, rfl, hR, hI⟩ := hrel
    clear hR2 hrow
    by_cases hlt : k < n
    · have c1 := hR.at k (by rw [digs_len]; omega)
      rw [T252_get k _ (by omega)] at c1
      have f1 := hR.free k
      have c2 := hI k (by rw [digs_len]; omega)
      rw [Nat.zero_add, digs_get _ _ _ hlt] at c2
      have hst := T252_step k (sv 38) (by omega)
      have hdl : sv 38 / 256 ^ k % 256 < 256 := Nat.mod_lt _ (by decide)
      obtain ⟨d, hd⟩ : ∃ d, d = sv 38 / 256 ^ k % 256 := ⟨_, rfl⟩
      rw [← hd] at c2 hst hdl
      have HN : Hid (RelR w (wr.setCell ⟨go, k, none⟩ (.int .i64 (d : Int))).drew go (digs 32 (T252 + sv 38 % 256 ^ (k + 1))) ∧ IntsAt (wr.setCell ⟨go, k, none⟩ (.int .i64 (d : Int))).drew g2 0 (digs n (sv 38))) := by
        refine ⟨?_, fun i hi => ?_⟩
        · rw [← hst]; exact (hR.set k d).drew
        · show (wr.setCell ⟨go, k, none⟩ (.int .i64 (d : Int))).cell? _ = _
          rw [World.cell?_setCell_far _ _ _ _ (by show go ≠ g2; omega)]
          exact hI i hi
      clear hd hst hR hI
      go_wp2_with fail
      go_big_region
      go_wp2
      go_roundw
      case rel => exact ⟨k + 1, by omega, by go_num, HN.out.1, HN.out.2⟩
      case measure => simp [intOf]; omega
    · obtain rfl : k = n := by omega
      rw [T252_end HVL.out] at hR
      go_wp2
      go_ret
      exact ⟨go, rfl, hR⟩
theorem own_irow {w w' : World} {v : Value} {n : Nat} {l : List Nat} (h : w'.ownsRow w.heap.size 3 1 v n (iv l)) : ∃ a cap, v = .slice a n cap ∧ n ≤ cap ∧ cap ≤ 9223372036854775807 ∧ IView w' a l ∧ l.length = n := by
  obtain ⟨a, cap, rfl, h1, h2⟩ := own_slice h
  obtain ⟨h3, h4⟩ := own_iview h
  exact ⟨a, cap, rfl, h1, h2, h3, h4⟩
/-- The digits of the first bytes. -/
theorem cut24 (a : Option Addr) (len cap : Nat) (bs : List Nat) (most : Nat) (w : World) (hlen : Hid (bs.length = len)) (hcap : len ≤ cap) (hcap2 : cap ≤ 9223372036854775807) (hl : most ≤ 64) (hd : Dig bs) (hv : View w a bs) :
    Calls Tryd.prog 24 #[.slice a len cap, .int .i64 most] w fun e w' => ∃ a' n c', e = .returned (.slice a' n c') ∧ Below w.heap.size w w' ∧ n ≤ c' ∧ c' ≤ 9223372036854775807 ∧ n ≤ 64 ∧ IView w' a' (bs.take most) ∧ (bs.take most).length = n := by
  by_cases h : most < len
  · have cD := digits19 a most cap (bs.take most) w (by show _ = _; rw [List.length_take, hlen.out]; omega) (by omega) (by omega) (hd.take most) (hv.take most)
    clear hlen hv hd
    go_enter Tryd.func24, Tryd.ntmps24
    go_wp2_with fail
    refine cD.mono ?_
    rintro e w1 ⟨v, rfl, hB, hown⟩
    obtain ⟨a', c', rfl, h1, h2, h3, h4⟩ := own_irow hown
    go_wp2
    go_ret
    exact ⟨a', most, c', rfl, hB, h1, h2, by omega, h3, h4⟩
  · have cD := digits19 a len cap bs w hlen hcap (by omega) hd hv
    have HT : Hid (bs.take most = bs) := List.take_of_length_le (by rw [hlen.out]; omega)
    rw [HT.out]
    clear hlen hv hd
    go_enter Tryd.func24, Tryd.ntmps24
    go_wp2_with fail
    refine cD.mono ?_
    rintro e w1 ⟨v, rfl, hB, hown⟩
    obtain ⟨a', c', rfl, h1, h2, h3, h4⟩ := own_irow hown
    go_wp2
    go_ret
    exact ⟨a', len, c', rfl, hB, h1, h2, by omega, h3, h4⟩
theorem valL : valD (digs 32 LL) = LL := valD_digs_lt (by decide)
theorem digs33_view {w w' : World} {g R : Nat} (h : RelR w w' g (digs 33 R)) : IView w' (some ⟨g, 0, none⟩) (digs 32 R) := fun _ => ⟨g, 0, rfl, fun i hi => by
  rw [digs_len] at hi
  rw [ints_row h.2.2 i (by rw [digs_len]; omega), digs_get _ _ _ (by omega), digs_get _ _ _ hi]⟩
/-- The reference's 32 bytes: a row that is read. -/
def Ref32 (w w' : World) (v : Value) (R : Nat) : Prop := ∃ a cap, v = .slice a 32 cap ∧ 32 ≤ cap ∧ cap ≤ 9223372036854775807 ∧ Below w.heap.size w w' ∧ View w' a (digs 32 R)
theorem modBytes (a' : Option Addr) (n c' : Nat) (x : List Nat) (w : World) (hx : x.length = n) (hn : n ≤ 10000) (dx : Dig x) (hv : IView w a' x) (g : Nat) (w1 : World) (hL : RelR w w1 g (digs 32 LL)) :
    Calls Tryd.prog 23 #[.slice a' n c', .slice (some ⟨g, 0, none⟩) 32 32] w1 fun e w' => ∃ g', e = .returned (.slice (some ⟨g', 0, none⟩) 32 33) ∧ RelR w1 w' g' (digs 33 (valD x % LL)) :=
  mod23 a' n c' x (some ⟨g, 0, none⟩) 32 32 (digs 32 LL) LL w1 hx (digs_len _ _) hn (by omega) (hv.below hL.1) (fun _ => ⟨g, 0, rfl, ints_row hL.2.2⟩) dx (digs_dig _ _) valL LL_pos (by show _ < _; decide)
theorem bytesOf (g R : Nat) (w w1 : World) (hR : R < LL) (h : RelR w w1 g (digs 33 R)) :
    Calls Tryd.prog 16 #[.slice (some ⟨g, 0, none⟩) 32 33] w1 fun e w' => ∃ v, e = .returned v ∧ Ref32 w1 w' v R := by
  have c := bytes16 (some ⟨g, 0, none⟩) 32 33 (digs 32 R) w1 (digs_len _ _) (by omega) (digs_dig _ _) (digs33_view h)
  rw [valD_digs_lt (Nat.lt_trans hR (by decide))] at c
  refine c.mono ?_
  rintro e w' ⟨v, rfl, hB, hown⟩
  obtain ⟨a, cap, rfl, h1, h2⟩ := own_slice hown
  exact ⟨_, rfl, a, cap, rfl, h1, h2, hB, (own_bview hown).1⟩
theorem refReduce10 (a : Option Addr) (len cap : Nat) (bs : List Nat) (w : World) (hlen : Hid (bs.length = len)) (hcap : len ≤ cap) (hcap2 : cap ≤ 9223372036854775807) (hd : Dig bs) (hv : View w a bs) :
    Calls Tryd.prog 10 #[.slice a len cap] w fun e w' => ∃ v, e = .returned v ∧ Ref32 w w' v (valD (bs.take 64) % LL) := by
  have cC := cut24 a len cap bs 64 w hlen hcap hcap2 (by omega) hd hv
  simp only [Int.cast_ofNat_Int] at cC
  have hd64 := hd.take 64
  clear hlen hv hd
  obtain ⟨x, hxe⟩ : ∃ x, x = bs.take 64 := ⟨_, rfl⟩
  rw [← hxe] at cC hd64 ⊢
  clear hxe
  go_enter Tryd.func10, Tryd.ntmps10
  go_wp2_with fail
  refine cC.mono ?_
  rintro e w1 ⟨a', n, c', rfl, hB1, hnc, hc2, hn64, hvw, hxl⟩
  go_wp2_with fail
  refine (ref_L17 w1).mono ?_
  rintro e w2 ⟨g, rfl, hL⟩
  go_wp2_with fail
  refine (modBytes a' n c' x w1 hxl (by omega) hd64 hvw g w2 hL).mono ?_
  rintro e w3 ⟨g3, rfl, hR3⟩
  go_wp2_with fail
  refine (bytesOf g3 (valD x % LL) w2 w3 (Nat.mod_lt _ LL_pos) hR3).mono ?_
  rintro e w4 ⟨v, rfl, a4, cap4, rfl, h1, h2, hB4, hv4⟩
  have hB2 : Below w.heap.size w w2 := hB1.trans (hL.1.mono hB1.size)
  have hB3 : Below w.heap.size w w3 := hB2.trans (hR3.1.mono hB2.size)
  go_wp2
  go_ret
  exact ⟨_, rfl, a4, cap4, rfl, h1, h2, hB3.trans (hB4.mono hB3.size), hv4⟩
theorem refMulAdd13 (a : Option Addr) (la ca : Nat) (x : List Nat) (b : Option Addr) (lb cb : Nat) (y : List Nat) (c : Option Addr) (lc cc : Nat) (z : List Nat) (w : World) (hla : Hid (x.length = la)) (hlb : Hid (y.length = lb)) (hlc : Hid (z.length = lc)) (hca : la ≤ ca) (hca2 : ca ≤ 9223372036854775807) (hcb : lb ≤ cb) (hcb2 : cb ≤ 9223372036854775807) (hcc : lc ≤ cc) (hcc2 : cc ≤ 9223372036854775807)
    (dx : Dig x) (dy : Dig y) (dz : Dig z) (hx : View w a x) (hy : View w b y) (hz : View w c z) :
    Calls Tryd.prog 13 #[.slice a la ca, .slice b lb cb, .slice c lc cc] w fun e w' => ∃ v, e = .returned v ∧ Ref32 w w' v ((valD (x.take 32) * valD (y.take 32) + valD (z.take 32)) % LL) := by
  have c1 := cut24 a la ca x 32 w hla hca hca2 (by omega) dx hx
  have c2 := fun w1 (h : Below w.heap.size w w1) => cut24 b lb cb y 32 w1 hlb hcb hcb2 (by omega) dy (hy.below h)
  have c3 := fun w1 (h : Below w.heap.size w w1) => cut24 c lc cc z 32 w1 hlc hcc hcc2 (by omega) dz (hz.below h)
  simp only [Int.cast_ofNat_Int] at c1 c2 c3
  have ex := dx.take 32
  have ey := dy.take 32
  have ez := dz.take 32
  clear hla hlb hlc dx dy dz hx hy hz
  obtain ⟨X, hX⟩ : ∃ l, l = x.take 32 := ⟨_, rfl⟩
  obtain ⟨Y, hY⟩ : ∃ l, l = y.take 32 := ⟨_, rfl⟩
  obtain ⟨Z, hZ⟩ : ∃ l, l = z.take 32 := ⟨_, rfl⟩
  rw [← hX] at c1 ex ⊢
  rw [← hY] at c2 ey ⊢
  rw [← hZ] at c3 ez ⊢
  clear hX hY hZ
  go_enter Tryd.func13, Tryd.ntmps13
  go_wp2_with fail
  refine c1.mono ?_
  rintro e w1 ⟨a1, n1, k1, rfl, hB1, i1, j1, l1, v1, m1⟩
  go_wp2_with fail
  refine (c2 w1 hB1).mono ?_
  rintro e w2 ⟨a2, n2, k2, rfl, hb2, i2, j2, l2, v2, m2⟩
  have hB2 : Below w.heap.size w w2 := hB1.trans (hb2.mono hB1.size)
  have cT := times27 a1 n1 k1 X a2 n2 k2 Y w2 m1 m2 (by omega) (by omega) (v1.below hb2) v2 ex ey
  clear c1 c2 hb2
  go_wp2_with fail
  refine cT.mono ?_
  rintro e w3 ⟨g3, rfl, hR3⟩
  have hB3 : Below w.heap.size w w3 := hB2.trans (hR3.1.mono hB2.size)
  have hvXY : valD (digs (n1 + n2 + 1) (valD X * valD Y)) = valD X * valD Y := by
    refine valD_digs_lt ?_
    have p1 := valD_lt ex
    have p2 := valD_lt ey
    rw [m1] at p1
    rw [m2] at p2
    have : valD X * valD Y < 256 ^ n1 * 256 ^ n2 := Nat.mul_lt_mul'' p1 p2
    rw [← Nat.pow_add] at this
    exact Nat.lt_trans this (Nat.pow_lt_pow_right (by decide) (by omega))
  go_wp2_with fail
  refine (c3 w3 hB3).mono ?_
  rintro e w4 ⟨a4, n4, k4, rfl, hb4, i4, j4, l4, v4, m4⟩
  have hB4 : Below w.heap.size w w4 := hB3.trans (hb4.mono hB3.size)
  have cP := plus26 (some ⟨g3, 0, none⟩) (n1 + n2 + 1) (n1 + n2 + 1) (digs (n1 + n2 + 1) (valD X * valD Y)) a4 n4 k4 Z w4 (digs_len _ _) m4 (by omega) (by omega) (fun _ => ⟨g3, 0, rfl, ints_row (block_below hb4 (lt_of_heap hR3.2.2) hR3.2.2)⟩) v4 (digs_dig _ _) ez
  rw [hvXY] at cP
  obtain ⟨K, hK⟩ : ∃ K, K = max (n1 + n2 + 1) n4 + 1 := ⟨_, rfl⟩
  have hKl : K ≤ 1000 := by omega
  have HV : Hid (valD (digs K (valD X * valD Y + valD Z)) = valD X * valD Y + valD Z) := by
    refine valD_digs_lt ?_
    have p1 := valD_lt (digs_dig (n1 + n2 + 1) (valD X * valD Y))
    have p2 := valD_lt ez
    rw [digs_len, hvXY] at p1
    rw [m4] at p2
    have q1 : 256 ^ (n1 + n2 + 1) ≤ 256 ^ (K - 1) := Nat.pow_le_pow_right (by decide) (by omega)
    have q2 : 256 ^ n4 ≤ 256 ^ (K - 1) := Nat.pow_le_pow_right (by decide) (by omega)
    have q3 : 256 ^ K = 256 ^ (K - 1) * 256 := by rw [← Nat.pow_succ]; congr 1; omega
    omega
  rw [← hK] at cP
  clear hK hvXY cT c3
  go_wp2_with fail
  refine cP.mono ?_
  rintro e w5 ⟨g5, rfl, hR5⟩
  have hB5 : Below w.heap.size w w5 := hB4.trans (hR5.1.mono hB4.size)
  go_wp2_with fail
  refine (ref_L17 w5).mono ?_
  rintro e w6 ⟨g6, rfl, hL⟩
  have cM := modBytes (some ⟨g5, 0, none⟩) K K (digs K (valD X * valD Y + valD Z)) w5 (digs_len _ _) (by omega) (digs_dig _ _) (fun _ => ⟨g5, 0, rfl, ints_row hR5.2.2⟩) g6 w6 hL
  rw [HV.out] at cM
  go_wp2_with fail
  refine cM.mono ?_
  rintro e w7 ⟨g7, rfl, hR7⟩
  go_wp2_with fail
  refine (bytesOf g7 ((valD X * valD Y + valD Z) % LL) w6 w7 (Nat.mod_lt _ LL_pos) hR7).mono ?_
  rintro e w8 ⟨v, rfl, a8, cap8, rfl, h1, h2, hB8, hv8⟩
  have hB6 : Below w.heap.size w w6 := hB5.trans (hL.1.mono hB5.size)
  have hB7 : Below w.heap.size w w7 := hB6.trans (hR7.1.mono hB6.size)
  go_wp2
  go_ret
  exact ⟨_, rfl, a8, cap8, rfl, h1, h2, hB7.trans (hB8.mono hB7.size), hv8⟩
theorem refIs15 (a : Option Addr) (len cap : Nat) (bs : List Nat) (w : World) (hlen : Hid (bs.length = len)) (hcap : len ≤ cap) (hcap2 : cap ≤ 9223372036854775807) (hl : len ≤ 10000) (hd : Dig bs) (hv : View w a bs) :
    Calls Tryd.prog 15 #[.slice a len cap] w fun e w' => e = .returned (.bool (isL bs)) ∧ Below w.heap.size w w' := by
  by_cases h : len = 32
  · subst h
    have cD := digits19 a 32 cap bs w hlen hcap (by omega) hd hv
    have HI : Hid (isL bs = decide (valD bs < LL)) := by
      show _ = _
      unfold isL
      rw [decide_eq_decide]
      exact ⟨fun h => h.2, fun h => ⟨hlen.out, h⟩⟩
    rw [HI.out]
    clear hlen hv
    go_enter Tryd.func15, Tryd.ntmps15
    go_wp2_with fail
    refine cD.mono ?_
    rintro e w1 ⟨v, rfl, hB1, hown⟩
    obtain ⟨a', c', rfl, h1, h2, h3, h4⟩ := own_irow hown
    go_wp2_with fail
    refine (ref_L17 w1).mono ?_
    rintro e w2 ⟨g, rfl, hL⟩
    have cL := less18 a' 32 c' bs (some ⟨g, 0, none⟩) 32 32 (digs 32 LL) w2 h4 (digs_len _ _) (by omega) (by omega) (h3.below hL.1) (fun _ => ⟨g, 0, rfl, ints_row hL.2.2⟩) hd (digs_dig _ _)
    rw [valL] at cL
    go_wp2_with fail
    refine cL.mono ?_
    rintro e w3 ⟨rfl, rfl⟩
    go_wp2
    go_ret
    exact ⟨rfl, hB1.trans (hL.1.mono hB1.size)⟩
  · have HI : Hid (isL bs = false) := by
      show _ = _
      unfold isL
      rw [decide_eq_false_iff_not, hlen.out]
      exact fun hh => h hh.1
    rw [HI.out]
    have hb : ((len : Int) == 32) = false := by simp; omega
    clear hlen hv
    go_enter Tryd.func15, Tryd.ntmps15
    go_wp2
    go_ret
    exact ⟨rfl, Below.refl _ _⟩
end Go.Proofs.YtoehjkebfpoigaaDoor
