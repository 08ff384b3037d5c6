/-
  The reference's contracts, in elements. The reference's Root. The reference's points: D, Add, On, Bytes. The reference's Of, Base. The reference's Base, Bytes, Read. The reference's Read.
-/
import Derived.Test.YtpfcboakafbnlaaDoorLA
set_option linter.unusedVariables false
namespace Go.Proofs.YtpfcboakafbnlaaDoor
open Go.RowKit Go.Sort Go.BigFrame
set_option maxRecDepth 100000
set_option maxHeartbeats 2000000
/-- A row of digits, wherever it lies. -/
def DRow (l : List Nat) (v : Value) (w : World) : Prop := ∃ a cap, v = .slice a l.length cap ∧ l.length ≤ cap ∧ cap ≤ 9223372036854775807 ∧ IView w a l
theorem DRow.stb (l : List Nat) : Stb (DRow l) := fun _ _ _ hb ⟨a, c, h1, h2, h3, h4⟩ => ⟨a, c, h1, h2, h3, h4.below hb⟩
/-- The digits of an element. -/
def Rw (x : Fe) (v : Value) (w : World) : Prop := ∃ a cap, v = .slice a 32 cap ∧ 32 ≤ cap ∧ cap ≤ 9223372036854775807 ∧ IView w a (digs 32 x.val)
theorem Rw.stb (x : Fe) : Stb (Rw x) := fun _ _ _ hb ⟨a, c, h1, h2, h3, h4⟩ => ⟨a, c, h1, h2, h3, h4.below hb⟩
theorem fe_lt (x : Fe) : x.val < 256 ^ 32 := Nat.lt_trans x.isLt (by decide)
theorem vd (x : Fe) : valD (digs 32 x.val) = x.val := valD_digs_lt (fe_lt x)
theorem Rw.drow {x : Fe} {v : Value} {w : World} (h : Rw x v w) : DRow (digs 32 x.val) v w := by
  obtain ⟨a, c, h1, h2, h3, h4⟩ := h
  exact ⟨a, c, by rw [digs_len]; exact h1, by rw [digs_len]; exact h2, h3, h4⟩
theorem rw_of {w w' : World} {g : Nat} {x : Fe} (h : RelR w w' g (digs 32 x.val)) : Rw x (.slice (some ⟨g, 0, none⟩) 32 32) w' := ⟨_, _, rfl, by omega, by omega, fun _ => ⟨g, 0, rfl, ints_row h.2.2⟩⟩
theorem ret_row {f : FuncId} {args : Array Value} {w : World} {n : Nat} {x : Fe} (hx : n = x.val) (h : Calls Tryd.prog f args w fun e w' => ∃ g, e = .returned (.slice (some ⟨g, 0, none⟩) 32 32) ∧ RelR w w' g (digs 32 n)) : Ret f args w (Rw x) := by
  subst hx
  exact h.mono fun e w' ⟨g, he, hR⟩ => ⟨_, he, hR.1, rw_of hR⟩
theorem rMul {x y : Fe} {v1 v2 : Value} (w : World) (h1 : Rw x v1 w) (h2 : Rw y v2 w) : Ret 41 #[v1, v2] w (Rw (x * y)) := by
  obtain ⟨a, ca, rfl, _, _, ha⟩ := h1
  obtain ⟨b, cb, rfl, _, _, hb⟩ := h2
  have := mul25 a 32 ca _ b 32 cb _ w (digs_len _ _) (digs_len _ _) (by omega) (by omega) ha hb (digs_dig _ _) (digs_dig _ _)
  rw [vd, vd] at this
  exact ret_row (Fin.val_mul x y).symm this
theorem rAdd {x y : Fe} {v1 v2 : Value} (w : World) (h1 : Rw x v1 w) (h2 : Rw y v2 w) : Ret 43 #[v1, v2] w (Rw (x + y)) := by
  obtain ⟨a, ca, rfl, _, _, ha⟩ := h1
  obtain ⟨b, cb, rfl, _, _, hb⟩ := h2
  have := add23 a 32 ca _ b 32 cb _ w (digs_len _ _) (digs_len _ _) (by omega) (by omega) ha hb (digs_dig _ _) (digs_dig _ _)
  rw [vd, vd] at this
  exact ret_row (Fin.val_add x y).symm this
theorem sub_val (x y : Fe) : (x.val + pp - y.val) % pp = (x - y).val := by
  have h := fe_sub (a := x.val) (b := y.val) (Nat.le_of_lt y.isLt)
  rw [fe_of, fe_of] at h
  rw [← h, fe_val]
  congr 1
  have := y.isLt
  omega
theorem rSub {x y : Fe} {v1 v2 : Value} (w : World) (h1 : Rw x v1 w) (h2 : Rw y v2 w) : Ret 42 #[v1, v2] w (Rw (x - y)) := by
  obtain ⟨a, ca, rfl, _, _, ha⟩ := h1
  obtain ⟨b, cb, rfl, _, _, hb⟩ := h2
  have := sub21 a ca _ b cb _ w (digs_len _ _) (digs_len _ _) ha hb (digs_dig _ _) (digs_dig _ _) (by rw [vd]; exact Nat.le_of_lt y.isLt)
  rw [vd, vd] at this
  exact ret_row (sub_val x y) this
theorem rInt (w : World) (n : Nat) (h : n ≤ 9223372036854775807) : Ret 44 #[.int .i64 (n : Int)] w (Rw (fe n)) := ret_row rfl (int18p n w h)
theorem rIntN (w : World) (n : Nat) (h0 : 0 < n) (h : n ≤ 9223372036854775808) : Ret 44 #[.int .i64 (-(n : Int))] w (Rw (0 - fe n)) := by
  refine ret_row ?_ (int18n n w h0 h)
  rw [← sub_val, fe_val]
  show (pp - n % pp) % pp = (0 + pp - n % pp) % pp
  rw [Nat.zero_add]
theorem rPow {x : Fe} {v1 v2 : Value} {l : List Nat} {e : Nat} (he : valD l = e) (w : World) (h1 : Rw x v1 w) (h2 : DRow l v2 w) (hl : l.length ≤ 1000) (hd : Dig l) : Ret 70 #[v1, v2] w (Rw (pw x e)) := by
  obtain ⟨a, ca, rfl, _, _, ha⟩ := h1
  obtain ⟨b, cb, rfl, _, _, hb⟩ := h2
  have := pow33 a ca _ b l.length cb l w (digs_len _ _) rfl hl ha hb (digs_dig _ _) hd
  rw [vd, he] at this
  exact ret_row rfl this
theorem rInv {x : Fe} {v1 : Value} (w : World) (h1 : Rw x v1 w) : Ret 50 #[v1] w (Rw (fin x)) := by
  obtain ⟨a, ca, rfl, _, _, ha⟩ := h1
  have := inv29 a ca _ w (digs_len _ _) ha (digs_dig _ _)
  obtain ⟨X, hX⟩ : ∃ X, X = 57896044618658097711785492504343953926634992332820282019728792003956564819947 := ⟨_, rfl⟩
  rw [vd, ← hX] at this
  rw [fin_pw x (n := X) (by rw [hX]; decide)]
  exact ret_row rfl this
theorem rSame {x y : Fe} {v1 v2 : Value} (w : World) (h1 : Rw x v1 w) (h2 : Rw y v2 w) : Ret 46 #[v1, v2] w (Is (.bool (decide (x = y)))) := by
  obtain ⟨a, ca, rfl, _, _, ha⟩ := h1
  obtain ⟨b, cb, rfl, _, _, hb⟩ := h2
  have := same26 a 32 ca _ b 32 cb _ w (digs_len _ _) (digs_len _ _) (by omega) (by omega) ha hb (digs_dig _ _) (digs_dig _ _)
  refine this.mono fun e w' ⟨h, hB⟩ => ⟨_, h, hB, ?_⟩
  refine congrArg Value.bool (decide_eq_decide.2 ?_)
  rw [vd, vd]
  exact ⟨fun h => Fin.ext ((vd x).symm.trans ((congrArg valD h).trans (vd y))), fun h => by rw [h]⟩
theorem rSameT {x y : Fe} (h : x = y) {v1 v2 : Value} (w : World) (h1 : Rw x v1 w) (h2 : Rw y v2 w) : Ret 46 #[v1, v2] w (Is (.bool true)) := by
  have := rSame w h1 h2
  rwa [decide_eq_true h] at this
theorem rSameF {x y : Fe} (h : ¬ x = y) {v1 v2 : Value} (w : World) (h1 : Rw x v1 w) (h2 : Rw y v2 w) : Ret 46 #[v1, v2] w (Is (.bool false)) := by
  have := rSame w h1 h2
  rwa [decide_eq_false h] at this
theorem rDigits {v : Value} {l : List Nat} (w : World) (h : Bts l v w) (hd : Dig l) (hl : l.length ≤ 10000) : Ret 28 #[v] w (DRow l) := by
  obtain ⟨a, cap, rfl, h1, h2, hv⟩ := h
  refine (digits11 a l.length cap l w rfl h1 hl hd hv).mono fun e w' ⟨v, he, hB, hown⟩ => ⟨v, he, hB, ?_⟩
  obtain ⟨a2, c2, rfl, h3, h4⟩ := own_slice hown
  exact ⟨a2, c2, rfl, h3, h4, (own_iview hown).1⟩
theorem rPlus {x y : List Nat} {v1 v2 : Value} (w : World) (h1 : DRow x v1 w) (h2 : DRow y v2 w) (hx : x.length ≤ 1000) (hy : y.length ≤ 1000) (dx : Dig x) (dy : Dig y) : Ret 27 #[v1, v2] w (DRow (digs (max x.length y.length + 1) (valD x + valD y))) := by
  obtain ⟨a, ca, rfl, _, _, ha⟩ := h1
  obtain ⟨b, cb, rfl, _, _, hb⟩ := h2
  refine (plus32 a x.length ca x b y.length cb y w rfl rfl (by omega) (by omega) ha hb dx dy).mono fun e w' ⟨g, he, hR⟩ => ⟨_, he, hR.1, ?_⟩
  exact ⟨_, _, by rw [digs_len], by rw [digs_len]; exact Nat.le_refl _, by omega, fun _ => ⟨g, 0, rfl, ints_row hR.2.2⟩⟩
theorem rBytes {l : List Nat} {v : Value} {n : Nat} (hn : valD l = n) (w : World) (h : DRow l v w) (hl : l.length ≤ 10000) (hd : Dig l) : Ret 21 #[v] w (OwnC w.heap.size (digs 32 n)) := by
  obtain ⟨a, cap, rfl, h1, h2, hv⟩ := h
  subst hn
  exact (bytes31 a l.length cap l w rfl hl hd hv).mono fun e w' ⟨v, he, hB, hown⟩ => ⟨v, he, hB, own_C (digs_len _ _) (by omega) hown⟩
theorem dd_eq : (0 - fe 121665) * fin (fe 121666) = dd := by
  have h0 : (fe 121666 : Fe) ≠ 0 := fun h => absurd (congrArg Fin.val h) (by decide)
  have h1 := mul_fin h0
  have h2 : dd * fe 121666 = -fe 121665 := dd_def
  obtain ⟨i, hi⟩ : ∃ i, i = fin (fe 121666) := ⟨_, rfl⟩
  rw [← hi] at h1 ⊢
  obtain ⟨m, hm⟩ : ∃ m, m = fe 121666 := ⟨_, rfl⟩
  obtain ⟨n, hn⟩ : ∃ n, n = fe 121665 := ⟨_, rfl⟩
  rw [← hm] at h1 h2
  rw [← hn] at h2 ⊢
  clear hm hn hi h0
  grobner
end Go.Proofs.YtpfcboakafbnlaaDoor
set_option linter.unusedVariables false
namespace Go.Proofs.YtpfcboakafbnlaaDoor
open Go.RowKit Go.Sort Go.BigFrame
set_option maxRecDepth 100000
set_option maxHeartbeats 2000000
theorem exp1_val : valD (((pk 32).set 0 254).set 31 15) = valD tab3.reverse := by decide
theorem exp2_val : valD (((pk 32).set 0 251).set 31 31) = 14474011154664524427946373126085988481658748083205070504932198000989141204987 := by decide
theorem exp1_dig : Dig (((pk 32).set 0 254).set 31 15) := dig_lt (by decide)
theorem exp2_dig : Dig (((pk 32).set 0 251).set 31 31) := dig_lt (by decide)
theorem drow_of {w w' : World} {g : Nat} {l : List Nat} (h : RelR w w' g l) (hl : l.length = 32) : DRow l (.slice (some ⟨g, 0, none⟩) 32 32) w' := ⟨_, _, by rw [hl], by rw [hl]; omega, by omega, fun _ => ⟨g, 0, rfl, ints_row h.2.2⟩⟩
theorem rRoot {a : Fe} {v : Value} {e : Nat} (he : valD tab3.reverse = e) (w : World) (h : Rw a v w) : Ret 60 #[v] w (Tup2 (Rw (rootOf e a)) (Is (.bool (decide (rootOf e a * rootOf e a = a))))) := by
  obtain ⟨ad, ca, rfl, hca1, hca2, hva⟩ := id h
  have hmk := make31 32 (by omega)
  simp only [Int.cast_ofNat_Int] at hmk
  have HE : Hid (valD (((pk 32).set 0 254).set 31 15) = e) := exp1_val.trans he
  have HH : Hid (Rw a (.slice ad 32 ca) w) := h
  clear h hva he hca1 hca2
  unfold Ret
  go_enter Tryd.func60, Tryd.ntmps60
  go_wp2_with fail
  have hR0 : RelR w (w.alloc (.cells (ints .i64 (digs 32 0)) 3)) w.heap.size (pk 0) := ⟨below1 _ _, Nat.le_refl _, by rw [show pk 0 = digs 32 0 from rfl]; exact alloc_row _ _ _⟩
  go_loopw [5] (fun i wr => ∃ k : Nat, k ≤ 32 ∧ i = .int .i64 k ∧ RelR w wr w.heap.size (pk k)) (fun i _ => 32 - (intOf i).toNat)
  case atStart => exact ⟨0, by omega, rfl, hR0⟩
  case round =>
    obtain ⟨k, hk, rfl, hR⟩ := hrel
    clear hR0
    by_cases hlt : k < 32
    · have c1 := hR.at k (by rw [pk_len hk]; omega)
      have f1 := hR.free k
      have HN : Hid (RelR w (wr.setCell ⟨w.heap.size, k, none⟩ (.int .i64 255)) w.heap.size (pk (k + 1))) := by
        show RelR _ _ _ _
        rw [← pk_set hlt]; exact hR.set k 255
      clear hR hmk
      go_wp2
      go_roundw
      case rel => exact ⟨k + 1, by omega, by go_num, HN.out⟩
      case measure => simp [intOf]; omega
    · obtain rfl : k = 32 := by omega
      have c0 := hR.at 0 (by rw [pk_len hk]; omega)
      have f0 := hR.free 0
      have hR1 : RelR w (wr.setCell ⟨w.heap.size, 0, none⟩ (.int .i64 254)) w.heap.size ((pk 32).set 0 254) := hR.set 0 254
      have c1 := hR1.at 31 (by decide)
      have f1 := hR1.free 31
      have hR2 : RelR w ((wr.setCell ⟨w.heap.size, 0, none⟩ (.int .i64 254)).setCell ⟨w.heap.size, 31, none⟩ (.int .i64 15)) w.heap.size (((pk 32).set 0 254).set 31 15) := hR1.set 31 15
      have hrow := drow_of hR2 (by decide)
      have hPw := rPow HE.out _ (Rw.stb _ _ _ _ hR2.1 HH.out) hrow (by decide) exp1_dig
      have HB2 : Hid _ := hR2.1
      clear hR hR1 hR2 hrow
      unfold Ret at hPw
      go_wp2_with fail
      refine hPw.mono ?_
      rintro e1 w2 ⟨v2, rfl, hb2, hx2⟩
      have hB2 : Below w.heap.size w w2 := HB2.out.trans (hb2.mono HB2.out.size)
      clear hPw HB2 hb2 c0 f0 c1 f1
      have hMu := rMul w2 hx2 hx2
      unfold Ret at hMu
      go_wp2_with fail
      refine hMu.mono ?_
      rintro e2 w3 ⟨v3, rfl, hb3, hx3⟩
      have hB3 : Below w.heap.size w w3 := hB2.trans (hb3.mono hB2.size)
      have hx23 := Rw.stb _ _ _ _ hb3 hx2
      have ha3 := Rw.stb _ _ _ _ hB3 HH.out
      clear hMu hB2 hb3 hx2
      by_cases hsq : pw a e * pw a e = a
      · have hSm := rSameT hsq w3 hx3 ha3
        have HRO : Hid (rootOf e a = pw a e) := by show _ = _; unfold rootOf; rw [if_pos hsq]
        have HSQ : Hid (pw a e * pw a e = a) := hsq
        clear hsq
        unfold Ret at hSm
        go_wp2_with fail
        refine hSm.mono ?_
        rintro e3 w4 ⟨v4, rfl, hb4, hv4⟩
        have hB4 : Below w.heap.size w w4 := hB3.trans (hb4.mono hB3.size)
        have hx24 := Rw.stb _ _ _ _ hb4 hx23
        obtain rfl : v4 = .bool true := hv4
        clear hSm hb4 hB3 hx3 ha3
        go_wp2
        go_ret2
        refine ⟨_, rfl, hB4, _, _, rfl, ?_, ?_⟩
        · rw [HRO.out]; exact hx24
        · rw [HRO.out, decide_eq_true HSQ.out]; rfl
      · have hSm := rSameF hsq w3 hx3 ha3
        have HRO : Hid (rootOf e a = pw a e * ii) := by show _ = _; unfold rootOf; rw [if_neg hsq]
        clear hsq
        unfold Ret at hSm
        go_wp2_with fail
        refine hSm.mono ?_
        rintro e3 w4 ⟨v4, rfl, hb4, hv4⟩
        have hB4 : Below w.heap.size w w4 := hB3.trans (hb4.mono hB3.size)
        have hx24 := Rw.stb _ _ _ _ hb4 hx23
        obtain rfl : v4 = .bool false := hv4
        clear hSm hb4 hB3 hx3 ha3
        go_wp2_with fail
        have hR0 : RelR w4 (w4.alloc (.cells (ints .i64 (digs 32 0)) 3)) w4.heap.size (pk 0) := ⟨below1 _ _, Nat.le_refl _, by rw [show pk 0 = digs 32 0 from rfl]; exact alloc_row _ _ _⟩
        go_loopw [9] (fun i wr => ∃ k : Nat, k ≤ 32 ∧ i = .int .i64 k ∧ RelR w4 wr w4.heap.size (pk k)) (fun i _ => 32 - (intOf i).toNat)
        case atStart => exact ⟨0, by omega, rfl, hR0⟩
        case round =>
          obtain ⟨k, hk, rfl, hR⟩ := hrel
          clear hR0
          by_cases hlt : k < 32
          · have c1 := hR.at k (by rw [pk_len hk]; omega)
            have f1 := hR.free k
            have HN : Hid (RelR w4 (wr.setCell ⟨w4.heap.size, k, none⟩ (.int .i64 255)) w4.heap.size (pk (k + 1))) := by
              show RelR _ _ _ _
              rw [← pk_set hlt]; exact hR.set k 255
            clear hR hmk
            go_wp2
            go_roundw
            case rel => exact ⟨k + 1, by omega, by go_num, HN.out⟩
            case measure => simp [intOf]; omega
          · obtain rfl : k = 32 := by omega
            have c0 := hR.at 0 (by rw [pk_len hk]; omega)
            have f0 := hR.free 0
            have hR1 : RelR w4 (wr.setCell ⟨w4.heap.size, 0, none⟩ (.int .i64 251)) w4.heap.size ((pk 32).set 0 251) := hR.set 0 251
            have c1 := hR1.at 31 (by decide)
            have f1 := hR1.free 31
            have hR2 : RelR w4 ((wr.setCell ⟨w4.heap.size, 0, none⟩ (.int .i64 251)).setCell ⟨w4.heap.size, 31, none⟩ (.int .i64 31)) w4.heap.size (((pk 32).set 0 251).set 31 31) := hR1.set 31 31
            have HROW : Hid _ := drow_of hR2 (by decide)
            have hIn := rInt ((wr.setCell ⟨w4.heap.size, 0, none⟩ (.int .i64 251)).setCell ⟨w4.heap.size, 31, none⟩ (.int .i64 31)) 2 (by decide)
            have HB5 : Hid _ := hR2.1
            clear hR hR1 hR2
            unfold Ret at hIn
            simp only [Int.cast_ofNat_Int] at hIn
            go_wp2_with fail
            refine hIn.mono ?_
            rintro e6 w6 ⟨v6, rfl, hb6, hx6⟩
            have hB6 : Below w4.heap.size w4 w6 := HB5.out.trans (hb6.mono HB5.out.size)
            have hrow6 := DRow.stb _ _ _ _ hb6 HROW.out
            obtain ⟨X, hX⟩ : ∃ X, X = 14474011154664524427946373126085988481658748083205070504932198000989141204987 := ⟨_, rfl⟩
            have hPw := rPow (exp2_val.trans hX.symm) w6 hx6 hrow6 (by decide) exp2_dig
            rw [pw2_quarter hX] at hPw
            clear hIn HB5 HROW hb6 c0 f0 c1 f1 hX hrow6
            unfold Ret at hPw
            go_wp2_with fail
            refine hPw.mono ?_
            rintro e7 w7 ⟨v7, rfl, hb7, hx7⟩
            have hB7 : Below w4.heap.size w4 w7 := hB6.trans (hb7.mono hB6.size)
            have hMu := rMul w7 (Rw.stb _ _ _ _ hB7 hx24) hx7
            clear hPw hB6 hb7 hx6
            unfold Ret at hMu
            go_wp2_with fail
            refine hMu.mono ?_
            rintro e8 w8 ⟨v8, rfl, hb8, hx8⟩
            have hB8 : Below w4.heap.size w4 w8 := hB7.trans (hb8.mono hB7.size)
            have hMu2 := rMul w8 hx8 hx8
            clear hMu hB7 hb8 hx7
            unfold Ret at hMu2
            go_wp2_with fail
            refine hMu2.mono ?_
            rintro e9 w9 ⟨v9, rfl, hb9, hx9⟩
            have hB9 : Below w4.heap.size w4 w9 := hB8.trans (hb9.mono hB8.size)
            have hO9 : Below w.heap.size w w9 := hB4.trans (hB9.mono hB4.size)
            have hSm := rSame w9 hx9 (Rw.stb _ _ _ _ hO9 HH.out)
            have hx89 := Rw.stb _ _ _ _ hb9 hx8
            clear hMu2 hB8 hb9 hx8 hB9
            unfold Ret at hSm
            go_wp2_with fail
            refine hSm.mono ?_
            rintro e10 w10 ⟨v10, rfl, hb10, hv10⟩
            have hO10 : Below w.heap.size w w10 := hO9.trans (hb10.mono hO9.size)
            have hx810 := Rw.stb _ _ _ _ hb10 hx89
            clear hSm hO9 hb10
            go_wp2
            go_ret2
            refine ⟨_, rfl, hO10, _, _, rfl, ?_, ?_⟩
            · rw [HRO.out]; exact hx810
            · rw [HRO.out]; exact hv10
end Go.Proofs.YtpfcboakafbnlaaDoor
set_option linter.unusedVariables false
namespace Go.Proofs.YtpfcboakafbnlaaDoor
open Go.RowKit Go.Sort Go.BigFrame
set_option maxRecDepth 100000
set_option maxHeartbeats 2000000
/-- A pair of rows of digits. -/
def RPt (x y : Fe) (v : Value) (w : World) : Prop := ∃ p q, v = .agg #[p, q] ∧ Rw x p w ∧ Rw y q w
theorem RPt.stb (x y : Fe) : Stb (RPt x y) := fun _ _ _ hb ⟨p, q, h1, h2, h3⟩ => ⟨p, q, h1, Rw.stb _ _ _ _ hb h2, Rw.stb _ _ _ _ hb h3⟩
theorem Rw.one {x : Fe} {v : Value} {w : World} (h : Rw x v w) : v.oneCell' = true := by obtain ⟨a, c, rfl, _⟩ := h; rfl
theorem rpt_one {x y : Fe} {p q : Value} {w w' : World} (h1 : Rw x p w) (h2 : Rw y q w') : (#[p, q] : Array Value).all (·.oneCell') = true := by simp [h1.one, h2.one]
theorem nz35 : ∀ (i : Nat) (n : Int), (#[.slice none 0 0, .slice none 0 0] : Array Value)[i]? ≠ some (.int .i64 n) := by
  intro i n h
  match i with
  | 0 => simp at h
  | 1 => simp at h
  | i + 2 => simp at h
theorem Rw.setRow {x : Fe} {v : Value} {w : World} (h : Rw x v w) {g t : Nat} {cs : Array Value} {fr : Nat × Nat} (hg : w.heap[g]? = some (.cells cs t fr)) (hn : ∀ (i : Nat) (n : Int), cs[i]? ≠ some (.int .i64 n)) (new : Array Value) : Rw x v (w.setRow g new) := by
  obtain ⟨a, c, h1, h2, h3, h4⟩ := h
  refine ⟨a, c, h1, h2, h3, fun hp => ?_⟩
  obtain ⟨b, off, hb, hc⟩ := h4 hp
  refine ⟨b, off, hb, fun i hi => ?_⟩
  have hne : b ≠ g := fun e => by
    subst e
    have := hc i hi
    rw [cell_of_row w b (off + i) _ t _ hg] at this
    exact hn _ _ this
  rw [cell_setRow_other _ _ _ _ hne]
  exact hc i hi
section
variable {ρ : Operand → Value} {o : Oper} {x y z t : Operand} {w : World}
theorem bu35z (ho : o.op = .build 35 #[]) : (execOp ρ o).run Tryd.prog w = .ok (.value (.agg #[.slice none 0 0, .slice none 0 0])) w := by
  simp only [execOp, ho]
  kernel_rfl
theorem dBuild35 {X Y : Fe} (ho : o.op = .build 35 #[(0, x), (1, y)]) (hx : Rw X (ρ x) w) (hy : Rw Y (ρ y) w) : Does Tryd.prog o ρ w (fun v w' => Below w.heap.size w w' ∧ RPt X Y v w') := by
  obtain ⟨a, ca, e1, h1⟩ := id hx
  obtain ⟨b, cb, e2, h2⟩ := id hy
  exact Does.run _ (bu35 a b 32 ca 32 cb ho e1 e2) ⟨_, _, rfl, ⟨a, ca, rfl, h1⟩, ⟨b, cb, rfl, h2⟩⟩
theorem dBox35 {lo : Nat} {X Y : Fe} {p q : Value} {u : World} (hlo : lo ≤ w.heap.size) (ho : o.op = .box 35 x) (hx : ρ x = .agg #[p, q]) (h : Rw X p u ∧ Rw Y q u) : Does Tryd.prog o ρ w (fun v w' => Below w.heap.size w w' ∧ Box lo #[p, q] 35 v w') := by
  obtain ⟨⟨a, ca, rfl, _⟩, ⟨b, cb, rfl, _⟩⟩ := h
  exact Does.new _ (.cells #[.slice a 32 ca, .slice b 32 cb] 35) (by simp only [execOp, ho, hx]; kernel_rfl) ⟨_, rfl, hlo, heap_alloc_new _ _⟩
theorem dLoadRPt {X Y : Fe} {p q : Value} {u : World} {g tt : Nat} {fr : Nat × Nat} (hx : Rw X p u) (hB : Below u.heap.size u w) (hy : Rw Y q u) (h : w.heap[g]? = some (.cells #[p, q] tt fr)) (ho : o.op = .load 35 x) (hp : ρ x = .pointer (some ⟨g, 0, none⟩)) : Does Tryd.prog o ρ w (fun v w' => Below w.heap.size w w' ∧ RPt X Y v w') :=
  Does.run _ (loadRow ho hp h Tryd.underlying35 rfl info35) ⟨p, q, rfl, Rw.stb _ _ _ _ hB hx, Rw.stb _ _ _ _ hB hy⟩
theorem run_load33 {p : Addr} {a : Option Addr} {n c : Nat} (ho : o.op = .load 33 x) (hx : ρ x = .pointer (some p)) (hc : w.cell? p = some (.slice a n c)) : (execOp ρ o).run Tryd.prog w = .ok (.value (.slice a n c)) w := by
  simp [execOp, ho, hx, go_sem, hc, Instr.loadAt, Instr.sureAddr]
theorem dLoadR0 {X Y : Fe} {p q : Value} {u : World} {g tt : Nat} {fr : Nat × Nat} (hx : Rw X p u) (hB : Below u.heap.size u w) (hy : Rw Y q u) (h : w.heap[g]? = some (.cells #[p, q] tt fr)) (ho : o.op = .load 33 x) (hp : ρ x = .pointer (some ⟨g, 0, none⟩)) : Does Tryd.prog o ρ w (fun v w' => Below w.heap.size w w' ∧ Rw X v w') := by
  have hc := cell_of_row w g 0 _ _ _ h
  have hx' := Rw.stb _ _ _ _ hB hx
  obtain ⟨a, ca, rfl, _⟩ := id hx'
  exact Does.run _ (run_load33 ho hp hc) hx'
theorem dLoadR1 {X Y : Fe} {p q : Value} {u : World} {g tt : Nat} {fr : Nat × Nat} (hx : Rw X p u) (hB : Below u.heap.size u w) (hy : Rw Y q u) (h : w.heap[g]? = some (.cells #[p, q] tt fr)) (ho : o.op = .load 33 x) (hp : ρ x = .pointer (some ⟨g, 1, none⟩)) : Does Tryd.prog o ρ w (fun v w' => Below w.heap.size w w' ∧ Rw Y v w') := by
  have hc := cell_of_row w g 1 _ _ _ h
  have hy' := Rw.stb _ _ _ _ hB hy
  obtain ⟨a, ca, rfl, _⟩ := id hy'
  exact Does.run _ (run_load33 ho hp hc) hy'
end
theorem rD (w : World) : Ret 45 #[] w (Rw dd) := by
  unfold Ret
  have hO0 : Below w.heap.size w w := Below.refl _ _
  go_enter Tryd.func45, Tryd.ntmps45
  refine wp_seq_k fun K1 hK1 => ?_
  refine wp_plain_inv 1 (specs [Is (.slice none 0 0)]) (specs_stb ⟨Is.stb _, trivial⟩) (by kernel_rfl) ?_ ?_
  · refine ⟨fun a w hB hfr hdep => Step.plain rfl (dAssign (R := Is (.slice none 0 0)) rfl rfl), trivial⟩
  intro u1 hb1
  simp only [List.take, List.drop, FinAll, Act.put, List.setIfInBounds_toArray, List.set_cons_zero]
  rintro _ rfl
  have hO1 := (hO0).trans (hb1.mono (hO0).size)
  refine hK1 _ _ ?_
  clear hK1 K1
  refine wp_seq_k fun K2 hK2 => ?_
  refine wp_plain_inv 5 (specs [Rw (0 - fe 121665), Rw (fe 121666), Rw (fin (fe 121666)), Rw ((0 - fe 121665) * (fin (fe 121666))), Rw ((0 - fe 121665) * (fin (fe 121666)))]) (specs_stb ⟨Rw.stb _, Rw.stb _, Rw.stb _, Rw.stb _, Rw.stb _, trivial⟩) (by kernel_rfl) ?_ ?_
  · refine ⟨fun a w hB hfr hdep => Step.plain rfl (Does.call 44 #[.int .i64 (-121665)] (by kernel_rfl) (rIntN w 121665 (by decide) (by decide))),
      fun a w hB hfr hdep => Step.plain rfl (Does.call 44 #[.int .i64 121666] (by kernel_rfl) (rInt w 121666 (by decide))),
      fun a w hB hfr hdep => Step.plain rfl (Does.call 50 #[(a.eval (.tmp 2))] (by kernel_rfl) (rInv w (hdep 1 2 (by kernel_rfl)))),
      fun a w hB hfr hdep => Step.plain rfl (Does.call 41 #[(a.eval (.tmp 1)), (a.eval (.tmp 3))] (by kernel_rfl) (rMul w (hdep 0 1 (by kernel_rfl)) (hdep 2 3 (by kernel_rfl)))),
      fun a w hB hfr hdep => Step.plain rfl (dAssign (R := Rw ((0 - fe 121665) * (fin (fe 121666)))) rfl (hdep 3 4 (by kernel_rfl))), trivial⟩
  intro u2 hb2
  simp only [List.take, List.drop, FinAll, Act.put, List.setIfInBounds_toArray, List.set_cons_succ, List.set_cons_zero]
  rintro v1_2 h1_2 v2_2 h2_2 v3_2 h3_2 v4_2 h4_2 v0_2 h0_2
  have hO2 := (hO1).trans (hb2.mono (hO1).size)
  refine hK2 _ _ ?_
  clear hK2 K2
  refine wp_ret ?_
  refine bodyPost_ret (results_tmp rfl _ _ _) rfl ?_
  exact ⟨_, rfl, hO2, (by rw [← dd_eq]; exact h0_2)⟩
theorem rAddP {x1 y1 x2 y2 : Fe} {v1 v2 : Value} (w : World) (h1 : RPt x1 y1 v1 w) (h2 : RPt x2 y2 v2 w) : Ret 18 #[v1, v2] w (RPt ((((x1) * (y2)) + ((y1) * (x2))) * (fin ((1) + ((dd) * (((x1) * (x2)) * ((y1) * (y2))))))) ((((y1) * (y2)) + ((x1) * (x2))) * (fin ((1) - ((dd) * (((x1) * (x2)) * ((y1) * (y2)))))))) := by
  obtain ⟨p1, q1, rfl, hx1, hy1⟩ := h1
  obtain ⟨p2, q2, rfl, hx2, hy2⟩ := h2
  unfold Ret
  have hO0 : Below w.heap.size w w := Below.refl _ _
  go_enter Tryd.func18, Tryd.ntmps18
  refine wp_seq_k fun K1 hK1 => ?_
  refine wp_plain_inv 3 (specs [Box w.heap.size (#[p1, q1]) 35, Box w.heap.size (#[p2, q2]) 35, Box w.heap.size (#[.slice none 0 0, .slice none 0 0]) 35]) (specs_stb ⟨Box.stb _ _ _, Box.stb _ _ _, Box.stb _ _ _, trivial⟩) (by kernel_rfl) ?_ ?_
  · refine ⟨fun a w hB hfr hdep => Step.plain rfl (dBox35 hB.size rfl (hfr 0 (by kernel_rfl)) ⟨hx1, hy1⟩),
      fun a w hB hfr hdep => Step.plain rfl (dBox35 hB.size rfl (hfr 1 (by kernel_rfl)) ⟨hx2, hy2⟩),
      fun a w hB hfr hdep => Step.plain rfl (dAlloc35 hB.size rfl), trivial⟩
  intro u1 hb1
  simp only [List.take, List.drop, FinAll, Act.put, List.setIfInBounds_toArray, List.set_cons_succ, List.set_cons_zero]
  rintro _ ⟨g2_1, rfl, l2_1, m2_1⟩ _ ⟨g3_1, rfl, l3_1, m3_1⟩ _ ⟨g4_1, rfl, l4_1, m4_1⟩
  have hO1 := (hO0).trans (hb1.mono (hO0).size)
  have lwm2_1 := Nat.le_trans (hO0).size l2_1
  have lwm3_1 := Nat.le_trans (hO0).size l3_1
  have lwm4_1 := Nat.le_trans (hO0).size l4_1
  refine hK1 _ _ ?_
  clear hK1 K1
  refine wp_seq_k fun K2 hK2 => ?_
  refine wp_plain_inv 2 (specs [Rw (1), Rw (1)]) (specs_stb ⟨Rw.stb _, Rw.stb _, trivial⟩) (by kernel_rfl) ?_ ?_
  · refine ⟨fun a w hB hfr hdep => Step.plain rfl (Does.call 44 #[.int .i64 1] (by kernel_rfl) (rInt w 1 (by decide))),
      fun a w hB hfr hdep => Step.plain rfl (dAssign (R := Rw (1)) rfl (hdep 0 13 (by kernel_rfl))), trivial⟩
  intro u2 hb2
  simp only [List.take, List.drop, FinAll, Act.put, List.setIfInBounds_toArray, List.set_cons_succ, List.set_cons_zero]
  rintro v13_2 h13_2 v5_2 h5_2
  have hO2 := (hO1).trans (hb2.mono (hO1).size)
  have m2_1__2 := block_below hb2 (lt_of_heap m2_1) m2_1
  have m3_1__2 := block_below hb2 (lt_of_heap m3_1) m3_1
  have m4_1__2 := block_below hb2 (lt_of_heap m4_1) m4_1
  refine hK2 _ _ ?_
  clear hK2 K2
  refine wp_seq_k fun K3 hK3 => ?_
  refine wp_plain_inv 6 (specs [Is (.pointer (some ⟨g2_1, 0, none⟩)), Rw (x1), Is (.pointer (some ⟨g3_1, 1, none⟩)), Rw (y2), Rw ((x1) * (y2)), Rw ((x1) * (y2))]) (specs_stb ⟨Is.stb _, Rw.stb _, Is.stb _, Rw.stb _, Rw.stb _, Rw.stb _, trivial⟩) (by kernel_rfl) ?_ ?_
  · refine ⟨fun a w hB hfr hdep => Step.plain rfl (dFa35 g2_1 0 (by decide) rfl (hfr 2 (by kernel_rfl))),
      fun a w hB hfr hdep => Step.plain rfl (dLoadR0 (Rw.stb _ _ _ _ hb2 (Rw.stb _ _ _ _ hb1 hx1)) hB (Rw.stb _ _ _ _ hb2 (Rw.stb _ _ _ _ hb1 hy1)) (block_below hB (lt_of_heap m2_1__2) m2_1__2) rfl (hdep 0 14 (by kernel_rfl))),
      fun a w hB hfr hdep => Step.plain rfl (dFa35 g3_1 1 (by decide) rfl (hfr 3 (by kernel_rfl))),
      fun a w hB hfr hdep => Step.plain rfl (dLoadR1 (Rw.stb _ _ _ _ hb2 (Rw.stb _ _ _ _ hb1 hx2)) hB (Rw.stb _ _ _ _ hb2 (Rw.stb _ _ _ _ hb1 hy2)) (block_below hB (lt_of_heap m3_1__2) m3_1__2) rfl (hdep 2 16 (by kernel_rfl))),
      fun a w hB hfr hdep => Step.plain rfl (Does.call 41 #[(a.eval (.tmp 15)), (a.eval (.tmp 17))] (by kernel_rfl) (rMul w (hdep 1 15 (by kernel_rfl)) (hdep 3 17 (by kernel_rfl)))),
      fun a w hB hfr hdep => Step.plain rfl (dAssign (R := Rw ((x1) * (y2))) rfl (hdep 4 18 (by kernel_rfl))), trivial⟩
  intro u3 hb3
  simp only [List.take, List.drop, FinAll, Act.put, List.setIfInBounds_toArray, List.set_cons_succ, List.set_cons_zero]
  rintro _ rfl v15_3 h15_3 _ rfl v17_3 h17_3 v18_3 h18_3 v6_3 h6_3
  have hO3 := (hO2).trans (hb3.mono (hO2).size)
  have m2_1__3 := block_below hb3 (lt_of_heap m2_1__2) m2_1__2
  have m3_1__3 := block_below hb3 (lt_of_heap m3_1__2) m3_1__2
  have m4_1__3 := block_below hb3 (lt_of_heap m4_1__2) m4_1__2
  refine hK3 _ _ ?_
  clear hK3 K3
  refine wp_seq_k fun K4 hK4 => ?_
  refine wp_plain_inv 6 (specs [Is (.pointer (some ⟨g2_1, 1, none⟩)), Rw (y1), Is (.pointer (some ⟨g3_1, 0, none⟩)), Rw (x2), Rw ((y1) * (x2)), Rw ((y1) * (x2))]) (specs_stb ⟨Is.stb _, Rw.stb _, Is.stb _, Rw.stb _, Rw.stb _, Rw.stb _, trivial⟩) (by kernel_rfl) ?_ ?_
  · refine ⟨fun a w hB hfr hdep => Step.plain rfl (dFa35 g2_1 1 (by decide) rfl (hfr 2 (by kernel_rfl))),
      fun a w hB hfr hdep => Step.plain rfl (dLoadR1 (Rw.stb _ _ _ _ hb3 (Rw.stb _ _ _ _ hb2 (Rw.stb _ _ _ _ hb1 hx1))) hB (Rw.stb _ _ _ _ hb3 (Rw.stb _ _ _ _ hb2 (Rw.stb _ _ _ _ hb1 hy1))) (block_below hB (lt_of_heap m2_1__3) m2_1__3) rfl (hdep 0 19 (by kernel_rfl))),
      fun a w hB hfr hdep => Step.plain rfl (dFa35 g3_1 0 (by decide) rfl (hfr 3 (by kernel_rfl))),
      fun a w hB hfr hdep => Step.plain rfl (dLoadR0 (Rw.stb _ _ _ _ hb3 (Rw.stb _ _ _ _ hb2 (Rw.stb _ _ _ _ hb1 hx2))) hB (Rw.stb _ _ _ _ hb3 (Rw.stb _ _ _ _ hb2 (Rw.stb _ _ _ _ hb1 hy2))) (block_below hB (lt_of_heap m3_1__3) m3_1__3) rfl (hdep 2 21 (by kernel_rfl))),
      fun a w hB hfr hdep => Step.plain rfl (Does.call 41 #[(a.eval (.tmp 20)), (a.eval (.tmp 22))] (by kernel_rfl) (rMul w (hdep 1 20 (by kernel_rfl)) (hdep 3 22 (by kernel_rfl)))),
      fun a w hB hfr hdep => Step.plain rfl (dAssign (R := Rw ((y1) * (x2))) rfl (hdep 4 23 (by kernel_rfl))), trivial⟩
  intro u4 hb4
  simp only [List.take, List.drop, FinAll, Act.put, List.setIfInBounds_toArray, List.set_cons_succ, List.set_cons_zero]
  rintro _ rfl v20_4 h20_4 _ rfl v22_4 h22_4 v23_4 h23_4 v7_4 h7_4
  have hO4 := (hO3).trans (hb4.mono (hO3).size)
  have m2_1__4 := block_below hb4 (lt_of_heap m2_1__3) m2_1__3
  have m3_1__4 := block_below hb4 (lt_of_heap m3_1__3) m3_1__3
  have m4_1__4 := block_below hb4 (lt_of_heap m4_1__3) m4_1__3
  refine hK4 _ _ ?_
  clear hK4 K4
  refine wp_seq_k fun K5 hK5 => ?_
  refine wp_plain_inv 6 (specs [Is (.pointer (some ⟨g2_1, 1, none⟩)), Rw (y1), Is (.pointer (some ⟨g3_1, 1, none⟩)), Rw (y2), Rw ((y1) * (y2)), Rw ((y1) * (y2))]) (specs_stb ⟨Is.stb _, Rw.stb _, Is.stb _, Rw.stb _, Rw.stb _, Rw.stb _, trivial⟩) (by kernel_rfl) ?_ ?_
  · refine ⟨fun a w hB hfr hdep => Step.plain rfl (dFa35 g2_1 1 (by decide) rfl (hfr 2 (by kernel_rfl))),
      fun a w hB hfr hdep => Step.plain rfl (dLoadR1 (Rw.stb _ _ _ _ hb4 (Rw.stb _ _ _ _ hb3 (Rw.stb _ _ _ _ hb2 (Rw.stb _ _ _ _ hb1 hx1)))) hB (Rw.stb _ _ _ _ hb4 (Rw.stb _ _ _ _ hb3 (Rw.stb _ _ _ _ hb2 (Rw.stb _ _ _ _ hb1 hy1)))) (block_below hB (lt_of_heap m2_1__4) m2_1__4) rfl (hdep 0 24 (by kernel_rfl))),
      fun a w hB hfr hdep => Step.plain rfl (dFa35 g3_1 1 (by decide) rfl (hfr 3 (by kernel_rfl))),
      fun a w hB hfr hdep => Step.plain rfl (dLoadR1 (Rw.stb _ _ _ _ hb4 (Rw.stb _ _ _ _ hb3 (Rw.stb _ _ _ _ hb2 (Rw.stb _ _ _ _ hb1 hx2)))) hB (Rw.stb _ _ _ _ hb4 (Rw.stb _ _ _ _ hb3 (Rw.stb _ _ _ _ hb2 (Rw.stb _ _ _ _ hb1 hy2)))) (block_below hB (lt_of_heap m3_1__4) m3_1__4) rfl (hdep 2 26 (by kernel_rfl))),
      fun a w hB hfr hdep => Step.plain rfl (Does.call 41 #[(a.eval (.tmp 25)), (a.eval (.tmp 27))] (by kernel_rfl) (rMul w (hdep 1 25 (by kernel_rfl)) (hdep 3 27 (by kernel_rfl)))),
      fun a w hB hfr hdep => Step.plain rfl (dAssign (R := Rw ((y1) * (y2))) rfl (hdep 4 28 (by kernel_rfl))), trivial⟩
  intro u5 hb5
  simp only [List.take, List.drop, FinAll, Act.put, List.setIfInBounds_toArray, List.set_cons_succ, List.set_cons_zero]
  rintro _ rfl v25_5 h25_5 _ rfl v27_5 h27_5 v28_5 h28_5 v8_5 h8_5
  have hO5 := (hO4).trans (hb5.mono (hO4).size)
  have m2_1__5 := block_below hb5 (lt_of_heap m2_1__4) m2_1__4
  have m3_1__5 := block_below hb5 (lt_of_heap m3_1__4) m3_1__4
  have m4_1__5 := block_below hb5 (lt_of_heap m4_1__4) m4_1__4
  refine hK5 _ _ ?_
  clear hK5 K5
  refine wp_seq_k fun K6 hK6 => ?_
  refine wp_plain_inv 6 (specs [Is (.pointer (some ⟨g2_1, 0, none⟩)), Rw (x1), Is (.pointer (some ⟨g3_1, 0, none⟩)), Rw (x2), Rw ((x1) * (x2)), Rw ((x1) * (x2))]) (specs_stb ⟨Is.stb _, Rw.stb _, Is.stb _, Rw.stb _, Rw.stb _, Rw.stb _, trivial⟩) (by kernel_rfl) ?_ ?_
  · refine ⟨fun a w hB hfr hdep => Step.plain rfl (dFa35 g2_1 0 (by decide) rfl (hfr 2 (by kernel_rfl))),
      fun a w hB hfr hdep => Step.plain rfl (dLoadR0 (Rw.stb _ _ _ _ hb5 (Rw.stb _ _ _ _ hb4 (Rw.stb _ _ _ _ hb3 (Rw.stb _ _ _ _ hb2 (Rw.stb _ _ _ _ hb1 hx1))))) hB (Rw.stb _ _ _ _ hb5 (Rw.stb _ _ _ _ hb4 (Rw.stb _ _ _ _ hb3 (Rw.stb _ _ _ _ hb2 (Rw.stb _ _ _ _ hb1 hy1))))) (block_below hB (lt_of_heap m2_1__5) m2_1__5) rfl (hdep 0 29 (by kernel_rfl))),
      fun a w hB hfr hdep => Step.plain rfl (dFa35 g3_1 0 (by decide) rfl (hfr 3 (by kernel_rfl))),
      fun a w hB hfr hdep => Step.plain rfl (dLoadR0 (Rw.stb _ _ _ _ hb5 (Rw.stb _ _ _ _ hb4 (Rw.stb _ _ _ _ hb3 (Rw.stb _ _ _ _ hb2 (Rw.stb _ _ _ _ hb1 hx2))))) hB (Rw.stb _ _ _ _ hb5 (Rw.stb _ _ _ _ hb4 (Rw.stb _ _ _ _ hb3 (Rw.stb _ _ _ _ hb2 (Rw.stb _ _ _ _ hb1 hy2))))) (block_below hB (lt_of_heap m3_1__5) m3_1__5) rfl (hdep 2 31 (by kernel_rfl))),
      fun a w hB hfr hdep => Step.plain rfl (Does.call 41 #[(a.eval (.tmp 30)), (a.eval (.tmp 32))] (by kernel_rfl) (rMul w (hdep 1 30 (by kernel_rfl)) (hdep 3 32 (by kernel_rfl)))),
      fun a w hB hfr hdep => Step.plain rfl (dAssign (R := Rw ((x1) * (x2))) rfl (hdep 4 33 (by kernel_rfl))), trivial⟩
  intro u6 hb6
  simp only [List.take, List.drop, FinAll, Act.put, List.setIfInBounds_toArray, List.set_cons_succ, List.set_cons_zero]
  rintro _ rfl v30_6 h30_6 _ rfl v32_6 h32_6 v33_6 h33_6 v9_6 h9_6
  have hO6 := (hO5).trans (hb6.mono (hO5).size)
  have m2_1__6 := block_below hb6 (lt_of_heap m2_1__5) m2_1__5
  have m3_1__6 := block_below hb6 (lt_of_heap m3_1__5) m3_1__5
  have m4_1__6 := block_below hb6 (lt_of_heap m4_1__5) m4_1__5
  refine hK6 _ _ ?_
  clear hK6 K6
  refine wp_seq_k fun K7 hK7 => ?_
  refine wp_plain_inv 6 (specs [Rw (dd), Rw ((x1) * (x2)), Rw ((y1) * (y2)), Rw (((x1) * (x2)) * ((y1) * (y2))), Rw ((dd) * (((x1) * (x2)) * ((y1) * (y2)))), Rw ((dd) * (((x1) * (x2)) * ((y1) * (y2))))]) (specs_stb ⟨Rw.stb _, Rw.stb _, Rw.stb _, Rw.stb _, Rw.stb _, Rw.stb _, trivial⟩) (by kernel_rfl) ?_ ?_
  · refine ⟨fun a w hB hfr hdep => Step.plain rfl (Does.call 45 #[] (by kernel_rfl) (rD w)),
      fun a w hB hfr hdep => Step.plain rfl (dMove (R := Rw ((x1) * (x2))) rfl (use (hfr 9 (by kernel_rfl)) ((Rw.stb _) _ _ _ hB h9_6))),
      fun a w hB hfr hdep => Step.plain rfl (dMove (R := Rw ((y1) * (y2))) rfl (use (hfr 8 (by kernel_rfl)) ((Rw.stb _) _ _ _ hB ((Rw.stb _) _ _ _ hb6 h8_5)))),
      fun a w hB hfr hdep => Step.plain rfl (Does.call 41 #[(a.eval (.tmp 35)), (a.eval (.tmp 36))] (by kernel_rfl) (rMul w (hdep 1 35 (by kernel_rfl)) (hdep 2 36 (by kernel_rfl)))),
      fun a w hB hfr hdep => Step.plain rfl (Does.call 41 #[(a.eval (.tmp 34)), (a.eval (.tmp 37))] (by kernel_rfl) (rMul w (hdep 0 34 (by kernel_rfl)) (hdep 3 37 (by kernel_rfl)))),
      fun a w hB hfr hdep => Step.plain rfl (dAssign (R := Rw ((dd) * (((x1) * (x2)) * ((y1) * (y2))))) rfl (hdep 4 38 (by kernel_rfl))), trivial⟩
  intro u7 hb7
  simp only [List.take, List.drop, FinAll, Act.put, List.setIfInBounds_toArray, List.set_cons_succ, List.set_cons_zero]
  rintro v34_7 h34_7 v35_7 h35_7 v36_7 h36_7 v37_7 h37_7 v38_7 h38_7 v10_7 h10_7
  have hO7 := (hO6).trans (hb7.mono (hO6).size)
  have m2_1__7 := block_below hb7 (lt_of_heap m2_1__6) m2_1__6
  have m3_1__7 := block_below hb7 (lt_of_heap m3_1__6) m3_1__6
  have m4_1__7 := block_below hb7 (lt_of_heap m4_1__6) m4_1__6
  refine hK7 _ _ ?_
  clear hK7 K7
  refine wp_seq_k fun K8 hK8 => ?_
  refine wp_plain_inv 9 (specs [Rw ((x1) * (y2)), Rw ((y1) * (x2)), Rw (((x1) * (y2)) + ((y1) * (x2))), Rw (1), Rw ((dd) * (((x1) * (x2)) * ((y1) * (y2)))), Rw ((1) + ((dd) * (((x1) * (x2)) * ((y1) * (y2))))), Rw (fin ((1) + ((dd) * (((x1) * (x2)) * ((y1) * (y2)))))), Rw ((((x1) * (y2)) + ((y1) * (x2))) * (fin ((1) + ((dd) * (((x1) * (x2)) * ((y1) * (y2))))))), Rw ((((x1) * (y2)) + ((y1) * (x2))) * (fin ((1) + ((dd) * (((x1) * (x2)) * ((y1) * (y2)))))))]) (specs_stb ⟨Rw.stb _, Rw.stb _, Rw.stb _, Rw.stb _, Rw.stb _, Rw.stb _, Rw.stb _, Rw.stb _, Rw.stb _, trivial⟩) (by kernel_rfl) ?_ ?_
  · refine ⟨fun a w hB hfr hdep => Step.plain rfl (dMove (R := Rw ((x1) * (y2))) rfl (use (hfr 6 (by kernel_rfl)) ((Rw.stb _) _ _ _ hB ((Rw.stb _) _ _ _ hb7 ((Rw.stb _) _ _ _ hb6 ((Rw.stb _) _ _ _ hb5 ((Rw.stb _) _ _ _ hb4 h6_3))))))),
      fun a w hB hfr hdep => Step.plain rfl (dMove (R := Rw ((y1) * (x2))) rfl (use (hfr 7 (by kernel_rfl)) ((Rw.stb _) _ _ _ hB ((Rw.stb _) _ _ _ hb7 ((Rw.stb _) _ _ _ hb6 ((Rw.stb _) _ _ _ hb5 h7_4)))))),
      fun a w hB hfr hdep => Step.plain rfl (Does.call 43 #[(a.eval (.tmp 39)), (a.eval (.tmp 40))] (by kernel_rfl) (rAdd w (hdep 0 39 (by kernel_rfl)) (hdep 1 40 (by kernel_rfl)))),
      fun a w hB hfr hdep => Step.plain rfl (dMove (R := Rw (1)) rfl (use (hfr 5 (by kernel_rfl)) ((Rw.stb _) _ _ _ hB ((Rw.stb _) _ _ _ hb7 ((Rw.stb _) _ _ _ hb6 ((Rw.stb _) _ _ _ hb5 ((Rw.stb _) _ _ _ hb4 ((Rw.stb _) _ _ _ hb3 h5_2)))))))),
      fun a w hB hfr hdep => Step.plain rfl (dMove (R := Rw ((dd) * (((x1) * (x2)) * ((y1) * (y2))))) rfl (use (hfr 10 (by kernel_rfl)) ((Rw.stb _) _ _ _ hB h10_7))),
      fun a w hB hfr hdep => Step.plain rfl (Does.call 43 #[(a.eval (.tmp 42)), (a.eval (.tmp 43))] (by kernel_rfl) (rAdd w (hdep 3 42 (by kernel_rfl)) (hdep 4 43 (by kernel_rfl)))),
      fun a w hB hfr hdep => Step.plain rfl (Does.call 50 #[(a.eval (.tmp 44))] (by kernel_rfl) (rInv w (hdep 5 44 (by kernel_rfl)))),
      fun a w hB hfr hdep => Step.plain rfl (Does.call 41 #[(a.eval (.tmp 41)), (a.eval (.tmp 45))] (by kernel_rfl) (rMul w (hdep 2 41 (by kernel_rfl)) (hdep 6 45 (by kernel_rfl)))),
      fun a w hB hfr hdep => Step.plain rfl (dAssign (R := Rw ((((x1) * (y2)) + ((y1) * (x2))) * (fin ((1) + ((dd) * (((x1) * (x2)) * ((y1) * (y2)))))))) rfl (hdep 7 46 (by kernel_rfl))), trivial⟩
  intro u8 hb8
  simp only [List.take, List.drop, FinAll, Act.put, List.setIfInBounds_toArray, List.set_cons_succ, List.set_cons_zero]
  rintro v39_8 h39_8 v40_8 h40_8 v41_8 h41_8 v42_8 h42_8 v43_8 h43_8 v44_8 h44_8 v45_8 h45_8 v46_8 h46_8 v11_8 h11_8
  have hO8 := (hO7).trans (hb8.mono (hO7).size)
  have m2_1__8 := block_below hb8 (lt_of_heap m2_1__7) m2_1__7
  have m3_1__8 := block_below hb8 (lt_of_heap m3_1__7) m3_1__7
  have m4_1__8 := block_below hb8 (lt_of_heap m4_1__7) m4_1__7
  refine hK8 _ _ ?_
  clear hK8 K8
  refine wp_seq_k fun K9 hK9 => ?_
  refine wp_plain_inv 9 (specs [Rw ((y1) * (y2)), Rw ((x1) * (x2)), Rw (((y1) * (y2)) + ((x1) * (x2))), Rw (1), Rw ((dd) * (((x1) * (x2)) * ((y1) * (y2)))), Rw ((1) - ((dd) * (((x1) * (x2)) * ((y1) * (y2))))), Rw (fin ((1) - ((dd) * (((x1) * (x2)) * ((y1) * (y2)))))), Rw ((((y1) * (y2)) + ((x1) * (x2))) * (fin ((1) - ((dd) * (((x1) * (x2)) * ((y1) * (y2))))))), Rw ((((y1) * (y2)) + ((x1) * (x2))) * (fin ((1) - ((dd) * (((x1) * (x2)) * ((y1) * (y2)))))))]) (specs_stb ⟨Rw.stb _, Rw.stb _, Rw.stb _, Rw.stb _, Rw.stb _, Rw.stb _, Rw.stb _, Rw.stb _, Rw.stb _, trivial⟩) (by kernel_rfl) ?_ ?_
  · refine ⟨fun a w hB hfr hdep => Step.plain rfl (dMove (R := Rw ((y1) * (y2))) rfl (use (hfr 8 (by kernel_rfl)) ((Rw.stb _) _ _ _ hB ((Rw.stb _) _ _ _ hb8 ((Rw.stb _) _ _ _ hb7 ((Rw.stb _) _ _ _ hb6 h8_5)))))),
      fun a w hB hfr hdep => Step.plain rfl (dMove (R := Rw ((x1) * (x2))) rfl (use (hfr 9 (by kernel_rfl)) ((Rw.stb _) _ _ _ hB ((Rw.stb _) _ _ _ hb8 ((Rw.stb _) _ _ _ hb7 h9_6))))),
      fun a w hB hfr hdep => Step.plain rfl (Does.call 43 #[(a.eval (.tmp 47)), (a.eval (.tmp 48))] (by kernel_rfl) (rAdd w (hdep 0 47 (by kernel_rfl)) (hdep 1 48 (by kernel_rfl)))),
      fun a w hB hfr hdep => Step.plain rfl (dMove (R := Rw (1)) rfl (use (hfr 5 (by kernel_rfl)) ((Rw.stb _) _ _ _ hB ((Rw.stb _) _ _ _ hb8 ((Rw.stb _) _ _ _ hb7 ((Rw.stb _) _ _ _ hb6 ((Rw.stb _) _ _ _ hb5 ((Rw.stb _) _ _ _ hb4 ((Rw.stb _) _ _ _ hb3 h5_2))))))))),
      fun a w hB hfr hdep => Step.plain rfl (dMove (R := Rw ((dd) * (((x1) * (x2)) * ((y1) * (y2))))) rfl (use (hfr 10 (by kernel_rfl)) ((Rw.stb _) _ _ _ hB ((Rw.stb _) _ _ _ hb8 h10_7)))),
      fun a w hB hfr hdep => Step.plain rfl (Does.call 42 #[(a.eval (.tmp 50)), (a.eval (.tmp 51))] (by kernel_rfl) (rSub w (hdep 3 50 (by kernel_rfl)) (hdep 4 51 (by kernel_rfl)))),
      fun a w hB hfr hdep => Step.plain rfl (Does.call 50 #[(a.eval (.tmp 52))] (by kernel_rfl) (rInv w (hdep 5 52 (by kernel_rfl)))),
      fun a w hB hfr hdep => Step.plain rfl (Does.call 41 #[(a.eval (.tmp 49)), (a.eval (.tmp 53))] (by kernel_rfl) (rMul w (hdep 2 49 (by kernel_rfl)) (hdep 6 53 (by kernel_rfl)))),
      fun a w hB hfr hdep => Step.plain rfl (dAssign (R := Rw ((((y1) * (y2)) + ((x1) * (x2))) * (fin ((1) - ((dd) * (((x1) * (x2)) * ((y1) * (y2)))))))) rfl (hdep 7 54 (by kernel_rfl))), trivial⟩
  intro u9 hb9
  simp only [List.take, List.drop, FinAll, Act.put, List.setIfInBounds_toArray, List.set_cons_succ, List.set_cons_zero]
  rintro v47_9 h47_9 v48_9 h48_9 v49_9 h49_9 v50_9 h50_9 v51_9 h51_9 v52_9 h52_9 v53_9 h53_9 v54_9 h54_9 v12_9 h12_9
  have hO9 := (hO8).trans (hb9.mono (hO8).size)
  have m2_1__9 := block_below hb9 (lt_of_heap m2_1__8) m2_1__8
  have m3_1__9 := block_below hb9 (lt_of_heap m3_1__8) m3_1__8
  have m4_1__9 := block_below hb9 (lt_of_heap m4_1__8) m4_1__8
  refine hK9 _ _ ?_
  clear hK9 K9
  refine wp_seq_k fun K10 hK10 => ?_
  refine wp_plain_inv 3 (specs [Rw ((((x1) * (y2)) + ((y1) * (x2))) * (fin ((1) + ((dd) * (((x1) * (x2)) * ((y1) * (y2))))))), Rw ((((y1) * (y2)) + ((x1) * (x2))) * (fin ((1) - ((dd) * (((x1) * (x2)) * ((y1) * (y2))))))), RPt ((((x1) * (y2)) + ((y1) * (x2))) * (fin ((1) + ((dd) * (((x1) * (x2)) * ((y1) * (y2))))))) ((((y1) * (y2)) + ((x1) * (x2))) * (fin ((1) - ((dd) * (((x1) * (x2)) * ((y1) * (y2)))))))]) (specs_stb ⟨Rw.stb _, Rw.stb _, RPt.stb _ _, trivial⟩) (by kernel_rfl) ?_ ?_
  · refine ⟨fun a w hB hfr hdep => Step.plain rfl (dMove (R := Rw ((((x1) * (y2)) + ((y1) * (x2))) * (fin ((1) + ((dd) * (((x1) * (x2)) * ((y1) * (y2)))))))) rfl (use (hfr 11 (by kernel_rfl)) ((Rw.stb _) _ _ _ hB ((Rw.stb _) _ _ _ hb9 h11_8)))),
      fun a w hB hfr hdep => Step.plain rfl (dMove (R := Rw ((((y1) * (y2)) + ((x1) * (x2))) * (fin ((1) - ((dd) * (((x1) * (x2)) * ((y1) * (y2)))))))) rfl (use (hfr 12 (by kernel_rfl)) ((Rw.stb _) _ _ _ hB h12_9))),
      fun a w hB hfr hdep => Step.plain rfl (dBuild35 rfl (hdep 0 55 (by kernel_rfl)) (hdep 1 56 (by kernel_rfl))), trivial⟩
  intro u10 hb10
  simp only [List.take, List.drop, FinAll, Act.put, List.setIfInBounds_toArray, List.set_cons_succ, List.set_cons_zero]
  rintro v55_10 h55_10 v56_10 h56_10 _ ⟨p57_10, q57_10, rfl, x57_10, y57_10⟩
  have om4_1__9 := block_below hb10 (lt_of_heap m4_1__9) m4_1__9
  refine wpList_store_row rfl 35 (.tmp 4) (.tmp 57) rfl _ (#[p57_10, q57_10]) rfl rfl 35 _ om4_1__9 info35 rfl (rpt_one x57_10 y57_10) ?_
  have xx := Rw.setRow x57_10 om4_1__9 nz35 (#[p57_10, q57_10])
  have yy := Rw.setRow y57_10 om4_1__9 nz35 (#[p57_10, q57_10])
  have n4_10 := setRow_heap _ _ _ (#[p57_10, q57_10]) _ _ om4_1__9
  have hO10 := setRow_below (hO9.trans (hb10.mono (hO9).size)) lwm4_1 (#[p57_10, q57_10])
  refine hK10 _ _ ?_
  clear hK10 K10
  refine wp_ret ?_
  refine bodyPost_ret (v := .agg (#[p57_10, q57_10])) ?_ rfl ⟨_, rfl, hO10, ⟨_, _, rfl, xx, yy⟩⟩
  exact results_cell_row Tryd.results18 _ _ _ 35 _ (0, 0) _ rfl n4_10 Tryd.underlying35 rfl (by first | exact info26 | exact info29 | exact info35 | (rw [(Pt4.cells (by assumption)).1]; exact info29) | (rw [cellsP_size (by assumption)]; exact info29))
/-- The reference's sum of two points. -/
theorem rAddPt {p q : Pt} {v1 v2 : Value} (w : World) (h1 : RPt p.x p.y v1 w) (h2 : RPt q.x q.y v2 w) : Ret 18 #[v1, v2] w (RPt (p.add q).x (p.add q).y) := by
  have h := rAddP w h1 h2
  have e1 : 1 + dd * ((p.x * q.x) * (p.y * q.y)) = 1 + dd * (p.x * q.x) * (p.y * q.y) := by grobner
  have e2 : 1 - dd * ((p.x * q.x) * (p.y * q.y)) = 1 - dd * (p.x * q.x) * (p.y * q.y) := by grobner
  rw [e1, e2] at h
  exact h
theorem rOn {x1 y1 : Fe} {v1 : Value} (w : World) (h1 : RPt x1 y1 v1 w) (h : On x1 y1) : Ret 15 #[v1] w (Is (.bool true)) := by
  obtain ⟨p1, q1, rfl, hx1, hy1⟩ := h1
  have hon : ((y1) * (y1)) - ((x1) * (x1)) = (1) + ((dd) * (((x1) * (x1)) * ((y1) * (y1)))) := by unfold On at h; grobner
  unfold Ret
  have hO0 : Below w.heap.size w w := Below.refl _ _
  go_enter Tryd.func15, Tryd.ntmps15
  refine wp_seq_k fun K1 hK1 => ?_
  refine wp_plain_inv 2 (specs [Box w.heap.size (#[p1, q1]) 35, Is (.bool false)]) (specs_stb ⟨Box.stb _ _ _, Is.stb _, trivial⟩) (by kernel_rfl) ?_ ?_
  · refine ⟨fun a w hB hfr hdep => Step.plain rfl (dBox35 hB.size rfl (hfr 0 (by kernel_rfl)) ⟨hx1, hy1⟩),
      fun a w hB hfr hdep => Step.plain rfl (dAssign (R := Is (.bool false)) rfl rfl), trivial⟩
  intro u1 hb1
  simp only [List.take, List.drop, FinAll, Act.put, List.setIfInBounds_toArray, List.set_cons_succ, List.set_cons_zero]
  rintro _ ⟨g1_1, rfl, l1_1, m1_1⟩ _ rfl
  have hO1 := (hO0).trans (hb1.mono (hO0).size)
  have lwm1_1 := Nat.le_trans (hO0).size l1_1
  refine hK1 _ _ ?_
  clear hK1 K1
  refine wp_seq_k fun K2 hK2 => ?_
  refine wp_plain_inv 6 (specs [Is (.pointer (some ⟨g1_1, 0, none⟩)), Rw (x1), Is (.pointer (some ⟨g1_1, 0, none⟩)), Rw (x1), Rw ((x1) * (x1)), Rw ((x1) * (x1))]) (specs_stb ⟨Is.stb _, Rw.stb _, Is.stb _, Rw.stb _, Rw.stb _, Rw.stb _, trivial⟩) (by kernel_rfl) ?_ ?_
  · refine ⟨fun a w hB hfr hdep => Step.plain rfl (dFa35 g1_1 0 (by decide) rfl (hfr 1 (by kernel_rfl))),
      fun a w hB hfr hdep => Step.plain rfl (dLoadR0 (Rw.stb _ _ _ _ hb1 hx1) hB (Rw.stb _ _ _ _ hb1 hy1) (block_below hB (lt_of_heap m1_1) m1_1) rfl (hdep 0 7 (by kernel_rfl))),
      fun a w hB hfr hdep => Step.plain rfl (dFa35 g1_1 0 (by decide) rfl (hfr 1 (by kernel_rfl))),
      fun a w hB hfr hdep => Step.plain rfl (dLoadR0 (Rw.stb _ _ _ _ hb1 hx1) hB (Rw.stb _ _ _ _ hb1 hy1) (block_below hB (lt_of_heap m1_1) m1_1) rfl (hdep 2 9 (by kernel_rfl))),
      fun a w hB hfr hdep => Step.plain rfl (Does.call 41 #[(a.eval (.tmp 8)), (a.eval (.tmp 10))] (by kernel_rfl) (rMul w (hdep 1 8 (by kernel_rfl)) (hdep 3 10 (by kernel_rfl)))),
      fun a w hB hfr hdep => Step.plain rfl (dAssign (R := Rw ((x1) * (x1))) rfl (hdep 4 11 (by kernel_rfl))), trivial⟩
  intro u2 hb2
  simp only [List.take, List.drop, FinAll, Act.put, List.setIfInBounds_toArray, List.set_cons_succ, List.set_cons_zero]
  rintro _ rfl v8_2 h8_2 _ rfl v10_2 h10_2 v11_2 h11_2 v3_2 h3_2
  have hO2 := (hO1).trans (hb2.mono (hO1).size)
  have m1_1__2 := block_below hb2 (lt_of_heap m1_1) m1_1
  refine hK2 _ _ ?_
  clear hK2 K2
  refine wp_seq_k fun K3 hK3 => ?_
  refine wp_plain_inv 6 (specs [Is (.pointer (some ⟨g1_1, 1, none⟩)), Rw (y1), Is (.pointer (some ⟨g1_1, 1, none⟩)), Rw (y1), Rw ((y1) * (y1)), Rw ((y1) * (y1))]) (specs_stb ⟨Is.stb _, Rw.stb _, Is.stb _, Rw.stb _, Rw.stb _, Rw.stb _, trivial⟩) (by kernel_rfl) ?_ ?_
  · refine ⟨fun a w hB hfr hdep => Step.plain rfl (dFa35 g1_1 1 (by decide) rfl (hfr 1 (by kernel_rfl))),
      fun a w hB hfr hdep => Step.plain rfl (dLoadR1 (Rw.stb _ _ _ _ hb2 (Rw.stb _ _ _ _ hb1 hx1)) hB (Rw.stb _ _ _ _ hb2 (Rw.stb _ _ _ _ hb1 hy1)) (block_below hB (lt_of_heap m1_1__2) m1_1__2) rfl (hdep 0 12 (by kernel_rfl))),
      fun a w hB hfr hdep => Step.plain rfl (dFa35 g1_1 1 (by decide) rfl (hfr 1 (by kernel_rfl))),
      fun a w hB hfr hdep => Step.plain rfl (dLoadR1 (Rw.stb _ _ _ _ hb2 (Rw.stb _ _ _ _ hb1 hx1)) hB (Rw.stb _ _ _ _ hb2 (Rw.stb _ _ _ _ hb1 hy1)) (block_below hB (lt_of_heap m1_1__2) m1_1__2) rfl (hdep 2 14 (by kernel_rfl))),
      fun a w hB hfr hdep => Step.plain rfl (Does.call 41 #[(a.eval (.tmp 13)), (a.eval (.tmp 15))] (by kernel_rfl) (rMul w (hdep 1 13 (by kernel_rfl)) (hdep 3 15 (by kernel_rfl)))),
      fun a w hB hfr hdep => Step.plain rfl (dAssign (R := Rw ((y1) * (y1))) rfl (hdep 4 16 (by kernel_rfl))), trivial⟩
  intro u3 hb3
  simp only [List.take, List.drop, FinAll, Act.put, List.setIfInBounds_toArray, List.set_cons_succ, List.set_cons_zero]
  rintro _ rfl v13_3 h13_3 _ rfl v15_3 h15_3 v16_3 h16_3 v4_3 h4_3
  have hO3 := (hO2).trans (hb3.mono (hO2).size)
  have m1_1__3 := block_below hb3 (lt_of_heap m1_1__2) m1_1__2
  refine hK3 _ _ ?_
  clear hK3 K3
  refine wp_seq_k fun K4 hK4 => ?_
  refine wp_plain_inv 4 (specs [Rw ((y1) * (y1)), Rw ((x1) * (x1)), Rw (((y1) * (y1)) - ((x1) * (x1))), Rw (((y1) * (y1)) - ((x1) * (x1)))]) (specs_stb ⟨Rw.stb _, Rw.stb _, Rw.stb _, Rw.stb _, trivial⟩) (by kernel_rfl) ?_ ?_
  · refine ⟨fun a w hB hfr hdep => Step.plain rfl (dMove (R := Rw ((y1) * (y1))) rfl (use (hfr 4 (by kernel_rfl)) ((Rw.stb _) _ _ _ hB h4_3))),
      fun a w hB hfr hdep => Step.plain rfl (dMove (R := Rw ((x1) * (x1))) rfl (use (hfr 3 (by kernel_rfl)) ((Rw.stb _) _ _ _ hB ((Rw.stb _) _ _ _ hb3 h3_2)))),
      fun a w hB hfr hdep => Step.plain rfl (Does.call 42 #[(a.eval (.tmp 17)), (a.eval (.tmp 18))] (by kernel_rfl) (rSub w (hdep 0 17 (by kernel_rfl)) (hdep 1 18 (by kernel_rfl)))),
      fun a w hB hfr hdep => Step.plain rfl (dAssign (R := Rw (((y1) * (y1)) - ((x1) * (x1)))) rfl (hdep 2 19 (by kernel_rfl))), trivial⟩
  intro u4 hb4
  simp only [List.take, List.drop, FinAll, Act.put, List.setIfInBounds_toArray, List.set_cons_succ, List.set_cons_zero]
  rintro v17_4 h17_4 v18_4 h18_4 v19_4 h19_4 v5_4 h5_4
  have hO4 := (hO3).trans (hb4.mono (hO3).size)
  have m1_1__4 := block_below hb4 (lt_of_heap m1_1__3) m1_1__3
  refine hK4 _ _ ?_
  clear hK4 K4
  refine wp_seq_k fun K5 hK5 => ?_
  refine wp_plain_inv 8 (specs [Rw (1), Rw (dd), Rw ((x1) * (x1)), Rw ((y1) * (y1)), Rw (((x1) * (x1)) * ((y1) * (y1))), Rw ((dd) * (((x1) * (x1)) * ((y1) * (y1)))), Rw ((1) + ((dd) * (((x1) * (x1)) * ((y1) * (y1))))), Rw ((1) + ((dd) * (((x1) * (x1)) * ((y1) * (y1)))))]) (specs_stb ⟨Rw.stb _, Rw.stb _, Rw.stb _, Rw.stb _, Rw.stb _, Rw.stb _, Rw.stb _, Rw.stb _, trivial⟩) (by kernel_rfl) ?_ ?_
  · refine ⟨fun a w hB hfr hdep => Step.plain rfl (Does.call 44 #[.int .i64 1] (by kernel_rfl) (rInt w 1 (by decide))),
      fun a w hB hfr hdep => Step.plain rfl (Does.call 45 #[] (by kernel_rfl) (rD w)),
      fun a w hB hfr hdep => Step.plain rfl (dMove (R := Rw ((x1) * (x1))) rfl (use (hfr 3 (by kernel_rfl)) ((Rw.stb _) _ _ _ hB ((Rw.stb _) _ _ _ hb4 ((Rw.stb _) _ _ _ hb3 h3_2))))),
      fun a w hB hfr hdep => Step.plain rfl (dMove (R := Rw ((y1) * (y1))) rfl (use (hfr 4 (by kernel_rfl)) ((Rw.stb _) _ _ _ hB ((Rw.stb _) _ _ _ hb4 h4_3)))),
      fun a w hB hfr hdep => Step.plain rfl (Does.call 41 #[(a.eval (.tmp 22)), (a.eval (.tmp 23))] (by kernel_rfl) (rMul w (hdep 2 22 (by kernel_rfl)) (hdep 3 23 (by kernel_rfl)))),
      fun a w hB hfr hdep => Step.plain rfl (Does.call 41 #[(a.eval (.tmp 21)), (a.eval (.tmp 24))] (by kernel_rfl) (rMul w (hdep 1 21 (by kernel_rfl)) (hdep 4 24 (by kernel_rfl)))),
      fun a w hB hfr hdep => Step.plain rfl (Does.call 43 #[(a.eval (.tmp 20)), (a.eval (.tmp 25))] (by kernel_rfl) (rAdd w (hdep 0 20 (by kernel_rfl)) (hdep 5 25 (by kernel_rfl)))),
      fun a w hB hfr hdep => Step.plain rfl (dAssign (R := Rw ((1) + ((dd) * (((x1) * (x1)) * ((y1) * (y1)))))) rfl (hdep 6 26 (by kernel_rfl))), trivial⟩
  intro u5 hb5
  simp only [List.take, List.drop, FinAll, Act.put, List.setIfInBounds_toArray, List.set_cons_succ, List.set_cons_zero]
  rintro v20_5 h20_5 v21_5 h21_5 v22_5 h22_5 v23_5 h23_5 v24_5 h24_5 v25_5 h25_5 v26_5 h26_5 v6_5 h6_5
  have hO5 := (hO4).trans (hb5.mono (hO4).size)
  have m1_1__5 := block_below hb5 (lt_of_heap m1_1__4) m1_1__4
  refine hK5 _ _ ?_
  clear hK5 K5
  refine wp_seq_k fun K6 hK6 => ?_
  refine wp_plain_inv 4 (specs [Rw (((y1) * (y1)) - ((x1) * (x1))), Rw ((1) + ((dd) * (((x1) * (x1)) * ((y1) * (y1))))), Is (.bool true), Is (.bool true)]) (specs_stb ⟨Rw.stb _, Rw.stb _, Is.stb _, Is.stb _, trivial⟩) (by kernel_rfl) ?_ ?_
  · refine ⟨fun a w hB hfr hdep => Step.plain rfl (dMove (R := Rw (((y1) * (y1)) - ((x1) * (x1)))) rfl (use (hfr 5 (by kernel_rfl)) ((Rw.stb _) _ _ _ hB ((Rw.stb _) _ _ _ hb5 h5_4)))),
      fun a w hB hfr hdep => Step.plain rfl (dMove (R := Rw ((1) + ((dd) * (((x1) * (x1)) * ((y1) * (y1)))))) rfl (use (hfr 6 (by kernel_rfl)) ((Rw.stb _) _ _ _ hB h6_5))),
      fun a w hB hfr hdep => Step.plain rfl (Does.call 46 #[(a.eval (.tmp 27)), (a.eval (.tmp 28))] (by kernel_rfl) (rSameT hon w (hdep 0 27 (by kernel_rfl)) (hdep 1 28 (by kernel_rfl)))),
      fun a w hB hfr hdep => Step.plain rfl (dAssign (R := Is (.bool true)) rfl (hdep 2 29 (by kernel_rfl))), trivial⟩
  intro u6 hb6
  simp only [List.take, List.drop, FinAll, Act.put, List.setIfInBounds_toArray, List.set_cons_succ, List.set_cons_zero]
  rintro v27_6 h27_6 v28_6 h28_6 _ rfl _ rfl
  have hO6 := (hO5).trans (hb6.mono (hO5).size)
  have m1_1__6 := block_below hb6 (lt_of_heap m1_1__5) m1_1__5
  refine hK6 _ _ ?_
  clear hK6 K6
  refine wp_ret ?_
  refine bodyPost_ret (results_tmp rfl _ _ _) rfl ?_
  exact ⟨_, rfl, hO6, rfl⟩
end Go.Proofs.YtpfcboakafbnlaaDoor
set_option linter.unusedVariables false
namespace Go.Proofs.YtpfcboakafbnlaaDoor
open Go.RowKit Go.Sort Go.BigFrame
set_option maxRecDepth 100000
set_option maxHeartbeats 2000000
/-- A pointer to the lowest digit. -/
def Fst (x : Fe) (v : Value) (w : World) : Prop := ∃ p : Addr, v = .pointer (some p) ∧ w.cell? p = some (.int .i64 ((x.val % 256 : Nat) : Int))
theorem Fst.stb (x : Fe) : Stb (Fst x) := fun _ _ _ hb ⟨p, h1, h2⟩ => ⟨p, h1, (hb.cell (block_lt_of_cell h2)).trans h2⟩
section
variable {ρ : Operand → Value} {o : Oper} {x y z t : Operand} {w : World}
theorem dFst {X : Fe} (ho : o.op = .indexAddr 33 x y) (h : Rw X (ρ x) w) (hy : ρ y = .int .i64 0) : Does Tryd.prog o ρ w (fun v w' => Below w.heap.size w w' ∧ Fst X v w') := by
  obtain ⟨a, c, hv, h1, h2, h3⟩ := h
  obtain ⟨b, off, rfl, hc⟩ := h3 (by rw [digs_len]; omega)
  have h0 := hc 0 (by rw [digs_len]; omega)
  rw [digs_get _ _ _ (by omega), Nat.pow_zero, Nat.div_one] at h0
  exact Does.run _ (run_idx33 (i := 0) ho hv hy (by omega)) ⟨_, rfl, h0⟩
theorem dLoadFst {X : Fe} (ho : o.op = .load 3 x) (h : Fst X (ρ x) w) : Does Tryd.prog o ρ w (fun v w' => Below w.heap.size w w' ∧ Is (.int .i64 ((X.val % 256 : Nat) : Int)) v w') := by
  obtain ⟨p, hp, hc⟩ := h
  exact Does.run _ (run_load3 ho hp hc) rfl
theorem run_rem2 {n : Nat} (ho : o.op = .binOp .rem 3 x y 3) (hx : ρ x = .int .i64 ((n % 256 : Nat) : Int)) (hy : ρ y = .int .i64 2) : (execOp ρ o).run Tryd.prog w = .ok (.value (.int .i64 ((n % 2 : Nat) : Int))) w := by
  simp [execOp, ho, hx, hy, go_sem]
  rw [Int.tmod_eq_emod_of_nonneg (by omega)]
  omega
theorem run_eq1 {n : Nat} {b : Bool} (hb : decide (n % 2 = 1) = b) (ho : o.op = .binOp .eql 3 x y 3) (hx : ρ x = .int .i64 ((n % 2 : Nat) : Int)) (hy : ρ y = .int .i64 1) : (execOp ρ o).run Tryd.prog w = .ok (.value (.bool b)) w := by
  have e : (((n % 2 : Nat) : Int) == 1) = b := by
    rw [← hb, Bool.eq_iff_iff]
    simp
    omega
  simp only [Int.natCast_emod] at e
  simp [execOp, ho, hx, hy, go_sem]
  exact e
end
theorem rRootT {y r : Fe} {v : Value} {e : Nat} (he : valD tab3.reverse = e) (hr : rootOf e (av y) = r) (hs : r * r = av y) (w : World) (h : Rw (av y) v w) : Ret 60 #[v] w (Tup2 (Rw r) (Is (.bool true))) := by
  have := rRoot he w h
  rw [hr, decide_eq_true hs] at this
  exact this
theorem rRootF {y r : Fe} {v : Value} {e : Nat} (he : valD tab3.reverse = e) (hr : rootOf e (av y) = r) (hs : ¬ r * r = av y) (w : World) (h : Rw (av y) v w) : Ret 60 #[v] w (Tup2 (Rw r) (Is (.bool false))) := by
  have := rRoot he w h
  rw [hr, decide_eq_false hs] at this
  exact this
theorem rOfN {y r : Fe} {bb : Bool} {v : Value} {e : Nat} (he : valD tab3.reverse = e) (hr : rootOf e (av y) = r) (w : World) (hy : Rw y v w) (hs : ¬ r * r = av y) : Ret 37 #[v, .bool bb] w (Tup2 (Is (.agg #[.slice none 0 0, .slice none 0 0])) (Is (.bool false))) := by
  unfold Ret
  have hO0 : Below w.heap.size w w := Below.refl _ _
  go_enter Tryd.func37, Tryd.ntmps37
  refine wp_seq_k fun K1 hK1 => ?_
  refine wp_plain_inv 2 (specs [Box w.heap.size (#[.slice none 0 0, .slice none 0 0]) 35, Is (.bool false)]) (specs_stb ⟨Box.stb _ _ _, Is.stb _, trivial⟩) (by kernel_rfl) ?_ ?_
  · refine ⟨fun a w hB hfr hdep => Step.plain rfl (dAlloc35 hB.size rfl),
      fun a w hB hfr hdep => Step.plain rfl (dAssign (R := Is (.bool false)) rfl rfl), trivial⟩
  intro u1 hb1
  simp only [List.take, List.drop, FinAll, Act.put, List.setIfInBounds_toArray, List.set_cons_succ, List.set_cons_zero]
  rintro _ ⟨g4_1, rfl, l4_1, m4_1⟩ _ rfl
  have hO1 := (hO0).trans (hb1.mono (hO0).size)
  have lwm4_1 := Nat.le_trans (hO0).size l4_1
  refine hK1 _ _ ?_
  clear hK1 K1
  refine wp_seq_k fun K2 hK2 => ?_
  refine wp_plain_inv 2 (specs [Rw (1), Rw (1)]) (specs_stb ⟨Rw.stb _, Rw.stb _, trivial⟩) (by kernel_rfl) ?_ ?_
  · refine ⟨fun a w hB hfr hdep => Step.plain rfl (Does.call 44 #[.int .i64 1] (by kernel_rfl) (rInt w 1 (by decide))),
      fun a w hB hfr hdep => Step.plain rfl (dAssign (R := Rw (1)) rfl (hdep 0 13 (by kernel_rfl))), trivial⟩
  intro u2 hb2
  simp only [List.take, List.drop, FinAll, Act.put, List.setIfInBounds_toArray, List.set_cons_succ, List.set_cons_zero]
  rintro v13_2 h13_2 v6_2 h6_2
  have hO2 := (hO1).trans (hb2.mono (hO1).size)
  have m4_1__2 := block_below hb2 (lt_of_heap m4_1) m4_1
  refine hK2 _ _ ?_
  clear hK2 K2
  refine wp_seq_k fun K3 hK3 => ?_
  refine wp_plain_inv 4 (specs [Rw (y), Rw (y), Rw ((y) * (y)), Rw ((y) * (y))]) (specs_stb ⟨Rw.stb _, Rw.stb _, Rw.stb _, Rw.stb _, trivial⟩) (by kernel_rfl) ?_ ?_
  · refine ⟨fun a w hB hfr hdep => Step.plain rfl (dMove (R := Rw (y)) rfl (use (hfr 0 (by kernel_rfl)) ((Rw.stb _) _ _ _ hB ((Rw.stb _) _ _ _ hb2 ((Rw.stb _) _ _ _ hb1 hy))))),
      fun a w hB hfr hdep => Step.plain rfl (dMove (R := Rw (y)) rfl (use (hfr 0 (by kernel_rfl)) ((Rw.stb _) _ _ _ hB ((Rw.stb _) _ _ _ hb2 ((Rw.stb _) _ _ _ hb1 hy))))),
      fun a w hB hfr hdep => Step.plain rfl (Does.call 41 #[(a.eval (.tmp 14)), (a.eval (.tmp 15))] (by kernel_rfl) (rMul w (hdep 0 14 (by kernel_rfl)) (hdep 1 15 (by kernel_rfl)))),
      fun a w hB hfr hdep => Step.plain rfl (dAssign (R := Rw ((y) * (y))) rfl (hdep 2 16 (by kernel_rfl))), trivial⟩
  intro u3 hb3
  simp only [List.take, List.drop, FinAll, Act.put, List.setIfInBounds_toArray, List.set_cons_succ, List.set_cons_zero]
  rintro v14_3 h14_3 v15_3 h15_3 v16_3 h16_3 v7_3 h7_3
  have hO3 := (hO2).trans (hb3.mono (hO2).size)
  have m4_1__3 := block_below hb3 (lt_of_heap m4_1__2) m4_1__2
  refine hK3 _ _ ?_
  clear hK3 K3
  refine wp_seq_k fun K4 hK4 => ?_
  refine wp_plain_inv 4 (specs [Rw ((y) * (y)), Rw (1), Rw (((y) * (y)) - (1)), Rw (((y) * (y)) - (1))]) (specs_stb ⟨Rw.stb _, Rw.stb _, Rw.stb _, Rw.stb _, trivial⟩) (by kernel_rfl) ?_ ?_
  · refine ⟨fun a w hB hfr hdep => Step.plain rfl (dMove (R := Rw ((y) * (y))) rfl (use (hfr 7 (by kernel_rfl)) ((Rw.stb _) _ _ _ hB h7_3))),
      fun a w hB hfr hdep => Step.plain rfl (dMove (R := Rw (1)) rfl (use (hfr 6 (by kernel_rfl)) ((Rw.stb _) _ _ _ hB ((Rw.stb _) _ _ _ hb3 h6_2)))),
      fun a w hB hfr hdep => Step.plain rfl (Does.call 42 #[(a.eval (.tmp 17)), (a.eval (.tmp 18))] (by kernel_rfl) (rSub w (hdep 0 17 (by kernel_rfl)) (hdep 1 18 (by kernel_rfl)))),
      fun a w hB hfr hdep => Step.plain rfl (dAssign (R := Rw (((y) * (y)) - (1))) rfl (hdep 2 19 (by kernel_rfl))), trivial⟩
  intro u4 hb4
  simp only [List.take, List.drop, FinAll, Act.put, List.setIfInBounds_toArray, List.set_cons_succ, List.set_cons_zero]
  rintro v17_4 h17_4 v18_4 h18_4 v19_4 h19_4 v8_4 h8_4
  have hO4 := (hO3).trans (hb4.mono (hO3).size)
  have m4_1__4 := block_below hb4 (lt_of_heap m4_1__3) m4_1__3
  refine hK4 _ _ ?_
  clear hK4 K4
  refine wp_seq_k fun K5 hK5 => ?_
  refine wp_plain_inv 6 (specs [Rw (dd), Rw ((y) * (y)), Rw ((dd) * ((y) * (y))), Rw (1), Rw (((dd) * ((y) * (y))) + (1)), Rw (((dd) * ((y) * (y))) + (1))]) (specs_stb ⟨Rw.stb _, Rw.stb _, Rw.stb _, Rw.stb _, Rw.stb _, Rw.stb _, trivial⟩) (by kernel_rfl) ?_ ?_
  · refine ⟨fun a w hB hfr hdep => Step.plain rfl (Does.call 45 #[] (by kernel_rfl) (rD w)),
      fun a w hB hfr hdep => Step.plain rfl (dMove (R := Rw ((y) * (y))) rfl (use (hfr 7 (by kernel_rfl)) ((Rw.stb _) _ _ _ hB ((Rw.stb _) _ _ _ hb4 h7_3)))),
      fun a w hB hfr hdep => Step.plain rfl (Does.call 41 #[(a.eval (.tmp 20)), (a.eval (.tmp 21))] (by kernel_rfl) (rMul w (hdep 0 20 (by kernel_rfl)) (hdep 1 21 (by kernel_rfl)))),
      fun a w hB hfr hdep => Step.plain rfl (dMove (R := Rw (1)) rfl (use (hfr 6 (by kernel_rfl)) ((Rw.stb _) _ _ _ hB ((Rw.stb _) _ _ _ hb4 ((Rw.stb _) _ _ _ hb3 h6_2))))),
      fun a w hB hfr hdep => Step.plain rfl (Does.call 43 #[(a.eval (.tmp 22)), (a.eval (.tmp 23))] (by kernel_rfl) (rAdd w (hdep 2 22 (by kernel_rfl)) (hdep 3 23 (by kernel_rfl)))),
      fun a w hB hfr hdep => Step.plain rfl (dAssign (R := Rw (((dd) * ((y) * (y))) + (1))) rfl (hdep 4 24 (by kernel_rfl))), trivial⟩
  intro u5 hb5
  simp only [List.take, List.drop, FinAll, Act.put, List.setIfInBounds_toArray, List.set_cons_succ, List.set_cons_zero]
  rintro v20_5 h20_5 v21_5 h21_5 v22_5 h22_5 v23_5 h23_5 v24_5 h24_5 v9_5 h9_5
  have hO5 := (hO4).trans (hb5.mono (hO4).size)
  have m4_1__5 := block_below hb5 (lt_of_heap m4_1__4) m4_1__4
  refine hK5 _ _ ?_
  clear hK5 K5
  refine wp_seq_k fun K6 hK6 => ?_
  refine wp_plain_inv 10 (specs [Rw (((y) * (y)) - (1)), Rw (((dd) * ((y) * (y))) + (1)), Rw (fin (((dd) * ((y) * (y))) + (1))), Rw ((((y) * (y)) - (1)) * (fin (((dd) * ((y) * (y))) + (1)))), Tup2 (Rw (r)) (Is (.bool false)), Tup2 (Rw (r)) (Is (.bool false)), Rw (r), Is (.bool false), Rw (r), Is (.bool false)]) (specs_stb ⟨Rw.stb _, Rw.stb _, Rw.stb _, Rw.stb _, Tup2.stb (Rw.stb _) (Is.stb _), Tup2.stb (Rw.stb _) (Is.stb _), Rw.stb _, Is.stb _, Rw.stb _, Is.stb _, trivial⟩) (by kernel_rfl) ?_ ?_
  · refine ⟨fun a w hB hfr hdep => Step.plain rfl (dMove (R := Rw (((y) * (y)) - (1))) rfl (use (hfr 8 (by kernel_rfl)) ((Rw.stb _) _ _ _ hB ((Rw.stb _) _ _ _ hb5 h8_4)))),
      fun a w hB hfr hdep => Step.plain rfl (dMove (R := Rw (((dd) * ((y) * (y))) + (1))) rfl (use (hfr 9 (by kernel_rfl)) ((Rw.stb _) _ _ _ hB h9_5))),
      fun a w hB hfr hdep => Step.plain rfl (Does.call 50 #[(a.eval (.tmp 27))] (by kernel_rfl) (rInv w (hdep 1 27 (by kernel_rfl)))),
      fun a w hB hfr hdep => Step.plain rfl (Does.call 41 #[(a.eval (.tmp 26)), (a.eval (.tmp 28))] (by kernel_rfl) (rMul w (hdep 0 26 (by kernel_rfl)) (hdep 2 28 (by kernel_rfl)))),
      fun a w hB hfr hdep => Step.plain rfl (Does.call 60 #[(a.eval (.tmp 29))] (by kernel_rfl) (rRootF he hr hs w (hdep 3 29 (by kernel_rfl)))),
      fun a w hB hfr hdep => Step.plain rfl (dMove (R := Tup2 (Rw (r)) (Is (.bool false))) rfl (hdep 4 30 (by kernel_rfl))),
      fun a w hB hfr hdep => Step.plain rfl (dExt0 rfl (hdep 5 25 (by kernel_rfl))),
      fun a w hB hfr hdep => Step.plain rfl (dExt1 rfl (hdep 5 25 (by kernel_rfl))),
      fun a w hB hfr hdep => Step.plain rfl (dAssign (R := Rw (r)) rfl (hdep 6 31 (by kernel_rfl))),
      fun a w hB hfr hdep => Step.plain rfl (dAssign (R := Is (.bool false)) rfl (hdep 7 32 (by kernel_rfl))), trivial⟩
  intro u6 hb6
  simp only [List.take, List.drop, FinAll, Act.put, List.setIfInBounds_toArray, List.set_cons_succ, List.set_cons_zero]
  rintro v26_6 h26_6 v27_6 h27_6 v28_6 h28_6 v29_6 h29_6 v30_6 h30_6 v25_6 h25_6 v31_6 h31_6 _ rfl v10_6 h10_6 _ rfl
  have hO6 := (hO5).trans (hb6.mono (hO5).size)
  have m4_1__6 := block_below hb6 (lt_of_heap m4_1__5) m4_1__5
  refine hK6 _ _ ?_
  clear hK6 K6
  refine wp_seq_k fun KO6 hKO6 => ?_
  refine wp_seq_k fun K7 hK7 => ?_
  refine wp_plain_inv 2 (specs [Is (.bool false), Is (.bool true)]) (specs_stb ⟨Is.stb _, Is.stb _, trivial⟩) (by kernel_rfl) ?_ ?_
  · refine ⟨fun a w hB hfr hdep => Step.plain rfl (dMove (R := Is (.bool false)) rfl (hfr 11 (by kernel_rfl))),
      fun a w hB hfr hdep => Step.plain rfl (Does.run _ (run_notO rfl (hdep 0 33 (by kernel_rfl))) rfl), trivial⟩
  intro u7 hb7
  simp only [List.take, List.drop, FinAll, Act.put, List.setIfInBounds_toArray, List.set_cons_succ, List.set_cons_zero]
  rintro _ rfl _ rfl
  have hO7 := (hO6).trans (hb7.mono (hO6).size)
  have m4_1__7 := block_below hb7 (lt_of_heap m4_1__6) m4_1__6
  refine hK7 _ _ ?_
  clear hK7 K7
  refine wp_cond_true rfl ?_
  refine wp_seq_k fun K8 hK8 => ?_
  refine wp_plain_inv 1 (specs [Is (.agg #[.slice none 0 0, .slice none 0 0])]) (specs_stb ⟨Is.stb _, trivial⟩) (by kernel_rfl) ?_ ?_
  · refine ⟨fun a w hB hfr hdep => Step.plain rfl (Does.run _ (bu35z rfl) rfl), trivial⟩
  intro u8 hb8
  simp only [List.take, List.drop, FinAll, Act.put, List.setIfInBounds_toArray, List.set_cons_succ, List.set_cons_zero]
  rintro _ rfl
  have om4_1__7 := block_below hb8 (lt_of_heap m4_1__7) m4_1__7
  refine wpList_store_row rfl 35 (.tmp 4) (.tmp 35) rfl _ (#[.slice none 0 0, .slice none 0 0]) rfl rfl 35 _ om4_1__7 info35 rfl (by simp [Value.oneCell']) ?_
  refine wpList_assign rfl rfl rfl ?_
  simp only [Act.put, Act.eval, List.setIfInBounds_toArray, List.set_cons_succ, List.set_cons_zero]
  have n4_8 := setRow_heap _ _ _ (#[.slice none 0 0, .slice none 0 0]) _ _ om4_1__7
  have hO8 := setRow_below (hO7.trans (hb8.mono (hO7).size)) lwm4_1 (#[.slice none 0 0, .slice none 0 0])
  refine hK8 _ _ ?_
  clear hK8 K8
  refine wp_ret ?_
  simp only [Exit.then]
  refine bodyPost_ret (v := .tuple #[.agg (#[.slice none 0 0, .slice none 0 0]), .bool false]) ?_ rfl ⟨_, rfl, hO8, ⟨_, _, rfl, rfl, rfl⟩⟩
  exact results_cell_tmp Tryd.results37 _ _ _ 35 _ (0, 0) _ _ rfl rfl n4_8 Tryd.underlying35 rfl (by first | exact info26 | exact info29 | exact info35 | (rw [(Pt4.cells (by assumption)).1]; exact info29) | (rw [cellsP_size (by assumption)]; exact info29))
theorem rOfS {y r : Fe} {bb : Bool} {v : Value} {e : Nat} (he : valD tab3.reverse = e) (hr : rootOf e (av y) = r) (w : World) (hy : Rw y v w) (hs : r * r = av y) (ho1 : decide (r.val % 2 = 1) = bb) : Ret 37 #[v, .bool bb] w (Tup2 (RPt r y) (Is (.bool true))) := by
  unfold Ret
  have hO0 : Below w.heap.size w w := Below.refl _ _
  go_enter Tryd.func37, Tryd.ntmps37
  refine wp_seq_k fun K1 hK1 => ?_
  refine wp_plain_inv 2 (specs [Box w.heap.size (#[.slice none 0 0, .slice none 0 0]) 35, Is (.bool false)]) (specs_stb ⟨Box.stb _ _ _, Is.stb _, trivial⟩) (by kernel_rfl) ?_ ?_
  · refine ⟨fun a w hB hfr hdep => Step.plain rfl (dAlloc35 hB.size rfl),
      fun a w hB hfr hdep => Step.plain rfl (dAssign (R := Is (.bool false)) rfl rfl), trivial⟩
  intro u1 hb1
  simp only [List.take, List.drop, FinAll, Act.put, List.setIfInBounds_toArray, List.set_cons_succ, List.set_cons_zero]
  rintro _ ⟨g4_1, rfl, l4_1, m4_1⟩ _ rfl
  have hO1 := (hO0).trans (hb1.mono (hO0).size)
  have lwm4_1 := Nat.le_trans (hO0).size l4_1
  refine hK1 _ _ ?_
  clear hK1 K1
  refine wp_seq_k fun K2 hK2 => ?_
  refine wp_plain_inv 2 (specs [Rw (1), Rw (1)]) (specs_stb ⟨Rw.stb _, Rw.stb _, trivial⟩) (by kernel_rfl) ?_ ?_
  · refine ⟨fun a w hB hfr hdep => Step.plain rfl (Does.call 44 #[.int .i64 1] (by kernel_rfl) (rInt w 1 (by decide))),
      fun a w hB hfr hdep => Step.plain rfl (dAssign (R := Rw (1)) rfl (hdep 0 13 (by kernel_rfl))), trivial⟩
  intro u2 hb2
  simp only [List.take, List.drop, FinAll, Act.put, List.setIfInBounds_toArray, List.set_cons_succ, List.set_cons_zero]
  rintro v13_2 h13_2 v6_2 h6_2
  have hO2 := (hO1).trans (hb2.mono (hO1).size)
  have m4_1__2 := block_below hb2 (lt_of_heap m4_1) m4_1
  refine hK2 _ _ ?_
  clear hK2 K2
  refine wp_seq_k fun K3 hK3 => ?_
  refine wp_plain_inv 4 (specs [Rw (y), Rw (y), Rw ((y) * (y)), Rw ((y) * (y))]) (specs_stb ⟨Rw.stb _, Rw.stb _, Rw.stb _, Rw.stb _, trivial⟩) (by kernel_rfl) ?_ ?_
  · refine ⟨fun a w hB hfr hdep => Step.plain rfl (dMove (R := Rw (y)) rfl (use (hfr 0 (by kernel_rfl)) ((Rw.stb _) _ _ _ hB ((Rw.stb _) _ _ _ hb2 ((Rw.stb _) _ _ _ hb1 hy))))),
      fun a w hB hfr hdep => Step.plain rfl (dMove (R := Rw (y)) rfl (use (hfr 0 (by kernel_rfl)) ((Rw.stb _) _ _ _ hB ((Rw.stb _) _ _ _ hb2 ((Rw.stb _) _ _ _ hb1 hy))))),
      fun a w hB hfr hdep => Step.plain rfl (Does.call 41 #[(a.eval (.tmp 14)), (a.eval (.tmp 15))] (by kernel_rfl) (rMul w (hdep 0 14 (by kernel_rfl)) (hdep 1 15 (by kernel_rfl)))),
      fun a w hB hfr hdep => Step.plain rfl (dAssign (R := Rw ((y) * (y))) rfl (hdep 2 16 (by kernel_rfl))), trivial⟩
  intro u3 hb3
  simp only [List.take, List.drop, FinAll, Act.put, List.setIfInBounds_toArray, List.set_cons_succ, List.set_cons_zero]
  rintro v14_3 h14_3 v15_3 h15_3 v16_3 h16_3 v7_3 h7_3
  have hO3 := (hO2).trans (hb3.mono (hO2).size)
  have m4_1__3 := block_below hb3 (lt_of_heap m4_1__2) m4_1__2
  refine hK3 _ _ ?_
  clear hK3 K3
  refine wp_seq_k fun K4 hK4 => ?_
  refine wp_plain_inv 4 (specs [Rw ((y) * (y)), Rw (1), Rw (((y) * (y)) - (1)), Rw (((y) * (y)) - (1))]) (specs_stb ⟨Rw.stb _, Rw.stb _, Rw.stb _, Rw.stb _, trivial⟩) (by kernel_rfl) ?_ ?_
  · refine ⟨fun a w hB hfr hdep => Step.plain rfl (dMove (R := Rw ((y) * (y))) rfl (use (hfr 7 (by kernel_rfl)) ((Rw.stb _) _ _ _ hB h7_3))),
      fun a w hB hfr hdep => Step.plain rfl (dMove (R := Rw (1)) rfl (use (hfr 6 (by kernel_rfl)) ((Rw.stb _) _ _ _ hB ((Rw.stb _) _ _ _ hb3 h6_2)))),
      fun a w hB hfr hdep => Step.plain rfl (Does.call 42 #[(a.eval (.tmp 17)), (a.eval (.tmp 18))] (by kernel_rfl) (rSub w (hdep 0 17 (by kernel_rfl)) (hdep 1 18 (by kernel_rfl)))),
      fun a w hB hfr hdep => Step.plain rfl (dAssign (R := Rw (((y) * (y)) - (1))) rfl (hdep 2 19 (by kernel_rfl))), trivial⟩
  intro u4 hb4
  simp only [List.take, List.drop, FinAll, Act.put, List.setIfInBounds_toArray, List.set_cons_succ, List.set_cons_zero]
  rintro v17_4 h17_4 v18_4 h18_4 v19_4 h19_4 v8_4 h8_4
  have hO4 := (hO3).trans (hb4.mono (hO3).size)
  have m4_1__4 := block_below hb4 (lt_of_heap m4_1__3) m4_1__3
  refine hK4 _ _ ?_
  clear hK4 K4
  refine wp_seq_k fun K5 hK5 => ?_
  refine wp_plain_inv 6 (specs [Rw (dd), Rw ((y) * (y)), Rw ((dd) * ((y) * (y))), Rw (1), Rw (((dd) * ((y) * (y))) + (1)), Rw (((dd) * ((y) * (y))) + (1))]) (specs_stb ⟨Rw.stb _, Rw.stb _, Rw.stb _, Rw.stb _, Rw.stb _, Rw.stb _, trivial⟩) (by kernel_rfl) ?_ ?_
  · refine ⟨fun a w hB hfr hdep => Step.plain rfl (Does.call 45 #[] (by kernel_rfl) (rD w)),
      fun a w hB hfr hdep => Step.plain rfl (dMove (R := Rw ((y) * (y))) rfl (use (hfr 7 (by kernel_rfl)) ((Rw.stb _) _ _ _ hB ((Rw.stb _) _ _ _ hb4 h7_3)))),
      fun a w hB hfr hdep => Step.plain rfl (Does.call 41 #[(a.eval (.tmp 20)), (a.eval (.tmp 21))] (by kernel_rfl) (rMul w (hdep 0 20 (by kernel_rfl)) (hdep 1 21 (by kernel_rfl)))),
      fun a w hB hfr hdep => Step.plain rfl (dMove (R := Rw (1)) rfl (use (hfr 6 (by kernel_rfl)) ((Rw.stb _) _ _ _ hB ((Rw.stb _) _ _ _ hb4 ((Rw.stb _) _ _ _ hb3 h6_2))))),
      fun a w hB hfr hdep => Step.plain rfl (Does.call 43 #[(a.eval (.tmp 22)), (a.eval (.tmp 23))] (by kernel_rfl) (rAdd w (hdep 2 22 (by kernel_rfl)) (hdep 3 23 (by kernel_rfl)))),
      fun a w hB hfr hdep => Step.plain rfl (dAssign (R := Rw (((dd) * ((y) * (y))) + (1))) rfl (hdep 4 24 (by kernel_rfl))), trivial⟩
  intro u5 hb5
  simp only [List.take, List.drop, FinAll, Act.put, List.setIfInBounds_toArray, List.set_cons_succ, List.set_cons_zero]
  rintro v20_5 h20_5 v21_5 h21_5 v22_5 h22_5 v23_5 h23_5 v24_5 h24_5 v9_5 h9_5
  have hO5 := (hO4).trans (hb5.mono (hO4).size)
  have m4_1__5 := block_below hb5 (lt_of_heap m4_1__4) m4_1__4
  refine hK5 _ _ ?_
  clear hK5 K5
  refine wp_seq_k fun K6 hK6 => ?_
  refine wp_plain_inv 10 (specs [Rw (((y) * (y)) - (1)), Rw (((dd) * ((y) * (y))) + (1)), Rw (fin (((dd) * ((y) * (y))) + (1))), Rw ((((y) * (y)) - (1)) * (fin (((dd) * ((y) * (y))) + (1)))), Tup2 (Rw (r)) (Is (.bool true)), Tup2 (Rw (r)) (Is (.bool true)), Rw (r), Is (.bool true), Rw (r), Is (.bool true)]) (specs_stb ⟨Rw.stb _, Rw.stb _, Rw.stb _, Rw.stb _, Tup2.stb (Rw.stb _) (Is.stb _), Tup2.stb (Rw.stb _) (Is.stb _), Rw.stb _, Is.stb _, Rw.stb _, Is.stb _, trivial⟩) (by kernel_rfl) ?_ ?_
  · refine ⟨fun a w hB hfr hdep => Step.plain rfl (dMove (R := Rw (((y) * (y)) - (1))) rfl (use (hfr 8 (by kernel_rfl)) ((Rw.stb _) _ _ _ hB ((Rw.stb _) _ _ _ hb5 h8_4)))),
      fun a w hB hfr hdep => Step.plain rfl (dMove (R := Rw (((dd) * ((y) * (y))) + (1))) rfl (use (hfr 9 (by kernel_rfl)) ((Rw.stb _) _ _ _ hB h9_5))),
      fun a w hB hfr hdep => Step.plain rfl (Does.call 50 #[(a.eval (.tmp 27))] (by kernel_rfl) (rInv w (hdep 1 27 (by kernel_rfl)))),
      fun a w hB hfr hdep => Step.plain rfl (Does.call 41 #[(a.eval (.tmp 26)), (a.eval (.tmp 28))] (by kernel_rfl) (rMul w (hdep 0 26 (by kernel_rfl)) (hdep 2 28 (by kernel_rfl)))),
      fun a w hB hfr hdep => Step.plain rfl (Does.call 60 #[(a.eval (.tmp 29))] (by kernel_rfl) (rRootT he hr hs w (hdep 3 29 (by kernel_rfl)))),
      fun a w hB hfr hdep => Step.plain rfl (dMove (R := Tup2 (Rw (r)) (Is (.bool true))) rfl (hdep 4 30 (by kernel_rfl))),
      fun a w hB hfr hdep => Step.plain rfl (dExt0 rfl (hdep 5 25 (by kernel_rfl))),
      fun a w hB hfr hdep => Step.plain rfl (dExt1 rfl (hdep 5 25 (by kernel_rfl))),
      fun a w hB hfr hdep => Step.plain rfl (dAssign (R := Rw (r)) rfl (hdep 6 31 (by kernel_rfl))),
      fun a w hB hfr hdep => Step.plain rfl (dAssign (R := Is (.bool true)) rfl (hdep 7 32 (by kernel_rfl))), trivial⟩
  intro u6 hb6
  simp only [List.take, List.drop, FinAll, Act.put, List.setIfInBounds_toArray, List.set_cons_succ, List.set_cons_zero]
  rintro v26_6 h26_6 v27_6 h27_6 v28_6 h28_6 v29_6 h29_6 v30_6 h30_6 v25_6 h25_6 v31_6 h31_6 _ rfl v10_6 h10_6 _ rfl
  have hO6 := (hO5).trans (hb6.mono (hO5).size)
  have m4_1__6 := block_below hb6 (lt_of_heap m4_1__5) m4_1__5
  refine hK6 _ _ ?_
  clear hK6 K6
  refine wp_seq_k fun KO6 hKO6 => ?_
  refine wp_seq_k fun K7 hK7 => ?_
  refine wp_plain_inv 2 (specs [Is (.bool true), Is (.bool false)]) (specs_stb ⟨Is.stb _, Is.stb _, trivial⟩) (by kernel_rfl) ?_ ?_
  · refine ⟨fun a w hB hfr hdep => Step.plain rfl (dMove (R := Is (.bool true)) rfl (hfr 11 (by kernel_rfl))),
      fun a w hB hfr hdep => Step.plain rfl (Does.run _ (run_notO rfl (hdep 0 33 (by kernel_rfl))) rfl), trivial⟩
  intro u7 hb7
  simp only [List.take, List.drop, FinAll, Act.put, List.setIfInBounds_toArray, List.set_cons_succ, List.set_cons_zero]
  rintro _ rfl _ rfl
  have hO7 := (hO6).trans (hb7.mono (hO6).size)
  have m4_1__7 := block_below hb7 (lt_of_heap m4_1__6) m4_1__6
  refine hK7 _ _ ?_
  clear hK7 K7
  refine wp_cond_false rfl ?_
  refine wp_skip ?_
  refine hKO6 _ _ ?_
  clear hKO6 KO6
  refine wp_seq_k fun KO8 hKO8 => ?_
  refine wp_seq_k fun K8 hK8 => ?_
  refine wp_plain_inv 7 (specs [Rw (r), Fst (r), Is (.int .i64 ((Fin.val (r) % 256 : Nat) : Int)), Is (.int .i64 ((Fin.val (r) % 2 : Nat) : Int)), Is (.bool bb), Is (.bool bb), Is (.bool false)]) (specs_stb ⟨Rw.stb _, Fst.stb _, Is.stb _, Is.stb _, Is.stb _, Is.stb _, Is.stb _, trivial⟩) (by kernel_rfl) ?_ ?_
  · refine ⟨fun a w hB hfr hdep => Step.plain rfl (dMove (R := Rw (r)) rfl (use (hfr 10 (by kernel_rfl)) ((Rw.stb _) _ _ _ hB ((Rw.stb _) _ _ _ hb7 h10_6)))),
      fun a w hB hfr hdep => Step.plain rfl (dFst rfl (hdep 0 36 (by kernel_rfl)) rfl),
      fun a w hB hfr hdep => Step.plain rfl (dLoadFst rfl (hdep 1 37 (by kernel_rfl))),
      fun a w hB hfr hdep => Step.plain rfl (Does.run _ (run_rem2 rfl (hdep 2 38 (by kernel_rfl)) rfl) rfl),
      fun a w hB hfr hdep => Step.plain rfl (Does.run _ (run_eq1 ho1 rfl (hdep 3 39 (by kernel_rfl)) rfl) rfl),
      fun a w hB hfr hdep => Step.plain rfl (dMove (R := Is (.bool bb)) rfl (hfr 1 (by kernel_rfl))),
      fun a w hB hfr hdep => Step.plain rfl (Does.run _ (run_neqS rfl (hdep 4 40 (by kernel_rfl)) (hdep 5 41 (by kernel_rfl))) rfl), trivial⟩
  intro u8 hb8
  simp only [List.take, List.drop, FinAll, Act.put, List.setIfInBounds_toArray, List.set_cons_succ, List.set_cons_zero]
  rintro v36_8 h36_8 v37_8 h37_8 _ rfl _ rfl _ rfl _ rfl _ rfl
  have hO8 := (hO7).trans (hb8.mono (hO7).size)
  have m4_1__8 := block_below hb8 (lt_of_heap m4_1__7) m4_1__7
  refine hK8 _ _ ?_
  clear hK8 K8
  refine wp_cond_false rfl ?_
  refine wp_skip ?_
  refine hKO8 _ _ ?_
  clear hKO8 KO8
  refine wp_seq_k fun K9 hK9 => ?_
  refine wp_plain_inv 3 (specs [Rw (r), Rw (y), RPt (r) (y)]) (specs_stb ⟨Rw.stb _, Rw.stb _, RPt.stb _ _, trivial⟩) (by kernel_rfl) ?_ ?_
  · refine ⟨fun a w hB hfr hdep => Step.plain rfl (dMove (R := Rw (r)) rfl (use (hfr 10 (by kernel_rfl)) ((Rw.stb _) _ _ _ hB ((Rw.stb _) _ _ _ hb8 ((Rw.stb _) _ _ _ hb7 h10_6))))),
      fun a w hB hfr hdep => Step.plain rfl (dMove (R := Rw (y)) rfl (use (hfr 0 (by kernel_rfl)) ((Rw.stb _) _ _ _ hB ((Rw.stb _) _ _ _ hb8 ((Rw.stb _) _ _ _ hb7 ((Rw.stb _) _ _ _ hb6 ((Rw.stb _) _ _ _ hb5 ((Rw.stb _) _ _ _ hb4 ((Rw.stb _) _ _ _ hb3 ((Rw.stb _) _ _ _ hb2 ((Rw.stb _) _ _ _ hb1 hy))))))))))),
      fun a w hB hfr hdep => Step.plain rfl (dBuild35 rfl (hdep 0 51 (by kernel_rfl)) (hdep 1 52 (by kernel_rfl))), trivial⟩
  intro u9 hb9
  simp only [List.take, List.drop, FinAll, Act.put, List.setIfInBounds_toArray, List.set_cons_succ, List.set_cons_zero]
  rintro v51_9 h51_9 v52_9 h52_9 _ ⟨p53_9, q53_9, rfl, x53_9, y53_9⟩
  have om4_1__8 := block_below hb9 (lt_of_heap m4_1__8) m4_1__8
  refine wpList_store_row rfl 35 (.tmp 4) (.tmp 53) rfl _ (#[p53_9, q53_9]) rfl rfl 35 _ om4_1__8 info35 rfl (rpt_one x53_9 y53_9) ?_
  refine wpList_assign rfl rfl rfl ?_
  simp only [Act.put, Act.eval, List.setIfInBounds_toArray, List.set_cons_succ, List.set_cons_zero]
  have xx := Rw.setRow x53_9 om4_1__8 nz35 (#[p53_9, q53_9])
  have yy := Rw.setRow y53_9 om4_1__8 nz35 (#[p53_9, q53_9])
  have n4_9 := setRow_heap _ _ _ (#[p53_9, q53_9]) _ _ om4_1__8
  have hO9 := setRow_below (hO8.trans (hb9.mono (hO8).size)) lwm4_1 (#[p53_9, q53_9])
  refine hK9 _ _ ?_
  clear hK9 K9
  refine wp_ret ?_
  refine bodyPost_ret (v := .tuple #[.agg (#[p53_9, q53_9]), .bool true]) ?_ rfl ⟨_, rfl, hO9, ⟨_, _, rfl, ⟨_, _, rfl, xx, yy⟩, rfl⟩⟩
  exact results_cell_tmp Tryd.results37 _ _ _ 35 _ (0, 0) _ _ rfl rfl n4_9 Tryd.underlying35 rfl (by first | exact info26 | exact info29 | exact info35 | (rw [(Pt4.cells (by assumption)).1]; exact info29) | (rw [cellsP_size (by assumption)]; exact info29))
theorem rOfZ {y r : Fe} {bb : Bool} {v : Value} {e : Nat} (he : valD tab3.reverse = e) (hr : rootOf e (av y) = r) (w : World) (hy : Rw y v w) (hs : r * r = av y) (ho1 : decide (r.val % 2 = 1) = !bb) (h0 : r = 0) : Ret 37 #[v, .bool bb] w (Tup2 (Is (.agg #[.slice none 0 0, .slice none 0 0])) (Is (.bool false))) := by
  unfold Ret
  have hO0 : Below w.heap.size w w := Below.refl _ _
  go_enter Tryd.func37, Tryd.ntmps37
  refine wp_seq_k fun K1 hK1 => ?_
  refine wp_plain_inv 2 (specs [Box w.heap.size (#[.slice none 0 0, .slice none 0 0]) 35, Is (.bool false)]) (specs_stb ⟨Box.stb _ _ _, Is.stb _, trivial⟩) (by kernel_rfl) ?_ ?_
  · refine ⟨fun a w hB hfr hdep => Step.plain rfl (dAlloc35 hB.size rfl),
      fun a w hB hfr hdep => Step.plain rfl (dAssign (R := Is (.bool false)) rfl rfl), trivial⟩
  intro u1 hb1
  simp only [List.take, List.drop, FinAll, Act.put, List.setIfInBounds_toArray, List.set_cons_succ, List.set_cons_zero]
  rintro _ ⟨g4_1, rfl, l4_1, m4_1⟩ _ rfl
  have hO1 := (hO0).trans (hb1.mono (hO0).size)
  have lwm4_1 := Nat.le_trans (hO0).size l4_1
  refine hK1 _ _ ?_
  clear hK1 K1
  refine wp_seq_k fun K2 hK2 => ?_
  refine wp_plain_inv 2 (specs [Rw (1), Rw (1)]) (specs_stb ⟨Rw.stb _, Rw.stb _, trivial⟩) (by kernel_rfl) ?_ ?_
  · refine ⟨fun a w hB hfr hdep => Step.plain rfl (Does.call 44 #[.int .i64 1] (by kernel_rfl) (rInt w 1 (by decide))),
      fun a w hB hfr hdep => Step.plain rfl (dAssign (R := Rw (1)) rfl (hdep 0 13 (by kernel_rfl))), trivial⟩
  intro u2 hb2
  simp only [List.take, List.drop, FinAll, Act.put, List.setIfInBounds_toArray, List.set_cons_succ, List.set_cons_zero]
  rintro v13_2 h13_2 v6_2 h6_2
  have hO2 := (hO1).trans (hb2.mono (hO1).size)
  have m4_1__2 := block_below hb2 (lt_of_heap m4_1) m4_1
  refine hK2 _ _ ?_
  clear hK2 K2
  refine wp_seq_k fun K3 hK3 => ?_
  refine wp_plain_inv 4 (specs [Rw (y), Rw (y), Rw ((y) * (y)), Rw ((y) * (y))]) (specs_stb ⟨Rw.stb _, Rw.stb _, Rw.stb _, Rw.stb _, trivial⟩) (by kernel_rfl) ?_ ?_
  · refine ⟨fun a w hB hfr hdep => Step.plain rfl (dMove (R := Rw (y)) rfl (use (hfr 0 (by kernel_rfl)) ((Rw.stb _) _ _ _ hB ((Rw.stb _) _ _ _ hb2 ((Rw.stb _) _ _ _ hb1 hy))))),
      fun a w hB hfr hdep => Step.plain rfl (dMove (R := Rw (y)) rfl (use (hfr 0 (by kernel_rfl)) ((Rw.stb _) _ _ _ hB ((Rw.stb _) _ _ _ hb2 ((Rw.stb _) _ _ _ hb1 hy))))),
      fun a w hB hfr hdep => Step.plain rfl (Does.call 41 #[(a.eval (.tmp 14)), (a.eval (.tmp 15))] (by kernel_rfl) (rMul w (hdep 0 14 (by kernel_rfl)) (hdep 1 15 (by kernel_rfl)))),
      fun a w hB hfr hdep => Step.plain rfl (dAssign (R := Rw ((y) * (y))) rfl (hdep 2 16 (by kernel_rfl))), trivial⟩
  intro u3 hb3
  simp only [List.take, List.drop, FinAll, Act.put, List.setIfInBounds_toArray, List.set_cons_succ, List.set_cons_zero]
  rintro v14_3 h14_3 v15_3 h15_3 v16_3 h16_3 v7_3 h7_3
  have hO3 := (hO2).trans (hb3.mono (hO2).size)
  have m4_1__3 := block_below hb3 (lt_of_heap m4_1__2) m4_1__2
  refine hK3 _ _ ?_
  clear hK3 K3
  refine wp_seq_k fun K4 hK4 => ?_
  refine wp_plain_inv 4 (specs [Rw ((y) * (y)), Rw (1), Rw (((y) * (y)) - (1)), Rw (((y) * (y)) - (1))]) (specs_stb ⟨Rw.stb _, Rw.stb _, Rw.stb _, Rw.stb _, trivial⟩) (by kernel_rfl) ?_ ?_
  · refine ⟨fun a w hB hfr hdep => Step.plain rfl (dMove (R := Rw ((y) * (y))) rfl (use (hfr 7 (by kernel_rfl)) ((Rw.stb _) _ _ _ hB h7_3))),
      fun a w hB hfr hdep => Step.plain rfl (dMove (R := Rw (1)) rfl (use (hfr 6 (by kernel_rfl)) ((Rw.stb _) _ _ _ hB ((Rw.stb _) _ _ _ hb3 h6_2)))),
      fun a w hB hfr hdep => Step.plain rfl (Does.call 42 #[(a.eval (.tmp 17)), (a.eval (.tmp 18))] (by kernel_rfl) (rSub w (hdep 0 17 (by kernel_rfl)) (hdep 1 18 (by kernel_rfl)))),
      fun a w hB hfr hdep => Step.plain rfl (dAssign (R := Rw (((y) * (y)) - (1))) rfl (hdep 2 19 (by kernel_rfl))), trivial⟩
  intro u4 hb4
  simp only [List.take, List.drop, FinAll, Act.put, List.setIfInBounds_toArray, List.set_cons_succ, List.set_cons_zero]
  rintro v17_4 h17_4 v18_4 h18_4 v19_4 h19_4 v8_4 h8_4
  have hO4 := (hO3).trans (hb4.mono (hO3).size)
  have m4_1__4 := block_below hb4 (lt_of_heap m4_1__3) m4_1__3
  refine hK4 _ _ ?_
  clear hK4 K4
  refine wp_seq_k fun K5 hK5 => ?_
  refine wp_plain_inv 6 (specs [Rw (dd), Rw ((y) * (y)), Rw ((dd) * ((y) * (y))), Rw (1), Rw (((dd) * ((y) * (y))) + (1)), Rw (((dd) * ((y) * (y))) + (1))]) (specs_stb ⟨Rw.stb _, Rw.stb _, Rw.stb _, Rw.stb _, Rw.stb _, Rw.stb _, trivial⟩) (by kernel_rfl) ?_ ?_
  · refine ⟨fun a w hB hfr hdep => Step.plain rfl (Does.call 45 #[] (by kernel_rfl) (rD w)),
      fun a w hB hfr hdep => Step.plain rfl (dMove (R := Rw ((y) * (y))) rfl (use (hfr 7 (by kernel_rfl)) ((Rw.stb _) _ _ _ hB ((Rw.stb _) _ _ _ hb4 h7_3)))),
      fun a w hB hfr hdep => Step.plain rfl (Does.call 41 #[(a.eval (.tmp 20)), (a.eval (.tmp 21))] (by kernel_rfl) (rMul w (hdep 0 20 (by kernel_rfl)) (hdep 1 21 (by kernel_rfl)))),
      fun a w hB hfr hdep => Step.plain rfl (dMove (R := Rw (1)) rfl (use (hfr 6 (by kernel_rfl)) ((Rw.stb _) _ _ _ hB ((Rw.stb _) _ _ _ hb4 ((Rw.stb _) _ _ _ hb3 h6_2))))),
      fun a w hB hfr hdep => Step.plain rfl (Does.call 43 #[(a.eval (.tmp 22)), (a.eval (.tmp 23))] (by kernel_rfl) (rAdd w (hdep 2 22 (by kernel_rfl)) (hdep 3 23 (by kernel_rfl)))),
      fun a w hB hfr hdep => Step.plain rfl (dAssign (R := Rw (((dd) * ((y) * (y))) + (1))) rfl (hdep 4 24 (by kernel_rfl))), trivial⟩
  intro u5 hb5
  simp only [List.take, List.drop, FinAll, Act.put, List.setIfInBounds_toArray, List.set_cons_succ, List.set_cons_zero]
  rintro v20_5 h20_5 v21_5 h21_5 v22_5 h22_5 v23_5 h23_5 v24_5 h24_5 v9_5 h9_5
  have hO5 := (hO4).trans (hb5.mono (hO4).size)
  have m4_1__5 := block_below hb5 (lt_of_heap m4_1__4) m4_1__4
  refine hK5 _ _ ?_
  clear hK5 K5
  refine wp_seq_k fun K6 hK6 => ?_
  refine wp_plain_inv 10 (specs [Rw (((y) * (y)) - (1)), Rw (((dd) * ((y) * (y))) + (1)), Rw (fin (((dd) * ((y) * (y))) + (1))), Rw ((((y) * (y)) - (1)) * (fin (((dd) * ((y) * (y))) + (1)))), Tup2 (Rw (r)) (Is (.bool true)), Tup2 (Rw (r)) (Is (.bool true)), Rw (r), Is (.bool true), Rw (r), Is (.bool true)]) (specs_stb ⟨Rw.stb _, Rw.stb _, Rw.stb _, Rw.stb _, Tup2.stb (Rw.stb _) (Is.stb _), Tup2.stb (Rw.stb _) (Is.stb _), Rw.stb _, Is.stb _, Rw.stb _, Is.stb _, trivial⟩) (by kernel_rfl) ?_ ?_
  · refine ⟨fun a w hB hfr hdep => Step.plain rfl (dMove (R := Rw (((y) * (y)) - (1))) rfl (use (hfr 8 (by kernel_rfl)) ((Rw.stb _) _ _ _ hB ((Rw.stb _) _ _ _ hb5 h8_4)))),
      fun a w hB hfr hdep => Step.plain rfl (dMove (R := Rw (((dd) * ((y) * (y))) + (1))) rfl (use (hfr 9 (by kernel_rfl)) ((Rw.stb _) _ _ _ hB h9_5))),
      fun a w hB hfr hdep => Step.plain rfl (Does.call 50 #[(a.eval (.tmp 27))] (by kernel_rfl) (rInv w (hdep 1 27 (by kernel_rfl)))),
      fun a w hB hfr hdep => Step.plain rfl (Does.call 41 #[(a.eval (.tmp 26)), (a.eval (.tmp 28))] (by kernel_rfl) (rMul w (hdep 0 26 (by kernel_rfl)) (hdep 2 28 (by kernel_rfl)))),
      fun a w hB hfr hdep => Step.plain rfl (Does.call 60 #[(a.eval (.tmp 29))] (by kernel_rfl) (rRootT he hr hs w (hdep 3 29 (by kernel_rfl)))),
      fun a w hB hfr hdep => Step.plain rfl (dMove (R := Tup2 (Rw (r)) (Is (.bool true))) rfl (hdep 4 30 (by kernel_rfl))),
      fun a w hB hfr hdep => Step.plain rfl (dExt0 rfl (hdep 5 25 (by kernel_rfl))),
      fun a w hB hfr hdep => Step.plain rfl (dExt1 rfl (hdep 5 25 (by kernel_rfl))),
      fun a w hB hfr hdep => Step.plain rfl (dAssign (R := Rw (r)) rfl (hdep 6 31 (by kernel_rfl))),
      fun a w hB hfr hdep => Step.plain rfl (dAssign (R := Is (.bool true)) rfl (hdep 7 32 (by kernel_rfl))), trivial⟩
  intro u6 hb6
  simp only [List.take, List.drop, FinAll, Act.put, List.setIfInBounds_toArray, List.set_cons_succ, List.set_cons_zero]
  rintro v26_6 h26_6 v27_6 h27_6 v28_6 h28_6 v29_6 h29_6 v30_6 h30_6 v25_6 h25_6 v31_6 h31_6 _ rfl v10_6 h10_6 _ rfl
  have hO6 := (hO5).trans (hb6.mono (hO5).size)
  have m4_1__6 := block_below hb6 (lt_of_heap m4_1__5) m4_1__5
  refine hK6 _ _ ?_
  clear hK6 K6
  refine wp_seq_k fun KO6 hKO6 => ?_
  refine wp_seq_k fun K7 hK7 => ?_
  refine wp_plain_inv 2 (specs [Is (.bool true), Is (.bool false)]) (specs_stb ⟨Is.stb _, Is.stb _, trivial⟩) (by kernel_rfl) ?_ ?_
  · refine ⟨fun a w hB hfr hdep => Step.plain rfl (dMove (R := Is (.bool true)) rfl (hfr 11 (by kernel_rfl))),
      fun a w hB hfr hdep => Step.plain rfl (Does.run _ (run_notO rfl (hdep 0 33 (by kernel_rfl))) rfl), trivial⟩
  intro u7 hb7
  simp only [List.take, List.drop, FinAll, Act.put, List.setIfInBounds_toArray, List.set_cons_succ, List.set_cons_zero]
  rintro _ rfl _ rfl
  have hO7 := (hO6).trans (hb7.mono (hO6).size)
  have m4_1__7 := block_below hb7 (lt_of_heap m4_1__6) m4_1__6
  refine hK7 _ _ ?_
  clear hK7 K7
  refine wp_cond_false rfl ?_
  refine wp_skip ?_
  refine hKO6 _ _ ?_
  clear hKO6 KO6
  refine wp_seq_k fun KO8 hKO8 => ?_
  refine wp_seq_k fun K8 hK8 => ?_
  refine wp_plain_inv 7 (specs [Rw (r), Fst (r), Is (.int .i64 ((Fin.val (r) % 256 : Nat) : Int)), Is (.int .i64 ((Fin.val (r) % 2 : Nat) : Int)), Is (.bool (!bb)), Is (.bool bb), Is (.bool true)]) (specs_stb ⟨Rw.stb _, Fst.stb _, Is.stb _, Is.stb _, Is.stb _, Is.stb _, Is.stb _, trivial⟩) (by kernel_rfl) ?_ ?_
  · refine ⟨fun a w hB hfr hdep => Step.plain rfl (dMove (R := Rw (r)) rfl (use (hfr 10 (by kernel_rfl)) ((Rw.stb _) _ _ _ hB ((Rw.stb _) _ _ _ hb7 h10_6)))),
      fun a w hB hfr hdep => Step.plain rfl (dFst rfl (hdep 0 36 (by kernel_rfl)) rfl),
      fun a w hB hfr hdep => Step.plain rfl (dLoadFst rfl (hdep 1 37 (by kernel_rfl))),
      fun a w hB hfr hdep => Step.plain rfl (Does.run _ (run_rem2 rfl (hdep 2 38 (by kernel_rfl)) rfl) rfl),
      fun a w hB hfr hdep => Step.plain rfl (Does.run _ (run_eq1 ho1 rfl (hdep 3 39 (by kernel_rfl)) rfl) rfl),
      fun a w hB hfr hdep => Step.plain rfl (dMove (R := Is (.bool bb)) rfl (hfr 1 (by kernel_rfl))),
      fun a w hB hfr hdep => Step.plain rfl (Does.run _ (run_neqD rfl (hdep 4 40 (by kernel_rfl)) (hdep 5 41 (by kernel_rfl))) rfl), trivial⟩
  intro u8 hb8
  simp only [List.take, List.drop, FinAll, Act.put, List.setIfInBounds_toArray, List.set_cons_succ, List.set_cons_zero]
  rintro v36_8 h36_8 v37_8 h37_8 _ rfl _ rfl _ rfl _ rfl _ rfl
  have hO8 := (hO7).trans (hb8.mono (hO7).size)
  have m4_1__8 := block_below hb8 (lt_of_heap m4_1__7) m4_1__7
  refine hK8 _ _ ?_
  clear hK8 K8
  refine wp_cond_true rfl ?_
  refine wp_seq_k fun K9 hK9 => ?_
  refine wp_plain_inv 4 (specs [Rw (r), Rw (0), Is (.bool true), Is (.bool true)]) (specs_stb ⟨Rw.stb _, Rw.stb _, Is.stb _, Is.stb _, trivial⟩) (by kernel_rfl) ?_ ?_
  · refine ⟨fun a w hB hfr hdep => Step.plain rfl (dMove (R := Rw (r)) rfl (use (hfr 10 (by kernel_rfl)) ((Rw.stb _) _ _ _ hB ((Rw.stb _) _ _ _ hb8 ((Rw.stb _) _ _ _ hb7 h10_6))))),
      fun a w hB hfr hdep => Step.plain rfl (Does.call 44 #[.int .i64 0] (by kernel_rfl) (rInt w 0 (by decide))),
      fun a w hB hfr hdep => Step.plain rfl (Does.call 46 #[(a.eval (.tmp 43)), (a.eval (.tmp 44))] (by kernel_rfl) (rSameT h0 w (hdep 0 43 (by kernel_rfl)) (hdep 1 44 (by kernel_rfl)))),
      fun a w hB hfr hdep => Step.plain rfl (dAssign (R := Is (.bool true)) rfl (hdep 2 45 (by kernel_rfl))), trivial⟩
  intro u9 hb9
  simp only [List.take, List.drop, FinAll, Act.put, List.setIfInBounds_toArray, List.set_cons_succ, List.set_cons_zero]
  rintro v43_9 h43_9 v44_9 h44_9 _ rfl _ rfl
  have hO9 := (hO8).trans (hb9.mono (hO8).size)
  have m4_1__9 := block_below hb9 (lt_of_heap m4_1__8) m4_1__8
  refine hK9 _ _ ?_
  clear hK9 K9
  refine wp_seq_k fun KO10 hKO10 => ?_
  refine wp_seq_k fun K10 hK10 => ?_
  refine wp_plain_inv 1 (specs [Is (.bool true)]) (specs_stb ⟨Is.stb _, trivial⟩) (by kernel_rfl) ?_ ?_
  · refine ⟨fun a w hB hfr hdep => Step.plain rfl (dMove (R := Is (.bool true)) rfl (hfr 12 (by kernel_rfl))), trivial⟩
  intro u10 hb10
  simp only [List.take, List.drop, FinAll, Act.put, List.setIfInBounds_toArray, List.set_cons_succ, List.set_cons_zero]
  rintro _ rfl
  have hO10 := (hO9).trans (hb10.mono (hO9).size)
  have m4_1__10 := block_below hb10 (lt_of_heap m4_1__9) m4_1__9
  refine hK10 _ _ ?_
  clear hK10 K10
  refine wp_cond_true rfl ?_
  refine wp_seq_k fun K11 hK11 => ?_
  refine wp_plain_inv 1 (specs [Is (.agg #[.slice none 0 0, .slice none 0 0])]) (specs_stb ⟨Is.stb _, trivial⟩) (by kernel_rfl) ?_ ?_
  · refine ⟨fun a w hB hfr hdep => Step.plain rfl (Does.run _ (bu35z rfl) rfl), trivial⟩
  intro u11 hb11
  simp only [List.take, List.drop, FinAll, Act.put, List.setIfInBounds_toArray, List.set_cons_succ, List.set_cons_zero]
  rintro _ rfl
  have om4_1__10 := block_below hb11 (lt_of_heap m4_1__10) m4_1__10
  refine wpList_store_row rfl 35 (.tmp 4) (.tmp 47) rfl _ (#[.slice none 0 0, .slice none 0 0]) rfl rfl 35 _ om4_1__10 info35 rfl (by simp [Value.oneCell']) ?_
  refine wpList_assign rfl rfl rfl ?_
  simp only [Act.put, Act.eval, List.setIfInBounds_toArray, List.set_cons_succ, List.set_cons_zero]
  have n4_11 := setRow_heap _ _ _ (#[.slice none 0 0, .slice none 0 0]) _ _ om4_1__10
  have hO11 := setRow_below (hO10.trans (hb11.mono (hO10).size)) lwm4_1 (#[.slice none 0 0, .slice none 0 0])
  refine hK11 _ _ ?_
  clear hK11 K11
  refine wp_ret ?_
  simp only [Exit.then]
  refine bodyPost_ret (v := .tuple #[.agg (#[.slice none 0 0, .slice none 0 0]), .bool false]) ?_ rfl ⟨_, rfl, hO11, ⟨_, _, rfl, rfl, rfl⟩⟩
  exact results_cell_tmp Tryd.results37 _ _ _ 35 _ (0, 0) _ _ rfl rfl n4_11 Tryd.underlying35 rfl (by first | exact info26 | exact info29 | exact info35 | (rw [(Pt4.cells (by assumption)).1]; exact info29) | (rw [cellsP_size (by assumption)]; exact info29))
theorem rOfF {y r : Fe} {bb : Bool} {v : Value} {e : Nat} (he : valD tab3.reverse = e) (hr : rootOf e (av y) = r) (w : World) (hy : Rw y v w) (hs : r * r = av y) (ho1 : decide (r.val % 2 = 1) = !bb) (h0 : ¬ r = 0) : Ret 37 #[v, .bool bb] w (Tup2 (RPt (0 - r) y) (Is (.bool true))) := by
  unfold Ret
  have hO0 : Below w.heap.size w w := Below.refl _ _
  go_enter Tryd.func37, Tryd.ntmps37
  refine wp_seq_k fun K1 hK1 => ?_
  refine wp_plain_inv 2 (specs [Box w.heap.size (#[.slice none 0 0, .slice none 0 0]) 35, Is (.bool false)]) (specs_stb ⟨Box.stb _ _ _, Is.stb _, trivial⟩) (by kernel_rfl) ?_ ?_
  · refine ⟨fun a w hB hfr hdep => Step.plain rfl (dAlloc35 hB.size rfl),
      fun a w hB hfr hdep => Step.plain rfl (dAssign (R := Is (.bool false)) rfl rfl), trivial⟩
  intro u1 hb1
  simp only [List.take, List.drop, FinAll, Act.put, List.setIfInBounds_toArray, List.set_cons_succ, List.set_cons_zero]
  rintro _ ⟨g4_1, rfl, l4_1, m4_1⟩ _ rfl
  have hO1 := (hO0).trans (hb1.mono (hO0).size)
  have lwm4_1 := Nat.le_trans (hO0).size l4_1
  refine hK1 _ _ ?_
  clear hK1 K1
  refine wp_seq_k fun K2 hK2 => ?_
  refine wp_plain_inv 2 (specs [Rw (1), Rw (1)]) (specs_stb ⟨Rw.stb _, Rw.stb _, trivial⟩) (by kernel_rfl) ?_ ?_
  · refine ⟨fun a w hB hfr hdep => Step.plain rfl (Does.call 44 #[.int .i64 1] (by kernel_rfl) (rInt w 1 (by decide))),
      fun a w hB hfr hdep => Step.plain rfl (dAssign (R := Rw (1)) rfl (hdep 0 13 (by kernel_rfl))), trivial⟩
  intro u2 hb2
  simp only [List.take, List.drop, FinAll, Act.put, List.setIfInBounds_toArray, List.set_cons_succ, List.set_cons_zero]
  rintro v13_2 h13_2 v6_2 h6_2
  have hO2 := (hO1).trans (hb2.mono (hO1).size)
  have m4_1__2 := block_below hb2 (lt_of_heap m4_1) m4_1
  refine hK2 _ _ ?_
  clear hK2 K2
  refine wp_seq_k fun K3 hK3 => ?_
  refine wp_plain_inv 4 (specs [Rw (y), Rw (y), Rw ((y) * (y)), Rw ((y) * (y))]) (specs_stb ⟨Rw.stb _, Rw.stb _, Rw.stb _, Rw.stb _, trivial⟩) (by kernel_rfl) ?_ ?_
  · refine ⟨fun a w hB hfr hdep => Step.plain rfl (dMove (R := Rw (y)) rfl (use (hfr 0 (by kernel_rfl)) ((Rw.stb _) _ _ _ hB ((Rw.stb _) _ _ _ hb2 ((Rw.stb _) _ _ _ hb1 hy))))),
      fun a w hB hfr hdep => Step.plain rfl (dMove (R := Rw (y)) rfl (use (hfr 0 (by kernel_rfl)) ((Rw.stb _) _ _ _ hB ((Rw.stb _) _ _ _ hb2 ((Rw.stb _) _ _ _ hb1 hy))))),
      fun a w hB hfr hdep => Step.plain rfl (Does.call 41 #[(a.eval (.tmp 14)), (a.eval (.tmp 15))] (by kernel_rfl) (rMul w (hdep 0 14 (by kernel_rfl)) (hdep 1 15 (by kernel_rfl)))),
      fun a w hB hfr hdep => Step.plain rfl (dAssign (R := Rw ((y) * (y))) rfl (hdep 2 16 (by kernel_rfl))), trivial⟩
  intro u3 hb3
  simp only [List.take, List.drop, FinAll, Act.put, List.setIfInBounds_toArray, List.set_cons_succ, List.set_cons_zero]
  rintro v14_3 h14_3 v15_3 h15_3 v16_3 h16_3 v7_3 h7_3
  have hO3 := (hO2).trans (hb3.mono (hO2).size)
  have m4_1__3 := block_below hb3 (lt_of_heap m4_1__2) m4_1__2
  refine hK3 _ _ ?_
  clear hK3 K3
  refine wp_seq_k fun K4 hK4 => ?_
  refine wp_plain_inv 4 (specs [Rw ((y) * (y)), Rw (1), Rw (((y) * (y)) - (1)), Rw (((y) * (y)) - (1))]) (specs_stb ⟨Rw.stb _, Rw.stb _, Rw.stb _, Rw.stb _, trivial⟩) (by kernel_rfl) ?_ ?_
  · refine ⟨fun a w hB hfr hdep => Step.plain rfl (dMove (R := Rw ((y) * (y))) rfl (use (hfr 7 (by kernel_rfl)) ((Rw.stb _) _ _ _ hB h7_3))),
      fun a w hB hfr hdep => Step.plain rfl (dMove (R := Rw (1)) rfl (use (hfr 6 (by kernel_rfl)) ((Rw.stb _) _ _ _ hB ((Rw.stb _) _ _ _ hb3 h6_2)))),
      fun a w hB hfr hdep => Step.plain rfl (Does.call 42 #[(a.eval (.tmp 17)), (a.eval (.tmp 18))] (by kernel_rfl) (rSub w (hdep 0 17 (by kernel_rfl)) (hdep 1 18 (by kernel_rfl)))),
      fun a w hB hfr hdep => Step.plain rfl (dAssign (R := Rw (((y) * (y)) - (1))) rfl (hdep 2 19 (by kernel_rfl))), trivial⟩
  intro u4 hb4
  simp only [List.take, List.drop, FinAll, Act.put, List.setIfInBounds_toArray, List.set_cons_succ, List.set_cons_zero]
  rintro v17_4 h17_4 v18_4 h18_4 v19_4 h19_4 v8_4 h8_4
  have hO4 := (hO3).trans (hb4.mono (hO3).size)
  have m4_1__4 := block_below hb4 (lt_of_heap m4_1__3) m4_1__3
  refine hK4 _ _ ?_
  clear hK4 K4
  refine wp_seq_k fun K5 hK5 => ?_
  refine wp_plain_inv 6 (specs [Rw (dd), Rw ((y) * (y)), Rw ((dd) * ((y) * (y))), Rw (1), Rw (((dd) * ((y) * (y))) + (1)), Rw (((dd) * ((y) * (y))) + (1))]) (specs_stb ⟨Rw.stb _, Rw.stb _, Rw.stb _, Rw.stb _, Rw.stb _, Rw.stb _, trivial⟩) (by kernel_rfl) ?_ ?_
  · refine ⟨fun a w hB hfr hdep => Step.plain rfl (Does.call 45 #[] (by kernel_rfl) (rD w)),
      fun a w hB hfr hdep => Step.plain rfl (dMove (R := Rw ((y) * (y))) rfl (use (hfr 7 (by kernel_rfl)) ((Rw.stb _) _ _ _ hB ((Rw.stb _) _ _ _ hb4 h7_3)))),
      fun a w hB hfr hdep => Step.plain rfl (Does.call 41 #[(a.eval (.tmp 20)), (a.eval (.tmp 21))] (by kernel_rfl) (rMul w (hdep 0 20 (by kernel_rfl)) (hdep 1 21 (by kernel_rfl)))),
      fun a w hB hfr hdep => Step.plain rfl (dMove (R := Rw (1)) rfl (use (hfr 6 (by kernel_rfl)) ((Rw.stb _) _ _ _ hB ((Rw.stb _) _ _ _ hb4 ((Rw.stb _) _ _ _ hb3 h6_2))))),
      fun a w hB hfr hdep => Step.plain rfl (Does.call 43 #[(a.eval (.tmp 22)), (a.eval (.tmp 23))] (by kernel_rfl) (rAdd w (hdep 2 22 (by kernel_rfl)) (hdep 3 23 (by kernel_rfl)))),
      fun a w hB hfr hdep => Step.plain rfl (dAssign (R := Rw (((dd) * ((y) * (y))) + (1))) rfl (hdep 4 24 (by kernel_rfl))), trivial⟩
  intro u5 hb5
  simp only [List.take, List.drop, FinAll, Act.put, List.setIfInBounds_toArray, List.set_cons_succ, List.set_cons_zero]
  rintro v20_5 h20_5 v21_5 h21_5 v22_5 h22_5 v23_5 h23_5 v24_5 h24_5 v9_5 h9_5
  have hO5 := (hO4).trans (hb5.mono (hO4).size)
  have m4_1__5 := block_below hb5 (lt_of_heap m4_1__4) m4_1__4
  refine hK5 _ _ ?_
  clear hK5 K5
  refine wp_seq_k fun K6 hK6 => ?_
  refine wp_plain_inv 10 (specs [Rw (((y) * (y)) - (1)), Rw (((dd) * ((y) * (y))) + (1)), Rw (fin (((dd) * ((y) * (y))) + (1))), Rw ((((y) * (y)) - (1)) * (fin (((dd) * ((y) * (y))) + (1)))), Tup2 (Rw (r)) (Is (.bool true)), Tup2 (Rw (r)) (Is (.bool true)), Rw (r), Is (.bool true), Rw (r), Is (.bool true)]) (specs_stb ⟨Rw.stb _, Rw.stb _, Rw.stb _, Rw.stb _, Tup2.stb (Rw.stb _) (Is.stb _), Tup2.stb (Rw.stb _) (Is.stb _), Rw.stb _, Is.stb _, Rw.stb _, Is.stb _, trivial⟩) (by kernel_rfl) ?_ ?_
  · refine ⟨fun a w hB hfr hdep => Step.plain rfl (dMove (R := Rw (((y) * (y)) - (1))) rfl (use (hfr 8 (by kernel_rfl)) ((Rw.stb _) _ _ _ hB ((Rw.stb _) _ _ _ hb5 h8_4)))),
      fun a w hB hfr hdep => Step.plain rfl (dMove (R := Rw (((dd) * ((y) * (y))) + (1))) rfl (use (hfr 9 (by kernel_rfl)) ((Rw.stb _) _ _ _ hB h9_5))),
      fun a w hB hfr hdep => Step.plain rfl (Does.call 50 #[(a.eval (.tmp 27))] (by kernel_rfl) (rInv w (hdep 1 27 (by kernel_rfl)))),
      fun a w hB hfr hdep => Step.plain rfl (Does.call 41 #[(a.eval (.tmp 26)), (a.eval (.tmp 28))] (by kernel_rfl) (rMul w (hdep 0 26 (by kernel_rfl)) (hdep 2 28 (by kernel_rfl)))),
      fun a w hB hfr hdep => Step.plain rfl (Does.call 60 #[(a.eval (.tmp 29))] (by kernel_rfl) (rRootT he hr hs w (hdep 3 29 (by kernel_rfl)))),
      fun a w hB hfr hdep => Step.plain rfl (dMove (R := Tup2 (Rw (r)) (Is (.bool true))) rfl (hdep 4 30 (by kernel_rfl))),
      fun a w hB hfr hdep => Step.plain rfl (dExt0 rfl (hdep 5 25 (by kernel_rfl))),
      fun a w hB hfr hdep => Step.plain rfl (dExt1 rfl (hdep 5 25 (by kernel_rfl))),
      fun a w hB hfr hdep => Step.plain rfl (dAssign (R := Rw (r)) rfl (hdep 6 31 (by kernel_rfl))),
      fun a w hB hfr hdep => Step.plain rfl (dAssign (R := Is (.bool true)) rfl (hdep 7 32 (by kernel_rfl))), trivial⟩
  intro u6 hb6
  simp only [List.take, List.drop, FinAll, Act.put, List.setIfInBounds_toArray, List.set_cons_succ, List.set_cons_zero]
  rintro v26_6 h26_6 v27_6 h27_6 v28_6 h28_6 v29_6 h29_6 v30_6 h30_6 v25_6 h25_6 v31_6 h31_6 _ rfl v10_6 h10_6 _ rfl
  have hO6 := (hO5).trans (hb6.mono (hO5).size)
  have m4_1__6 := block_below hb6 (lt_of_heap m4_1__5) m4_1__5
  refine hK6 _ _ ?_
  clear hK6 K6
  refine wp_seq_k fun KO6 hKO6 => ?_
  refine wp_seq_k fun K7 hK7 => ?_
  refine wp_plain_inv 2 (specs [Is (.bool true), Is (.bool false)]) (specs_stb ⟨Is.stb _, Is.stb _, trivial⟩) (by kernel_rfl) ?_ ?_
  · refine ⟨fun a w hB hfr hdep => Step.plain rfl (dMove (R := Is (.bool true)) rfl (hfr 11 (by kernel_rfl))),
      fun a w hB hfr hdep => Step.plain rfl (Does.run _ (run_notO rfl (hdep 0 33 (by kernel_rfl))) rfl), trivial⟩
  intro u7 hb7
  simp only [List.take, List.drop, FinAll, Act.put, List.setIfInBounds_toArray, List.set_cons_succ, List.set_cons_zero]
  rintro _ rfl _ rfl
  have hO7 := (hO6).trans (hb7.mono (hO6).size)
  have m4_1__7 := block_below hb7 (lt_of_heap m4_1__6) m4_1__6
  refine hK7 _ _ ?_
  clear hK7 K7
  refine wp_cond_false rfl ?_
  refine wp_skip ?_
  refine hKO6 _ _ ?_
  clear hKO6 KO6
  refine wp_seq_k fun KO8 hKO8 => ?_
  refine wp_seq_k fun K8 hK8 => ?_
  refine wp_plain_inv 7 (specs [Rw (r), Fst (r), Is (.int .i64 ((Fin.val (r) % 256 : Nat) : Int)), Is (.int .i64 ((Fin.val (r) % 2 : Nat) : Int)), Is (.bool (!bb)), Is (.bool bb), Is (.bool true)]) (specs_stb ⟨Rw.stb _, Fst.stb _, Is.stb _, Is.stb _, Is.stb _, Is.stb _, Is.stb _, trivial⟩) (by kernel_rfl) ?_ ?_
  · refine ⟨fun a w hB hfr hdep => Step.plain rfl (dMove (R := Rw (r)) rfl (use (hfr 10 (by kernel_rfl)) ((Rw.stb _) _ _ _ hB ((Rw.stb _) _ _ _ hb7 h10_6)))),
      fun a w hB hfr hdep => Step.plain rfl (dFst rfl (hdep 0 36 (by kernel_rfl)) rfl),
      fun a w hB hfr hdep => Step.plain rfl (dLoadFst rfl (hdep 1 37 (by kernel_rfl))),
      fun a w hB hfr hdep => Step.plain rfl (Does.run _ (run_rem2 rfl (hdep 2 38 (by kernel_rfl)) rfl) rfl),
      fun a w hB hfr hdep => Step.plain rfl (Does.run _ (run_eq1 ho1 rfl (hdep 3 39 (by kernel_rfl)) rfl) rfl),
      fun a w hB hfr hdep => Step.plain rfl (dMove (R := Is (.bool bb)) rfl (hfr 1 (by kernel_rfl))),
      fun a w hB hfr hdep => Step.plain rfl (Does.run _ (run_neqD rfl (hdep 4 40 (by kernel_rfl)) (hdep 5 41 (by kernel_rfl))) rfl), trivial⟩
  intro u8 hb8
  simp only [List.take, List.drop, FinAll, Act.put, List.setIfInBounds_toArray, List.set_cons_succ, List.set_cons_zero]
  rintro v36_8 h36_8 v37_8 h37_8 _ rfl _ rfl _ rfl _ rfl _ rfl
  have hO8 := (hO7).trans (hb8.mono (hO7).size)
  have m4_1__8 := block_below hb8 (lt_of_heap m4_1__7) m4_1__7
  refine hK8 _ _ ?_
  clear hK8 K8
  refine wp_cond_true rfl ?_
  refine wp_seq_k fun K9 hK9 => ?_
  refine wp_plain_inv 4 (specs [Rw (r), Rw (0), Is (.bool false), Is (.bool false)]) (specs_stb ⟨Rw.stb _, Rw.stb _, Is.stb _, Is.stb _, trivial⟩) (by kernel_rfl) ?_ ?_
  · refine ⟨fun a w hB hfr hdep => Step.plain rfl (dMove (R := Rw (r)) rfl (use (hfr 10 (by kernel_rfl)) ((Rw.stb _) _ _ _ hB ((Rw.stb _) _ _ _ hb8 ((Rw.stb _) _ _ _ hb7 h10_6))))),
      fun a w hB hfr hdep => Step.plain rfl (Does.call 44 #[.int .i64 0] (by kernel_rfl) (rInt w 0 (by decide))),
      fun a w hB hfr hdep => Step.plain rfl (Does.call 46 #[(a.eval (.tmp 43)), (a.eval (.tmp 44))] (by kernel_rfl) (rSameF h0 w (hdep 0 43 (by kernel_rfl)) (hdep 1 44 (by kernel_rfl)))),
      fun a w hB hfr hdep => Step.plain rfl (dAssign (R := Is (.bool false)) rfl (hdep 2 45 (by kernel_rfl))), trivial⟩
  intro u9 hb9
  simp only [List.take, List.drop, FinAll, Act.put, List.setIfInBounds_toArray, List.set_cons_succ, List.set_cons_zero]
  rintro v43_9 h43_9 v44_9 h44_9 _ rfl _ rfl
  have hO9 := (hO8).trans (hb9.mono (hO8).size)
  have m4_1__9 := block_below hb9 (lt_of_heap m4_1__8) m4_1__8
  refine hK9 _ _ ?_
  clear hK9 K9
  refine wp_seq_k fun KO10 hKO10 => ?_
  refine wp_seq_k fun K10 hK10 => ?_
  refine wp_plain_inv 1 (specs [Is (.bool false)]) (specs_stb ⟨Is.stb _, trivial⟩) (by kernel_rfl) ?_ ?_
  · refine ⟨fun a w hB hfr hdep => Step.plain rfl (dMove (R := Is (.bool false)) rfl (hfr 12 (by kernel_rfl))), trivial⟩
  intro u10 hb10
  simp only [List.take, List.drop, FinAll, Act.put, List.setIfInBounds_toArray, List.set_cons_succ, List.set_cons_zero]
  rintro _ rfl
  have hO10 := (hO9).trans (hb10.mono (hO9).size)
  have m4_1__10 := block_below hb10 (lt_of_heap m4_1__9) m4_1__9
  refine hK10 _ _ ?_
  clear hK10 K10
  refine wp_cond_false rfl ?_
  refine wp_skip ?_
  refine hKO10 _ _ ?_
  clear hKO10 KO10
  refine wp_plain_inv 3 (specs [Rw (0), Rw (r), Rw ((0) - (r))]) (specs_stb ⟨Rw.stb _, Rw.stb _, Rw.stb _, trivial⟩) (by kernel_rfl) ?_ ?_
  · refine ⟨fun a w hB hfr hdep => Step.plain rfl (Does.call 44 #[.int .i64 0] (by kernel_rfl) (rInt w 0 (by decide))),
      fun a w hB hfr hdep => Step.plain rfl (dMove (R := Rw (r)) rfl (use (hfr 10 (by kernel_rfl)) ((Rw.stb _) _ _ _ hB ((Rw.stb _) _ _ _ hb10 ((Rw.stb _) _ _ _ hb9 ((Rw.stb _) _ _ _ hb8 ((Rw.stb _) _ _ _ hb7 h10_6))))))),
      fun a w hB hfr hdep => Step.plain rfl (Does.call 42 #[(a.eval (.tmp 48)), (a.eval (.tmp 49))] (by kernel_rfl) (rSub w (hdep 0 48 (by kernel_rfl)) (hdep 1 49 (by kernel_rfl)))), trivial⟩
  intro u11 hb11
  simp only [List.take, List.drop, FinAll, Act.put, List.setIfInBounds_toArray, List.set_cons_succ, List.set_cons_zero]
  rintro v48_11 h48_11 v49_11 h49_11 v50_11 h50_11
  refine wpList_assign rfl rfl rfl ?_
  simp only [Act.put, Act.eval, Array.getD_eq_getD_getElem?, List.getElem?_toArray, List.getElem?_cons_succ, List.getElem?_cons_zero, Option.getD_some, List.setIfInBounds_toArray, List.set_cons_succ, List.set_cons_zero]
  have hO11 := (hO10).trans (hb11.mono (hO10).size)
  have m4_1__11 := block_below hb11 (lt_of_heap m4_1__10) m4_1__10
  refine hKO8 _ _ ?_
  clear hKO8 KO8
  refine wp_seq_k fun K12 hK12 => ?_
  refine wp_plain_inv 3 (specs [Rw ((0) - (r)), Rw (y), RPt ((0) - (r)) (y)]) (specs_stb ⟨Rw.stb _, Rw.stb _, RPt.stb _ _, trivial⟩) (by kernel_rfl) ?_ ?_
  · refine ⟨fun a w hB hfr hdep => Step.plain rfl (dMove (R := Rw ((0) - (r))) rfl (use (hfr 10 (by kernel_rfl)) ((Rw.stb _) _ _ _ hB h50_11))),
      fun a w hB hfr hdep => Step.plain rfl (dMove (R := Rw (y)) rfl (use (hfr 0 (by kernel_rfl)) ((Rw.stb _) _ _ _ hB ((Rw.stb _) _ _ _ hb11 ((Rw.stb _) _ _ _ hb10 ((Rw.stb _) _ _ _ hb9 ((Rw.stb _) _ _ _ hb8 ((Rw.stb _) _ _ _ hb7 ((Rw.stb _) _ _ _ hb6 ((Rw.stb _) _ _ _ hb5 ((Rw.stb _) _ _ _ hb4 ((Rw.stb _) _ _ _ hb3 ((Rw.stb _) _ _ _ hb2 ((Rw.stb _) _ _ _ hb1 hy)))))))))))))),
      fun a w hB hfr hdep => Step.plain rfl (dBuild35 rfl (hdep 0 51 (by kernel_rfl)) (hdep 1 52 (by kernel_rfl))), trivial⟩
  intro u12 hb12
  simp only [List.take, List.drop, FinAll, Act.put, List.setIfInBounds_toArray, List.set_cons_succ, List.set_cons_zero]
  rintro v51_12 h51_12 v52_12 h52_12 _ ⟨p53_12, q53_12, rfl, x53_12, y53_12⟩
  have om4_1__11 := block_below hb12 (lt_of_heap m4_1__11) m4_1__11
  refine wpList_store_row rfl 35 (.tmp 4) (.tmp 53) rfl _ (#[p53_12, q53_12]) rfl rfl 35 _ om4_1__11 info35 rfl (rpt_one x53_12 y53_12) ?_
  refine wpList_assign rfl rfl rfl ?_
  simp only [Act.put, Act.eval, List.setIfInBounds_toArray, List.set_cons_succ, List.set_cons_zero]
  have xx := Rw.setRow x53_12 om4_1__11 nz35 (#[p53_12, q53_12])
  have yy := Rw.setRow y53_12 om4_1__11 nz35 (#[p53_12, q53_12])
  have n4_12 := setRow_heap _ _ _ (#[p53_12, q53_12]) _ _ om4_1__11
  have hO12 := setRow_below (hO11.trans (hb12.mono (hO11).size)) lwm4_1 (#[p53_12, q53_12])
  refine hK12 _ _ ?_
  clear hK12 K12
  refine wp_ret ?_
  refine bodyPost_ret (v := .tuple #[.agg (#[p53_12, q53_12]), .bool true]) ?_ rfl ⟨_, rfl, hO12, ⟨_, _, rfl, ⟨_, _, rfl, xx, yy⟩, rfl⟩⟩
  exact results_cell_tmp Tryd.results37 _ _ _ 35 _ (0, 0) _ _ rfl rfl n4_12 Tryd.underlying35 rfl (by first | exact info26 | exact info29 | exact info35 | (rw [(Pt4.cells (by assumption)).1]; exact info29) | (rw [cellsP_size (by assumption)]; exact info29))
/-- The point of its y and its x's oddness. -/
theorem rOfPt {p : Pt} {v : Value} {bb : Bool} (hb : decide (p.x.val % 2 = 1) = bb) (w : World) (hy : Rw p.y v w) : Ret 37 #[v, .bool bb] w (Tup2 (RPt p.x p.y) (Is (.bool true))) := by
  obtain ⟨e, he, he8⟩ := e8_ex
  obtain ⟨r1, r2, r3, r4⟩ := pt_root he8 (p := p) rfl
  rw [p.enc_y, fe_of] at r2 r4
  rw [p.enc_odd] at r4
  subst hb
  rcases r4 with ⟨s1, s2⟩ | ⟨s1, s2, s3⟩
  · have := rOfS he rfl w hy r2 (odd_same s1)
    have e2 : decide (p.x.val % 2 = 1) = decide (p.x.val % 2 = 1) := rfl
    rw [s2]
    rw [s2] at this
    exact this
  · have h0 : ¬ rootOf e (av p.y) = 0 := fun h0 => by
      rw [h0] at s1 s2
      have e0 : ∀ z : Fe, z = 0 → 0 - z = z := fun z hz => by grobner
      rw [e0 0 rfl] at s2
      rw [s2] at s1
      exact s1 rfl
    have := rOfF he rfl w hy r2 (odd_diff (by omega) s1) h0
    rw [← s2] at this
    exact this
theorem rOfErr {y : Fe} {v : Value} {bb : Bool} (hno : ¬ ∃ p : Pt, p.y = y ∧ decide (p.x.val % 2 = 1) = bb) (w : World) (hy : Rw y v w) : Ret 37 #[v, .bool bb] w (Tup2 (Is (.agg #[.slice none 0 0, .slice none 0 0])) (Is (.bool false))) := by
  obtain ⟨e, he, he8⟩ := e8_ex
  by_cases hs : rootOf e (av y) * rootOf e (av y) = av y
  · have key : ∀ x : Fe, x * x = av y → decide (x.val % 2 = 1) ≠ bb := fun x hx hp => hno ⟨⟨x, y, (on_iff _ _).2 hx⟩, rfl, hp⟩
    have k1 := key _ hs
    obtain ⟨r, hr⟩ : ∃ r, r = rootOf e (av y) := ⟨_, rfl⟩
    rw [← hr] at hs k1
    have h0 : r = 0 := by
      apply Classical.byContradiction
      intro h0
      have k2 := key (-r) (by rw [← hs]; grobner)
      have := neg_par h0
      rw [this] at k2
      cases bb with
      | true =>
        have a1 : ¬ r.val % 2 = 1 := fun h => k1 (decide_eq_true h)
        exact k2 (decide_eq_true (by omega))
      | false =>
        have a1 : r.val % 2 = 1 := by
          apply Classical.byContradiction
          intro h
          exact k1 (decide_eq_false h)
        exact k2 (decide_eq_false (by omega))
    refine rOfZ he hr.symm w hy hs ?_ h0
    cases hb : decide (r.val % 2 = 1) <;> cases bb <;> simp_all
  · exact rOfN he rfl w hy hs
end Go.Proofs.YtpfcboakafbnlaaDoor
set_option linter.unusedVariables false
namespace Go.Proofs.YtpfcboakafbnlaaDoor
open Go.RowKit Go.Sort Go.BigFrame
set_option maxRecDepth 100000
set_option maxHeartbeats 2000000
theorem base_y : (fe 4) * (fin (fe 5)) = bp.y := by
  have h0 : (fe 5 : Fe) ≠ 0 := fun h => absurd (congrArg Fin.val h) (by decide)
  have h1 := mul_fin h0
  have h2 : bp.y * fe 5 = fe 4 := by decide
  refine mul_cancel h0 ?_
  rw [h2]
  obtain ⟨i, hi⟩ : ∃ i, i = fin (fe 5) := ⟨_, rfl⟩
  rw [← hi] at h1 ⊢
  obtain ⟨m, hm⟩ : ∃ m, m = fe 5 := ⟨_, rfl⟩
  obtain ⟨n, hn⟩ : ∃ n, n = fe 4 := ⟨_, rfl⟩
  rw [← hm] at h1 ⊢
  rw [← hn]
  clear hm hn hi h0 h2
  grobner
theorem base_even : decide (bp.x.val % 2 = 1) = false := by decide
theorem rOfBase {v : Value} (w : World) (h : Rw ((fe 4) * (fin (fe 5))) v w) : Ret 37 #[v, .bool false] w (Tup2 (RPt bp.x bp.y) (Is (.bool true))) := by
  rw [base_y] at h
  exact rOfPt base_even w h
theorem rBase (w : World) : Ret 23 #[] w (RPt bp.x bp.y) := by
  unfold Ret
  have hO0 : Below w.heap.size w w := Below.refl _ _
  go_enter Tryd.func23, Tryd.ntmps23
  refine wp_seq_k fun K1 hK1 => ?_
  refine wp_plain_inv 1 (specs [Box w.heap.size (#[.slice none 0 0, .slice none 0 0]) 35]) (specs_stb ⟨Box.stb _ _ _, trivial⟩) (by kernel_rfl) ?_ ?_
  · refine ⟨fun a w hB hfr hdep => Step.plain rfl (dAlloc35 hB.size rfl), trivial⟩
  intro u1 hb1
  simp only [List.take, List.drop, FinAll, Act.put, List.setIfInBounds_toArray, List.set_cons_zero]
  rintro _ ⟨g0_1, rfl, l0_1, m0_1⟩
  have hO1 := (hO0).trans (hb1.mono (hO0).size)
  have lwm0_1 := Nat.le_trans (hO0).size l0_1
  refine hK1 _ _ ?_
  clear hK1 K1
  refine wp_seq_k fun K2 hK2 => ?_
  refine wp_plain_inv 9 (specs [Rw (fe 4), Rw (fe 5), Rw (fin (fe 5)), Rw ((fe 4) * (fin (fe 5))), Tup2 (RPt (bp.x) (bp.y)) (Is (.bool true)), Tup2 (RPt (bp.x) (bp.y)) (Is (.bool true)), RPt (bp.x) (bp.y), Is (.bool true), Box u1.heap.size (#[.slice none 0 0, .slice none 0 0]) 35]) (specs_stb ⟨Rw.stb _, Rw.stb _, Rw.stb _, Rw.stb _, Tup2.stb (RPt.stb _ _) (Is.stb _), Tup2.stb (RPt.stb _ _) (Is.stb _), RPt.stb _ _, Is.stb _, Box.stb _ _ _, trivial⟩) (by kernel_rfl) ?_ ?_
  · refine ⟨fun a w hB hfr hdep => Step.plain rfl (Does.call 44 #[.int .i64 4] (by kernel_rfl) (rInt w 4 (by decide))),
      fun a w hB hfr hdep => Step.plain rfl (Does.call 44 #[.int .i64 5] (by kernel_rfl) (rInt w 5 (by decide))),
      fun a w hB hfr hdep => Step.plain rfl (Does.call 50 #[(a.eval (.tmp 5))] (by kernel_rfl) (rInv w (hdep 1 5 (by kernel_rfl)))),
      fun a w hB hfr hdep => Step.plain rfl (Does.call 41 #[(a.eval (.tmp 4)), (a.eval (.tmp 6))] (by kernel_rfl) (rMul w (hdep 0 4 (by kernel_rfl)) (hdep 2 6 (by kernel_rfl)))),
      fun a w hB hfr hdep => Step.plain rfl (Does.call 37 #[(a.eval (.tmp 7)), .bool false] (by kernel_rfl) (rOfBase w (hdep 3 7 (by kernel_rfl)))),
      fun a w hB hfr hdep => Step.plain rfl (dMove (R := Tup2 (RPt (bp.x) (bp.y)) (Is (.bool true))) rfl (hdep 4 8 (by kernel_rfl))),
      fun a w hB hfr hdep => Step.plain rfl (dExt0 rfl (hdep 5 3 (by kernel_rfl))),
      fun a w hB hfr hdep => Step.plain rfl (dExt1 rfl (hdep 5 3 (by kernel_rfl))),
      fun a w hB hfr hdep => Step.plain rfl (dAlloc35 hB.size rfl), trivial⟩
  intro u2 hb2
  simp only [List.take, List.drop, FinAll, Act.put, List.setIfInBounds_toArray, List.set_cons_succ, List.set_cons_zero]
  rintro v4_2 h4_2 v5_2 h5_2 v6_2 h6_2 v7_2 h7_2 v8_2 h8_2 v3_2 h3_2 _ ⟨p9_2, q9_2, rfl, x9_2, y9_2⟩ _ rfl _ ⟨g1_2, rfl, l1_2, m1_2⟩
  refine wpList_store_row rfl 35 (.tmp 1) (.tmp 9) rfl _ (#[p9_2, q9_2]) rfl rfl 35 _ m1_2 info35 rfl (rpt_one x9_2 y9_2) ?_
  have n1_2 := setRow_heap _ _ _ (#[p9_2, q9_2]) _ _ m1_2
  replace hb2 := setRow_below hb2 l1_2 (#[p9_2, q9_2])
  replace x9_2 := Rw.setRow x9_2 m1_2 nz35 (#[p9_2, q9_2])
  replace y9_2 := Rw.setRow y9_2 m1_2 nz35 (#[p9_2, q9_2])
  generalize hw2_1 : u2.setRow g1_2 (#[p9_2, q9_2]) = u2_1 at n1_2 hb2 x9_2 y9_2  ⊢
  clear hw2_1 m1_2
  refine wpList_assign rfl rfl rfl ?_
  simp only [Act.put, Act.eval, Array.getD_eq_getD_getElem?, List.getElem?_toArray, List.getElem?_cons_succ, List.getElem?_cons_zero, Option.getD_some, List.setIfInBounds_toArray, List.set_cons_succ, List.set_cons_zero]
  have hO2 := (hO1).trans (hb2.mono (hO1).size)
  have m0_1__2 := block_below hb2 (lt_of_heap m0_1) m0_1
  have lwn1_2 := Nat.le_trans (hO1).size l1_2
  refine hK2 _ _ ?_
  clear hK2 K2
  refine wp_seq_k fun K3 hK3 => ?_
  refine wp_plain_inv 1 (specs [RPt (bp.x) (bp.y)]) (specs_stb ⟨RPt.stb _ _, trivial⟩) (by kernel_rfl) ?_ ?_
  · refine ⟨fun a w hB hfr hdep => Step.plain rfl (dLoadRPt x9_2 hB y9_2 (block_below hB (lt_of_heap n1_2) n1_2) rfl (hfr 1 (by kernel_rfl))), trivial⟩
  intro u3 hb3
  simp only [List.take, List.drop, FinAll, Act.put, List.setIfInBounds_toArray, List.set_cons_succ, List.set_cons_zero]
  rintro _ ⟨p11_3, q11_3, rfl, x11_3, y11_3⟩
  have om0_1__2 := block_below hb3 (lt_of_heap m0_1__2) m0_1__2
  refine wpList_store_row rfl 35 (.tmp 0) (.tmp 11) rfl _ (#[p11_3, q11_3]) rfl rfl 35 _ om0_1__2 info35 rfl (rpt_one x11_3 y11_3) ?_
  have xx := Rw.setRow x11_3 om0_1__2 nz35 (#[p11_3, q11_3])
  have yy := Rw.setRow y11_3 om0_1__2 nz35 (#[p11_3, q11_3])
  have n0_3 := setRow_heap _ _ _ (#[p11_3, q11_3]) _ _ om0_1__2
  have hO3 := setRow_below (hO2.trans (hb3.mono (hO2).size)) lwm0_1 (#[p11_3, q11_3])
  refine hK3 _ _ ?_
  clear hK3 K3
  refine wp_ret ?_
  refine bodyPost_ret (v := .agg (#[p11_3, q11_3])) ?_ rfl ⟨_, rfl, hO3, ⟨_, _, rfl, xx, yy⟩⟩
  exact results_cell_row Tryd.results23 _ _ _ 35 _ (0, 0) _ rfl n0_3 Tryd.underlying35 rfl (by first | exact info26 | exact info29 | exact info35 | (rw [(Pt4.cells (by assumption)).1]; exact info29) | (rw [cellsP_size (by assumption)]; exact info29))
theorem rPBytes {x1 y1 : Fe} {v1 : Value} (w : World) (h1 : RPt x1 y1 v1 w) : Ret 20 #[v1] w (OwnC w.heap.size (digs 32 (y1.val + t255 * (x1.val % 2)))) := by
  obtain ⟨p1, q1, rfl, hx1, hy1⟩ := h1
  unfold Ret
  by_cases hodd : x1.val % 2 = 1
  · have hO0 : Below w.heap.size w w := Below.refl _ _
    go_enter Tryd.func20, Tryd.ntmps20
    refine wp_seq_k fun K1 hK1 => ?_
    refine wp_plain_inv 2 (specs [Box w.heap.size (#[p1, q1]) 35, Is (.slice none 0 0)]) (specs_stb ⟨Box.stb _ _ _, Is.stb _, trivial⟩) (by kernel_rfl) ?_ ?_
    · refine ⟨fun a w hB hfr hdep => Step.plain rfl (dBox35 hB.size rfl (hfr 0 (by kernel_rfl)) ⟨hx1, hy1⟩),
        fun a w hB hfr hdep => Step.plain rfl (dAssign (R := Is (.slice none 0 0)) rfl rfl), trivial⟩
    intro u1 hb1
    simp only [List.take, List.drop, FinAll, Act.put, List.setIfInBounds_toArray, List.set_cons_succ, List.set_cons_zero]
    rintro _ ⟨g1_1, rfl, l1_1, m1_1⟩ _ rfl
    have hO1 := (hO0).trans (hb1.mono (hO0).size)
    have lwm1_1 := Nat.le_trans (hO0).size l1_1
    refine hK1 _ _ ?_
    clear hK1 K1
    refine wp_seq_k fun K2 hK2 => ?_
    refine wp_plain_inv 4 (specs [Is (.pointer (some ⟨g1_1, 1, none⟩)), Rw (y1), OwnC u1.heap.size (digs 32 (Fin.val (y1))), OwnC u1.heap.size (digs 32 (Fin.val (y1)))]) (specs_stb ⟨Is.stb _, Rw.stb _, OwnC.stb _ _, OwnC.stb _ _, trivial⟩) (by kernel_rfl) ?_ ?_
    · refine ⟨fun a w hB hfr hdep => Step.plain rfl (dFa35 g1_1 1 (by decide) rfl (hfr 1 (by kernel_rfl))),
        fun a w hB hfr hdep => Step.plain rfl (dLoadR1 (Rw.stb _ _ _ _ hb1 hx1) hB (Rw.stb _ _ _ _ hb1 hy1) (block_below hB (lt_of_heap m1_1) m1_1) rfl (hdep 0 4 (by kernel_rfl))),
        fun a w hB hfr hdep => Step.plain rfl (Does.call 21 #[(a.eval (.tmp 5))] (by kernel_rfl) (ownCLo hB.size (rBytes (vd _) w (Rw.drow (hdep 1 5 (by kernel_rfl))) (by rw [digs_len]; omega) (digs_dig _ _)))),
        fun a w hB hfr hdep => Step.plain rfl (dAssign (R := OwnC u1.heap.size (digs 32 (Fin.val (y1)))) rfl (hdep 2 6 (by kernel_rfl))), trivial⟩
    intro u2 hb2
    simp only [List.take, List.drop, FinAll, Act.put, List.setIfInBounds_toArray, List.set_cons_succ, List.set_cons_zero]
    rintro _ rfl v5_2 h5_2 v6_2 h6_2 v3_2 h3_2
    have hO2 := (hO1).trans (hb2.mono (hO1).size)
    have m1_1__2 := block_below hb2 (lt_of_heap m1_1) m1_1
    refine hK2 _ _ ?_
    clear hK2 K2
    refine wp_seq_k fun KO hKO => ?_
    refine wp_seq_k fun K3 hK3 => ?_
    refine wp_plain_inv 6 (specs [Is (.pointer (some ⟨g1_1, 0, none⟩)), Rw (x1), Fst (x1), Is (.int .i64 ((Fin.val (x1) % 256 : Nat) : Int)), Is (.int .i64 ((Fin.val (x1) % 2 : Nat) : Int)), Is (.bool true)]) (specs_stb ⟨Is.stb _, Rw.stb _, Fst.stb _, Is.stb _, Is.stb _, Is.stb _, trivial⟩) (by kernel_rfl) ?_ ?_
    · refine ⟨fun a w hB hfr hdep => Step.plain rfl (dFa35 g1_1 0 (by decide) rfl (hfr 1 (by kernel_rfl))),
        fun a w hB hfr hdep => Step.plain rfl (dLoadR0 (Rw.stb _ _ _ _ hb2 (Rw.stb _ _ _ _ hb1 hx1)) hB (Rw.stb _ _ _ _ hb2 (Rw.stb _ _ _ _ hb1 hy1)) (block_below hB (lt_of_heap m1_1__2) m1_1__2) rfl (hdep 0 7 (by kernel_rfl))),
        fun a w hB hfr hdep => Step.plain rfl (dFst rfl (hdep 1 8 (by kernel_rfl)) rfl),
        fun a w hB hfr hdep => Step.plain rfl (dLoadFst rfl (hdep 2 9 (by kernel_rfl))),
        fun a w hB hfr hdep => Step.plain rfl (Does.run _ (run_rem2 rfl (hdep 3 10 (by kernel_rfl)) rfl) rfl),
        fun a w hB hfr hdep => Step.plain rfl (Does.run _ (run_eq1 (decide_eq_true hodd) rfl (hdep 4 11 (by kernel_rfl)) rfl) rfl), trivial⟩
    intro u3 hb3
    simp only [List.take, List.drop, FinAll, Act.put, List.setIfInBounds_toArray, List.set_cons_succ, List.set_cons_zero]
    rintro _ rfl v8_3 h8_3 v9_3 h9_3 _ rfl _ rfl _ rfl
    have hO3 := (hO2).trans (hb3.mono (hO2).size)
    have m1_1__3 := block_below hb3 (lt_of_heap m1_1__2) m1_1__2
    refine hK3 _ _ ?_
    clear hK3 K3
    obtain ⟨g3, cap3, cur3, hv3, hl3, hrow3, hc3, hc3', hcur⟩ := ((OwnC.stb _ _) _ _ _ hb3 h3_2)
    rw [digs_len] at hv3 hc3 hcur
    subst hv3
    have hlow : w.heap.size ≤ g3 := Nat.le_trans hO1.size hl3
    have hO := hO3
    refine wp_cond_true rfl ?_
    have c31 := cell_of_row _ g3 31 _ _ _ hrow3
    rw [hcur 31 (by omega), digs_get _ _ _ (by omega)] at c31
    have f31 := frozen_of_row _ g3 31 _ _ hrow3
    have hst := cur_set hrow3 (by rw [digs_len]; exact hcur) 31 (y1.val / 256 ^ 31 + 128) (by rw [digs_len]; omega)
    rw [digs_high (by have := y1.isLt; have := pp_t; omega)] at hst
    have hy128 : y1.val / 256 ^ 31 < 128 := by rw [Nat.div_lt_iff_lt_mul (pos256 31), Nat.mul_comm, p31]; have := y1.isLt; have := pp_t; omega
    rw [Nat.mod_eq_of_lt (show y1.val / 256 ^ 31 < 256 by omega)] at c31
    have hOs := hO.setCell (p := ⟨g3, 31, none⟩) hlow (.int .u8 ((y1.val / 256 ^ 31 + 128 : Nat) : Int))
    obtain ⟨z, hz⟩ : ∃ z, z = y1.val / 256 ^ 31 := ⟨_, rfl⟩
    rw [← hz] at c31 hst hOs hy128
    obtain ⟨zz, hzz⟩ : ∃ zz, zz = z + 128 := ⟨_, rfl⟩
    rw [← hzz] at hst hOs
    have hw8 : IntKind.u8.wrap ((z : Int) + 128) = (zz : Int) := by rw [hzz]; simp [IntKind.wrap, IntKind.bits, IntKind.signed]; omega
    have hw9 : ((z : Int) + 128) % 256 = (zz : Int) := by rw [hzz]; omega
    have hw7 : ((z : Int) + 128) = (zz : Int) := by rw [hzz]; omega
    have HST : Hid _ := hst
    have HOS : Hid _ := hOs
    have HKO : Hid _ := hKO
    clear hst hOs hzz hz hKO
    go_wp2
    refine HKO.out _ _ ?_
    clear HKO
    go_wp2
    go_ret
    exact ⟨_, rfl, HOS.out, g3, cap3, _, by rw [digs_len]; rfl, hlow, HST.out.1, by rw [digs_len]; exact hc3, hc3', fun i hi => by rw [hodd, Nat.mul_one] at hi ⊢; exact HST.out.2 i hi⟩
  · have hO0 : Below w.heap.size w w := Below.refl _ _
    go_enter Tryd.func20, Tryd.ntmps20
    refine wp_seq_k fun K1 hK1 => ?_
    refine wp_plain_inv 2 (specs [Box w.heap.size (#[p1, q1]) 35, Is (.slice none 0 0)]) (specs_stb ⟨Box.stb _ _ _, Is.stb _, trivial⟩) (by kernel_rfl) ?_ ?_
    · refine ⟨fun a w hB hfr hdep => Step.plain rfl (dBox35 hB.size rfl (hfr 0 (by kernel_rfl)) ⟨hx1, hy1⟩),
        fun a w hB hfr hdep => Step.plain rfl (dAssign (R := Is (.slice none 0 0)) rfl rfl), trivial⟩
    intro u1 hb1
    simp only [List.take, List.drop, FinAll, Act.put, List.setIfInBounds_toArray, List.set_cons_succ, List.set_cons_zero]
    rintro _ ⟨g1_1, rfl, l1_1, m1_1⟩ _ rfl
    have hO1 := (hO0).trans (hb1.mono (hO0).size)
    have lwm1_1 := Nat.le_trans (hO0).size l1_1
    refine hK1 _ _ ?_
    clear hK1 K1
    refine wp_seq_k fun K2 hK2 => ?_
    refine wp_plain_inv 4 (specs [Is (.pointer (some ⟨g1_1, 1, none⟩)), Rw (y1), OwnC u1.heap.size (digs 32 (Fin.val (y1))), OwnC u1.heap.size (digs 32 (Fin.val (y1)))]) (specs_stb ⟨Is.stb _, Rw.stb _, OwnC.stb _ _, OwnC.stb _ _, trivial⟩) (by kernel_rfl) ?_ ?_
    · refine ⟨fun a w hB hfr hdep => Step.plain rfl (dFa35 g1_1 1 (by decide) rfl (hfr 1 (by kernel_rfl))),
        fun a w hB hfr hdep => Step.plain rfl (dLoadR1 (Rw.stb _ _ _ _ hb1 hx1) hB (Rw.stb _ _ _ _ hb1 hy1) (block_below hB (lt_of_heap m1_1) m1_1) rfl (hdep 0 4 (by kernel_rfl))),
        fun a w hB hfr hdep => Step.plain rfl (Does.call 21 #[(a.eval (.tmp 5))] (by kernel_rfl) (ownCLo hB.size (rBytes (vd _) w (Rw.drow (hdep 1 5 (by kernel_rfl))) (by rw [digs_len]; omega) (digs_dig _ _)))),
        fun a w hB hfr hdep => Step.plain rfl (dAssign (R := OwnC u1.heap.size (digs 32 (Fin.val (y1)))) rfl (hdep 2 6 (by kernel_rfl))), trivial⟩
    intro u2 hb2
    simp only [List.take, List.drop, FinAll, Act.put, List.setIfInBounds_toArray, List.set_cons_succ, List.set_cons_zero]
    rintro _ rfl v5_2 h5_2 v6_2 h6_2 v3_2 h3_2
    have hO2 := (hO1).trans (hb2.mono (hO1).size)
    have m1_1__2 := block_below hb2 (lt_of_heap m1_1) m1_1
    refine hK2 _ _ ?_
    clear hK2 K2
    refine wp_seq_k fun KO hKO => ?_
    refine wp_seq_k fun K3 hK3 => ?_
    refine wp_plain_inv 6 (specs [Is (.pointer (some ⟨g1_1, 0, none⟩)), Rw (x1), Fst (x1), Is (.int .i64 ((Fin.val (x1) % 256 : Nat) : Int)), Is (.int .i64 ((Fin.val (x1) % 2 : Nat) : Int)), Is (.bool false)]) (specs_stb ⟨Is.stb _, Rw.stb _, Fst.stb _, Is.stb _, Is.stb _, Is.stb _, trivial⟩) (by kernel_rfl) ?_ ?_
    · refine ⟨fun a w hB hfr hdep => Step.plain rfl (dFa35 g1_1 0 (by decide) rfl (hfr 1 (by kernel_rfl))),
        fun a w hB hfr hdep => Step.plain rfl (dLoadR0 (Rw.stb _ _ _ _ hb2 (Rw.stb _ _ _ _ hb1 hx1)) hB (Rw.stb _ _ _ _ hb2 (Rw.stb _ _ _ _ hb1 hy1)) (block_below hB (lt_of_heap m1_1__2) m1_1__2) rfl (hdep 0 7 (by kernel_rfl))),
        fun a w hB hfr hdep => Step.plain rfl (dFst rfl (hdep 1 8 (by kernel_rfl)) rfl),
        fun a w hB hfr hdep => Step.plain rfl (dLoadFst rfl (hdep 2 9 (by kernel_rfl))),
        fun a w hB hfr hdep => Step.plain rfl (Does.run _ (run_rem2 rfl (hdep 3 10 (by kernel_rfl)) rfl) rfl),
        fun a w hB hfr hdep => Step.plain rfl (Does.run _ (run_eq1 (decide_eq_false hodd) rfl (hdep 4 11 (by kernel_rfl)) rfl) rfl), trivial⟩
    intro u3 hb3
    simp only [List.take, List.drop, FinAll, Act.put, List.setIfInBounds_toArray, List.set_cons_succ, List.set_cons_zero]
    rintro _ rfl v8_3 h8_3 v9_3 h9_3 _ rfl _ rfl _ rfl
    have hO3 := (hO2).trans (hb3.mono (hO2).size)
    have m1_1__3 := block_below hb3 (lt_of_heap m1_1__2) m1_1__2
    refine hK3 _ _ ?_
    clear hK3 K3
    obtain ⟨g3, cap3, cur3, hv3, hl3, hrow3, hc3, hc3', hcur⟩ := ((OwnC.stb _ _) _ _ _ hb3 h3_2)
    rw [digs_len] at hv3 hc3 hcur
    subst hv3
    have hlow : w.heap.size ≤ g3 := Nat.le_trans hO1.size hl3
    have hO := hO3
    refine wp_cond_false rfl ?_
    refine wp_skip ?_
    refine hKO _ _ ?_
    clear hKO
    have e0 : y1.val + t255 * (x1.val % 2) = y1.val := by rw [show x1.val % 2 = 0 by omega, Nat.mul_zero, Nat.add_zero]
    have HE0 : Hid _ := e0
    clear e0
    go_wp2
    go_ret
    exact ⟨_, rfl, hO, g3, cap3, cur3, by rw [digs_len]; rfl, hlow, hrow3, by rw [digs_len]; exact hc3, hc3', fun i hi => by rw [HE0.out]; exact hcur i (by rw [digs_len] at hi; exact hi)⟩
end Go.Proofs.YtpfcboakafbnlaaDoor
set_option linter.unusedVariables false
namespace Go.Proofs.YtpfcboakafbnlaaDoor
open Go.RowKit Go.Sort Go.BigFrame
set_option maxRecDepth 100000
set_option maxHeartbeats 2000000
/-- Digits in a row of their own, which may have room behind. -/
def OwnI (lo : Nat) (l : List Nat) (v : Value) (w : World) : Prop :=
  ∃ g cap cur, v = .slice (some ⟨g, 0, none⟩) l.length cap ∧ lo ≤ g ∧ w.heap[g]? = some (.cells cur 3 (0, 0)) ∧ l.length ≤ cap ∧ cap ≤ 9223372036854775807 ∧ ∀ i, i < l.length → cur[i]? = some (.int .i64 ((l.getD i 0 : Nat) : Int))
theorem OwnI.stb (lo : Nat) (l : List Nat) : Stb (OwnI lo l) := fun _ _ _ hb ⟨g, c, cur, h1, h2, h3, h4⟩ => ⟨g, c, cur, h1, h2, block_below hb (lt_of_heap h3) h3, h4⟩
theorem own_I {w : World} {lo n : Nat} {v : Value} {l : List Nat} (hn : l.length = n) (h0 : 0 < n) (h : w.ownsRow lo 3 1 v n (iv l)) : OwnI lo l v w := by
  obtain ⟨_, h | ⟨g, cap, cur, h1, h2, h3, h4, h5, h6, h7⟩⟩ := h
  · omega
  · subst hn
    refine ⟨g, cap, cur, h1, h2, h3, h4, by unfold maxLen at h5; omega, fun i hi => ?_⟩
    have := congrArg (fun x : List Value => x[i]?) h7
    rw [List.getElem?_take_of_lt (by omega), Array.getElem?_toList] at this
    rw [this]
    simp [iv, hi]
theorem intsAt_cur {w : World} {g : Nat} {cur : Array Value} {t : Nat} {fr : Nat × Nat} {l : List Nat} (h : w.heap[g]? = some (.cells cur t fr)) (hc : ∀ i, i < l.length → cur[i]? = some (.int .i64 ((l.getD i 0 : Nat) : Int))) : IntsAt w g 0 l := fun i hi => by
  rw [Nat.zero_add, cell_of_row w g i _ t _ h]; exact hc i hi
theorem cur_setI {w : World} {g : Nat} {cur : Array Value} {l : List Nat} (h : w.heap[g]? = some (.cells cur 3 (0, 0))) (hc : ∀ i, i < l.length → cur[i]? = some (.int .i64 ((l.getD i 0 : Nat) : Int))) (k x : Nat) (hk : k < l.length) :
    (w.setCell ⟨g, k, none⟩ (.int .i64 (x : Int))).heap[g]? = some (.cells (cur.setIfInBounds k (.int .i64 (x : Int))) 3 (0, 0)) ∧ ∀ i, i < (l.set k x).length → (cur.setIfInBounds k (.int .i64 (x : Int)))[i]? = some (.int .i64 (((l.set k x).getD i 0 : Nat) : Int)) := by
  refine ⟨heap_setCell_same w g k _ 3 _ h, fun i hi => ?_⟩
  rw [List.length_set] at hi
  have hks : k < cur.size := (Array.getElem?_eq_some_iff.1 (hc k hk)).1
  rw [getD_set2 _ _ _ _ hk]
  by_cases e : i = k
  · subst e
    rw [Array.getElem?_setIfInBounds_self_of_lt hks, if_pos rfl]
  · rw [Array.getElem?_setIfInBounds_ne (Ne.symm e), if_neg e]; exact hc i hi
theorem rDigitsOwn {v x : Value} {l : List Nat} {lo : Nat} (w : World) (hlo : lo ≤ w.heap.size) (hv : v = x) (h : Bts l x w) (hd : Dig l) (hl : l.length = 32) : Ret 28 #[v] w (OwnI lo l) := by
  subst hv
  obtain ⟨a, cap, rfl, h1, h2, hv⟩ := h
  refine (digits11 a l.length cap l w rfl h1 (by omega) hd hv).mono fun e w' ⟨v, he, hB, hown⟩ => ⟨v, he, hB, ?_⟩
  obtain ⟨g, c, cur, k1, k2, k3⟩ := own_I rfl (by omega) hown
  exact ⟨g, c, cur, k1, by omega, k3⟩
theorem rP (w : World) : Ret 36 #[] w (DRow (digs 32 pp)) := (p12 w).mono fun e w' ⟨g, he, hR⟩ => ⟨_, he, hR.1, drow_of hR (digs_len _ _)⟩
theorem rLess {x y : List Nat} {v1 v2 : Value} {b : Bool} (hb : decide (valD x < valD y) = b) (w : World) (h1 : DRow x v1 w) (h2 : DRow y v2 w) (hx : x.length ≤ 1000) (hy : y.length ≤ 1000) (dx : Dig x) (dy : Dig y) : Ret 35 #[v1, v2] w (Is (.bool b)) := by
  obtain ⟨a, ca, rfl, _, _, ha⟩ := h1
  obtain ⟨c, cb, rfl, _, _, hc⟩ := h2
  refine (less10 a x.length ca x c y.length cb y w rfl rfl (by omega) (by omega) ha hc dx dy).mono fun e w' ⟨he, hw⟩ => ?_
  subst hw
  exact ⟨_, he, Below.refl _ _, by rw [← hb]; rfl⟩
theorem drow_rw {L : List Nat} {x : Fe} {v : Value} {w : World} (hL : L = digs 32 x.val) (h : DRow L v w) : Rw x v w := by
  subst hL
  obtain ⟨a, c, h1, h2, h3, h4⟩ := h
  rw [digs_len] at h1 h2
  exact ⟨a, c, h1, h2, h3, h4⟩
theorem valPP : valD (digs 32 pp) = pp := by decide
theorem rOfErrI {y : Fe} {v v2 : Value} {bb : Bool} (hno : ¬ ∃ p : Pt, p.y = y ∧ decide (p.x.val % 2 = 1) = bb) (w : World) (hy : Rw y v w) (h2 : v2 = .bool bb) : Ret 37 #[v, v2] w (Tup2 (Is (.agg #[.slice none 0 0, .slice none 0 0])) (Is (.bool false))) := by
  subst h2; exact rOfErr hno w hy
theorem rOfPtI {p : Pt} {v v2 : Value} {bb : Bool} (hb : decide (p.x.val % 2 = 1) = bb) (w : World) (hy : Rw p.y v w) (h2 : v2 = .bool bb) : Ret 37 #[v, v2] w (Tup2 (RPt p.x p.y) (Is (.bool true))) := by
  subst h2; exact rOfPt hb w hy
theorem rReadLen (ad : Option Addr) (len cap : Nat) (w : World) (h : len ≠ 32) : Ret 12 #[.slice ad len cap] w (Tup2 (Is (.agg #[.slice none 0 0, .slice none 0 0])) (Is (.bool false))) := by
  unfold Ret
  have hO0 : Below w.heap.size w w := Below.refl _ _
  go_enter Tryd.func12, Tryd.ntmps12
  refine wp_seq_k fun K1 hK1 => ?_
  refine wp_plain_inv 2 (specs [Box w.heap.size (#[.slice none 0 0, .slice none 0 0]) 35, Is (.bool false)]) (specs_stb ⟨Box.stb _ _ _, Is.stb _, trivial⟩) (by kernel_rfl) ?_ ?_
  · refine ⟨fun a w hB hfr hdep => Step.plain rfl (dAlloc35 hB.size rfl),
      fun a w hB hfr hdep => Step.plain rfl (dAssign (R := Is (.bool false)) rfl rfl), trivial⟩
  intro u1 hb1
  simp only [List.take, List.drop, FinAll, Act.put, List.setIfInBounds_toArray, List.set_cons_succ, List.set_cons_zero]
  rintro _ ⟨g2_1, rfl, l2_1, m2_1⟩ _ rfl
  have hO1 := (hO0).trans (hb1.mono (hO0).size)
  have lwm2_1 := Nat.le_trans (hO0).size l2_1
  refine hK1 _ _ ?_
  clear hK1 K1
  refine wp_seq_k fun KO1 hKO1 => ?_
  refine wp_seq_k fun K2 hK2 => ?_
  refine wp_plain_inv 3 (specs [Is (.slice ad len cap), Is (.int .i64 (len : Int)), Is (.bool true)]) (specs_stb ⟨Is.stb _, Is.stb _, Is.stb _, trivial⟩) (by kernel_rfl) ?_ ?_
  · refine ⟨fun a w hB hfr hdep => Step.plain rfl (dMove (R := Is (.slice ad len cap)) rfl (hfr 0 (by kernel_rfl))),
      fun a w hB hfr hdep => Step.plain rfl (Does.run _ (run_lenO rfl (hdep 0 7 (by kernel_rfl))) rfl),
      fun a w hB hfr hdep => Step.plain rfl (Does.run _ (run_neq32 h rfl (hdep 1 8 (by kernel_rfl)) rfl) rfl), trivial⟩
  intro u2 hb2
  simp only [List.take, List.drop, FinAll, Act.put, List.setIfInBounds_toArray, List.set_cons_succ, List.set_cons_zero]
  rintro _ rfl _ rfl _ rfl
  have hO2 := (hO1).trans (hb2.mono (hO1).size)
  have m2_1__2 := block_below hb2 (lt_of_heap m2_1) m2_1
  refine hK2 _ _ ?_
  clear hK2 K2
  refine wp_cond_true rfl ?_
  refine wp_seq_k fun K3 hK3 => ?_
  refine wp_plain_inv 1 (specs [Is (.agg #[.slice none 0 0, .slice none 0 0])]) (specs_stb ⟨Is.stb _, trivial⟩) (by kernel_rfl) ?_ ?_
  · refine ⟨fun a w hB hfr hdep => Step.plain rfl (Does.run _ (bu35z rfl) rfl), trivial⟩
  intro u3 hb3
  simp only [List.take, List.drop, FinAll, Act.put, List.setIfInBounds_toArray, List.set_cons_succ, List.set_cons_zero]
  rintro _ rfl
  have om2_1__2 := block_below hb3 (lt_of_heap m2_1__2) m2_1__2
  refine wpList_store_row rfl 35 (.tmp 2) (.tmp 10) rfl _ (#[.slice none 0 0, .slice none 0 0]) rfl rfl 35 _ om2_1__2 info35 rfl (by simp [Value.oneCell']) ?_
  refine wpList_assign rfl rfl rfl ?_
  simp only [Act.put, Act.eval, List.setIfInBounds_toArray, List.set_cons_succ, List.set_cons_zero]
  have n2_3 := setRow_heap _ _ _ (#[.slice none 0 0, .slice none 0 0]) _ _ om2_1__2
  have hO3 := setRow_below (hO2.trans (hb3.mono (hO2).size)) lwm2_1 (#[.slice none 0 0, .slice none 0 0])
  refine hK3 _ _ ?_
  clear hK3 K3
  refine wp_ret ?_
  simp only [Exit.then]
  refine bodyPost_ret (v := .tuple #[.agg (#[.slice none 0 0, .slice none 0 0]), .bool false]) ?_ rfl ⟨_, rfl, hO3, ⟨_, _, rfl, rfl, rfl⟩⟩
  exact results_cell_tmp Tryd.results12 _ _ _ 35 _ (0, 0) _ _ rfl rfl n2_3 Tryd.underlying35 rfl (by first | exact info26 | exact info29 | exact info35 | (rw [(Pt4.cells (by assumption)).1]; exact info29) | (rw [cellsP_size (by assumption)]; exact info29))
theorem rReadA (w : World) {l : List Nat} {gx off cap c d : Nat} {bb : Bool} (hb : Bts l (.slice (some ⟨gx, off, none⟩) 32 cap) w) (hl : l.length = 32) (hd : Dig l) (hcc : Hid (c = l.getD 31 0)) (hc256 : c < 256) (hge : decide ((128 : Int) ≤ (c : Int)) = bb) (hrm : Int.tmod (c : Int) 128 = (d : Int)) (hl1 : (l.set 31 d).length = 32) (hd1 : Dig (l.set 31 d)) (hA : decide (valD (l.set 31 d) < valD (digs 32 pp)) = false) : Ret 12 #[.slice (some ⟨gx, off, none⟩) 32 cap] w (Tup2 (Is (.agg #[.slice none 0 0, .slice none 0 0])) (Is (.bool false))) := by
  have h32 : ((32 : Int) != 32) = false := rfl
  unfold Ret
  have hO0 : Below w.heap.size w w := Below.refl _ _
  go_enter Tryd.func12, Tryd.ntmps12
  refine wp_seq_k fun K1 hK1 => ?_
  refine wp_plain_inv 2 (specs [Box w.heap.size (#[.slice none 0 0, .slice none 0 0]) 35, Is (.bool false)]) (specs_stb ⟨Box.stb _ _ _, Is.stb _, trivial⟩) (by kernel_rfl) ?_ ?_
  · refine ⟨fun a w hB hfr hdep => Step.plain rfl (dAlloc35 hB.size rfl),
      fun a w hB hfr hdep => Step.plain rfl (dAssign (R := Is (.bool false)) rfl rfl), trivial⟩
  intro u1 hb1
  simp only [List.take, List.drop, FinAll, Act.put, List.setIfInBounds_toArray, List.set_cons_succ, List.set_cons_zero]
  rintro _ ⟨g2_1, rfl, l2_1, m2_1⟩ _ rfl
  have hO1 := (hO0).trans (hb1.mono (hO0).size)
  have lwm2_1 := Nat.le_trans (hO0).size l2_1
  refine hK1 _ _ ?_
  clear hK1 K1
  refine wp_seq_k fun KO1 hKO1 => ?_
  refine wp_seq_k fun K2 hK2 => ?_
  refine wp_plain_inv 3 (specs [Is (.slice (some ⟨gx, off, none⟩) 32 cap), Is (.int .i64 32), Is (.bool false)]) (specs_stb ⟨Is.stb _, Is.stb _, Is.stb _, trivial⟩) (by kernel_rfl) ?_ ?_
  · refine ⟨fun a w hB hfr hdep => Step.plain rfl (dMove (R := Is (.slice (some ⟨gx, off, none⟩) 32 cap)) rfl (hfr 0 (by kernel_rfl))),
      fun a w hB hfr hdep => Step.plain rfl (Does.run _ (run_lenO rfl (hdep 0 7 (by kernel_rfl))) rfl),
      fun a w hB hfr hdep => Step.plain rfl (Does.run _ (run_binO rfl (hdep 1 8 (by kernel_rfl)) rfl (by kernel_rfl)) rfl), trivial⟩
  intro u2 hb2
  simp only [List.take, List.drop, FinAll, Act.put, List.setIfInBounds_toArray, List.set_cons_succ, List.set_cons_zero]
  rintro _ rfl _ rfl _ rfl
  have hO2 := (hO1).trans (hb2.mono (hO1).size)
  have m2_1__2 := block_below hb2 (lt_of_heap m2_1) m2_1
  refine hK2 _ _ ?_
  clear hK2 K2
  refine wp_cond_false rfl ?_
  refine wp_skip ?_
  refine hKO1 _ _ ?_
  clear hKO1 KO1
  refine wp_seq_k fun K3 hK3 => ?_
  refine wp_plain_inv 3 (specs [Is (.slice (some ⟨gx, off, none⟩) 32 cap), OwnI u2.heap.size l, OwnI u2.heap.size l]) (specs_stb ⟨Is.stb _, OwnI.stb _ _, OwnI.stb _ _, trivial⟩) (by kernel_rfl) ?_ ?_
  · refine ⟨fun a w hB hfr hdep => Step.plain rfl (dMove (R := Is (.slice (some ⟨gx, off, none⟩) 32 cap)) rfl (hfr 0 (by kernel_rfl))),
      fun a w hB hfr hdep => Step.plain rfl (Does.call 28 #[(a.eval (.tmp 11))] (by kernel_rfl) (rDigitsOwn w hB.size (hdep 0 11 (by kernel_rfl)) (Bts.stb _ _ _ _ hB (Bts.stb _ _ _ _ hO2 hb)) hd hl)),
      fun a w hB hfr hdep => Step.plain rfl (dAssign (R := OwnI u2.heap.size l) rfl (hdep 1 12 (by kernel_rfl))), trivial⟩
  intro u3 hb3
  simp only [List.take, List.drop, FinAll, Act.put, List.setIfInBounds_toArray, List.set_cons_succ, List.set_cons_zero]
  rintro _ rfl v12_3 h12_3 v4_3 h4_3
  have hO3 := (hO2).trans (hb3.mono (hO2).size)
  have m2_1__3 := block_below hb3 (lt_of_heap m2_1__2) m2_1__2
  refine hK3 _ _ ?_
  clear hK3 K3
  obtain ⟨g4, cap4, cur4, hv4, hl4, hrow4, hc4, hc4', hcur⟩ := h4_3
  rw [hl] at hv4 hcur hc4
  subst hv4
  have c31 := cell_of_row _ g4 31 _ _ _ hrow4
  rw [hcur 31 (by omega), ← hcc.out] at c31
  have f31 := frozen_of_row _ g4 31 _ _ hrow4
  have hst := cur_setI hrow4 (by rw [hl]; exact hcur) 31 d (by omega)
  have hOs := (hO3).setCell (p := ⟨g4, 31, none⟩) (by show _ ≤ g4; have := hO1.size; have := hb2.size; omega) (.int .i64 (d : Int))
  have nz : g2_1 ≠ g4 := by have := hb2.size; have := lt_of_heap m2_1; omega
  have hz2 := (heap_setCell_other u3 ⟨g4, 31, none⟩ g2_1 (.int .i64 (d : Int)) nz).trans m2_1__3
  have HOS : Hid _ := hOs
  have HZ2 : Hid _ := hz2
  have HST : Hid _ := hst
  clear hOs hz2 hst
  refine wp_seq_k fun KB hKB => ?_
  have HKB : Hid _ := hKB
  clear hKB
  go_wp2
  refine HKB.out _ _ ?_
  clear HKB KB
  refine wp_seq_k fun KC hKC => ?_
  have HKC : Hid _ := hKC
  clear hKC
  go_wp2
  refine HKC.out _ _ ?_
  clear HKC KC
  have hO := HOS.out
  have hz := HZ2.out
  have hb9 : DRow (l.set 31 d) (.slice (some ⟨g4, 0, none⟩) 32 cap4) (u3.setCell ⟨g4, 31, none⟩ (.int .i64 (d : Int))) := ⟨_, _, by rw [hl1], by rw [hl1]; exact hc4, hc4', fun _ => ⟨g4, 0, rfl, intsAt_cur HST.out.1 HST.out.2⟩⟩
  clear HOS HZ2 HST c31 f31
  generalize u3.setCell ⟨g4, 31, none⟩ (.int .i64 (d : Int)) = uu at hO hz hb9 ⊢
  refine wp_seq_k fun K4 hK4 => ?_
  refine wp_plain_inv 4 (specs [DRow (l.set 31 d), DRow (digs 32 pp), Is (.bool false), Is (.bool false)]) (specs_stb ⟨DRow.stb _, DRow.stb _, Is.stb _, Is.stb _, trivial⟩) (by kernel_rfl) ?_ ?_
  · refine ⟨fun a w hB hfr hdep => Step.plain rfl (dMove (R := DRow (l.set 31 d)) rfl (use (hfr 4 (by kernel_rfl)) ((DRow.stb _) _ _ _ hB hb9))),
      fun a w hB hfr hdep => Step.plain rfl (Does.call 36 #[] (by kernel_rfl) (rP w)),
      fun a w hB hfr hdep => Step.plain rfl (Does.call 35 #[(a.eval (.tmp 23)), (a.eval (.tmp 24))] (by kernel_rfl) (rLess hA w (hdep 0 23 (by kernel_rfl)) (hdep 1 24 (by kernel_rfl)) (by rw [hl1]; decide) (by rw [digs_len]; decide) hd1 (digs_dig _ _))),
      fun a w hB hfr hdep => Step.plain rfl (dAssign (R := Is (.bool false)) rfl (hdep 2 25 (by kernel_rfl))), trivial⟩
  intro u4 hb4
  simp only [List.take, List.drop, FinAll, Act.put, List.setIfInBounds_toArray, List.set_cons_succ, List.set_cons_zero]
  rintro v23_4 h23_4 v24_4 h24_4 _ rfl _ rfl
  have hO4 := (hO).trans (hb4.mono (hO).size)
  have hz__4 := block_below hb4 (lt_of_heap hz) hz
  refine hK4 _ _ ?_
  clear hK4 K4
  refine wp_seq_k fun KO7 hKO7 => ?_
  refine wp_seq_k fun K5 hK5 => ?_
  refine wp_plain_inv 2 (specs [Is (.bool false), Is (.bool true)]) (specs_stb ⟨Is.stb _, Is.stb _, trivial⟩) (by kernel_rfl) ?_ ?_
  · refine ⟨fun a w hB hfr hdep => Step.plain rfl (dMove (R := Is (.bool false)) rfl (hfr 6 (by kernel_rfl))),
      fun a w hB hfr hdep => Step.plain rfl (Does.run _ (run_notO rfl (hdep 0 26 (by kernel_rfl))) rfl), trivial⟩
  intro u5 hb5
  simp only [List.take, List.drop, FinAll, Act.put, List.setIfInBounds_toArray, List.set_cons_succ, List.set_cons_zero]
  rintro _ rfl _ rfl
  have hO5 := (hO4).trans (hb5.mono (hO4).size)
  have hz__5 := block_below hb5 (lt_of_heap hz__4) hz__4
  refine hK5 _ _ ?_
  clear hK5 K5
  refine wp_cond_true rfl ?_
  refine wp_seq_k fun K6 hK6 => ?_
  refine wp_plain_inv 1 (specs [Is (.agg #[.slice none 0 0, .slice none 0 0])]) (specs_stb ⟨Is.stb _, trivial⟩) (by kernel_rfl) ?_ ?_
  · refine ⟨fun a w hB hfr hdep => Step.plain rfl (Does.run _ (bu35z rfl) rfl), trivial⟩
  intro u6 hb6
  simp only [List.take, List.drop, FinAll, Act.put, List.setIfInBounds_toArray, List.set_cons_succ, List.set_cons_zero]
  rintro _ rfl
  have ohz__5 := block_below hb6 (lt_of_heap hz__5) hz__5
  refine wpList_store_row rfl 35 (.tmp 2) (.tmp 28) rfl _ (#[.slice none 0 0, .slice none 0 0]) rfl rfl 35 _ ohz__5 info35 rfl (by simp [Value.oneCell']) ?_
  refine wpList_assign rfl rfl rfl ?_
  simp only [Act.put, Act.eval, List.setIfInBounds_toArray, List.set_cons_succ, List.set_cons_zero]
  have n2_6 := setRow_heap _ _ _ (#[.slice none 0 0, .slice none 0 0]) _ _ ohz__5
  have hO6 := setRow_below (hO5.trans (hb6.mono (hO5).size)) lwm2_1 (#[.slice none 0 0, .slice none 0 0])
  refine hK6 _ _ ?_
  clear hK6 K6
  refine wp_ret ?_
  simp only [Exit.then]
  refine bodyPost_ret (v := .tuple #[.agg (#[.slice none 0 0, .slice none 0 0]), .bool false]) ?_ rfl ⟨_, rfl, hO6, ⟨_, _, rfl, rfl, rfl⟩⟩
  exact results_cell_tmp Tryd.results12 _ _ _ 35 _ (0, 0) _ _ rfl rfl n2_6 Tryd.underlying35 rfl (by first | exact info26 | exact info29 | exact info35 | (rw [(Pt4.cells (by assumption)).1]; exact info29) | (rw [cellsP_size (by assumption)]; exact info29))
theorem rReadE (w : World) {l : List Nat} {gx off cap c d : Nat} {bb : Bool} (hb : Bts l (.slice (some ⟨gx, off, none⟩) 32 cap) w) (hl : l.length = 32) (hd : Dig l) (hcc : Hid (c = l.getD 31 0)) (hc256 : c < 256) (hge : decide ((128 : Int) ≤ (c : Int)) = bb) (hrm : Int.tmod (c : Int) 128 = (d : Int)) (hl1 : (l.set 31 d).length = 32) (hd1 : Dig (l.set 31 d)) {y : Fe} (hA : decide (valD (l.set 31 d) < valD (digs 32 pp)) = true) (hL : l.set 31 d = digs 32 y.val) (hno : ¬ ∃ p : Pt, p.y = y ∧ decide (p.x.val % 2 = 1) = bb) : Ret 12 #[.slice (some ⟨gx, off, none⟩) 32 cap] w (Tup2 (Is (.agg #[.slice none 0 0, .slice none 0 0])) (Is (.bool false))) := by
  have h32 : ((32 : Int) != 32) = false := rfl
  unfold Ret
  have hO0 : Below w.heap.size w w := Below.refl _ _
  go_enter Tryd.func12, Tryd.ntmps12
  refine wp_seq_k fun K1 hK1 => ?_
  refine wp_plain_inv 2 (specs [Box w.heap.size (#[.slice none 0 0, .slice none 0 0]) 35, Is (.bool false)]) (specs_stb ⟨Box.stb _ _ _, Is.stb _, trivial⟩) (by kernel_rfl) ?_ ?_
  · refine ⟨fun a w hB hfr hdep => Step.plain rfl (dAlloc35 hB.size rfl),
      fun a w hB hfr hdep => Step.plain rfl (dAssign (R := Is (.bool false)) rfl rfl), trivial⟩
  intro u1 hb1
  simp only [List.take, List.drop, FinAll, Act.put, List.setIfInBounds_toArray, List.set_cons_succ, List.set_cons_zero]
  rintro _ ⟨g2_1, rfl, l2_1, m2_1⟩ _ rfl
  have hO1 := (hO0).trans (hb1.mono (hO0).size)
  have lwm2_1 := Nat.le_trans (hO0).size l2_1
  refine hK1 _ _ ?_
  clear hK1 K1
  refine wp_seq_k fun KO1 hKO1 => ?_
  refine wp_seq_k fun K2 hK2 => ?_
  refine wp_plain_inv 3 (specs [Is (.slice (some ⟨gx, off, none⟩) 32 cap), Is (.int .i64 32), Is (.bool false)]) (specs_stb ⟨Is.stb _, Is.stb _, Is.stb _, trivial⟩) (by kernel_rfl) ?_ ?_
  · refine ⟨fun a w hB hfr hdep => Step.plain rfl (dMove (R := Is (.slice (some ⟨gx, off, none⟩) 32 cap)) rfl (hfr 0 (by kernel_rfl))),
      fun a w hB hfr hdep => Step.plain rfl (Does.run _ (run_lenO rfl (hdep 0 7 (by kernel_rfl))) rfl),
      fun a w hB hfr hdep => Step.plain rfl (Does.run _ (run_binO rfl (hdep 1 8 (by kernel_rfl)) rfl (by kernel_rfl)) rfl), trivial⟩
  intro u2 hb2
  simp only [List.take, List.drop, FinAll, Act.put, List.setIfInBounds_toArray, List.set_cons_succ, List.set_cons_zero]
  rintro _ rfl _ rfl _ rfl
  have hO2 := (hO1).trans (hb2.mono (hO1).size)
  have m2_1__2 := block_below hb2 (lt_of_heap m2_1) m2_1
  refine hK2 _ _ ?_
  clear hK2 K2
  refine wp_cond_false rfl ?_
  refine wp_skip ?_
  refine hKO1 _ _ ?_
  clear hKO1 KO1
  refine wp_seq_k fun K3 hK3 => ?_
  refine wp_plain_inv 3 (specs [Is (.slice (some ⟨gx, off, none⟩) 32 cap), OwnI u2.heap.size l, OwnI u2.heap.size l]) (specs_stb ⟨Is.stb _, OwnI.stb _ _, OwnI.stb _ _, trivial⟩) (by kernel_rfl) ?_ ?_
  · refine ⟨fun a w hB hfr hdep => Step.plain rfl (dMove (R := Is (.slice (some ⟨gx, off, none⟩) 32 cap)) rfl (hfr 0 (by kernel_rfl))),
      fun a w hB hfr hdep => Step.plain rfl (Does.call 28 #[(a.eval (.tmp 11))] (by kernel_rfl) (rDigitsOwn w hB.size (hdep 0 11 (by kernel_rfl)) (Bts.stb _ _ _ _ hB (Bts.stb _ _ _ _ hO2 hb)) hd hl)),
      fun a w hB hfr hdep => Step.plain rfl (dAssign (R := OwnI u2.heap.size l) rfl (hdep 1 12 (by kernel_rfl))), trivial⟩
  intro u3 hb3
  simp only [List.take, List.drop, FinAll, Act.put, List.setIfInBounds_toArray, List.set_cons_succ, List.set_cons_zero]
  rintro _ rfl v12_3 h12_3 v4_3 h4_3
  have hO3 := (hO2).trans (hb3.mono (hO2).size)
  have m2_1__3 := block_below hb3 (lt_of_heap m2_1__2) m2_1__2
  refine hK3 _ _ ?_
  clear hK3 K3
  obtain ⟨g4, cap4, cur4, hv4, hl4, hrow4, hc4, hc4', hcur⟩ := h4_3
  rw [hl] at hv4 hcur hc4
  subst hv4
  have c31 := cell_of_row _ g4 31 _ _ _ hrow4
  rw [hcur 31 (by omega), ← hcc.out] at c31
  have f31 := frozen_of_row _ g4 31 _ _ hrow4
  have hst := cur_setI hrow4 (by rw [hl]; exact hcur) 31 d (by omega)
  have hOs := (hO3).setCell (p := ⟨g4, 31, none⟩) (by show _ ≤ g4; have := hO1.size; have := hb2.size; omega) (.int .i64 (d : Int))
  have nz : g2_1 ≠ g4 := by have := hb2.size; have := lt_of_heap m2_1; omega
  have hz2 := (heap_setCell_other u3 ⟨g4, 31, none⟩ g2_1 (.int .i64 (d : Int)) nz).trans m2_1__3
  have HOS : Hid _ := hOs
  have HZ2 : Hid _ := hz2
  have HST : Hid _ := hst
  clear hOs hz2 hst
  refine wp_seq_k fun KB hKB => ?_
  have HKB : Hid _ := hKB
  clear hKB
  go_wp2
  refine HKB.out _ _ ?_
  clear HKB KB
  refine wp_seq_k fun KC hKC => ?_
  have HKC : Hid _ := hKC
  clear hKC
  go_wp2
  refine HKC.out _ _ ?_
  clear HKC KC
  have hO := HOS.out
  have hz := HZ2.out
  have hb9 : DRow (l.set 31 d) (.slice (some ⟨g4, 0, none⟩) 32 cap4) (u3.setCell ⟨g4, 31, none⟩ (.int .i64 (d : Int))) := ⟨_, _, by rw [hl1], by rw [hl1]; exact hc4, hc4', fun _ => ⟨g4, 0, rfl, intsAt_cur HST.out.1 HST.out.2⟩⟩
  clear HOS HZ2 HST c31 f31
  generalize u3.setCell ⟨g4, 31, none⟩ (.int .i64 (d : Int)) = uu at hO hz hb9 ⊢
  refine wp_seq_k fun K4 hK4 => ?_
  refine wp_plain_inv 4 (specs [DRow (l.set 31 d), DRow (digs 32 pp), Is (.bool true), Is (.bool true)]) (specs_stb ⟨DRow.stb _, DRow.stb _, Is.stb _, Is.stb _, trivial⟩) (by kernel_rfl) ?_ ?_
  · refine ⟨fun a w hB hfr hdep => Step.plain rfl (dMove (R := DRow (l.set 31 d)) rfl (use (hfr 4 (by kernel_rfl)) ((DRow.stb _) _ _ _ hB hb9))),
      fun a w hB hfr hdep => Step.plain rfl (Does.call 36 #[] (by kernel_rfl) (rP w)),
      fun a w hB hfr hdep => Step.plain rfl (Does.call 35 #[(a.eval (.tmp 23)), (a.eval (.tmp 24))] (by kernel_rfl) (rLess hA w (hdep 0 23 (by kernel_rfl)) (hdep 1 24 (by kernel_rfl)) (by rw [hl1]; decide) (by rw [digs_len]; decide) hd1 (digs_dig _ _))),
      fun a w hB hfr hdep => Step.plain rfl (dAssign (R := Is (.bool true)) rfl (hdep 2 25 (by kernel_rfl))), trivial⟩
  intro u4 hb4
  simp only [List.take, List.drop, FinAll, Act.put, List.setIfInBounds_toArray, List.set_cons_succ, List.set_cons_zero]
  rintro v23_4 h23_4 v24_4 h24_4 _ rfl _ rfl
  have hO4 := (hO).trans (hb4.mono (hO).size)
  have hz__4 := block_below hb4 (lt_of_heap hz) hz
  refine hK4 _ _ ?_
  clear hK4 K4
  refine wp_seq_k fun KO7 hKO7 => ?_
  refine wp_seq_k fun K5 hK5 => ?_
  refine wp_plain_inv 2 (specs [Is (.bool true), Is (.bool false)]) (specs_stb ⟨Is.stb _, Is.stb _, trivial⟩) (by kernel_rfl) ?_ ?_
  · refine ⟨fun a w hB hfr hdep => Step.plain rfl (dMove (R := Is (.bool true)) rfl (hfr 6 (by kernel_rfl))),
      fun a w hB hfr hdep => Step.plain rfl (Does.run _ (run_notO rfl (hdep 0 26 (by kernel_rfl))) rfl), trivial⟩
  intro u5 hb5
  simp only [List.take, List.drop, FinAll, Act.put, List.setIfInBounds_toArray, List.set_cons_succ, List.set_cons_zero]
  rintro _ rfl _ rfl
  have hO5 := (hO4).trans (hb5.mono (hO4).size)
  have hz__5 := block_below hb5 (lt_of_heap hz__4) hz__4
  refine hK5 _ _ ?_
  clear hK5 K5
  refine wp_cond_false rfl ?_
  refine wp_skip ?_
  refine hKO7 _ _ ?_
  clear hKO7 KO7
  refine wp_seq_k fun K6 hK6 => ?_
  refine wp_plain_inv 5 (specs [DRow (l.set 31 d), Is (.bool bb), Tup2 (Is (.agg #[.slice none 0 0, .slice none 0 0])) (Is (.bool false)), Is (.agg #[.slice none 0 0, .slice none 0 0]), Is (.bool false)]) (specs_stb ⟨DRow.stb _, Is.stb _, Tup2.stb (Is.stb _) (Is.stb _), Is.stb _, Is.stb _, trivial⟩) (by kernel_rfl) ?_ ?_
  · refine ⟨fun a w hB hfr hdep => Step.plain rfl (dMove (R := DRow (l.set 31 d)) rfl (use (hfr 4 (by kernel_rfl)) ((DRow.stb _) _ _ _ hB ((DRow.stb _) _ _ _ hb5 ((DRow.stb _) _ _ _ hb4 hb9))))),
      fun a w hB hfr hdep => Step.plain rfl (dMove (R := Is (.bool bb)) rfl (hfr 5 (by kernel_rfl))),
      fun a w hB hfr hdep => Step.plain rfl (Does.call 37 #[(a.eval (.tmp 29)), (a.eval (.tmp 30))] (by kernel_rfl) (rOfErrI hno w (drow_rw hL (hdep 0 29 (by kernel_rfl))) (hdep 1 30 (by kernel_rfl)))),
      fun a w hB hfr hdep => Step.plain rfl (dExt0 rfl (hdep 2 31 (by kernel_rfl))),
      fun a w hB hfr hdep => Step.plain rfl (dExt1 rfl (hdep 2 31 (by kernel_rfl))), trivial⟩
  intro u6 hb6
  simp only [List.take, List.drop, FinAll, Act.put, List.setIfInBounds_toArray, List.set_cons_succ, List.set_cons_zero]
  rintro v29_6 h29_6 _ rfl v31_6 h31_6 _ rfl _ rfl
  have ohz__5 := block_below hb6 (lt_of_heap hz__5) hz__5
  refine wpList_store_row rfl 35 (.tmp 2) (.tmp 32) rfl _ (#[.slice none 0 0, .slice none 0 0]) rfl rfl 35 _ ohz__5 info35 rfl (by simp [Value.oneCell']) ?_
  refine wpList_assign rfl rfl rfl ?_
  simp only [Act.put, Act.eval, Array.getD_eq_getD_getElem?, List.getElem?_toArray, List.getElem?_cons_succ, List.getElem?_cons_zero, Option.getD_some, List.setIfInBounds_toArray, List.set_cons_succ, List.set_cons_zero]
  have n2_6 := setRow_heap _ _ _ (#[.slice none 0 0, .slice none 0 0]) _ _ ohz__5
  have hO6 := setRow_below (hO5.trans (hb6.mono (hO5).size)) lwm2_1 (#[.slice none 0 0, .slice none 0 0])
  refine hK6 _ _ ?_
  clear hK6 K6
  refine wp_ret ?_
  refine bodyPost_ret (v := .tuple #[.agg (#[.slice none 0 0, .slice none 0 0]), .bool false]) ?_ rfl ⟨_, rfl, hO6, ⟨_, _, rfl, rfl, rfl⟩⟩
  exact results_cell_tmp Tryd.results12 _ _ _ 35 _ (0, 0) _ _ rfl rfl n2_6 Tryd.underlying35 rfl (by first | exact info26 | exact info29 | exact info35 | (rw [(Pt4.cells (by assumption)).1]; exact info29) | (rw [cellsP_size (by assumption)]; exact info29))
theorem rReadP (w : World) {l : List Nat} {gx off cap c d : Nat} {bb : Bool} (hb : Bts l (.slice (some ⟨gx, off, none⟩) 32 cap) w) (hl : l.length = 32) (hd : Dig l) (hcc : Hid (c = l.getD 31 0)) (hc256 : c < 256) (hge : decide ((128 : Int) ≤ (c : Int)) = bb) (hrm : Int.tmod (c : Int) 128 = (d : Int)) (hl1 : (l.set 31 d).length = 32) (hd1 : Dig (l.set 31 d)) {p : Pt} (hA : decide (valD (l.set 31 d) < valD (digs 32 pp)) = true) (hL : l.set 31 d = digs 32 p.y.val) (hbp : decide (p.x.val % 2 = 1) = bb) : Ret 12 #[.slice (some ⟨gx, off, none⟩) 32 cap] w (Tup2 (RPt p.x p.y) (Is (.bool true))) := by
  have h32 : ((32 : Int) != 32) = false := rfl
  unfold Ret
  have hO0 : Below w.heap.size w w := Below.refl _ _
  go_enter Tryd.func12, Tryd.ntmps12
  refine wp_seq_k fun K1 hK1 => ?_
  refine wp_plain_inv 2 (specs [Box w.heap.size (#[.slice none 0 0, .slice none 0 0]) 35, Is (.bool false)]) (specs_stb ⟨Box.stb _ _ _, Is.stb _, trivial⟩) (by kernel_rfl) ?_ ?_
  · refine ⟨fun a w hB hfr hdep => Step.plain rfl (dAlloc35 hB.size rfl),
      fun a w hB hfr hdep => Step.plain rfl (dAssign (R := Is (.bool false)) rfl rfl), trivial⟩
  intro u1 hb1
  simp only [List.take, List.drop, FinAll, Act.put, List.setIfInBounds_toArray, List.set_cons_succ, List.set_cons_zero]
  rintro _ ⟨g2_1, rfl, l2_1, m2_1⟩ _ rfl
  have hO1 := (hO0).trans (hb1.mono (hO0).size)
  have lwm2_1 := Nat.le_trans (hO0).size l2_1
  refine hK1 _ _ ?_
  clear hK1 K1
  refine wp_seq_k fun KO1 hKO1 => ?_
  refine wp_seq_k fun K2 hK2 => ?_
  refine wp_plain_inv 3 (specs [Is (.slice (some ⟨gx, off, none⟩) 32 cap), Is (.int .i64 32), Is (.bool false)]) (specs_stb ⟨Is.stb _, Is.stb _, Is.stb _, trivial⟩) (by kernel_rfl) ?_ ?_
  · refine ⟨fun a w hB hfr hdep => Step.plain rfl (dMove (R := Is (.slice (some ⟨gx, off, none⟩) 32 cap)) rfl (hfr 0 (by kernel_rfl))),
      fun a w hB hfr hdep => Step.plain rfl (Does.run _ (run_lenO rfl (hdep 0 7 (by kernel_rfl))) rfl),
      fun a w hB hfr hdep => Step.plain rfl (Does.run _ (run_binO rfl (hdep 1 8 (by kernel_rfl)) rfl (by kernel_rfl)) rfl), trivial⟩
  intro u2 hb2
  simp only [List.take, List.drop, FinAll, Act.put, List.setIfInBounds_toArray, List.set_cons_succ, List.set_cons_zero]
  rintro _ rfl _ rfl _ rfl
  have hO2 := (hO1).trans (hb2.mono (hO1).size)
  have m2_1__2 := block_below hb2 (lt_of_heap m2_1) m2_1
  refine hK2 _ _ ?_
  clear hK2 K2
  refine wp_cond_false rfl ?_
  refine wp_skip ?_
  refine hKO1 _ _ ?_
  clear hKO1 KO1
  refine wp_seq_k fun K3 hK3 => ?_
  refine wp_plain_inv 3 (specs [Is (.slice (some ⟨gx, off, none⟩) 32 cap), OwnI u2.heap.size l, OwnI u2.heap.size l]) (specs_stb ⟨Is.stb _, OwnI.stb _ _, OwnI.stb _ _, trivial⟩) (by kernel_rfl) ?_ ?_
  · refine ⟨fun a w hB hfr hdep => Step.plain rfl (dMove (R := Is (.slice (some ⟨gx, off, none⟩) 32 cap)) rfl (hfr 0 (by kernel_rfl))),
      fun a w hB hfr hdep => Step.plain rfl (Does.call 28 #[(a.eval (.tmp 11))] (by kernel_rfl) (rDigitsOwn w hB.size (hdep 0 11 (by kernel_rfl)) (Bts.stb _ _ _ _ hB (Bts.stb _ _ _ _ hO2 hb)) hd hl)),
      fun a w hB hfr hdep => Step.plain rfl (dAssign (R := OwnI u2.heap.size l) rfl (hdep 1 12 (by kernel_rfl))), trivial⟩
  intro u3 hb3
  simp only [List.take, List.drop, FinAll, Act.put, List.setIfInBounds_toArray, List.set_cons_succ, List.set_cons_zero]
  rintro _ rfl v12_3 h12_3 v4_3 h4_3
  have hO3 := (hO2).trans (hb3.mono (hO2).size)
  have m2_1__3 := block_below hb3 (lt_of_heap m2_1__2) m2_1__2
  refine hK3 _ _ ?_
  clear hK3 K3
  obtain ⟨g4, cap4, cur4, hv4, hl4, hrow4, hc4, hc4', hcur⟩ := h4_3
  rw [hl] at hv4 hcur hc4
  subst hv4
  have c31 := cell_of_row _ g4 31 _ _ _ hrow4
  rw [hcur 31 (by omega), ← hcc.out] at c31
  have f31 := frozen_of_row _ g4 31 _ _ hrow4
  have hst := cur_setI hrow4 (by rw [hl]; exact hcur) 31 d (by omega)
  have hOs := (hO3).setCell (p := ⟨g4, 31, none⟩) (by show _ ≤ g4; have := hO1.size; have := hb2.size; omega) (.int .i64 (d : Int))
  have nz : g2_1 ≠ g4 := by have := hb2.size; have := lt_of_heap m2_1; omega
  have hz2 := (heap_setCell_other u3 ⟨g4, 31, none⟩ g2_1 (.int .i64 (d : Int)) nz).trans m2_1__3
  have HOS : Hid _ := hOs
  have HZ2 : Hid _ := hz2
  have HST : Hid _ := hst
  clear hOs hz2 hst
  refine wp_seq_k fun KB hKB => ?_
  have HKB : Hid _ := hKB
  clear hKB
  go_wp2
  refine HKB.out _ _ ?_
  clear HKB KB
  refine wp_seq_k fun KC hKC => ?_
  have HKC : Hid _ := hKC
  clear hKC
  go_wp2
  refine HKC.out _ _ ?_
  clear HKC KC
  have hO := HOS.out
  have hz := HZ2.out
  have hb9 : DRow (l.set 31 d) (.slice (some ⟨g4, 0, none⟩) 32 cap4) (u3.setCell ⟨g4, 31, none⟩ (.int .i64 (d : Int))) := ⟨_, _, by rw [hl1], by rw [hl1]; exact hc4, hc4', fun _ => ⟨g4, 0, rfl, intsAt_cur HST.out.1 HST.out.2⟩⟩
  clear HOS HZ2 HST c31 f31
  generalize u3.setCell ⟨g4, 31, none⟩ (.int .i64 (d : Int)) = uu at hO hz hb9 ⊢
  refine wp_seq_k fun K4 hK4 => ?_
  refine wp_plain_inv 4 (specs [DRow (l.set 31 d), DRow (digs 32 pp), Is (.bool true), Is (.bool true)]) (specs_stb ⟨DRow.stb _, DRow.stb _, Is.stb _, Is.stb _, trivial⟩) (by kernel_rfl) ?_ ?_
  · refine ⟨fun a w hB hfr hdep => Step.plain rfl (dMove (R := DRow (l.set 31 d)) rfl (use (hfr 4 (by kernel_rfl)) ((DRow.stb _) _ _ _ hB hb9))),
      fun a w hB hfr hdep => Step.plain rfl (Does.call 36 #[] (by kernel_rfl) (rP w)),
      fun a w hB hfr hdep => Step.plain rfl (Does.call 35 #[(a.eval (.tmp 23)), (a.eval (.tmp 24))] (by kernel_rfl) (rLess hA w (hdep 0 23 (by kernel_rfl)) (hdep 1 24 (by kernel_rfl)) (by rw [hl1]; decide) (by rw [digs_len]; decide) hd1 (digs_dig _ _))),
      fun a w hB hfr hdep => Step.plain rfl (dAssign (R := Is (.bool true)) rfl (hdep 2 25 (by kernel_rfl))), trivial⟩
  intro u4 hb4
  simp only [List.take, List.drop, FinAll, Act.put, List.setIfInBounds_toArray, List.set_cons_succ, List.set_cons_zero]
  rintro v23_4 h23_4 v24_4 h24_4 _ rfl _ rfl
  have hO4 := (hO).trans (hb4.mono (hO).size)
  have hz__4 := block_below hb4 (lt_of_heap hz) hz
  refine hK4 _ _ ?_
  clear hK4 K4
  refine wp_seq_k fun KO7 hKO7 => ?_
  refine wp_seq_k fun K5 hK5 => ?_
  refine wp_plain_inv 2 (specs [Is (.bool true), Is (.bool false)]) (specs_stb ⟨Is.stb _, Is.stb _, trivial⟩) (by kernel_rfl) ?_ ?_
  · refine ⟨fun a w hB hfr hdep => Step.plain rfl (dMove (R := Is (.bool true)) rfl (hfr 6 (by kernel_rfl))),
      fun a w hB hfr hdep => Step.plain rfl (Does.run _ (run_notO rfl (hdep 0 26 (by kernel_rfl))) rfl), trivial⟩
  intro u5 hb5
  simp only [List.take, List.drop, FinAll, Act.put, List.setIfInBounds_toArray, List.set_cons_succ, List.set_cons_zero]
  rintro _ rfl _ rfl
  have hO5 := (hO4).trans (hb5.mono (hO4).size)
  have hz__5 := block_below hb5 (lt_of_heap hz__4) hz__4
  refine hK5 _ _ ?_
  clear hK5 K5
  refine wp_cond_false rfl ?_
  refine wp_skip ?_
  refine hKO7 _ _ ?_
  clear hKO7 KO7
  refine wp_seq_k fun K6 hK6 => ?_
  refine wp_plain_inv 5 (specs [DRow (l.set 31 d), Is (.bool bb), Tup2 (RPt (p.x) (p.y)) (Is (.bool true)), RPt (p.x) (p.y), Is (.bool true)]) (specs_stb ⟨DRow.stb _, Is.stb _, Tup2.stb (RPt.stb _ _) (Is.stb _), RPt.stb _ _, Is.stb _, trivial⟩) (by kernel_rfl) ?_ ?_
  · refine ⟨fun a w hB hfr hdep => Step.plain rfl (dMove (R := DRow (l.set 31 d)) rfl (use (hfr 4 (by kernel_rfl)) ((DRow.stb _) _ _ _ hB ((DRow.stb _) _ _ _ hb5 ((DRow.stb _) _ _ _ hb4 hb9))))),
      fun a w hB hfr hdep => Step.plain rfl (dMove (R := Is (.bool bb)) rfl (hfr 5 (by kernel_rfl))),
      fun a w hB hfr hdep => Step.plain rfl (Does.call 37 #[(a.eval (.tmp 29)), (a.eval (.tmp 30))] (by kernel_rfl) (rOfPtI hbp w (drow_rw hL (hdep 0 29 (by kernel_rfl))) (hdep 1 30 (by kernel_rfl)))),
      fun a w hB hfr hdep => Step.plain rfl (dExt0 rfl (hdep 2 31 (by kernel_rfl))),
      fun a w hB hfr hdep => Step.plain rfl (dExt1 rfl (hdep 2 31 (by kernel_rfl))), trivial⟩
  intro u6 hb6
  simp only [List.take, List.drop, FinAll, Act.put, List.setIfInBounds_toArray, List.set_cons_succ, List.set_cons_zero]
  rintro v29_6 h29_6 _ rfl v31_6 h31_6 _ ⟨p32_6, q32_6, rfl, x32_6, y32_6⟩ _ rfl
  have ohz__5 := block_below hb6 (lt_of_heap hz__5) hz__5
  refine wpList_store_row rfl 35 (.tmp 2) (.tmp 32) rfl _ (#[p32_6, q32_6]) rfl rfl 35 _ ohz__5 info35 rfl (rpt_one x32_6 y32_6) ?_
  refine wpList_assign rfl rfl rfl ?_
  simp only [Act.put, Act.eval, Array.getD_eq_getD_getElem?, List.getElem?_toArray, List.getElem?_cons_succ, List.getElem?_cons_zero, Option.getD_some, List.setIfInBounds_toArray, List.set_cons_succ, List.set_cons_zero]
  have xx := Rw.setRow x32_6 ohz__5 nz35 (#[p32_6, q32_6])
  have yy := Rw.setRow y32_6 ohz__5 nz35 (#[p32_6, q32_6])
  have n2_6 := setRow_heap _ _ _ (#[p32_6, q32_6]) _ _ ohz__5
  have hO6 := setRow_below (hO5.trans (hb6.mono (hO5).size)) lwm2_1 (#[p32_6, q32_6])
  refine hK6 _ _ ?_
  clear hK6 K6
  refine wp_ret ?_
  refine bodyPost_ret (v := .tuple #[.agg (#[p32_6, q32_6]), .bool true]) ?_ rfl ⟨_, rfl, hO6, ⟨_, _, rfl, ⟨_, _, rfl, xx, yy⟩, rfl⟩⟩
  exact results_cell_tmp Tryd.results12 _ _ _ 35 _ (0, 0) _ _ rfl rfl n2_6 Tryd.underlying35 rfl (by first | exact info26 | exact info29 | exact info35 | (rw [(Pt4.cells (by assumption)).1]; exact info29) | (rw [cellsP_size (by assumption)]; exact info29))
theorem rem128 (c : Nat) : Int.tmod (c : Int) 128 = ((c % 128 : Nat) : Int) := by
  rw [Int.tmod_eq_emod_of_nonneg (by omega)]; omega
theorem ge128 {c n : Nat} (hc : c < 256) (h : n / t255 = c / 128) : decide ((128 : Int) ≤ (c : Int)) = decide (n / t255 = 1) := by
  rw [decide_eq_decide, h]; omega
/-- The reference reads a point's bytes as it. -/
theorem rReadPt {v : Value} {l : List Nat} {p : Pt} (w : World) (h : Bts l v w) (hl : l.length = 32) (hd : Dig l) (hp : p.enc = valD l) : Ret 12 #[v] w (Tup2 (RPt p.x p.y) (Is (.bool true))) := by
  obtain ⟨a, cap, rfl, hc1, hc2, hv⟩ := id h
  obtain ⟨gx, off, rfl, hb⟩ := hv (by omega)
  rw [hl] at h ⊢
  obtain ⟨q1, q2, q3⟩ := high_bit hl hd
  have h3 := hd 31
  have hy : valD l % t255 = p.y.val := by rw [← hp, p.enc_y]
  have ho : valD l / t255 = p.x.val % 2 := by rw [← hp, p.enc_odd]
  have hds : Dig (l.set 31 (l.getD 31 0 % 128)) := hd.set (by omega)
  exact rReadP w h hl hd rfl h3 (ge128 h3 q1) (rem128 _) (by rw [List.length_set]; exact hl) hds (decide_eq_true (by rw [q2, hy, valPP]; exact p.y.isLt)) (digs_of hds (by rw [List.length_set]; exact hl) (by rw [q2, hy])) (by rw [ho])
theorem rReadErr {v : Value} {l : List Nat} (w : World) (h : Bts l v w) (hl : l.length = 32) (hd : Dig l) (hno : ¬ ∃ p : Pt, p.enc = valD l) : Ret 12 #[v] w (Tup2 (Is (.agg #[.slice none 0 0, .slice none 0 0])) (Is (.bool false))) := by
  obtain ⟨a, cap, rfl, hc1, hc2, hv⟩ := id h
  obtain ⟨gx, off, rfl, hb⟩ := hv (by omega)
  rw [hl] at h ⊢
  obtain ⟨q1, q2, q3⟩ := high_bit hl hd
  have h3 := hd 31
  have hds : Dig (l.set 31 (l.getD 31 0 % 128)) := hd.set (by omega)
  have hls : (l.set 31 (l.getD 31 0 % 128)).length = 32 := by rw [List.length_set]; exact hl
  have hn2 : valD l / t255 < 2 := by rw [q1]; omega
  by_cases c1 : valD l % t255 < pp
  · refine rReadE w h hl hd rfl h3 (ge128 h3 q1) (rem128 _) hls hds (y := fe (valD l % t255)) (decide_eq_true (by rw [q2, valPP]; exact c1)) (digs_of hds hls (by rw [q2, fe_val, Nat.mod_eq_of_lt c1])) ?_
    rintro ⟨p, hy, hb⟩
    refine hno ⟨p, ?_⟩
    unfold Pt.enc
    rw [hy, fe_val, Nat.mod_eq_of_lt c1]
    have : p.x.val % 2 = valD l / t255 := by
      rw [decide_eq_decide] at hb
      omega
    rw [this, Nat.mod_add_div]
  · exact rReadA w h hl hd rfl h3 (ge128 h3 q1) (rem128 _) hls hds (decide_eq_false (by rw [q2, valPP]; exact c1))
end Go.Proofs.YtpfcboakafbnlaaDoor
