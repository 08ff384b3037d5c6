/-
  The reference of JSON: Is, on. Values of JSON whose blocks are told; what is cut. The reference of JSON: Cut.
-/
import Derived.Test.YtljgnpneeecafaaDoorC1
import Derived.Deep.AppendLies
set_option linter.unusedVariables false
namespace Go.Proofs.YtljgnpneeecafaaDoor
open Go.RowKit Go.Sort Go.BigFrame
set_option maxRecDepth 100000
set_option maxHeartbeats 4000000
theorem is4 {n : Nat} (ih : IsC n) (d : Nat) (m : Int) (t : List Nat) (ns : List (List Nat)) (ks : List (J n)) (v : Value) (w : World) (hd : d < n + 1) (hd2 : d ≤ 1000) (ht : TxtJ 1000000000 (n + 1) (⟨4, m, t, ns, ks⟩ : JN (J n))) (hv : JV (n := n + 1) (⟨4, m, t, ns, ks⟩ : JN (J n)) v w) :
    Ret 9 #[v, .int .i64 (d : Int)] w (Tells (IsJ (n + 1) d (⟨4, m, t, ns, ks⟩ : JN (J n)))) := by
  obtain ⟨_, rfl, _, s, nv, kv, rfl, hs, hn, hk, _, hm⟩ := hv
  obtain ⟨na, nc, rfl, ln1, ln2, hnc⟩ := hn
  obtain ⟨ka, kc, rfl, lk1, lk2, hkc⟩ := hk
  obtain ⟨htt, htn, htk⟩ := ht
  have htt : t.length ≤ 1000000000 := htt
  have htn : ∀ x ∈ ns, x.length ≤ 1000000000 := htn
  have htk : ∀ k ∈ ks, TxtJ 1000000000 n k := htk
  have hs : Str s t := hs
  have hm : -9223372036854775808 ≤ m ∧ m ≤ 9223372036854775807 := hm
  have hsz : s.size ≤ 9223372036854775807 := by rw [hs.size]; omega
  show Ret _ #[.agg #[.int .i64 4, .int .i64 m, .string s, .slice na ns.length nc, .slice ka ks.length kc], .int .i64 (d : Int)] w _
  dsimp only at hnc hkc ln1 ln2 lk1 lk2
  obtain ⟨I, hI⟩ : ∃ I, I = IsJ (n + 1) d (⟨4, m, t, ns, ks⟩ : JN (J n)) := ⟨_, rfl⟩
  rw [← hI]
  have hI2 : I = ((0 ≤ (4 : Int) ∧ (4 : Int) ≤ 5 ∧ (d = 0 → (4 : Int) ≤ 3)) ∧ ((4 : Int) ≠ 3 → t = []) ∧ ((4 : Int) ≠ 5 → ns.length = 0) ∧ ((4 : Int) ≠ 5 → (4 : Int) ≠ 4 → ks.length = 0) ∧
    ((4 : Int) = 2 → -1000000000000000 ≤ m ∧ m ≤ 1000000000000000) ∧ ((4 : Int) = 1 → m = 0 ∨ m = 1) ∧
    ((4 : Int) ≠ 2 → (4 : Int) ≠ 1 → m = 0 ∧ ((4 : Int) = 5 → ns.length = ks.length) ∧ NamesOk t ns ns.length ∧ ∀ k ∈ ks, IsJ n (d - 1) k)) := hI
  clear hI
  obtain ⟨N, hN⟩ : ∃ x, x = ns.length := ⟨_, rfl⟩
  obtain ⟨K, hK⟩ : ∃ x, x = ks.length := ⟨_, rfl⟩
  rw [← hN, ← hK] at hI2
  rw [← hK] at lk1 ⊢
  rw [← hN] at ln1 ⊢
  have bN : N ≤ 9223372036854775807 := Nat.le_trans ln1 ln2
  have bK : K ≤ 9223372036854775807 := Nat.le_trans lk1 lk2
  have HN : Hid (N = ns.length) := hN
  have HK : Hid (K = ks.length) := hK
  have hst := nonempty_str hs
  have B0 : Below w.heap.size w (w.alloc (.cells #[.int .i64 4, .int .i64 m, .string s, .slice na N nc, .slice ka K kc] 25)) := below1 _ _
  have X0 : BoxJ (w.alloc (.cells #[.int .i64 4, .int .i64 m, .string s, .slice na N nc, .slice ka K kc] 25)) w.heap.size 4 m s (.slice na N nc) (.slice ka K kc) := heap_alloc_new _ _
  have HX : Hid _ := X0
  clear X0 hN hK ln1 ln2 lk1 lk2
  unfold Ret
  by_cases hd0 : d = 0
  · subst hd0
    have hR : ¬ I := by rw [hI2]; simp
    have HR : Hid _ := hR
    clear hR hI2 ih hs hkc hnc HX htt htn htk HN HK hsz hm hd bN bK
    go_enter Tryd.func9, Tryd.ntmps9
    go_wp2
    go_ret
    exact ⟨_, rfl, B0, Tells.no HR.out⟩
  have hd0b : ((d : Int) == 0) = false := kind_ne (by omega)
  by_cases hte : t = []
  case neg =>
    rw [decide_eq_false hte] at hst
    have hR : ¬ I := by rw [hI2]; simp [hte]
    have HR : Hid _ := hR
    clear hR hI2 ih hs hkc hnc HX htt htn htk HN HK hsz hm hd bN bK
    go_enter Tryd.func9, Tryd.ntmps9
    go_wp2
    go_ret
    exact ⟨_, rfl, B0, Tells.no HR.out⟩
  rw [decide_eq_true hte] at hst
  have HTE : Hid (t = []) := hte
  clear hte
  by_cases hN0 : N = 0
  case neg =>
    have hNi : (0 : Int) < (N : Int) := by omega
    have hR : ¬ I := by rw [hI2]; simp [hN0]
    have HR : Hid _ := hR
    clear hR hI2 ih hs hkc hnc HX htt htn htk HN HK hsz hm hd bN bK
    go_enter Tryd.func9, Tryd.ntmps9
    go_wp2
    go_ret
    exact ⟨_, rfl, B0, Tells.no HR.out⟩
  have hNi : ¬ (0 : Int) < (N : Int) := by omega
  have HN0 : Hid (N = 0) := hN0
  clear hN0
  by_cases hm0 : m = 0
  case neg =>
    have hmi := kind_ne hm0
    have hR : ¬ I := by rw [hI2]; simp [hm0]
    have HR : Hid _ := hR
    clear hR hI2 ih hs hkc hnc HX htt htn htk HN HK hsz hm hd bN bK
    go_enter Tryd.func9, Tryd.ntmps9
    go_wp2
    go_ret
    exact ⟨_, rfl, B0, Tells.no HR.out⟩
  subst hm0
  have HI : Hid (I ↔ (NamesOk t ns N ∧ ∀ i (h : i < ks.length), IsJ n (d - 1) (ks[i]'h))) := by
    show _ ↔ _
    rw [hI2, ← all_at (P := IsJ n (d - 1))]
    simp [hd0, HTE.out, HN0.out]
  clear hI2
  go_enter Tryd.func9, Tryd.ntmps9
  go_wp2_with fail
  refine (letters14 _ hs hsz).mono ?_
  rintro e w1 ⟨rfl, rfl⟩
  go_wp2_with fail
  go_loopw [5, 6] (fun o i wr => ∃ k : Nat, k ≤ N ∧ i = .int .i64 k ∧ Below w.heap.size w wr ∧ BoxJ wr w.heap.size 4 0 s (.slice na N nc) (.slice ka K kc) ∧ Tells (NamesOk t ns k) o wr) (fun _ i _ => N - (intOf i).toNat)
  case atStart => exact ⟨0, by omega, rfl, B0, HX.out, _, rfl, by simp [NamesOk]⟩
  case round =>
    obtain ⟨k, hk, rfl, hB, hX, c, rfl, hc⟩ := hrel
    have c3' := hX.cell 3
    have HXa : Hid _ := hX
    have HC : Hid _ := hc
    clear hc hX HX hst
    by_cases hlt : k < N
    · have := HN0.out
      omega
    · obtain rfl : N = k := by omega
      go_wp2_with fail
      go_loopw [5, 9] (fun o i wr => ∃ k : Nat, k ≤ K ∧ i = .int .i64 k ∧ Below w.heap.size w wr ∧ BoxJ wr w.heap.size 4 0 s (.slice na N nc) (.slice ka K kc) ∧ Tells (NamesOk t ns N ∧ ∀ i (h : i < ks.length), i < k → IsJ n (d - 1) (ks[i]'h)) o wr) (fun _ i _ => K - (intOf i).toNat)
      case atStart => exact ⟨0, by omega, rfl, hB, HXa.out, _, rfl, by have h := HC.out; simpa using h⟩
      case round =>
        obtain ⟨k, hk, rfl, hB2, hX2, c2, rfl, hc2⟩ := hrel
        have e4 := hX2.cell 4
        have HC2 : Hid _ := hc2
        clear hc2 c3' HC HXa
        by_cases hlt2 : k < K
        · cases c2 with
          | false =>
            have hR : Tells I (.bool false) wr := Tells.no (fun h => by
              obtain ⟨h1, h2⟩ := HI.out.1 h
              have := HC2.out.2 ⟨h1, fun i h _ => h2 i h⟩
              cases this)
            go_wp2
            go_ret
            exact ⟨_, rfl, hB2, hR⟩
          | true =>
            have l1 : k < ks.length := by rw [← HK.out]; exact hlt2
            obtain ⟨b1, o1, rfl, hc1⟩ := hkc (by omega)
            obtain ⟨cs, hx1, hS1⟩ := hc1 k l1
            have htk1 := htk _ (List.getElem_mem l1)
            obtain ⟨j1, hj1⟩ : ∃ j, j = ks[k]'l1 := ⟨_, rfl⟩
            rw [← hj1] at hS1 htk1
            have HJ1 : Hid (j1 = ks[k]'l1) := hj1
            have hx2 := hx1.below hB2
            have hS2 := JC.below _ _ _ _ _ hB2 hS1
            have hjv : JV j1 (.agg cs.toArray) wr := ⟨cs, rfl, hx2.1, hS2⟩
            obtain ⟨d0, d1, d2, d3, d4, rfl⟩ : ∃ d0 d1 d2 d3 d4, cs = [d0, d1, d2, d3, d4] := by
              match cs, hx2.1 with
              | [d0, d1, d2, d3, d4], _ => exact ⟨d0, d1, d2, d3, d4, rfl⟩
            have g0 : wr.cell? ⟨b1, o1 + k * 5, none⟩ = some d0 := hx2.2 0 (by decide)
            have g1 : wr.cell? ⟨b1, o1 + k * 5 + 1, none⟩ = some d1 := hx2.2 1 (by decide)
            have g2 : wr.cell? ⟨b1, o1 + k * 5 + 2, none⟩ = some d2 := hx2.2 2 (by decide)
            have g3 : wr.cell? ⟨b1, o1 + k * 5 + 3, none⟩ = some d3 := hx2.2 3 (by decide)
            have g4 : wr.cell? ⟨b1, o1 + k * 5 + 4, none⟩ = some d4 := hx2.2 4 (by decide)
            have hjv : JV j1 (.agg #[d0, d1, d2, d3, d4]) wr := hjv
            have hcall : Ret 9 #[.agg #[d0, d1, d2, d3, d4], .int .i64 ((d : Int) - 1)] wr (Tells (IsJ n (d - 1) j1)) := by
              rw [show (d : Int) - 1 = ((d - 1 : Nat) : Int) by omega]
              exact ih (d - 1) j1 _ wr (by omega) (by omega) htk1 hjv
            clear hj1 hc1 hx1 hS1 hx2 hS2 hjv htk1
            go_wp2_with fail
            refine hcall.mono ?_
            rintro e w3 ⟨v, rfl, hB3, c4, rfl, hc4⟩
            have HC4 : Hid _ := hc4
            have hB4 := hB2.trans (hB3.mono hB2.size)
            have hX4 := hX2.below hB3
            clear hX2 hc4 e4 g0 g1 g2 g3 g4 hcall
            go_wp2
            refine ⟨⟨k + 1, by omega, by go_num, hB4, hX4, c4, rfl, ?_⟩, by simp [intOf]; omega⟩
            rw [HC4.out]
            have h2 := HC2.out
            constructor
            · intro h
              obtain ⟨h3, h4⟩ := h2.1 (by trivial)
              refine ⟨h3, fun i h5 h6 => ?_⟩
              by_cases hik : i = k
              · subst hik; rw [← HJ1.out]; exact h
              · exact h4 i h5 (by omega)
            · rintro ⟨h3, h4⟩
              have := h4 k l1 (by omega)
              rwa [← HJ1.out] at this
        · obtain rfl : K = k := by omega
          have hR : Tells I (.bool c2) wr := ⟨c2, rfl, by
            have h1 := HC2.out
            have h2 := HI.out
            rw [h1, h2]
            constructor
            · rintro ⟨h3, h4⟩; exact ⟨h3, fun i h => h4 i h (by rw [HK.out]; exact h)⟩
            · rintro ⟨h3, h4⟩; exact ⟨h3, fun i h _ => h4 i h⟩⟩
          go_wp2
          go_ret
          exact ⟨_, rfl, hB2, hR⟩
theorem is5 {n : Nat} (ih : IsC n) (d : Nat) (m : Int) (t : List Nat) (ns : List (List Nat)) (ks : List (J n)) (v : Value) (w : World) (hd : d < n + 1) (hd2 : d ≤ 1000) (ht : TxtJ 1000000000 (n + 1) (⟨5, m, t, ns, ks⟩ : JN (J n))) (hv : JV (n := n + 1) (⟨5, m, t, ns, ks⟩ : JN (J n)) v w) :
    Ret 9 #[v, .int .i64 (d : Int)] w (Tells (IsJ (n + 1) d (⟨5, m, t, ns, ks⟩ : JN (J n)))) := by
  obtain ⟨_, rfl, _, s, nv, kv, rfl, hs, hn, hk, _, hm⟩ := hv
  obtain ⟨na, nc, rfl, ln1, ln2, hnc⟩ := hn
  obtain ⟨ka, kc, rfl, lk1, lk2, hkc⟩ := hk
  obtain ⟨htt, htn, htk⟩ := ht
  have htt : t.length ≤ 1000000000 := htt
  have htn : ∀ x ∈ ns, x.length ≤ 1000000000 := htn
  have htk : ∀ k ∈ ks, TxtJ 1000000000 n k := htk
  have hs : Str s t := hs
  have hm : -9223372036854775808 ≤ m ∧ m ≤ 9223372036854775807 := hm
  have hsz : s.size ≤ 9223372036854775807 := by rw [hs.size]; omega
  show Ret _ #[.agg #[.int .i64 5, .int .i64 m, .string s, .slice na ns.length nc, .slice ka ks.length kc], .int .i64 (d : Int)] w _
  dsimp only at hnc hkc ln1 ln2 lk1 lk2
  obtain ⟨I, hI⟩ : ∃ I, I = IsJ (n + 1) d (⟨5, m, t, ns, ks⟩ : JN (J n)) := ⟨_, rfl⟩
  rw [← hI]
  have hI2 : I = ((0 ≤ (5 : Int) ∧ (5 : Int) ≤ 5 ∧ (d = 0 → (5 : Int) ≤ 3)) ∧ ((5 : Int) ≠ 3 → t = []) ∧ ((5 : Int) ≠ 5 → ns.length = 0) ∧ ((5 : Int) ≠ 5 → (5 : Int) ≠ 4 → ks.length = 0) ∧
    ((5 : Int) = 2 → -1000000000000000 ≤ m ∧ m ≤ 1000000000000000) ∧ ((5 : Int) = 1 → m = 0 ∨ m = 1) ∧
    ((5 : Int) ≠ 2 → (5 : Int) ≠ 1 → m = 0 ∧ ((5 : Int) = 5 → ns.length = ks.length) ∧ NamesOk t ns ns.length ∧ ∀ k ∈ ks, IsJ n (d - 1) k)) := hI
  clear hI
  obtain ⟨N, hN⟩ : ∃ x, x = ns.length := ⟨_, rfl⟩
  obtain ⟨K, hK⟩ : ∃ x, x = ks.length := ⟨_, rfl⟩
  rw [← hN, ← hK] at hI2
  rw [← hK] at lk1 ⊢
  rw [← hN] at ln1 ⊢
  have bN : N ≤ 9223372036854775807 := Nat.le_trans ln1 ln2
  have bK : K ≤ 9223372036854775807 := Nat.le_trans lk1 lk2
  have HN : Hid (N = ns.length) := hN
  have HK : Hid (K = ks.length) := hK
  have hst := nonempty_str hs
  have B0 : Below w.heap.size w (w.alloc (.cells #[.int .i64 5, .int .i64 m, .string s, .slice na N nc, .slice ka K kc] 25)) := below1 _ _
  have X0 : BoxJ (w.alloc (.cells #[.int .i64 5, .int .i64 m, .string s, .slice na N nc, .slice ka K kc] 25)) w.heap.size 5 m s (.slice na N nc) (.slice ka K kc) := heap_alloc_new _ _
  have HX : Hid _ := X0
  clear X0 hN hK ln1 ln2 lk1 lk2
  unfold Ret
  by_cases hd0 : d = 0
  · subst hd0
    have hR : ¬ I := by rw [hI2]; simp
    have HR : Hid _ := hR
    clear hR hI2 ih hs hkc hnc HX htt htn htk HN HK hsz hm hd bN bK
    go_enter Tryd.func9, Tryd.ntmps9
    go_wp2
    go_ret
    exact ⟨_, rfl, B0, Tells.no HR.out⟩
  have hd0b : ((d : Int) == 0) = false := kind_ne (by omega)
  by_cases hte : t = []
  case neg =>
    rw [decide_eq_false hte] at hst
    have hR : ¬ I := by rw [hI2]; simp [hte]
    have HR : Hid _ := hR
    clear hR hI2 ih hs hkc hnc HX htt htn htk HN HK hsz hm hd bN bK
    go_enter Tryd.func9, Tryd.ntmps9
    go_wp2
    go_ret
    exact ⟨_, rfl, B0, Tells.no HR.out⟩
  rw [decide_eq_true hte] at hst
  have HTE : Hid (t = []) := hte
  clear hte
  by_cases hm0 : m = 0
  case neg =>
    have hmi := kind_ne hm0
    have hR : ¬ I := by rw [hI2]; simp [hm0]
    have HR : Hid _ := hR
    clear hR hI2 ih hs hkc hnc HX htt htn htk HN HK hsz hm hd bN bK
    go_enter Tryd.func9, Tryd.ntmps9
    go_wp2
    go_ret
    exact ⟨_, rfl, B0, Tells.no HR.out⟩
  subst hm0
  by_cases hNK : N = K
  case neg =>
    have hNKi : ((N : Int) == (K : Int)) = false := kind_ne (by omega)
    have hR : ¬ I := by rw [hI2]; simp [hNK]
    have HR : Hid _ := hR
    clear hR hI2 ih hs hkc hnc HX htt htn htk HN HK hsz hm hd bN bK
    go_enter Tryd.func9, Tryd.ntmps9
    go_wp2
    go_ret
    exact ⟨_, rfl, B0, Tells.no HR.out⟩
  subst hNK
  have HI : Hid (I ↔ (NamesOk t ns N ∧ ∀ i (h : i < ks.length), IsJ n (d - 1) (ks[i]'h))) := by
    show _ ↔ _
    rw [hI2, ← all_at (P := IsJ n (d - 1))]
    simp [hd0, HTE.out]
  clear hI2
  go_enter Tryd.func9, Tryd.ntmps9
  go_wp2_with fail
  refine (letters14 _ hs hsz).mono ?_
  rintro e w1 ⟨rfl, rfl⟩
  go_wp2_with fail
  go_loopw [5, 6] (fun o i wr => ∃ k : Nat, k ≤ N ∧ i = .int .i64 k ∧ Below w.heap.size w wr ∧ BoxJ wr w.heap.size 5 0 s (.slice na N nc) (.slice ka N kc) ∧ Tells (NamesOk t ns k) o wr) (fun _ i _ => N - (intOf i).toNat)
  case atStart => exact ⟨0, by omega, rfl, B0, HX.out, _, rfl, by simp [NamesOk]⟩
  case round =>
    obtain ⟨k, hk, rfl, hB, hX, c, rfl, hc⟩ := hrel
    have c3' := hX.cell 3
    have HXa : Hid _ := hX
    have HC : Hid _ := hc
    clear hc hX HX hst
    by_cases hlt : k < N
    · obtain ⟨b2, o2, rfl, hc2⟩ := hnc (by rw [← HN.out]; omega)
      obtain ⟨x, hx, hS⟩ := hc2 k (by rw [← HN.out]; exact hlt)
      have hkl : k < ns.length := by rw [← HN.out]; exact hlt
      have hxl : (ns.getD k []).length ≤ 1000000000 := by
        rw [show ns.getD k [] = ns[k]'hkl by simp [hkl]]
        exact htn _ (List.getElem_mem _)
      have d3 := (hB.cell (p := ⟨b2, o2 + k, none⟩) (block_lt_of_cell hx)).trans hx
      have hxs : x.size ≤ 9223372036854775807 := by rw [hS.size]; omega
      have HD : Hid _ := (⟨hx, hS⟩ : _ ∧ _)
      clear hx hkl
      go_wp2_with fail
      refine (letters14 _ hS hxs).mono ?_
      rintro e w1 ⟨rfl, rfl⟩
      clear hS hxs hxl
      rcases Bool.eq_false_or_eq_true c with hcc | hcc <;> rcases Bool.eq_false_or_eq_true (lettersB (ns.getD k [])) with hqq | hqq
      · subst hcc
        have HQ : Hid (((true : Bool) = true) ↔ (NamesOk t ns k ∧ lettersB (ns.getD k []) = true)) := by
          have h := HC.out
          show _ ↔ _
          rw [hqq]
          simpa using h
        rw [hqq]
        clear hqq HC
        go_wp2_with fail
        go_loopw [5, 8] (fun o i wr => ∃ l : Nat, l ≤ k ∧ i = .int .i64 l ∧ Below w.heap.size w wr ∧ BoxJ wr w.heap.size 5 0 s (.slice (some ⟨b2, o2, none⟩) N nc) (.slice ka N kc) ∧ Tells ((NamesOk t ns k ∧ lettersB (ns.getD k []) = true) ∧ ∀ q, q < l → ns.getD q [] ≠ ns.getD k []) o wr) (fun _ i _ => k - (intOf i).toNat)
        case atStart => exact ⟨0, by omega, rfl, hB, HXa.out, _, rfl, by have h := HQ.out; simpa using h⟩
        case round =>
          obtain ⟨l, hl, rfl, hB3, hX3, c3, rfl, hc3⟩ := hrel
          have e3 := hX3.cell 3
          have HX3 : Hid _ := hX3
          have HC3 : Hid _ := hc3
          have d4 := (hB3.cell (p := ⟨b2, o2 + k, none⟩) (block_lt_of_cell HD.out.1)).trans HD.out.1
          clear hX3 hc3 d3 c3'
          by_cases hlk : l < k
          · obtain ⟨y, hy, hSy⟩ := hc2 l (by rw [← HN.out]; omega)
            have d5 := (hB3.cell (p := ⟨b2, o2 + l, none⟩) (block_lt_of_cell hy)).trans hy
            have hlN : l < N := by omega
            have hne := str_eq_iff hSy HD.out.2
            clear hy
            cases c3 with
            | false =>
              clear hne
              go_wp2_with fail
              go_region
              go_wp2
              go_roundw
              case rel => exact ⟨l + 1, by omega, by go_num, hB3.drew, HX3.out, false, rfl, by
                have h := HC3.out
                constructor
                · intro h2; cases h2
                · rintro ⟨h1, h2⟩
                  have := h.2 ⟨h1, fun q hq => h2 q (by omega)⟩
                  cases this⟩
              case measure => simp [intOf]; omega
            | true =>
              by_cases hyk : ns.getD l [] = ns.getD k []
              · rw [decide_eq_true hyk] at hne
                have HYK : Hid _ := hyk
                clear hyk
                go_wp2_with fail
                go_region
                go_wp2
                go_roundw
                case rel => exact ⟨l + 1, by omega, by go_num, hB3.drew, HX3.out, false, rfl, by
                  constructor
                  · intro h2; cases h2
                  · rintro ⟨h1, h2⟩
                    exact absurd HYK.out (h2 l (by omega))⟩
                case measure => simp [intOf]; omega
              · rw [decide_eq_false hyk] at hne
                have HYK : Hid _ := hyk
                clear hyk
                go_wp2_with fail
                go_region
                go_wp2
                go_roundw
                case rel => exact ⟨l + 1, by omega, by go_num, hB3.drew, HX3.out, true, rfl, by
                  have h := HC3.out
                  constructor
                  · intro _
                    obtain ⟨h1, h2⟩ := h.1 (by trivial)
                    refine ⟨h1, fun q hq => ?_⟩
                    by_cases hql : q = l
                    · subst hql; exact HYK.out
                    · exact h2 q (by omega)
                  · intro _; trivial⟩
                case measure => simp [intOf]; omega
          · obtain rfl : k = l := by omega
            go_wp2
            exact ⟨⟨k + 1, by omega, by go_num, hB3, HX3.out, c3, rfl, by rw [HC3.out, namesOk_succ]⟩, by simp [intOf]; omega⟩
      · subst hcc
        have HQ : Hid (((false : Bool) = true) ↔ (NamesOk t ns k ∧ lettersB (ns.getD k []) = true)) := by
          have h := HC.out
          show _ ↔ _
          rw [hqq]
          simp
        rw [hqq]
        clear hqq HC
        go_wp2_with fail
        go_loopw [5, 8] (fun o i wr => ∃ l : Nat, l ≤ k ∧ i = .int .i64 l ∧ Below w.heap.size w wr ∧ BoxJ wr w.heap.size 5 0 s (.slice (some ⟨b2, o2, none⟩) N nc) (.slice ka N kc) ∧ Tells ((NamesOk t ns k ∧ lettersB (ns.getD k []) = true) ∧ ∀ q, q < l → ns.getD q [] ≠ ns.getD k []) o wr) (fun _ i _ => k - (intOf i).toNat)
        case atStart => exact ⟨0, by omega, rfl, hB, HXa.out, _, rfl, by have h := HQ.out; simpa using h⟩
        case round =>
          obtain ⟨l, hl, rfl, hB3, hX3, c3, rfl, hc3⟩ := hrel
          have e3 := hX3.cell 3
          have HX3 : Hid _ := hX3
          have HC3 : Hid _ := hc3
          have d4 := (hB3.cell (p := ⟨b2, o2 + k, none⟩) (block_lt_of_cell HD.out.1)).trans HD.out.1
          clear hX3 hc3 d3 c3'
          by_cases hlk : l < k
          · obtain ⟨y, hy, hSy⟩ := hc2 l (by rw [← HN.out]; omega)
            have d5 := (hB3.cell (p := ⟨b2, o2 + l, none⟩) (block_lt_of_cell hy)).trans hy
            have hlN : l < N := by omega
            have hne := str_eq_iff hSy HD.out.2
            clear hy
            cases c3 with
            | false =>
              clear hne
              go_wp2_with fail
              go_region
              go_wp2
              go_roundw
              case rel => exact ⟨l + 1, by omega, by go_num, hB3.drew, HX3.out, false, rfl, by
                have h := HC3.out
                constructor
                · intro h2; cases h2
                · rintro ⟨h1, h2⟩
                  have := h.2 ⟨h1, fun q hq => h2 q (by omega)⟩
                  cases this⟩
              case measure => simp [intOf]; omega
            | true =>
              by_cases hyk : ns.getD l [] = ns.getD k []
              · rw [decide_eq_true hyk] at hne
                have HYK : Hid _ := hyk
                clear hyk
                go_wp2_with fail
                go_region
                go_wp2
                go_roundw
                case rel => exact ⟨l + 1, by omega, by go_num, hB3.drew, HX3.out, false, rfl, by
                  constructor
                  · intro h2; cases h2
                  · rintro ⟨h1, h2⟩
                    exact absurd HYK.out (h2 l (by omega))⟩
                case measure => simp [intOf]; omega
              · rw [decide_eq_false hyk] at hne
                have HYK : Hid _ := hyk
                clear hyk
                go_wp2_with fail
                go_region
                go_wp2
                go_roundw
                case rel => exact ⟨l + 1, by omega, by go_num, hB3.drew, HX3.out, true, rfl, by
                  have h := HC3.out
                  constructor
                  · intro _
                    obtain ⟨h1, h2⟩ := h.1 (by trivial)
                    refine ⟨h1, fun q hq => ?_⟩
                    by_cases hql : q = l
                    · subst hql; exact HYK.out
                    · exact h2 q (by omega)
                  · intro _; trivial⟩
                case measure => simp [intOf]; omega
          · obtain rfl : k = l := by omega
            go_wp2
            exact ⟨⟨k + 1, by omega, by go_num, hB3, HX3.out, c3, rfl, by rw [HC3.out, namesOk_succ]⟩, by simp [intOf]; omega⟩
      · subst hcc
        have HQ : Hid (((false : Bool) = true) ↔ (NamesOk t ns k ∧ lettersB (ns.getD k []) = true)) := by
          have h := HC.out
          show _ ↔ _
          rw [hqq]
          simpa using h
        rw [hqq]
        clear hqq HC
        go_wp2_with fail
        go_loopw [5, 8] (fun o i wr => ∃ l : Nat, l ≤ k ∧ i = .int .i64 l ∧ Below w.heap.size w wr ∧ BoxJ wr w.heap.size 5 0 s (.slice (some ⟨b2, o2, none⟩) N nc) (.slice ka N kc) ∧ Tells ((NamesOk t ns k ∧ lettersB (ns.getD k []) = true) ∧ ∀ q, q < l → ns.getD q [] ≠ ns.getD k []) o wr) (fun _ i _ => k - (intOf i).toNat)
        case atStart => exact ⟨0, by omega, rfl, hB, HXa.out, _, rfl, by have h := HQ.out; simpa using h⟩
        case round =>
          obtain ⟨l, hl, rfl, hB3, hX3, c3, rfl, hc3⟩ := hrel
          have e3 := hX3.cell 3
          have HX3 : Hid _ := hX3
          have HC3 : Hid _ := hc3
          have d4 := (hB3.cell (p := ⟨b2, o2 + k, none⟩) (block_lt_of_cell HD.out.1)).trans HD.out.1
          clear hX3 hc3 d3 c3'
          by_cases hlk : l < k
          · obtain ⟨y, hy, hSy⟩ := hc2 l (by rw [← HN.out]; omega)
            have d5 := (hB3.cell (p := ⟨b2, o2 + l, none⟩) (block_lt_of_cell hy)).trans hy
            have hlN : l < N := by omega
            have hne := str_eq_iff hSy HD.out.2
            clear hy
            cases c3 with
            | false =>
              clear hne
              go_wp2_with fail
              go_region
              go_wp2
              go_roundw
              case rel => exact ⟨l + 1, by omega, by go_num, hB3.drew, HX3.out, false, rfl, by
                have h := HC3.out
                constructor
                · intro h2; cases h2
                · rintro ⟨h1, h2⟩
                  have := h.2 ⟨h1, fun q hq => h2 q (by omega)⟩
                  cases this⟩
              case measure => simp [intOf]; omega
            | true =>
              by_cases hyk : ns.getD l [] = ns.getD k []
              · rw [decide_eq_true hyk] at hne
                have HYK : Hid _ := hyk
                clear hyk
                go_wp2_with fail
                go_region
                go_wp2
                go_roundw
                case rel => exact ⟨l + 1, by omega, by go_num, hB3.drew, HX3.out, false, rfl, by
                  constructor
                  · intro h2; cases h2
                  · rintro ⟨h1, h2⟩
                    exact absurd HYK.out (h2 l (by omega))⟩
                case measure => simp [intOf]; omega
              · rw [decide_eq_false hyk] at hne
                have HYK : Hid _ := hyk
                clear hyk
                go_wp2_with fail
                go_region
                go_wp2
                go_roundw
                case rel => exact ⟨l + 1, by omega, by go_num, hB3.drew, HX3.out, true, rfl, by
                  have h := HC3.out
                  constructor
                  · intro _
                    obtain ⟨h1, h2⟩ := h.1 (by trivial)
                    refine ⟨h1, fun q hq => ?_⟩
                    by_cases hql : q = l
                    · subst hql; exact HYK.out
                    · exact h2 q (by omega)
                  · intro _; trivial⟩
                case measure => simp [intOf]; omega
          · obtain rfl : k = l := by omega
            go_wp2
            exact ⟨⟨k + 1, by omega, by go_num, hB3, HX3.out, c3, rfl, by rw [HC3.out, namesOk_succ]⟩, by simp [intOf]; omega⟩
      · subst hcc
        have HQ : Hid (((false : Bool) = true) ↔ (NamesOk t ns k ∧ lettersB (ns.getD k []) = true)) := by
          have h := HC.out
          show _ ↔ _
          rw [hqq]
          simp
        rw [hqq]
        clear hqq HC
        go_wp2_with fail
        go_loopw [5, 8] (fun o i wr => ∃ l : Nat, l ≤ k ∧ i = .int .i64 l ∧ Below w.heap.size w wr ∧ BoxJ wr w.heap.size 5 0 s (.slice (some ⟨b2, o2, none⟩) N nc) (.slice ka N kc) ∧ Tells ((NamesOk t ns k ∧ lettersB (ns.getD k []) = true) ∧ ∀ q, q < l → ns.getD q [] ≠ ns.getD k []) o wr) (fun _ i _ => k - (intOf i).toNat)
        case atStart => exact ⟨0, by omega, rfl, hB, HXa.out, _, rfl, by have h := HQ.out; simpa using h⟩
        case round =>
          obtain ⟨l, hl, rfl, hB3, hX3, c3, rfl, hc3⟩ := hrel
          have e3 := hX3.cell 3
          have HX3 : Hid _ := hX3
          have HC3 : Hid _ := hc3
          have d4 := (hB3.cell (p := ⟨b2, o2 + k, none⟩) (block_lt_of_cell HD.out.1)).trans HD.out.1
          clear hX3 hc3 d3 c3'
          by_cases hlk : l < k
          · obtain ⟨y, hy, hSy⟩ := hc2 l (by rw [← HN.out]; omega)
            have d5 := (hB3.cell (p := ⟨b2, o2 + l, none⟩) (block_lt_of_cell hy)).trans hy
            have hlN : l < N := by omega
            have hne := str_eq_iff hSy HD.out.2
            clear hy
            cases c3 with
            | false =>
              clear hne
              go_wp2_with fail
              go_region
              go_wp2
              go_roundw
              case rel => exact ⟨l + 1, by omega, by go_num, hB3.drew, HX3.out, false, rfl, by
                have h := HC3.out
                constructor
                · intro h2; cases h2
                · rintro ⟨h1, h2⟩
                  have := h.2 ⟨h1, fun q hq => h2 q (by omega)⟩
                  cases this⟩
              case measure => simp [intOf]; omega
            | true =>
              by_cases hyk : ns.getD l [] = ns.getD k []
              · rw [decide_eq_true hyk] at hne
                have HYK : Hid _ := hyk
                clear hyk
                go_wp2_with fail
                go_region
                go_wp2
                go_roundw
                case rel => exact ⟨l + 1, by omega, by go_num, hB3.drew, HX3.out, false, rfl, by
                  constructor
                  · intro h2; cases h2
                  · rintro ⟨h1, h2⟩
                    exact absurd HYK.out (h2 l (by omega))⟩
                case measure => simp [intOf]; omega
              · rw [decide_eq_false hyk] at hne
                have HYK : Hid _ := hyk
                clear hyk
                go_wp2_with fail
                go_region
                go_wp2
                go_roundw
                case rel => exact ⟨l + 1, by omega, by go_num, hB3.drew, HX3.out, true, rfl, by
                  have h := HC3.out
                  constructor
                  · intro _
                    obtain ⟨h1, h2⟩ := h.1 (by trivial)
                    refine ⟨h1, fun q hq => ?_⟩
                    by_cases hql : q = l
                    · subst hql; exact HYK.out
                    · exact h2 q (by omega)
                  · intro _; trivial⟩
                case measure => simp [intOf]; omega
          · obtain rfl : k = l := by omega
            go_wp2
            exact ⟨⟨k + 1, by omega, by go_num, hB3, HX3.out, c3, rfl, by rw [HC3.out, namesOk_succ]⟩, by simp [intOf]; omega⟩
    · obtain rfl : N = k := by omega
      go_wp2_with fail
      go_loopw [5, 9] (fun o i wr => ∃ k : Nat, k ≤ N ∧ i = .int .i64 k ∧ Below w.heap.size w wr ∧ BoxJ wr w.heap.size 5 0 s (.slice na N nc) (.slice ka N kc) ∧ Tells (NamesOk t ns N ∧ ∀ i (h : i < ks.length), i < k → IsJ n (d - 1) (ks[i]'h)) o wr) (fun _ i _ => N - (intOf i).toNat)
      case atStart => exact ⟨0, by omega, rfl, hB, HXa.out, _, rfl, by have h := HC.out; simpa using h⟩
      case round =>
        obtain ⟨k, hk, rfl, hB2, hX2, c2, rfl, hc2⟩ := hrel
        have e4 := hX2.cell 4
        have HC2 : Hid _ := hc2
        clear hc2 c3' HC HXa
        by_cases hlt2 : k < N
        · cases c2 with
          | false =>
            have hR : Tells I (.bool false) wr := Tells.no (fun h => by
              obtain ⟨h1, h2⟩ := HI.out.1 h
              have := HC2.out.2 ⟨h1, fun i h _ => h2 i h⟩
              cases this)
            go_wp2
            go_ret
            exact ⟨_, rfl, hB2, hR⟩
          | true =>
            have l1 : k < ks.length := by rw [← HK.out]; exact hlt2
            obtain ⟨b1, o1, rfl, hc1⟩ := hkc (by omega)
            obtain ⟨cs, hx1, hS1⟩ := hc1 k l1
            have htk1 := htk _ (List.getElem_mem l1)
            obtain ⟨j1, hj1⟩ : ∃ j, j = ks[k]'l1 := ⟨_, rfl⟩
            rw [← hj1] at hS1 htk1
            have HJ1 : Hid (j1 = ks[k]'l1) := hj1
            have hx2 := hx1.below hB2
            have hS2 := JC.below _ _ _ _ _ hB2 hS1
            have hjv : JV j1 (.agg cs.toArray) wr := ⟨cs, rfl, hx2.1, hS2⟩
            obtain ⟨d0, d1, d2, d3, d4, rfl⟩ : ∃ d0 d1 d2 d3 d4, cs = [d0, d1, d2, d3, d4] := by
              match cs, hx2.1 with
              | [d0, d1, d2, d3, d4], _ => exact ⟨d0, d1, d2, d3, d4, rfl⟩
            have g0 : wr.cell? ⟨b1, o1 + k * 5, none⟩ = some d0 := hx2.2 0 (by decide)
            have g1 : wr.cell? ⟨b1, o1 + k * 5 + 1, none⟩ = some d1 := hx2.2 1 (by decide)
            have g2 : wr.cell? ⟨b1, o1 + k * 5 + 2, none⟩ = some d2 := hx2.2 2 (by decide)
            have g3 : wr.cell? ⟨b1, o1 + k * 5 + 3, none⟩ = some d3 := hx2.2 3 (by decide)
            have g4 : wr.cell? ⟨b1, o1 + k * 5 + 4, none⟩ = some d4 := hx2.2 4 (by decide)
            have hjv : JV j1 (.agg #[d0, d1, d2, d3, d4]) wr := hjv
            have hcall : Ret 9 #[.agg #[d0, d1, d2, d3, d4], .int .i64 ((d : Int) - 1)] wr (Tells (IsJ n (d - 1) j1)) := by
              rw [show (d : Int) - 1 = ((d - 1 : Nat) : Int) by omega]
              exact ih (d - 1) j1 _ wr (by omega) (by omega) htk1 hjv
            clear hj1 hc1 hx1 hS1 hx2 hS2 hjv htk1
            go_wp2_with fail
            refine hcall.mono ?_
            rintro e w3 ⟨v, rfl, hB3, c4, rfl, hc4⟩
            have HC4 : Hid _ := hc4
            have hB4 := hB2.trans (hB3.mono hB2.size)
            have hX4 := hX2.below hB3
            clear hX2 hc4 e4 g0 g1 g2 g3 g4 hcall
            go_wp2
            refine ⟨⟨k + 1, by omega, by go_num, hB4, hX4, c4, rfl, ?_⟩, by simp [intOf]; omega⟩
            rw [HC4.out]
            have h2 := HC2.out
            constructor
            · intro h
              obtain ⟨h3, h4⟩ := h2.1 (by trivial)
              refine ⟨h3, fun i h5 h6 => ?_⟩
              by_cases hik : i = k
              · subst hik; rw [← HJ1.out]; exact h
              · exact h4 i h5 (by omega)
            · rintro ⟨h3, h4⟩
              have := h4 k l1 (by omega)
              rwa [← HJ1.out] at this
        · obtain rfl : N = k := by omega
          have hR : Tells I (.bool c2) wr := ⟨c2, rfl, by
            have h1 := HC2.out
            have h2 := HI.out
            rw [h1, h2]
            constructor
            · rintro ⟨h3, h4⟩; exact ⟨h3, fun i h => h4 i h (by rw [HK.out]; exact h)⟩
            · rintro ⟨h3, h4⟩; exact ⟨h3, fun i h _ => h4 i h⟩⟩
          go_wp2
          go_ret
          exact ⟨_, rfl, hB2, hR⟩
theorem isOut {n : Nat} (d : Nat) (ki : Int) (m : Int) (t : List Nat) (ns : List (List Nat)) (ks : List (J n)) (v : Value) (w : World) (hki : ki < 0 ∨ 5 < ki) (hd2 : d ≤ 1000) (hv : JV (n := n + 1) (⟨ki, m, t, ns, ks⟩ : JN (J n)) v w) :
    Ret 9 #[v, .int .i64 (d : Int)] w (Tells (IsJ (n + 1) d (⟨ki, m, t, ns, ks⟩ : JN (J n)))) := by
  obtain ⟨_, rfl, _, s, nv, kv, rfl, hs, hn, hk, _, hm⟩ := hv
  have hR : ¬ IsJ (n + 1) d (⟨ki, m, t, ns, ks⟩ : JN (J n)) := fun h => by
    obtain ⟨⟨h1, h2, _⟩, _⟩ := h
    have h1 : 0 ≤ ki := h1
    have h2 : ki ≤ 5 := h2
    omega
  have HR : Hid _ := hR
  obtain ⟨I, hI⟩ : ∃ I, I = IsJ (n + 1) d (⟨ki, m, t, ns, ks⟩ : JN (J n)) := ⟨_, rfl⟩
  rw [← hI] at HR ⊢
  have B0 : Below w.heap.size w (w.alloc (.cells #[.int .i64 ki, .int .i64 m, .string s, nv, kv] 25)) := below1 _ _
  clear hR hn hk hm hs hI
  unfold Ret
  show Calls _ _ #[.agg #[.int .i64 ki, .int .i64 m, .string s, nv, kv], .int .i64 (d : Int)] w _
  rcases hki with h | h
  · go_enter Tryd.func9, Tryd.ntmps9
    go_wp2
    go_ret
    exact ⟨_, rfl, B0, Tells.no HR.out⟩
  · have h0 : ¬ ki < 0 := by omega
    go_enter Tryd.func9, Tryd.ntmps9
    go_wp2
    go_ret
    exact ⟨_, rfl, B0, Tells.no HR.out⟩
theorem isStep {n : Nat} (ih : IsC n) : IsC (n + 1) := by
  intro d j v w hd hd2 ht hv
  obtain ⟨ki, m, t, ns, ks⟩ := j
  by_cases hki : ki < 0 ∨ 5 < ki
  · exact isOut d ki m t ns ks v w hki hd2 hv
  rcases (by omega : ki = 0 ∨ ki = 1 ∨ ki = 2 ∨ ki = 3 ∨ ki = 4 ∨ ki = 5) with rfl | rfl | rfl | rfl | rfl | rfl
  · exact is0 ih d m t ns ks v w hd hd2 ht hv
  · exact is1 ih d m t ns ks v w hd hd2 ht hv
  · exact is2 ih d m t ns ks v w hd hd2 ht hv
  · exact is3 ih d m t ns ks v w hd hd2 ht hv
  · exact is4 ih d m t ns ks v w hd hd2 ht hv
  · exact is5 ih d m t ns ks v w hd hd2 ht hv
theorem isR : ∀ n, IsC n
  | 0 => fun d _ _ _ h => absurd h (by omega)
  | n + 1 => isStep (isR n)
end Go.Proofs.YtljgnpneeecafaaDoor
set_option linter.unusedVariables false
namespace Go.Proofs.YtljgnpneeecafaaDoor
open Go.RowKit Go.Sort Go.BigFrame
set_option maxRecDepth 100000
set_option maxHeartbeats 2000000
/-- A list of strings whose block is one of these. -/
def SRowM (S : Nat → Prop) (ns : List (List Nat)) (v : Value) (w : World) : Prop := ∃ a cap, v = .slice a ns.length cap ∧ ns.length ≤ cap ∧ cap ≤ 9223372036854775807 ∧
  (0 < ns.length → ∃ b off, a = some ⟨b, off, none⟩ ∧ S b ∧ ∀ i, i < ns.length → ∃ s, w.cell? ⟨b, off + i, none⟩ = some (.string s) ∧ Str s (ns.getD i []))
def KRowM {K : Type} (S : Nat → Prop) (R : K → List Value → World → Prop) (ks : List K) (v : Value) (w : World) : Prop := ∃ a cap, v = .slice a ks.length cap ∧ ks.length ≤ cap ∧ cap ≤ 9223372036854775807 ∧
  (0 < ks.length → ∃ b off, a = some ⟨b, off, none⟩ ∧ S b ∧ ∀ i (h : i < ks.length), ∃ cs, At5 w b (off + i * 5) cs ∧ R (ks[i]'h) cs w)
/-- Five cells that are a value, all its blocks among these. -/
def JM (S : Nat → Prop) : (n : Nat) → J n → List Value → World → Prop
  | 0, _, _, _ => True
  | n + 1, j, cs, w => ∃ s nv kv, cs = [.int .i64 (JN.kind j), .int .i64 (JN.num j), .string s, nv, kv] ∧ Str s (JN.text j) ∧ SRowM S (JN.names j) nv w ∧ KRowM S (JM S n) (JN.kids j) kv w ∧
    (-9223372036854775808 ≤ JN.kind j ∧ JN.kind j ≤ 9223372036854775807) ∧ (-9223372036854775808 ≤ JN.num j ∧ JN.num j ≤ 9223372036854775807)
theorem SRowM.row {S : Nat → Prop} {ns : List (List Nat)} {v : Value} {w : World} (h : SRowM S ns v w) : SRow ns v w := by
  obtain ⟨a, cap, h1, h2, h3, h4⟩ := h
  exact ⟨a, cap, h1, h2, h3, fun hp => by obtain ⟨b, off, ha, _, hc⟩ := h4 hp; exact ⟨b, off, ha, hc⟩⟩
theorem JM.jc {S : Nat → Prop} : ∀ (n : Nat) (j : J n) (cs : List Value) (w : World), JM S n j cs w → JC n j cs w
  | 0, _, _, _, _ => trivial
  | n + 1, j, cs, w, ⟨s, nv, kv, h1, h2, h3, ⟨a, cap, k1, k2, k3, k4⟩, h5⟩ => ⟨s, nv, kv, h1, h2, h3.row, ⟨a, cap, k1, k2, k3, fun hp => by
      obtain ⟨b, off, ha, _, hc⟩ := k4 hp
      exact ⟨b, off, ha, fun i hi => by obtain ⟨cs, hs, hR⟩ := hc i hi; exact ⟨cs, hs, JM.jc n _ _ _ hR⟩⟩⟩, h5⟩
/-- It stays where those blocks stay. -/
theorem JM.move {S T : Nat → Prop} {w w' : World} (hST : ∀ b, b < w.heap.size → S b → T b ∧ w'.heap[b]? = w.heap[b]?) : ∀ (n : Nat) (j : J n) (cs : List Value), JM S n j cs w → JM T n j cs w'
  | 0, _, _, _ => trivial
  | n + 1, j, cs, ⟨s, nv, kv, h1, h2, ⟨a2, cap2, q1, q2, q3, q4⟩, ⟨a, cap, k1, k2, k3, k4⟩, h5⟩ => ⟨s, nv, kv, h1, h2, ⟨a2, cap2, q1, q2, q3, fun hp => by
      obtain ⟨b, off, ha, hb, hc⟩ := q4 hp
      have hbl : b < w.heap.size := by
        obtain ⟨s, hs, _⟩ := hc 0 hp
        exact cell_some_lt hs
      refine ⟨b, off, ha, (hST b hbl hb).1, fun i hi => ?_⟩
      obtain ⟨s, hs, hS⟩ := hc i hi
      exact ⟨s, (World.cell?_of_block (w := w) (a := ⟨b, off + i, none⟩) (hST b hbl hb).2).trans hs, hS⟩⟩, ⟨a, cap, k1, k2, k3, fun hp => by
      obtain ⟨b, off, ha, hb, hc⟩ := k4 hp
      have hbl : b < w.heap.size := by
        obtain ⟨cs, hs, _⟩ := hc 0 hp
        have h0 := hs.2 0 (by decide)
        rw [List.getElem?_eq_getElem (by rw [hs.1]; decide)] at h0
        exact cell_some_lt h0
      refine ⟨b, off, ha, (hST b hbl hb).1, fun i hi => ?_⟩
      obtain ⟨cs, hs, hR⟩ := hc i hi
      exact ⟨cs, ⟨hs.1, fun k hk => (World.cell?_of_block (w := w) (a := ⟨b, off + i * 5 + k, none⟩) (hST b hbl hb).2).trans (hs.2 k hk)⟩, JM.move hST n _ _ hR⟩⟩, h5⟩
/-- What is cut: texts of fifty, five names, five kids, so deep. -/
def cutJ : (n : Nat) → J n → J n
  | 0, _ => ()
  | n + 1, j => (⟨JN.kind j, JN.num j, (JN.text j).take 50, ((JN.names j).take 5).map (fun x => x.take 50), if n = 0 then [] else ((JN.kids j).take 5).map (cutJ n)⟩ : JN (J n))
def CutR (base : Nat) {n : Nat} (j : J n) (v : Value) (w : World) : Prop := ∃ cs, v = .agg cs.toArray ∧ cs.length = 5 ∧ JM (fun b => base ≤ b) n (cutJ n j) cs w
def CutC (n : Nat) : Prop := ∀ (j : J (n + 1)) (v : Value) (w : World), n ≤ 1000 → JV j v w → Calls Tryd.prog 7 #[v, .int .i64 (n : Int)] w fun e w' => ∃ v', e = .returned v' ∧ Below w.heap.size w w' ∧ CutR w.heap.size j v' w'
/-- The first names, cut. -/
def cutNs (ns : List (List Nat)) (k : Nat) : List Value := (ns.take k).map (fun x => Value.string (strOf (x.take 50)))
theorem cutNs_succ {ns : List (List Nat)} {k : Nat} (h : k < ns.length) : cutNs ns (k + 1) = cutNs ns k ++ [.string (strOf ((ns.getD k []).take 50))] := by
  unfold cutNs
  rw [List.take_succ_eq_append_getElem h, List.map_append]
  simp [h]
theorem Str.take50 {s : ByteArray} {bs : List Nat} (h : Str s bs) (h5 : 50 ≤ s.size) : s.extract 0 50 = strOf (bs.take 50) := by
  have : Str (s.extract 0 50) (bs.take 50) := by
    have hsz := h.size
    refine ⟨by simp; omega, fun i hi => ?_, dig_lt (fun x hx => mem_of_dig h.dig x (List.mem_of_mem_take hx))⟩
    have hi2 : i < 50 := by simp at hi; omega
    have h1 := h.at' i (by omega)
    rw [ByteArray.getElem_extract]
    simp only [Nat.zero_add]
    rw [h1]
    simp [show i < bs.length by omega, hi2]
  exact this.eq
theorem strOf_short {s : ByteArray} {bs : List Nat} (h : Str s bs) (h5 : s.size ≤ 50) : s = strOf (bs.take 50) := by
  rw [List.take_of_length_le (by rw [← h.size]; exact h5)]; exact h.eq
/-- An owned row of strings is a list of strings. -/
theorem srowM_own {w : World} {base k : Nat} {v : Value} {ns : List (List Nat)} (hd : ∀ x ∈ ns, Dig x) (hk : k ≤ ns.length) (h : w.ownsRow base 9 1 v k (cutNs ns k)) (S : Nat → Prop) (hS : ∀ b, v.ownBlock = some b → S b) : SRowM S ((ns.take k).map (fun x => x.take 50)) v w := by
  have hlen : ((ns.take k).map (fun x => x.take 50)).length = k := by simp; omega
  rcases h.2 with ⟨rfl, rfl⟩ | ⟨g, cap, cur, rfl, hb, hg, h1, h2, h3, h4⟩
  · exact ⟨none, 0, by simp, by simp, by omega, fun h => by simp at h⟩
  · refine ⟨some ⟨g, 0, none⟩, cap, by rw [hlen], by rw [hlen]; exact h1, by unfold maxLen at h2; omega, fun _ => ⟨g, 0, rfl, hS g rfl, fun i hi => ?_⟩⟩
    rw [hlen] at hi
    have hin : i < ns.length := by omega
    refine ⟨strOf ((ns[i]'hin).take 50), ?_, ?_⟩
    · have := h.cells (g := g) rfl i (.string (strOf ((ns[i]'hin).take 50))) (by unfold cutNs; simp [hi, hin])
      rwa [Addr.add_mid] at this
    · have e : ((ns.take k).map (fun x => x.take 50)).getD i [] = (ns[i]'hin).take 50 := by simp [hi, hin]
      rw [e]
      exact str_strOf (dig_lt fun x hx => mem_of_dig (hd _ (List.getElem_mem hin)) x (List.mem_of_mem_take hx))
/-- Fives in one row. -/
theorem fives_at : ∀ (css : List (List Value)) (i j : Nat), (∀ c ∈ css, c.length = 5) → (h : i < css.length) → j < 5 → css.flatten[i * 5 + j]? = (css[i]'h)[j]?
  | [], i, j, _, h, _ => absurd h (by simp)
  | c :: css, 0, j, h5, _, hj => by
    have h0 := h5 c (by simp)
    rw [List.flatten_cons, List.getElem?_append_left (by omega)]
    simp
  | c :: css, i + 1, j, h5, h, hj => by
    have h0 := h5 c (by simp)
    rw [List.flatten_cons, List.getElem?_append_right (by omega)]
    have := fives_at css i j (fun c hc => h5 c (by simp [hc])) (by simpa using h) hj
    rw [show (i + 1) * 5 + j - c.length = i * 5 + j by omega, this]
    simp
/-- An owned row of values is a list of values. -/
theorem krowM_own {n : Nat} {w : World} {base k : Nat} {v : Value} {css : List (List Value)} {ks : List (J n)} (h5 : ∀ c ∈ css, c.length = 5) (hk : css.length = k) (hkl : ks.length = k) (h : w.ownsRow base 25 5 v k css.flatten) (S : Nat → Prop) (hS : ∀ b, v.ownBlock = some b → S b)
    (hj : ∀ i (h1 : i < ks.length) (h2 : i < css.length), JM S n (ks[i]'h1) (css[i]'h2) w) : KRowM S (JM S n) ks v w := by
  rcases h.2 with ⟨rfl, h0⟩ | ⟨g, cap, cur, rfl, hb, hg, h1, h2, h3, h4⟩
  · subst h0
    exact ⟨none, 0, by rw [hkl], by omega, by omega, fun h => by omega⟩
  · refine ⟨some ⟨g, 0, none⟩, cap, by rw [hkl], by rw [hkl]; exact h1, by unfold maxLen at h2; omega, fun _ => ⟨g, 0, rfl, hS g rfl, fun i hi => ?_⟩⟩
    have hi2 : i < css.length := by omega
    have hc5 : (css[i]'hi2).length = 5 := h5 _ (List.getElem_mem hi2)
    refine ⟨css[i]'hi2, ⟨hc5, fun j hj5 => ?_⟩, hj i hi hi2⟩
    have hf := fives_at css i j h5 hi2 hj5
    have hx : (css[i]'hi2)[j]? = some ((css[i]'hi2)[j]'(by omega)) := List.getElem?_eq_getElem (by omega)
    have := h.cells (g := g) rfl (i * 5 + j) ((css[i]'hi2)[j]'(by omega)) (by rw [hf, hx])
    rw [Addr.add_mid] at this
    rw [hx, ← this]
    congr 2
    omega
end Go.Proofs.YtljgnpneeecafaaDoor
set_option linter.unusedVariables false
namespace Go.Proofs.YtljgnpneeecafaaDoor
open Go.RowKit Go.Sort Go.BigFrame
set_option maxRecDepth 100000
set_option maxHeartbeats 4000000
theorem cutStr {s : ByteArray} (h2 : 50 ≤ s.size) (w : World) : (Instr.slice 9 (.string s) none (some (.int .i64 50)) none).run Tryd.prog w = .ok (.string (s.extract 0 50)) w := by
  have h3 : ¬ ((s.size : Int) < 50) := by omega
  simp [go_sem, h3]
theorem info9 : ∃ i0, Tryd.prog.info? 9 = some i0 ∧ i0.zero = some (.string ⟨#[]⟩) ∧ i0.size = 1 ∧ i0.bytes = 16 := info_parts (by kernel_rfl)
theorem info25 : ∃ i0, Tryd.prog.info? 25 = some i0 ∧ i0.zero = some (.agg #[.int .i64 0, .int .i64 0, .string ⟨#[]⟩, .slice none 0 0, .slice none 0 0]) ∧ i0.size = 5 ∧ i0.bytes = 80 := info_parts (by kernel_rfl)
theorem one_str {s : ByteArray} : ∀ u ∈ [Value.string s], u.oneCell' = true := fun u hu => by
  obtain rfl : u = .string s := by simpa using hu
  rfl
theorem grown_keep {w w4 : World} {o ob : Obj} {base b : Nat} {v : Value} (h : w.heap[b]? = some ob) (hg : (w.alloc o).grownBy w4 v.ownBlock) (hl : ∀ k, v.ownBlock = some k → base ≤ k ∧ k < w.heap.size) (hb : b < base) : w4.heap[b]? = some ob := by
  have hlt := (Array.getElem?_eq_some_iff.1 h).1
  exact (hg.block b (by simp; omega) (fun e => by have := (hl b e.symm).1; omega)).trans ((heap_alloc_old _ _ hlt).trans h)
/-- What the call keeps: its value, its result, what it makes. -/
def Keeps (w : World) (ki m : Int) (s s2 : ByteArray) (nv0 kv0 nv kv : Value) (wr : World) : Prop := Below w.heap.size w wr ∧ w.heap.size + 3 ≤ wr.heap.size ∧ BoxJ wr w.heap.size ki m s nv0 kv0 ∧ BoxJ wr (w.heap.size + 1) 0 0 ⟨#[]⟩ (.slice none 0 0) (.slice none 0 0) ∧ BoxJ wr (w.heap.size + 1 + 1) ki m s2 nv kv
theorem grown_setCell (w : World) (b j : Nat) (v : Value) : w.grownBy (w.setCell ⟨b, j, none⟩ v) (some b) := ⟨rfl, rfl, rfl, by simp, fun k _ hk => heap_setCell_other _ _ _ _ (fun e => hk (by rw [e]))⟩
theorem owned_setCell {w : World} {base e size n b j : Nat} {v u : Value} {xs : List Value} (h : w.ownsRow base e size v n xs) (hb : b < base) : (w.setCell ⟨b, j, none⟩ u).ownsRow base e size v n xs :=
  World.ownsRow.kept h (grown_setCell w b j u) (by
    cases hv : v.ownBlock with
    | none => exact .inl rfl
    | some k =>
      have := (World.ownsRow.lt h k hv).1
      exact .inr (fun e => by injection e with e; omega))
theorem Keeps.step {w wr w4 : World} {o : Obj} {ki m : Int} {s s2 : ByteArray} {nv0 kv0 nv kv nv' kv' row : Value} {j : Nat} (h : Keeps w ki m s s2 nv0 kv0 nv kv wr) (hl : ∀ k, row.ownBlock = some k → w.heap.size + 3 ≤ k ∧ k < wr.heap.size) (hg : (wr.alloc o).grownBy w4 row.ownBlock) {u : Value}
    (hu : (#[Value.int .i64 ki, .int .i64 m, .string s2, nv, kv] : Array Value).setIfInBounds j u = #[.int .i64 ki, .int .i64 m, .string s2, nv', kv']) : Keeps w ki m s s2 nv0 kv0 nv' kv' (w4.setCell ⟨w.heap.size + 1 + 1, j, none⟩ u) := by
  obtain ⟨h1, h2, h3, h4, h5⟩ := h
  have k3 : w4.heap[w.heap.size]? = _ := grown_keep h3 hg hl (by omega)
  have k4 : w4.heap[w.heap.size + 1]? = _ := grown_keep h4 hg hl (by omega)
  have k5 : w4.heap[w.heap.size + 1 + 1]? = _ := grown_keep h5 hg hl (by omega)
  have hs := hg.size
  have b4 : Below w.heap.size w w4 := (h1.alloc (by omega) o).grown hg (by simp; omega) (fun k hk => by have := (hl k hk).1; omega)
  refine ⟨b4.setCell (by show w.heap.size ≤ w.heap.size + 1 + 1; omega) _, ?_, (heap_setCell_other _ _ _ _ (by simp; omega)).trans k3, (heap_setCell_other _ _ _ _ (by simp)).trans k4, ?_⟩
  · exact Nat.le_trans (by simp at hs; omega) (grown_setCell w4 (w.heap.size + 1 + 1) j u).size
  · unfold BoxJ
    rw [heap_setCell_same _ _ _ _ _ _ k5, hu]
/-- The kids so far, and the names, in rows that the call owns. -/
def KidsR (n : Nat) (w : World) (B2 kn : Nat) (ns : List (List Nat)) (ks : List (J n)) (nv kv : Value) (k : Nat) (css : List (List Value)) (wr : World) : Prop :=
  wr.ownsRow (w.heap.size + 3) 9 1 nv kn (cutNs ns kn) ∧ wr.ownsRow B2 25 5 kv k css.flatten ∧ css.length = k ∧ (∀ c ∈ css, c.length = 5) ∧
  ∀ i (h1 : i < ks.length) (h2 : i < css.length), JM (fun b => B2 ≤ b ∧ kv.ownBlock ≠ some b) n (cutJ n (ks[i]'h1)) (css[i]'h2) wr
theorem cut_done {n : Nat} {w wr : World} {ki m : Int} {t : List Nat} {ns : List (List Nat)} {ks : List (J n)} {s s2 : ByteArray} {nv kv nv0 kv0 : Value} {B2 kn k : Nat} {css : List (List Value)} (hbk : -9223372036854775808 ≤ ki ∧ ki ≤ 9223372036854775807) (hbm : -9223372036854775808 ≤ m ∧ m ≤ 9223372036854775807) (hd : Dig t) (hs2 : s2 = strOf (t.take 50)) (hdn : ∀ x ∈ ns, Dig x)
    (hkn : kn ≤ ns.length) (hT : ns.take 5 = ns.take kn) (hB2 : w.heap.size + 3 ≤ B2) (hk : k ≤ ks.length) (hKL : (if n = 0 then [] else (ks.take 5).map (cutJ n)) = (ks.take k).map (cutJ n)) (hR : KidsR n w B2 kn ns ks nv kv k css wr) (hKe : Keeps w ki m s s2 nv0 kv0 nv kv wr) :
    Below w.heap.size w (wr.setRow (w.heap.size + 1) #[.int .i64 ki, .int .i64 m, .string s2, nv, kv]) ∧ CutR w.heap.size (n := n + 1) (⟨ki, m, t, ns, ks⟩ : JN (J n)) (.agg #[.int .i64 ki, .int .i64 m, .string s2, nv, kv]) (wr.setRow (w.heap.size + 1) #[.int .i64 ki, .int .i64 m, .string s2, nv, kv]) := by
  obtain ⟨h1, h2, h3, h4, h5⟩ := hKe
  obtain ⟨r1, r2, r3, r4, r5⟩ := hR
  refine ⟨h1.trans ⟨rfl, rfl, rfl, by simp, fun b hb => setRow_other _ _ _ _ (by omega)⟩, [.int .i64 ki, .int .i64 m, .string s2, nv, kv], rfl, rfl, ?_⟩
  have hm : JM (fun b => w.heap.size + 3 ≤ b) (n + 1) (cutJ (n + 1) (⟨ki, m, t, ns, ks⟩ : JN (J n))) [.int .i64 ki, .int .i64 m, .string s2, nv, kv] wr := by
    refine ⟨s2, nv, kv, rfl, ?_, ?_, ?_, hbk, hbm⟩
    · rw [hs2]; exact str_strOf (dig_lt fun x hx => mem_of_dig hd x (List.mem_of_mem_take hx))
    · show SRowM _ ((ns.take 5).map _) _ _
      rw [hT]
      exact srowM_own hdn hkn r1 _ (fun b hb => (World.ownsRow.lt r1 b hb).1)
    · show KRowM _ _ (if n = 0 then [] else (ks.take 5).map (cutJ n)) _ _
      rw [hKL]
      refine krowM_own r4 r3 (by simp; omega) r2 _ (fun b hb => Nat.le_trans hB2 (World.ownsRow.lt r2 b hb).1) fun i q1 q2 => ?_
      have q3 : i < ks.length := by simp at q1; omega
      have := r5 i q3 q2
      rw [show ((ks.take k).map (cutJ n))[i]'q1 = cutJ n (ks[i]'q3) by simp]
      exact JM.move (fun b _ hb => ⟨by omega, rfl⟩) _ _ _ this
  exact JM.move (fun b _ hb => ⟨by omega, setRow_other _ _ _ _ (by omega)⟩) _ _ _ hm
theorem own_one {w : World} {base e size n : Nat} {v : Value} {xs : List Value} (h : w.ownsRow base e size v n xs) : v.oneCell' = true := by
  rcases h.2 with ⟨rfl, _⟩ | ⟨g, c, cur, rfl, _⟩ <;> rfl
theorem owned_below {w w' : World} {base e size n : Nat} {v : Value} {xs : List Value} (h : w.ownsRow base e size v n xs) (hb : Below w.heap.size w w') : w'.ownsRow base e size v n xs := by
  refine ⟨h.1, ?_⟩
  rcases h.2 with hn | ⟨g, cap, cur, rfl, h1, h2, h3⟩
  · exact .inl hn
  · exact .inr ⟨g, cap, cur, rfl, h1, (hb.block g (Array.getElem?_eq_some_iff.1 h2).1).trans h2, h3⟩
theorem Keeps.below {w wr u : World} {ki m : Int} {s s2 : ByteArray} {nv0 kv0 nv kv : Value} (h : Keeps w ki m s s2 nv0 kv0 nv kv wr) (hb : Below wr.heap.size wr u) : Keeps w ki m s s2 nv0 kv0 nv kv u := by
  obtain ⟨h1, h2, h3, h4, h5⟩ := h
  exact ⟨h1.trans (hb.mono (by omega)), Nat.le_trans h2 hb.size, h3.below hb, h4.below hb, h5.below hb⟩
theorem grown_keep0 {w w4 : World} {ob : Obj} {base b : Nat} {v : Value} (h : w.heap[b]? = some ob) (hg : w.grownBy w4 v.ownBlock) (hl : ∀ k, v.ownBlock = some k → base ≤ k ∧ k < w.heap.size) (hb : b < base) : w4.heap[b]? = some ob :=
  (hg.block b (Array.getElem?_eq_some_iff.1 h).1 (fun e => by have := (hl b e.symm).1; omega)).trans h
theorem Keeps.step0 {w wr w4 : World} {ki m : Int} {s s2 : ByteArray} {nv0 kv0 nv kv nv' kv' row : Value} {j B : Nat} (h : Keeps w ki m s s2 nv0 kv0 nv kv wr) (hl : ∀ k, row.ownBlock = some k → B ≤ k ∧ k < wr.heap.size) (hB : w.heap.size + 3 ≤ B) (hg : wr.grownBy w4 row.ownBlock) {u : Value}
    (hu : (#[Value.int .i64 ki, .int .i64 m, .string s2, nv, kv] : Array Value).setIfInBounds j u = #[.int .i64 ki, .int .i64 m, .string s2, nv', kv']) : Keeps w ki m s s2 nv0 kv0 nv' kv' (w4.setCell ⟨w.heap.size + 1 + 1, j, none⟩ u) := by
  obtain ⟨h1, h2, h3, h4, h5⟩ := h
  have k3 : w4.heap[w.heap.size]? = _ := grown_keep0 h3 hg hl (by omega)
  have k4 : w4.heap[w.heap.size + 1]? = _ := grown_keep0 h4 hg hl (by omega)
  have k5 : w4.heap[w.heap.size + 1 + 1]? = _ := grown_keep0 h5 hg hl (by omega)
  have hs := hg.size
  have b4 : Below w.heap.size w w4 := h1.grown hg (by omega) (fun k hk => by have := (hl k hk).1; omega)
  refine ⟨b4.setCell (by show w.heap.size ≤ w.heap.size + 1 + 1; omega) _, ?_, (heap_setCell_other _ _ _ _ (by simp; omega)).trans k3, (heap_setCell_other _ _ _ _ (by simp)).trans k4, ?_⟩
  · exact Nat.le_trans (by omega) (grown_setCell w4 (w.heap.size + 1 + 1) j u).size
  · unfold BoxJ
    rw [heap_setCell_same _ _ _ _ _ _ k5, hu]
theorem JM.one {S : Nat → Prop} {n : Nat} {j : J n} {cs : List Value} {w : World} (hn : n ≠ 0) (h : JM S n j cs w) : ∀ x ∈ cs, x.oneCell' = true := by
  cases n with
  | zero => exact absurd rfl hn
  | succ n =>
    obtain ⟨s, nv, kv, rfl, _, ⟨_, _, rfl, _⟩, ⟨_, _, rfl, _⟩, _⟩ := h
    intro x hx
    simp only [List.mem_cons, List.not_mem_nil, or_false] at hx
    rcases hx with rfl | rfl | rfl | rfl | rfl <;> first | rfl | (rename_i a _ _ _ _; cases a <;> rfl) | (rename_i a _ _ _; cases a <;> rfl)
theorem kids_step {n : Nat} {w wr u w4 : World} {B2 kn k g cap : Nat} {ns : List (List Nat)} {ks : List (J n)} {nv kv : Value} {css : List (List Value)} {cs : List Value} (hk : k < ks.length) (hR : KidsR n w B2 kn ns ks nv kv k css wr) (hu : Below wr.heap.size wr u) (h5 : cs.length = 5) (hJ : JM (fun b => wr.heap.size ≤ b) n (cutJ n (ks[k]'hk)) cs u)
    (hg : u.grownBy w4 kv.ownBlock) (hown : w4.ownsRow B2 25 5 (.slice (some ⟨g, 0, none⟩) (k + 1) cap) (k + 1) (css.flatten ++ cs)) (hat : kv.ownBlock = some g ∨ g = u.heap.size) (hB2 : B2 ≤ wr.heap.size) (hnb : ∀ b, nv.ownBlock = some b → b < B2) (hB3 : w.heap.size + 3 ≤ B2) :
    KidsR n w B2 kn ns ks nv (.slice (some ⟨g, 0, none⟩) (k + 1) cap) (k + 1) (css ++ [cs]) (w4.setCell ⟨w.heap.size + 1 + 1, 4, none⟩ (.slice (some ⟨g, 0, none⟩) (k + 1) cap)) := by
  obtain ⟨r1, r2, r3, r4, r5⟩ := hR
  have hkv := World.ownsRow.lt r2
  have hus := hu.size
  have old : ∀ b, b < u.heap.size → B2 ≤ b → kv.ownBlock ≠ some b → (w4.setCell ⟨w.heap.size + 1 + 1, 4, none⟩ (.slice (some ⟨g, 0, none⟩) (k + 1) cap)).heap[b]? = u.heap[b]? := fun b h1 h2 h3 =>
    (heap_setCell_other _ _ _ _ (by simp; omega)).trans (hg.block b h1 (fun e => h3 e.symm))
  refine ⟨owned_setCell (World.ownsRow.kept (owned_below r1 hu) hg ?_) (by omega), by rw [List.flatten_append]; simpa using owned_setCell hown (by omega), by simp [r3], ?_, ?_⟩
  · cases hv : nv.ownBlock with
    | none => exact .inl rfl
    | some b => exact .inr (fun e => by have := (hkv b e.symm).1; have := hnb b hv; omega)
  · intro c hc
    rcases List.mem_append.1 hc with h | h
    · exact r4 c h
    · obtain rfl : c = cs := by simpa using h
      exact h5
  · intro i h1 h2
    by_cases hi : i < css.length
    · rw [List.getElem_append_left hi]
      refine JM.move (fun b hb hS => ⟨⟨hS.1, fun e => ?_⟩, (old b (by omega) hS.1 hS.2).trans (hu.block b hb)⟩) _ _ _ (r5 i h1 hi)
      have e2 : g = b := by simpa [Value.ownBlock] using e
      rcases hat with h | h
      · exact hS.2 (by rw [h, e2])
      · omega
    · have hik : i = k := by simp at h2; omega
      subst hik
      rw [List.getElem_append_right (by omega)]
      simp only [show i - css.length = 0 by omega, List.getElem_cons_zero]
      have hne : ∀ b, wr.heap.size ≤ b → kv.ownBlock ≠ some b := fun b hb e => by have := (hkv b e).2; omega
      refine JM.move (fun b hb hS => ⟨⟨Nat.le_trans hB2 hS, fun e => ?_⟩, old b hb (Nat.le_trans hB2 hS) (hne b hS)⟩) _ _ _ hJ
      have e2 : g = b := by simpa [Value.ownBlock] using e
      rcases hat with h | h
      · exact hne b hS (by rw [h, e2])
      · omega
theorem subO {ρ : Operand → Value} {o : Oper} {x y : Operand} {w : World} {n : Nat} (ho : o.op = .binOp .sub 3 x y 3) (hx : ρ x = .int .i64 (n : Int)) (hy : ρ y = .int .i64 1) (h0 : 0 < n) (h1 : n ≤ 1000) : (execOp ρ o).run Tryd.prog w = .ok (.value (.int .i64 ((n : Int) - 1))) w := by
  have h2 : IntKind.i64.wrap ((n : Int) - 1) = (n : Int) - 1 := by rw [IntKind.wrap_i64]; omega
  simp [execOp, ho, hx, hy, go_sem, h2]
/-- A row of one new value. -/
def NewK (S : Nat) {n : Nat} (j : J n) (v : Value) (w : World) : Prop := ∃ g cs, v = .slice (some ⟨g, 0, none⟩) 1 1 ∧ cs.length = 5 ∧ w.heap[g]? = some (.cells cs.toArray 25 (0, 0)) ∧ JM (fun b => S ≤ b) n (cutJ n j) cs w
theorem JM.stb {S : Nat → Prop} {n : Nat} {j : J n} {cs : List Value} {w w' : World} (hb : Below w.heap.size w w') (h : JM S n j cs w) : JM S n j cs w' := JM.move (fun b hl hS => ⟨hS, hb.block b hl⟩) _ _ _ h
theorem CutR.stb (S : Nat) {n : Nat} (j : J n) : Stb (CutR S j) := fun v w w' hb ⟨cs, h1, h2, h3⟩ => ⟨cs, h1, h2, h3.stb hb⟩
theorem NewK.stb (S : Nat) {n : Nat} (j : J n) : Stb (NewK S j) := fun v w w' hb ⟨g, cs, h1, h2, h3, h4⟩ => ⟨g, cs, h1, h2, block_below hb (lt_of_heap h3) h3, h4.stb hb⟩
theorem bldK {ρ : Operand → Value} {o : Oper} {x : Operand} {w : World} {d0 d1 d2 d3 d4 : Value} (ho : o.op = .buildSlice 23 1 #[(0, x)]) (hx : ρ x = .agg #[d0, d1, d2, d3, d4]) : (execOp ρ o).run Tryd.prog w = .ok (.value (.slice (some ⟨w.heap.size, 0, none⟩) 1 1)) (w.alloc (.cells #[d0, d1, d2, d3, d4] 25)) := by
  simp [execOp, ho, hx, go_sem]
theorem newK {ρ : Operand → Value} {o : Oper} {x : Operand} {w : World} {S n : Nat} {j : J n} (ho : o.op = .buildSlice 23 1 #[(0, x)]) (hx : CutR S j (ρ x) w) : Does Tryd.prog o ρ w (fun v w' => Below w.heap.size w w' ∧ NewK S j v w') := by
  obtain ⟨cs, h1, h2, h3⟩ := hx
  match cs, h2 with
  | [d0, d1, d2, d3, d4], _ =>
    exact Does.new _ _ (bldK ho h1) ⟨w.heap.size, [d0, d1, d2, d3, d4], rfl, rfl, heap_alloc_new _ _, h3.stb (below1 _ _)⟩
theorem cutL {n : Nat} (ih : ∀ m, n = m + 1 → CutC m) (ki m : Int) (t : List Nat) (ns : List (List Nat)) (ks : List (J n)) (v : Value) (w : World) (hn1 : n ≤ 1000) (hv : JV (n := n + 1) (⟨ki, m, t, ns, ks⟩ : JN (J n)) v w) (hlt : 50 < t.length) :
    Calls Tryd.prog 7 #[v, .int .i64 (n : Int)] w fun e w' => ∃ v', e = .returned v' ∧ Below w.heap.size w w' ∧ CutR w.heap.size (n := n + 1) (⟨ki, m, t, ns, ks⟩ : JN (J n)) v' w' := by
  obtain ⟨_, rfl, _, s, nv, kv, rfl, hs, hn, hk, hki, hm⟩ := hv
  obtain ⟨na, nc, rfl, ln1, ln2, hnc⟩ := hn
  obtain ⟨ka, kc, rfl, lk1, lk2, hkc⟩ := hk
  have hki : -9223372036854775808 ≤ ki ∧ ki ≤ 9223372036854775807 := hki
  have hm : -9223372036854775808 ≤ m ∧ m ≤ 9223372036854775807 := hm
  have hs : Str s t := hs
  dsimp only at hnc hkc ln1 ln2 lk1 lk2
  show Calls _ _ #[.agg #[.int .i64 ki, .int .i64 m, .string s, .slice na ns.length nc, .slice ka ks.length kc], .int .i64 (n : Int)] w _
  obtain ⟨R, hR⟩ : ∃ R : Value → World → Prop, R = CutR w.heap.size (n := n + 1) (⟨ki, m, t, ns, ks⟩ : JN (J n)) := ⟨_, rfl⟩
  rw [← hR]
  have HR : Hid (R = CutR w.heap.size (n := n + 1) (⟨ki, m, t, ns, ks⟩ : JN (J n))) := hR
  clear hR
  obtain ⟨N, hN⟩ : ∃ x, x = ns.length := ⟨_, rfl⟩
  obtain ⟨K, hK⟩ : ∃ x, x = ks.length := ⟨_, rfl⟩
  rw [← hK] at lk1 ⊢
  rw [← hN] at ln1 ⊢
  have bN : N ≤ 9223372036854775807 := Nat.le_trans ln1 ln2
  have bK : K ≤ 9223372036854775807 := Nat.le_trans lk1 lk2
  have HN : Hid (N = ns.length) := hN
  have HK : Hid (K = ks.length) := hK
  clear hN hK ln1 ln2 lk1 lk2
  have HDN : Hid (∀ x ∈ ns, Dig x) := by
    intro x hx
    obtain ⟨i, hi, rfl⟩ := List.getElem_of_mem hx
    obtain ⟨b, off, _, hc⟩ := hnc (by omega)
    obtain ⟨s, _, hS⟩ := hc i hi
    have := hS.dig
    rwa [show ns.getD i [] = ns[i]'hi by simp [hi]] at this
  have hsz := hs.size
  have hi : (50 : Int) < (s.size : Int) := by omega
  obtain ⟨s2, hs2⟩ : ∃ s2, s2 = strOf (t.take 50) := ⟨_, rfl⟩
  have hcut := fun w1 => cutStr (s := s) (by omega) w1
  rw [show s.extract 0 50 = s2 by rw [hs2]; exact hs.take50 (by omega)] at hcut
  have HS : Hid (s2 = strOf (t.take 50)) := hs2
  have HD : Hid (Dig t) := hs.dig
  have hrec : n ≠ 0 → ∀ (j : J n) (v : Value) (wx : World), JV j v wx → Calls Tryd.prog 7 #[v, .int .i64 ((n : Int) - 1)] wx fun e w' => ∃ v', e = .returned v' ∧ Below wx.heap.size wx w' ∧ CutR wx.heap.size j v' w' := by
    clear hi hs2 HS HR hkc hnc HN HK hsz hlt hm hki
    cases n with
    | zero => intro h; exact absurd rfl h
    | succ m' =>
      intro _ j v wx hv
      rw [show ((m' + 1 : Nat) : Int) - 1 = (m' : Int) by omega]
      exact ih m' rfl j v wx (by omega) hv
  have HREC : Hid _ := hrec
  clear hs hs2 hsz hlt hrec ih
  go_enter Tryd.func7, Tryd.ntmps7
  obtain ⟨W3, hW3⟩ : ∃ W3 : World, W3 = (((w.alloc (.cells #[.int .i64 ki, .int .i64 m, .string s, .slice na N nc, .slice ka K kc] 25)).alloc (.cells #[.int .i64 0, .int .i64 0, .string ⟨#[]⟩, .slice none 0 0, .slice none 0 0] 25)).alloc (.cells #[.int .i64 ki, .int .i64 m, .string s2, .slice none 0 0, .slice none 0 0] 25)) := ⟨_, rfl⟩
  have X1 : BoxJ W3 w.heap.size ki m s (.slice na N nc) (.slice ka K kc) := by rw [hW3]; exact (heap_alloc_old _ _ (by simp; omega)).trans ((heap_alloc_old _ _ (by simp)).trans (heap_alloc_new _ _))
  have X2 : BoxJ W3 (w.heap.size + 1) 0 0 ⟨#[]⟩ (.slice none 0 0) (.slice none 0 0) := by rw [hW3]; exact (heap_alloc_old _ _ (by simp)).trans (by have := heap_alloc_new (w.alloc (.cells #[.int .i64 ki, .int .i64 m, .string s, .slice na N nc, .slice ka K kc] 25)) (.cells #[.int .i64 0, .int .i64 0, .string ⟨#[]⟩, .slice none 0 0, .slice none 0 0] 25); simpa using this)
  have X3 : BoxJ W3 (w.heap.size + 1 + 1) ki m s2 (.slice none 0 0) (.slice none 0 0) := by
    rw [hW3]
    have := heap_alloc_new ((w.alloc (.cells #[.int .i64 ki, .int .i64 m, .string s, .slice na N nc, .slice ka K kc] 25)).alloc (.cells #[.int .i64 0, .int .i64 0, .string ⟨#[]⟩, .slice none 0 0, .slice none 0 0] 25)) (.cells #[.int .i64 ki, .int .i64 m, .string s2, .slice none 0 0, .slice none 0 0] 25)
    unfold BoxJ
    simpa using this
  have B3 : Below w.heap.size w W3 := by rw [hW3]; exact (below2 _ _ _).alloc (by simp; omega) _
  rw [hW3] at X1 X2 X3 B3
  have HX3 : Hid _ := (⟨X1, X2, X3⟩ : _ ∧ _ ∧ _)
  clear hW3 X1 X2 X3
  obtain ⟨i0, hi0, hz0, hz1, hz2⟩ := info9
  go_wp2_with fail
  obtain ⟨X1, X2, X3⟩ := HX3.out
  go_loopw [6] (fun i wr => ∃ k : Nat, k ≤ N ∧ k ≤ 5 ∧ i = .int .i64 k ∧ ∃ nv, Keeps w ki m s s2 (.slice na N nc) (.slice ka K kc) nv (.slice none 0 0) wr ∧ wr.ownsRow (w.heap.size + 3) 9 1 nv k (cutNs ns k)) (fun i _ => N - (intOf i).toNat)
  case atStart => exact ⟨0, by omega, by omega, rfl, _, ⟨B3, by simp, X1, X2, X3⟩, World.ownsRow_nil _ _ _ _⟩
  case round =>
    obtain ⟨k, hkN, hk5, rfl, nv, hKe, hown⟩ := hrel
    have HKe : Hid _ := hKe
    obtain ⟨hB, hsz, hX, hZ, hO⟩ := hKe
    have c3 := hX.cell 3
    have HO : Hid _ := hO
    by_cases hlt : k < N
    · by_cases hlt5 : k < 5
      · obtain ⟨b2, o2, rfl, hc2⟩ := hnc (by rw [← HN.out]; omega)
        obtain ⟨x, hx, hS⟩ := hc2 k (by rw [← HN.out]; exact hlt)
        have hkl : k < ns.length := by rw [← HN.out]; exact hlt
        have d3 := (hB.cell (p := ⟨b2, o2 + k, none⟩) (block_lt_of_cell hx)).trans hx
        have o3 := hO.cell 3
        have HW : Hid _ := hown
        obtain ⟨y, hy⟩ : ∃ y, y = strOf ((ns.getD k []).take 50) := ⟨_, rfl⟩
        have HY : Hid _ := hy
        have hb1 : (0 : Nat) < 1 := by decide
        have hb2 : k + 1 ≤ maxLen := by unfold maxLen; omega
        have hb3 : (k + 1) * 16 ≤ 140737488355328 := by omega
        clear hx hX hZ hO
        by_cases hl50 : 50 < x.size
        · have hl50i : (50 : Int) < (x.size : Int) := by omega
          have hcutx := fun w1 => cutStr (s := x) (by omega) w1
          rw [show x.extract 0 50 = y by rw [hy]; exact hS.take50 (by omega)] at hcutx
          clear hS hl50 hy
          go_wp2_with (at_builtin; go_loud (refine wpList_append_lies _ rfl (.tmp 46) (.tmp 48) 22 rfl (w.heap.size + 3) 9 i0 (.string ⟨#[]⟩) 1 16 Tryd.underlying22 hi0 hz0 hz1 hz2 rfl (by decide) nv k (cutNs ns k) rfl (World.ownsRow.alloc HW.out _) ⟨wr.heap.size, 0, none⟩ 1 1 [.string y] rfl rfl (news_one _ _ _) one_str hb1 hb2 hb3 (by simp; omega) _ rfl ?_); intro g cap w4 hown4 hgrow4 hat4 hlt4; have hO4 : w4.heap[w.heap.size + 1 + 1]? = some (.cells #[.int .i64 ki, .int .i64 m, .string s2, nv, .slice none 0 0] 25 (0, 0)) := grown_keep HO.out hgrow4 (World.ownsRow.lt HW.out) (by omega); have hc4 : w4.cell? ⟨w.heap.size + 1 + 1, 3, none⟩ = some nv := (cell_of_row _ _ _ _ _ _ hO4).trans rfl; have hf4 : w4.frozen? ⟨w.heap.size + 1 + 1, 3, none⟩ = false := free_ints hO4 3)
          have hK5 := Keeps.step (row := nv) HKe.out (World.ownsRow.lt HW.out) hgrow4 (j := 3) (u := .slice (some ⟨g, 0, none⟩) (k + 1) cap) rfl
          exact ⟨⟨k + 1, by omega, by omega, by go_num, _, hK5, by rw [cutNs_succ (by rw [← HN.out]; exact hlt), ← HY.out]; exact owned_setCell hown4 (by omega)⟩, by simp [intOf]; omega⟩
        · have hl50i : ¬ (50 : Int) < (x.size : Int) := by omega
          have hxy : x = y := by rw [hy]; exact strOf_short hS (by omega)
          subst hxy
          clear hS hl50 hy
          go_wp2_with (at_builtin; go_loud (refine wpList_append_lies _ rfl (.tmp 46) (.tmp 48) 22 rfl (w.heap.size + 3) 9 i0 (.string ⟨#[]⟩) 1 16 Tryd.underlying22 hi0 hz0 hz1 hz2 rfl (by decide) nv k (cutNs ns k) rfl (World.ownsRow.alloc HW.out _) ⟨wr.heap.size, 0, none⟩ 1 1 [.string x] rfl rfl (news_one _ _ _) one_str hb1 hb2 hb3 (by simp; omega) _ rfl ?_); intro g cap w4 hown4 hgrow4 hat4 hlt4; have hO4 : w4.heap[w.heap.size + 1 + 1]? = some (.cells #[.int .i64 ki, .int .i64 m, .string s2, nv, .slice none 0 0] 25 (0, 0)) := grown_keep HO.out hgrow4 (World.ownsRow.lt HW.out) (by omega); have hc4 : w4.cell? ⟨w.heap.size + 1 + 1, 3, none⟩ = some nv := (cell_of_row _ _ _ _ _ _ hO4).trans rfl; have hf4 : w4.frozen? ⟨w.heap.size + 1 + 1, 3, none⟩ = false := free_ints hO4 3)
          have hK5 := Keeps.step (row := nv) HKe.out (World.ownsRow.lt HW.out) hgrow4 (j := 3) (u := .slice (some ⟨g, 0, none⟩) (k + 1) cap) rfl
          exact ⟨⟨k + 1, by omega, by omega, by go_num, _, hK5, by rw [cutNs_succ (by rw [← HN.out]; exact hlt), ← HY.out]; exact owned_setCell hown4 (by omega)⟩, by simp [intOf]; omega⟩
      · obtain rfl : k = 5 := by omega
        have HT : Hid (ns.take 5 = ns.take 5) := rfl
        have h55 : ¬ ((5 : Nat) : Int) < 5 := by omega
        clear hlt5
        go_wp2_with fail
        obtain ⟨B2, hB2⟩ : ∃ B2, B2 = wr.heap.size := ⟨_, rfl⟩
        have HB2 : Hid (B2 = wr.heap.size) := hB2
        have hnb : ∀ b, nv.ownBlock = some b → b < B2 := fun b hb => by rw [hB2]; exact (World.ownsRow.lt hown b hb).2
        have HNB : Hid _ := hnb
        have HB3 : Hid (w.heap.size + 3 ≤ B2) := by show _ ≤ _; rw [hB2]; exact hsz
        have HOW : Hid _ := hown
        clear hB2 hB hsz hX hZ hO HO hown hnb c3 hnc
        go_loopw [8] (fun i wr => ∃ k : Nat, k ≤ K ∧ k ≤ 5 ∧ (n = 0 → k = 0) ∧ i = .int .i64 k ∧ B2 ≤ wr.heap.size ∧ ∃ kv css, Keeps w ki m s s2 (.slice na N nc) (.slice ka K kc) nv kv wr ∧ KidsR n w B2 5 ns ks nv kv k css wr) (fun i _ => K - (intOf i).toNat)
        case atStart => exact ⟨0, by omega, by omega, by omega, rfl, by rw [HB2.out]; exact Nat.le_refl _, _, [], HKe.out, HOW.out, World.ownsRow_nil _ _ _ _, rfl, fun c hc => (by cases hc), fun i _ h => absurd h (by simp)⟩
        case round =>
          obtain ⟨k, hkK, hk5', hk0, rfl, hBs, kv, css, hKe2, hKR⟩ := hrel
          have HK2 : Hid _ := hKe2
          have HKR : Hid _ := hKR
          obtain ⟨hB, hsz, hX, hZ, hO⟩ := hKe2
          have c4 := hX.cell 4
          clear HKe HOW
          have fin : CutR w.heap.size (n := n + 1) (⟨ki, m, t, ns, ks⟩ : JN (J n)) (.agg #[.int .i64 ki, .int .i64 m, .string s2, nv, kv]) wr ∨ True := .inr trivial
          clear fin
          by_cases hkK2 : k < K
          · by_cases hk52 : k < 5
            · by_cases hn0 : n = 0
              · have hni : ¬ (0 : Int) < (n : Int) := by omega
                have HKL : Hid ((if n = 0 then [] else (ks.take 5).map (cutJ n)) = (ks.take k).map (cutJ n)) := by show _ = _; rw [if_pos hn0, hk0 hn0]; rfl
                have hall5 : (#[.int .i64 ki, .int .i64 m, .string s2, nv, kv] : Array Value).all (·.oneCell') = true := by simp [own_one HKR.out.1, own_one HKR.out.2.1, show ∀ k z, (Value.int k z).oneCell' = true from fun _ _ => rfl, show ∀ s, (Value.string s).oneCell' = true from fun _ => rfl]
                have hD := cut_done hki hm HD.out HS.out HDN.out (by rw [← HN.out]; omega) (by first | exact HT.out | rfl) HB3.out (by rw [← HK.out]; exact hkK) (by first | exact HKL.out | rfl) HKR.out HK2.out
                have HDD : Hid _ := hD
                have hz5 : (Tryd.prog.info? 25).map (·.size) = some 5 := by kernel_rfl
                have o0 := hO.cell 0
                have o1 := hO.cell 1
                have o2' := hO.cell 2
                have o3 := hO.cell 3
                have o4 := hO.cell 4
                clear hD HKL
                go_wp2_with ((refine wpList_store_row rfl 25 (.tmp 4) (.tmp 79) rfl (w.heap.size + 1) #[.int .i64 ki, .int .i64 m, .string s2, nv, kv] rfl rfl 25 _ HK2.out.2.2.2.1 hz5 rfl hall5 ?_))
                refine bodyPost_ret (v := .agg #[.int .i64 ki, .int .i64 m, .string s2, nv, kv]) ?_ rfl ⟨_, rfl, HDD.out.1, by rw [HR.out]; exact HDD.out.2⟩
                exact results_cell_row Tryd.results7 _ _ _ 25 #[.int .i64 ki, .int .i64 m, .string s2, nv, kv] (0, 0) _ rfl (setRow_heap _ _ _ _ _ _ HK2.out.2.2.2.1) Tryd.underlying25 rfl hz5
              · have hni : (0 : Int) < (n : Int) := by omega
                obtain ⟨b1, o1, rfl, hc1⟩ := hkc (by rw [← HK.out]; omega)
                have l1 : k < ks.length := by rw [← HK.out]; exact hkK2
                obtain ⟨cs0, hx1, hS1⟩ := hc1 k l1
                obtain ⟨j1, hj1⟩ : ∃ j, j = ks[k]'l1 := ⟨_, rfl⟩
                rw [← hj1] at hS1
                have HJ1 : Hid (j1 = ks[k]'l1) := hj1
                have q1 := lt_of_heap hX
                have q2 := lt_of_heap hO
                have o4 := hO.cell 4
                have hnn : ¬ (n : Int) ≤ 0 := by omega
                have hrecn := HREC.out hn0
                obtain ⟨i1, hi1, hy0, hy1, hy2⟩ := info25
                clear hj1 hc1 hkc
                go_wp2_with fail
                refine wp_region_inv 11 (specs [Is (.pointer (some ⟨w.heap.size + 1 + 1, 4, none⟩)), Is kv, Is (.pointer (some ⟨w.heap.size, 4, none⟩)), Is (.slice (some ⟨b1, o1, none⟩) K kc), Is (.int .i64 (k : Int)), Is (.pointer (some ⟨b1, o1 + k * 5, none⟩)), JV j1, Is (.int .i64 (n : Int)), Is (.int .i64 ((n : Int) - 1)), CutR wr.heap.size j1, NewK wr.heap.size j1])
                  (by kernel_rfl) (specs_stb ⟨Is.stb _, Is.stb _, Is.stb _, Is.stb _, Is.stb _, Is.stb _, JV.stb _, Is.stb _, Is.stb _, CutR.stb _ _, NewK.stb _ _, trivial⟩) (by kernel_rfl) ?_ ?_
                · refine ⟨fun a w2 hB2 hfr hdep => Step.plain rfl (Does.run _ (fa25 _ 4 (by decide) rfl (hfr 5 (by kernel_rfl))) rfl),
                    fun a w2 hB2 hfr hdep => Step.plain rfl (Does.run _ (ldK rfl (hdep 0 66 (by kernel_rfl)) ((hB2.cell (p := ⟨w.heap.size + 1 + 1, 4, none⟩) q2).trans o4)) rfl),
                    fun a w2 hB2 hfr hdep => Step.plain rfl (Does.run _ (fa25 _ 4 (by decide) rfl (hfr 2 (by kernel_rfl))) rfl),
                    fun a w2 hB2 hfr hdep => Step.plain rfl (Does.run _ (ldK rfl (hdep 2 68 (by kernel_rfl)) ((hB2.cell (p := ⟨w.heap.size, 4, none⟩) q1).trans c4)) rfl),
                    fun a w2 hB2 hfr hdep => Step.plain rfl (dMove (R := Is _) rfl (hfr 8 (by kernel_rfl))),
                    fun a w2 hB2 hfr hdep => Step.plain rfl (Does.run _ (idxK rfl (hdep 3 69 (by kernel_rfl)) (hdep 4 70 (by kernel_rfl)) hkK2) rfl),
                    fun a w2 hB2 hfr hdep => Step.plain rfl (dLdV (n := n) rfl (hdep 5 71 (by kernel_rfl)) ((hx1.below hB).below hB2) (JC.below _ _ _ _ _ hB2 (JC.below _ _ _ _ _ hB hS1))),
                    fun a w2 hB2 hfr hdep => Step.plain rfl (dMove (R := Is _) rfl (hfr 1 (by kernel_rfl))),
                    fun a w2 hB2 hfr hdep => Step.plain rfl (Does.run _ (subO rfl (hdep 7 73 (by kernel_rfl)) rfl (by omega) (by omega)) rfl),
                    fun a w2 hB2 hfr hdep => Step.plain rfl (Does.call 7 #[a.eval (.tmp 72), a.eval (.tmp 74)] (by kernel_rfl) (by
                      rw [show a.eval (.tmp 74) = .int .i64 ((n : Int) - 1) from hdep 8 74 (by kernel_rfl)]
                      exact (hrecn j1 _ w2 (hdep 6 72 (by kernel_rfl))).mono fun e w' ⟨v', e1, e2, cs, e3, e4, e5⟩ => ⟨v', e1, e2, cs, e3, e4, JM.move (fun b _ hS => ⟨Nat.le_trans hB2.size hS, rfl⟩) _ _ _ e5⟩)),
                    fun a w2 hB2 hfr hdep => Step.plain rfl (newK rfl (hdep 9 75 (by kernel_rfl))), trivial⟩
                intro u hu
                simp only [List.take, List.drop, FinAll, Act.put, List.setIfInBounds_toArray, List.set_cons_succ, List.set_cons_zero]
                rintro _ rfl v67 h67 _ rfl _ rfl _ rfl _ rfl v72 _ _ rfl _ rfl v75 _ _ ⟨g0, cs, rfl, hcs5, hgc, hJ⟩
                have h67 : v67 = kv := h67
                subst v67
                have hnews : ∀ (j : Nat) x, cs[j]? = some x → u.cell? ((⟨g0, 0, none⟩ : Addr).add j) = some x := fun j x hj => by
                  rw [Addr.add_mid, Nat.zero_add, cell_of_row _ _ _ _ _ _ hgc, ← hj]; simp
                have hone := JM.one hn0 hJ
                have hbs2 : B2 ≤ u.heap.size := Nat.le_trans hBs hu.size
                refine wpList_append_lies u rfl (.tmp 67) (.tmp 76) 23 rfl B2 25 i1 _ 5 80 Tryd.underlying23 hi1 hy0 hy1 hy2 rfl (by decide) kv k css.flatten rfl (owned_below HKR.out.2.1 hu) ⟨g0, 0, none⟩ 1 1 cs rfl hcs5 hnews hone (by decide) (by unfold maxLen; omega) (by omega) hbs2 _ rfl ?_
                intro g cap w4 hown4 hgrow4 hat4 hlt4
                have hKu := Keeps.below HK2.out hu
                have hlk : ∀ b, kv.ownBlock = some b → B2 ≤ b ∧ b < u.heap.size := World.ownsRow.lt (owned_below HKR.out.2.1 hu)
                have hO4 : w4.heap[w.heap.size + 1 + 1]? = some (.cells #[.int .i64 ki, .int .i64 m, .string s2, nv, kv] 25 (0, 0)) := grown_keep0 hKu.2.2.2.2 hgrow4 hlk (by have := HB3.out; omega)
                have hc4 : w4.cell? ⟨w.heap.size + 1 + 1, 4, none⟩ = some kv := (cell_of_row _ _ _ _ _ _ hO4).trans rfl
                have hf4 : w4.frozen? ⟨w.heap.size + 1 + 1, 4, none⟩ = false := free_ints hO4 4
                have hK5 := Keeps.step0 (row := kv) hKu hlk HB3.out hgrow4 (j := 4) (u := .slice (some ⟨g, 0, none⟩) (k + 1) cap) rfl
                have hR5 := kids_step l1 HKR.out hu hcs5 (by rw [← HJ1.out]; exact hJ) hgrow4 hown4 hat4 hBs HNB.out HB3.out
                have HE5 : Hid _ := (⟨hK5, hR5⟩ : _ ∧ _)
                have hs4 := hgrow4.size
                clear hKu hlk hK5 hR5 hO4 hnews hone hx1 hS1 hX hO hZ c4 o4 hgrow4 hown4 hat4
                go_wp2
                exact ⟨⟨k + 1, by omega, by omega, by omega, by go_num, by simp; omega, _, _, HE5.out.1, HE5.out.2⟩, by simp [intOf]; omega⟩
            · obtain rfl : k = 5 := by omega
              have HKL : Hid ((if n = 0 then [] else (ks.take 5).map (cutJ n)) = (ks.take 5).map (cutJ n)) := by show _ = _; rw [if_neg (fun h => by have := hk0 h; omega)]
              have h55' : ¬ ((5 : Nat) : Int) < 5 := by omega
              have hall5 : (#[.int .i64 ki, .int .i64 m, .string s2, nv, kv] : Array Value).all (·.oneCell') = true := by simp [own_one HKR.out.1, own_one HKR.out.2.1, show ∀ k z, (Value.int k z).oneCell' = true from fun _ _ => rfl, show ∀ s, (Value.string s).oneCell' = true from fun _ => rfl]
              have hD := cut_done hki hm HD.out HS.out HDN.out (by rw [← HN.out]; omega) (by first | exact HT.out | rfl) HB3.out (by rw [← HK.out]; exact hkK) (by first | exact HKL.out | rfl) HKR.out HK2.out
              have HDD : Hid _ := hD
              have hz5 : (Tryd.prog.info? 25).map (·.size) = some 5 := by kernel_rfl
              have o0 := hO.cell 0
              have o1 := hO.cell 1
              have o2' := hO.cell 2
              have o3 := hO.cell 3
              have o4 := hO.cell 4
              clear hD HKL
              go_wp2_with ((refine wpList_store_row rfl 25 (.tmp 4) (.tmp 79) rfl (w.heap.size + 1) #[.int .i64 ki, .int .i64 m, .string s2, nv, kv] rfl rfl 25 _ HK2.out.2.2.2.1 hz5 rfl hall5 ?_))
              refine bodyPost_ret (v := .agg #[.int .i64 ki, .int .i64 m, .string s2, nv, kv]) ?_ rfl ⟨_, rfl, HDD.out.1, by rw [HR.out]; exact HDD.out.2⟩
              exact results_cell_row Tryd.results7 _ _ _ 25 #[.int .i64 ki, .int .i64 m, .string s2, nv, kv] (0, 0) _ rfl (setRow_heap _ _ _ _ _ _ HK2.out.2.2.2.1) Tryd.underlying25 rfl hz5
          · obtain rfl : K = k := by omega
            have HKL : Hid ((if n = 0 then [] else (ks.take 5).map (cutJ n)) = (ks.take K).map (cutJ n)) := by
              show _ = _
              rw [List.take_of_length_le (i := K) (by rw [← HK.out]; exact Nat.le_refl _), List.take_of_length_le (i := 5) (by rw [← HK.out]; exact hk5')]
              by_cases h0 : n = 0
              · have := hk0 h0; rw [HK.out] at this; rw [List.eq_nil_of_length_eq_zero this]; simp
              · rw [if_neg h0]
            have hall5 : (#[.int .i64 ki, .int .i64 m, .string s2, nv, kv] : Array Value).all (·.oneCell') = true := by simp [own_one HKR.out.1, own_one HKR.out.2.1, show ∀ k z, (Value.int k z).oneCell' = true from fun _ _ => rfl, show ∀ s, (Value.string s).oneCell' = true from fun _ => rfl]
            have hD := cut_done hki hm HD.out HS.out HDN.out (by rw [← HN.out]; omega) (by first | exact HT.out | rfl) HB3.out (by rw [← HK.out]; exact hkK) (by first | exact HKL.out | rfl) HKR.out HK2.out
            have HDD : Hid _ := hD
            have hz5 : (Tryd.prog.info? 25).map (·.size) = some 5 := by kernel_rfl
            have o0 := hO.cell 0
            have o1 := hO.cell 1
            have o2' := hO.cell 2
            have o3 := hO.cell 3
            have o4 := hO.cell 4
            clear hD HKL
            go_wp2_with ((refine wpList_store_row rfl 25 (.tmp 4) (.tmp 79) rfl (w.heap.size + 1) #[.int .i64 ki, .int .i64 m, .string s2, nv, kv] rfl rfl 25 _ HK2.out.2.2.2.1 hz5 rfl hall5 ?_))
            refine bodyPost_ret (v := .agg #[.int .i64 ki, .int .i64 m, .string s2, nv, kv]) ?_ rfl ⟨_, rfl, HDD.out.1, by rw [HR.out]; exact HDD.out.2⟩
            exact results_cell_row Tryd.results7 _ _ _ 25 #[.int .i64 ki, .int .i64 m, .string s2, nv, kv] (0, 0) _ rfl (setRow_heap _ _ _ _ _ _ HK2.out.2.2.2.1) Tryd.underlying25 rfl hz5
    · obtain rfl : N = k := by omega
      have HT : Hid (ns.take 5 = ns.take N) := by show _ = _; rw [List.take_of_length_le (by rw [← HN.out]; exact hk5), List.take_of_length_le (by rw [← HN.out]; exact Nat.le_refl _)]
      go_wp2_with fail
      obtain ⟨B2, hB2⟩ : ∃ B2, B2 = wr.heap.size := ⟨_, rfl⟩
      have HB2 : Hid (B2 = wr.heap.size) := hB2
      have hnb : ∀ b, nv.ownBlock = some b → b < B2 := fun b hb => by rw [hB2]; exact (World.ownsRow.lt hown b hb).2
      have HNB : Hid _ := hnb
      have HB3 : Hid (w.heap.size + 3 ≤ B2) := by show _ ≤ _; rw [hB2]; exact hsz
      have HOW : Hid _ := hown
      clear hB2 hB hsz hX hZ hO HO hown hnb c3 hnc
      go_loopw [8] (fun i wr => ∃ k : Nat, k ≤ K ∧ k ≤ 5 ∧ (n = 0 → k = 0) ∧ i = .int .i64 k ∧ B2 ≤ wr.heap.size ∧ ∃ kv css, Keeps w ki m s s2 (.slice na N nc) (.slice ka K kc) nv kv wr ∧ KidsR n w B2 N ns ks nv kv k css wr) (fun i _ => K - (intOf i).toNat)
      case atStart => exact ⟨0, by omega, by omega, by omega, rfl, by rw [HB2.out]; exact Nat.le_refl _, _, [], HKe.out, HOW.out, World.ownsRow_nil _ _ _ _, rfl, fun c hc => (by cases hc), fun i _ h => absurd h (by simp)⟩
      case round =>
        obtain ⟨k, hkK, hk5', hk0, rfl, hBs, kv, css, hKe2, hKR⟩ := hrel
        have HK2 : Hid _ := hKe2
        have HKR : Hid _ := hKR
        obtain ⟨hB, hsz, hX, hZ, hO⟩ := hKe2
        have c4 := hX.cell 4
        clear HKe HOW
        have fin : CutR w.heap.size (n := n + 1) (⟨ki, m, t, ns, ks⟩ : JN (J n)) (.agg #[.int .i64 ki, .int .i64 m, .string s2, nv, kv]) wr ∨ True := .inr trivial
        clear fin
        by_cases hkK2 : k < K
        · by_cases hk52 : k < 5
          · by_cases hn0 : n = 0
            · have hni : ¬ (0 : Int) < (n : Int) := by omega
              have HKL : Hid ((if n = 0 then [] else (ks.take 5).map (cutJ n)) = (ks.take k).map (cutJ n)) := by show _ = _; rw [if_pos hn0, hk0 hn0]; rfl
              have hall5 : (#[.int .i64 ki, .int .i64 m, .string s2, nv, kv] : Array Value).all (·.oneCell') = true := by simp [own_one HKR.out.1, own_one HKR.out.2.1, show ∀ k z, (Value.int k z).oneCell' = true from fun _ _ => rfl, show ∀ s, (Value.string s).oneCell' = true from fun _ => rfl]
              have hD := cut_done hki hm HD.out HS.out HDN.out (by rw [← HN.out]; omega) (by first | exact HT.out | rfl) HB3.out (by rw [← HK.out]; exact hkK) (by first | exact HKL.out | rfl) HKR.out HK2.out
              have HDD : Hid _ := hD
              have hz5 : (Tryd.prog.info? 25).map (·.size) = some 5 := by kernel_rfl
              have o0 := hO.cell 0
              have o1 := hO.cell 1
              have o2' := hO.cell 2
              have o3 := hO.cell 3
              have o4 := hO.cell 4
              clear hD HKL
              go_wp2_with ((refine wpList_store_row rfl 25 (.tmp 4) (.tmp 79) rfl (w.heap.size + 1) #[.int .i64 ki, .int .i64 m, .string s2, nv, kv] rfl rfl 25 _ HK2.out.2.2.2.1 hz5 rfl hall5 ?_))
              refine bodyPost_ret (v := .agg #[.int .i64 ki, .int .i64 m, .string s2, nv, kv]) ?_ rfl ⟨_, rfl, HDD.out.1, by rw [HR.out]; exact HDD.out.2⟩
              exact results_cell_row Tryd.results7 _ _ _ 25 #[.int .i64 ki, .int .i64 m, .string s2, nv, kv] (0, 0) _ rfl (setRow_heap _ _ _ _ _ _ HK2.out.2.2.2.1) Tryd.underlying25 rfl hz5
            · have hni : (0 : Int) < (n : Int) := by omega
              obtain ⟨b1, o1, rfl, hc1⟩ := hkc (by rw [← HK.out]; omega)
              have l1 : k < ks.length := by rw [← HK.out]; exact hkK2
              obtain ⟨cs0, hx1, hS1⟩ := hc1 k l1
              obtain ⟨j1, hj1⟩ : ∃ j, j = ks[k]'l1 := ⟨_, rfl⟩
              rw [← hj1] at hS1
              have HJ1 : Hid (j1 = ks[k]'l1) := hj1
              have q1 := lt_of_heap hX
              have q2 := lt_of_heap hO
              have o4 := hO.cell 4
              have hnn : ¬ (n : Int) ≤ 0 := by omega
              have hrecn := HREC.out hn0
              obtain ⟨i1, hi1, hy0, hy1, hy2⟩ := info25
              clear hj1 hc1 hkc
              go_wp2_with fail
              refine wp_region_inv 11 (specs [Is (.pointer (some ⟨w.heap.size + 1 + 1, 4, none⟩)), Is kv, Is (.pointer (some ⟨w.heap.size, 4, none⟩)), Is (.slice (some ⟨b1, o1, none⟩) K kc), Is (.int .i64 (k : Int)), Is (.pointer (some ⟨b1, o1 + k * 5, none⟩)), JV j1, Is (.int .i64 (n : Int)), Is (.int .i64 ((n : Int) - 1)), CutR wr.heap.size j1, NewK wr.heap.size j1])
                (by kernel_rfl) (specs_stb ⟨Is.stb _, Is.stb _, Is.stb _, Is.stb _, Is.stb _, Is.stb _, JV.stb _, Is.stb _, Is.stb _, CutR.stb _ _, NewK.stb _ _, trivial⟩) (by kernel_rfl) ?_ ?_
              · refine ⟨fun a w2 hB2 hfr hdep => Step.plain rfl (Does.run _ (fa25 _ 4 (by decide) rfl (hfr 5 (by kernel_rfl))) rfl),
                  fun a w2 hB2 hfr hdep => Step.plain rfl (Does.run _ (ldK rfl (hdep 0 66 (by kernel_rfl)) ((hB2.cell (p := ⟨w.heap.size + 1 + 1, 4, none⟩) q2).trans o4)) rfl),
                  fun a w2 hB2 hfr hdep => Step.plain rfl (Does.run _ (fa25 _ 4 (by decide) rfl (hfr 2 (by kernel_rfl))) rfl),
                  fun a w2 hB2 hfr hdep => Step.plain rfl (Does.run _ (ldK rfl (hdep 2 68 (by kernel_rfl)) ((hB2.cell (p := ⟨w.heap.size, 4, none⟩) q1).trans c4)) rfl),
                  fun a w2 hB2 hfr hdep => Step.plain rfl (dMove (R := Is _) rfl (hfr 8 (by kernel_rfl))),
                  fun a w2 hB2 hfr hdep => Step.plain rfl (Does.run _ (idxK rfl (hdep 3 69 (by kernel_rfl)) (hdep 4 70 (by kernel_rfl)) hkK2) rfl),
                  fun a w2 hB2 hfr hdep => Step.plain rfl (dLdV (n := n) rfl (hdep 5 71 (by kernel_rfl)) ((hx1.below hB).below hB2) (JC.below _ _ _ _ _ hB2 (JC.below _ _ _ _ _ hB hS1))),
                  fun a w2 hB2 hfr hdep => Step.plain rfl (dMove (R := Is _) rfl (hfr 1 (by kernel_rfl))),
                  fun a w2 hB2 hfr hdep => Step.plain rfl (Does.run _ (subO rfl (hdep 7 73 (by kernel_rfl)) rfl (by omega) (by omega)) rfl),
                  fun a w2 hB2 hfr hdep => Step.plain rfl (Does.call 7 #[a.eval (.tmp 72), a.eval (.tmp 74)] (by kernel_rfl) (by
                    rw [show a.eval (.tmp 74) = .int .i64 ((n : Int) - 1) from hdep 8 74 (by kernel_rfl)]
                    exact (hrecn j1 _ w2 (hdep 6 72 (by kernel_rfl))).mono fun e w' ⟨v', e1, e2, cs, e3, e4, e5⟩ => ⟨v', e1, e2, cs, e3, e4, JM.move (fun b _ hS => ⟨Nat.le_trans hB2.size hS, rfl⟩) _ _ _ e5⟩)),
                  fun a w2 hB2 hfr hdep => Step.plain rfl (newK rfl (hdep 9 75 (by kernel_rfl))), trivial⟩
              intro u hu
              simp only [List.take, List.drop, FinAll, Act.put, List.setIfInBounds_toArray, List.set_cons_succ, List.set_cons_zero]
              rintro _ rfl v67 h67 _ rfl _ rfl _ rfl _ rfl v72 _ _ rfl _ rfl v75 _ _ ⟨g0, cs, rfl, hcs5, hgc, hJ⟩
              have h67 : v67 = kv := h67
              subst v67
              have hnews : ∀ (j : Nat) x, cs[j]? = some x → u.cell? ((⟨g0, 0, none⟩ : Addr).add j) = some x := fun j x hj => by
                rw [Addr.add_mid, Nat.zero_add, cell_of_row _ _ _ _ _ _ hgc, ← hj]; simp
              have hone := JM.one hn0 hJ
              have hbs2 : B2 ≤ u.heap.size := Nat.le_trans hBs hu.size
              refine wpList_append_lies u rfl (.tmp 67) (.tmp 76) 23 rfl B2 25 i1 _ 5 80 Tryd.underlying23 hi1 hy0 hy1 hy2 rfl (by decide) kv k css.flatten rfl (owned_below HKR.out.2.1 hu) ⟨g0, 0, none⟩ 1 1 cs rfl hcs5 hnews hone (by decide) (by unfold maxLen; omega) (by omega) hbs2 _ rfl ?_
              intro g cap w4 hown4 hgrow4 hat4 hlt4
              have hKu := Keeps.below HK2.out hu
              have hlk : ∀ b, kv.ownBlock = some b → B2 ≤ b ∧ b < u.heap.size := World.ownsRow.lt (owned_below HKR.out.2.1 hu)
              have hO4 : w4.heap[w.heap.size + 1 + 1]? = some (.cells #[.int .i64 ki, .int .i64 m, .string s2, nv, kv] 25 (0, 0)) := grown_keep0 hKu.2.2.2.2 hgrow4 hlk (by have := HB3.out; omega)
              have hc4 : w4.cell? ⟨w.heap.size + 1 + 1, 4, none⟩ = some kv := (cell_of_row _ _ _ _ _ _ hO4).trans rfl
              have hf4 : w4.frozen? ⟨w.heap.size + 1 + 1, 4, none⟩ = false := free_ints hO4 4
              have hK5 := Keeps.step0 (row := kv) hKu hlk HB3.out hgrow4 (j := 4) (u := .slice (some ⟨g, 0, none⟩) (k + 1) cap) rfl
              have hR5 := kids_step l1 HKR.out hu hcs5 (by rw [← HJ1.out]; exact hJ) hgrow4 hown4 hat4 hBs HNB.out HB3.out
              have HE5 : Hid _ := (⟨hK5, hR5⟩ : _ ∧ _)
              have hs4 := hgrow4.size
              clear hKu hlk hK5 hR5 hO4 hnews hone hx1 hS1 hX hO hZ c4 o4 hgrow4 hown4 hat4
              go_wp2
              exact ⟨⟨k + 1, by omega, by omega, by omega, by go_num, by simp; omega, _, _, HE5.out.1, HE5.out.2⟩, by simp [intOf]; omega⟩
          · obtain rfl : k = 5 := by omega
            have HKL : Hid ((if n = 0 then [] else (ks.take 5).map (cutJ n)) = (ks.take 5).map (cutJ n)) := by show _ = _; rw [if_neg (fun h => by have := hk0 h; omega)]
            have h55' : ¬ ((5 : Nat) : Int) < 5 := by omega
            have hall5 : (#[.int .i64 ki, .int .i64 m, .string s2, nv, kv] : Array Value).all (·.oneCell') = true := by simp [own_one HKR.out.1, own_one HKR.out.2.1, show ∀ k z, (Value.int k z).oneCell' = true from fun _ _ => rfl, show ∀ s, (Value.string s).oneCell' = true from fun _ => rfl]
            have hD := cut_done hki hm HD.out HS.out HDN.out (by rw [← HN.out]; omega) (by first | exact HT.out | rfl) HB3.out (by rw [← HK.out]; exact hkK) (by first | exact HKL.out | rfl) HKR.out HK2.out
            have HDD : Hid _ := hD
            have hz5 : (Tryd.prog.info? 25).map (·.size) = some 5 := by kernel_rfl
            have o0 := hO.cell 0
            have o1 := hO.cell 1
            have o2' := hO.cell 2
            have o3 := hO.cell 3
            have o4 := hO.cell 4
            clear hD HKL
            go_wp2_with ((refine wpList_store_row rfl 25 (.tmp 4) (.tmp 79) rfl (w.heap.size + 1) #[.int .i64 ki, .int .i64 m, .string s2, nv, kv] rfl rfl 25 _ HK2.out.2.2.2.1 hz5 rfl hall5 ?_))
            refine bodyPost_ret (v := .agg #[.int .i64 ki, .int .i64 m, .string s2, nv, kv]) ?_ rfl ⟨_, rfl, HDD.out.1, by rw [HR.out]; exact HDD.out.2⟩
            exact results_cell_row Tryd.results7 _ _ _ 25 #[.int .i64 ki, .int .i64 m, .string s2, nv, kv] (0, 0) _ rfl (setRow_heap _ _ _ _ _ _ HK2.out.2.2.2.1) Tryd.underlying25 rfl hz5
        · obtain rfl : K = k := by omega
          have HKL : Hid ((if n = 0 then [] else (ks.take 5).map (cutJ n)) = (ks.take K).map (cutJ n)) := by
            show _ = _
            rw [List.take_of_length_le (i := K) (by rw [← HK.out]; exact Nat.le_refl _), List.take_of_length_le (i := 5) (by rw [← HK.out]; exact hk5')]
            by_cases h0 : n = 0
            · have := hk0 h0; rw [HK.out] at this; rw [List.eq_nil_of_length_eq_zero this]; simp
            · rw [if_neg h0]
          have hall5 : (#[.int .i64 ki, .int .i64 m, .string s2, nv, kv] : Array Value).all (·.oneCell') = true := by simp [own_one HKR.out.1, own_one HKR.out.2.1, show ∀ k z, (Value.int k z).oneCell' = true from fun _ _ => rfl, show ∀ s, (Value.string s).oneCell' = true from fun _ => rfl]
          have hD := cut_done hki hm HD.out HS.out HDN.out (by rw [← HN.out]; omega) (by first | exact HT.out | rfl) HB3.out (by rw [← HK.out]; exact hkK) (by first | exact HKL.out | rfl) HKR.out HK2.out
          have HDD : Hid _ := hD
          have hz5 : (Tryd.prog.info? 25).map (·.size) = some 5 := by kernel_rfl
          have o0 := hO.cell 0
          have o1 := hO.cell 1
          have o2' := hO.cell 2
          have o3 := hO.cell 3
          have o4 := hO.cell 4
          clear hD HKL
          go_wp2_with ((refine wpList_store_row rfl 25 (.tmp 4) (.tmp 79) rfl (w.heap.size + 1) #[.int .i64 ki, .int .i64 m, .string s2, nv, kv] rfl rfl 25 _ HK2.out.2.2.2.1 hz5 rfl hall5 ?_))
          refine bodyPost_ret (v := .agg #[.int .i64 ki, .int .i64 m, .string s2, nv, kv]) ?_ rfl ⟨_, rfl, HDD.out.1, by rw [HR.out]; exact HDD.out.2⟩
          exact results_cell_row Tryd.results7 _ _ _ 25 #[.int .i64 ki, .int .i64 m, .string s2, nv, kv] (0, 0) _ rfl (setRow_heap _ _ _ _ _ _ HK2.out.2.2.2.1) Tryd.underlying25 rfl hz5
theorem cutS {n : Nat} (ih : ∀ m, n = m + 1 → CutC m) (ki m : Int) (t : List Nat) (ns : List (List Nat)) (ks : List (J n)) (v : Value) (w : World) (hn1 : n ≤ 1000) (hv : JV (n := n + 1) (⟨ki, m, t, ns, ks⟩ : JN (J n)) v w) (hlt : t.length ≤ 50) :
    Calls Tryd.prog 7 #[v, .int .i64 (n : Int)] w fun e w' => ∃ v', e = .returned v' ∧ Below w.heap.size w w' ∧ CutR w.heap.size (n := n + 1) (⟨ki, m, t, ns, ks⟩ : JN (J n)) v' w' := by
  obtain ⟨_, rfl, _, s, nv, kv, rfl, hs, hn, hk, hki, hm⟩ := hv
  obtain ⟨na, nc, rfl, ln1, ln2, hnc⟩ := hn
  obtain ⟨ka, kc, rfl, lk1, lk2, hkc⟩ := hk
  have hki : -9223372036854775808 ≤ ki ∧ ki ≤ 9223372036854775807 := hki
  have hm : -9223372036854775808 ≤ m ∧ m ≤ 9223372036854775807 := hm
  have hs : Str s t := hs
  dsimp only at hnc hkc ln1 ln2 lk1 lk2
  show Calls _ _ #[.agg #[.int .i64 ki, .int .i64 m, .string s, .slice na ns.length nc, .slice ka ks.length kc], .int .i64 (n : Int)] w _
  obtain ⟨R, hR⟩ : ∃ R : Value → World → Prop, R = CutR w.heap.size (n := n + 1) (⟨ki, m, t, ns, ks⟩ : JN (J n)) := ⟨_, rfl⟩
  rw [← hR]
  have HR : Hid (R = CutR w.heap.size (n := n + 1) (⟨ki, m, t, ns, ks⟩ : JN (J n))) := hR
  clear hR
  obtain ⟨N, hN⟩ : ∃ x, x = ns.length := ⟨_, rfl⟩
  obtain ⟨K, hK⟩ : ∃ x, x = ks.length := ⟨_, rfl⟩
  rw [← hK] at lk1 ⊢
  rw [← hN] at ln1 ⊢
  have bN : N ≤ 9223372036854775807 := Nat.le_trans ln1 ln2
  have bK : K ≤ 9223372036854775807 := Nat.le_trans lk1 lk2
  have HN : Hid (N = ns.length) := hN
  have HK : Hid (K = ks.length) := hK
  clear hN hK ln1 ln2 lk1 lk2
  have HDN : Hid (∀ x ∈ ns, Dig x) := by
    intro x hx
    obtain ⟨i, hi, rfl⟩ := List.getElem_of_mem hx
    obtain ⟨b, off, _, hc⟩ := hnc (by omega)
    obtain ⟨s, _, hS⟩ := hc i hi
    have := hS.dig
    rwa [show ns.getD i [] = ns[i]'hi by simp [hi]] at this
  have hsz := hs.size
  have hi : ¬ (50 : Int) < (s.size : Int) := by omega
  obtain ⟨s2, hs2⟩ : ∃ s2, s2 = strOf (t.take 50) := ⟨_, rfl⟩
  have hss : s = s2 := by rw [hs2]; exact strOf_short hs (by omega)
  subst hss
  have HS : Hid (s = strOf (t.take 50)) := hs2
  have HD : Hid (Dig t) := hs.dig
  have hrec : n ≠ 0 → ∀ (j : J n) (v : Value) (wx : World), JV j v wx → Calls Tryd.prog 7 #[v, .int .i64 ((n : Int) - 1)] wx fun e w' => ∃ v', e = .returned v' ∧ Below wx.heap.size wx w' ∧ CutR wx.heap.size j v' w' := by
    clear hi hs2 HS HR hkc hnc HN HK hsz hlt hm hki
    cases n with
    | zero => intro h; exact absurd rfl h
    | succ m' =>
      intro _ j v wx hv
      rw [show ((m' + 1 : Nat) : Int) - 1 = (m' : Int) by omega]
      exact ih m' rfl j v wx (by omega) hv
  have HREC : Hid _ := hrec
  clear hs hs2 hsz hlt hrec ih
  go_enter Tryd.func7, Tryd.ntmps7
  obtain ⟨W3, hW3⟩ : ∃ W3 : World, W3 = (((w.alloc (.cells #[.int .i64 ki, .int .i64 m, .string s, .slice na N nc, .slice ka K kc] 25)).alloc (.cells #[.int .i64 0, .int .i64 0, .string ⟨#[]⟩, .slice none 0 0, .slice none 0 0] 25)).alloc (.cells #[.int .i64 ki, .int .i64 m, .string s, .slice none 0 0, .slice none 0 0] 25)) := ⟨_, rfl⟩
  have X1 : BoxJ W3 w.heap.size ki m s (.slice na N nc) (.slice ka K kc) := by rw [hW3]; exact (heap_alloc_old _ _ (by simp; omega)).trans ((heap_alloc_old _ _ (by simp)).trans (heap_alloc_new _ _))
  have X2 : BoxJ W3 (w.heap.size + 1) 0 0 ⟨#[]⟩ (.slice none 0 0) (.slice none 0 0) := by rw [hW3]; exact (heap_alloc_old _ _ (by simp)).trans (by have := heap_alloc_new (w.alloc (.cells #[.int .i64 ki, .int .i64 m, .string s, .slice na N nc, .slice ka K kc] 25)) (.cells #[.int .i64 0, .int .i64 0, .string ⟨#[]⟩, .slice none 0 0, .slice none 0 0] 25); simpa using this)
  have X3 : BoxJ W3 (w.heap.size + 1 + 1) ki m s (.slice none 0 0) (.slice none 0 0) := by
    rw [hW3]
    have := heap_alloc_new ((w.alloc (.cells #[.int .i64 ki, .int .i64 m, .string s, .slice na N nc, .slice ka K kc] 25)).alloc (.cells #[.int .i64 0, .int .i64 0, .string ⟨#[]⟩, .slice none 0 0, .slice none 0 0] 25)) (.cells #[.int .i64 ki, .int .i64 m, .string s, .slice none 0 0, .slice none 0 0] 25)
    unfold BoxJ
    simpa using this
  have B3 : Below w.heap.size w W3 := by rw [hW3]; exact (below2 _ _ _).alloc (by simp; omega) _
  rw [hW3] at X1 X2 X3 B3
  have HX3 : Hid _ := (⟨X1, X2, X3⟩ : _ ∧ _ ∧ _)
  clear hW3 X1 X2 X3
  obtain ⟨i0, hi0, hz0, hz1, hz2⟩ := info9
  go_wp2_with fail
  obtain ⟨X1, X2, X3⟩ := HX3.out
  go_loopw [6] (fun i wr => ∃ k : Nat, k ≤ N ∧ k ≤ 5 ∧ i = .int .i64 k ∧ ∃ nv, Keeps w ki m s s (.slice na N nc) (.slice ka K kc) nv (.slice none 0 0) wr ∧ wr.ownsRow (w.heap.size + 3) 9 1 nv k (cutNs ns k)) (fun i _ => N - (intOf i).toNat)
  case atStart => exact ⟨0, by omega, by omega, rfl, _, ⟨B3, by simp, X1, X2, X3⟩, World.ownsRow_nil _ _ _ _⟩
  case round =>
    obtain ⟨k, hkN, hk5, rfl, nv, hKe, hown⟩ := hrel
    have HKe : Hid _ := hKe
    obtain ⟨hB, hsz, hX, hZ, hO⟩ := hKe
    have c3 := hX.cell 3
    have HO : Hid _ := hO
    by_cases hlt : k < N
    · by_cases hlt5 : k < 5
      · obtain ⟨b2, o2, rfl, hc2⟩ := hnc (by rw [← HN.out]; omega)
        obtain ⟨x, hx, hS⟩ := hc2 k (by rw [← HN.out]; exact hlt)
        have hkl : k < ns.length := by rw [← HN.out]; exact hlt
        have d3 := (hB.cell (p := ⟨b2, o2 + k, none⟩) (block_lt_of_cell hx)).trans hx
        have o3 := hO.cell 3
        have HW : Hid _ := hown
        obtain ⟨y, hy⟩ : ∃ y, y = strOf ((ns.getD k []).take 50) := ⟨_, rfl⟩
        have HY : Hid _ := hy
        have hb1 : (0 : Nat) < 1 := by decide
        have hb2 : k + 1 ≤ maxLen := by unfold maxLen; omega
        have hb3 : (k + 1) * 16 ≤ 140737488355328 := by omega
        clear hx hX hZ hO
        by_cases hl50 : 50 < x.size
        · have hl50i : (50 : Int) < (x.size : Int) := by omega
          have hcutx := fun w1 => cutStr (s := x) (by omega) w1
          rw [show x.extract 0 50 = y by rw [hy]; exact hS.take50 (by omega)] at hcutx
          clear hS hl50 hy
          go_wp2_with (at_builtin; go_loud (refine wpList_append_lies _ rfl (.tmp 46) (.tmp 48) 22 rfl (w.heap.size + 3) 9 i0 (.string ⟨#[]⟩) 1 16 Tryd.underlying22 hi0 hz0 hz1 hz2 rfl (by decide) nv k (cutNs ns k) rfl (World.ownsRow.alloc HW.out _) ⟨wr.heap.size, 0, none⟩ 1 1 [.string y] rfl rfl (news_one _ _ _) one_str hb1 hb2 hb3 (by simp; omega) _ rfl ?_); intro g cap w4 hown4 hgrow4 hat4 hlt4; have hO4 : w4.heap[w.heap.size + 1 + 1]? = some (.cells #[.int .i64 ki, .int .i64 m, .string s, nv, .slice none 0 0] 25 (0, 0)) := grown_keep HO.out hgrow4 (World.ownsRow.lt HW.out) (by omega); have hc4 : w4.cell? ⟨w.heap.size + 1 + 1, 3, none⟩ = some nv := (cell_of_row _ _ _ _ _ _ hO4).trans rfl; have hf4 : w4.frozen? ⟨w.heap.size + 1 + 1, 3, none⟩ = false := free_ints hO4 3)
          have hK5 := Keeps.step (row := nv) HKe.out (World.ownsRow.lt HW.out) hgrow4 (j := 3) (u := .slice (some ⟨g, 0, none⟩) (k + 1) cap) rfl
          exact ⟨⟨k + 1, by omega, by omega, by go_num, _, hK5, by rw [cutNs_succ (by rw [← HN.out]; exact hlt), ← HY.out]; exact owned_setCell hown4 (by omega)⟩, by simp [intOf]; omega⟩
        · have hl50i : ¬ (50 : Int) < (x.size : Int) := by omega
          have hxy : x = y := by rw [hy]; exact strOf_short hS (by omega)
          subst hxy
          clear hS hl50 hy
          go_wp2_with (at_builtin; go_loud (refine wpList_append_lies _ rfl (.tmp 46) (.tmp 48) 22 rfl (w.heap.size + 3) 9 i0 (.string ⟨#[]⟩) 1 16 Tryd.underlying22 hi0 hz0 hz1 hz2 rfl (by decide) nv k (cutNs ns k) rfl (World.ownsRow.alloc HW.out _) ⟨wr.heap.size, 0, none⟩ 1 1 [.string x] rfl rfl (news_one _ _ _) one_str hb1 hb2 hb3 (by simp; omega) _ rfl ?_); intro g cap w4 hown4 hgrow4 hat4 hlt4; have hO4 : w4.heap[w.heap.size + 1 + 1]? = some (.cells #[.int .i64 ki, .int .i64 m, .string s, nv, .slice none 0 0] 25 (0, 0)) := grown_keep HO.out hgrow4 (World.ownsRow.lt HW.out) (by omega); have hc4 : w4.cell? ⟨w.heap.size + 1 + 1, 3, none⟩ = some nv := (cell_of_row _ _ _ _ _ _ hO4).trans rfl; have hf4 : w4.frozen? ⟨w.heap.size + 1 + 1, 3, none⟩ = false := free_ints hO4 3)
          have hK5 := Keeps.step (row := nv) HKe.out (World.ownsRow.lt HW.out) hgrow4 (j := 3) (u := .slice (some ⟨g, 0, none⟩) (k + 1) cap) rfl
          exact ⟨⟨k + 1, by omega, by omega, by go_num, _, hK5, by rw [cutNs_succ (by rw [← HN.out]; exact hlt), ← HY.out]; exact owned_setCell hown4 (by omega)⟩, by simp [intOf]; omega⟩
      · obtain rfl : k = 5 := by omega
        have HT : Hid (ns.take 5 = ns.take 5) := rfl
        have h55 : ¬ ((5 : Nat) : Int) < 5 := by omega
        clear hlt5
        go_wp2_with fail
        obtain ⟨B2, hB2⟩ : ∃ B2, B2 = wr.heap.size := ⟨_, rfl⟩
        have HB2 : Hid (B2 = wr.heap.size) := hB2
        have hnb : ∀ b, nv.ownBlock = some b → b < B2 := fun b hb => by rw [hB2]; exact (World.ownsRow.lt hown b hb).2
        have HNB : Hid _ := hnb
        have HB3 : Hid (w.heap.size + 3 ≤ B2) := by show _ ≤ _; rw [hB2]; exact hsz
        have HOW : Hid _ := hown
        clear hB2 hB hsz hX hZ hO HO hown hnb c3 hnc
        go_loopw [8] (fun i wr => ∃ k : Nat, k ≤ K ∧ k ≤ 5 ∧ (n = 0 → k = 0) ∧ i = .int .i64 k ∧ B2 ≤ wr.heap.size ∧ ∃ kv css, Keeps w ki m s s (.slice na N nc) (.slice ka K kc) nv kv wr ∧ KidsR n w B2 5 ns ks nv kv k css wr) (fun i _ => K - (intOf i).toNat)
        case atStart => exact ⟨0, by omega, by omega, by omega, rfl, by rw [HB2.out]; exact Nat.le_refl _, _, [], HKe.out, HOW.out, World.ownsRow_nil _ _ _ _, rfl, fun c hc => (by cases hc), fun i _ h => absurd h (by simp)⟩
        case round =>
          obtain ⟨k, hkK, hk5', hk0, rfl, hBs, kv, css, hKe2, hKR⟩ := hrel
          have HK2 : Hid _ := hKe2
          have HKR : Hid _ := hKR
          obtain ⟨hB, hsz, hX, hZ, hO⟩ := hKe2
          have c4 := hX.cell 4
          clear HKe HOW
          have fin : CutR w.heap.size (n := n + 1) (⟨ki, m, t, ns, ks⟩ : JN (J n)) (.agg #[.int .i64 ki, .int .i64 m, .string s, nv, kv]) wr ∨ True := .inr trivial
          clear fin
          by_cases hkK2 : k < K
          · by_cases hk52 : k < 5
            · by_cases hn0 : n = 0
              · have hni : ¬ (0 : Int) < (n : Int) := by omega
                have HKL : Hid ((if n = 0 then [] else (ks.take 5).map (cutJ n)) = (ks.take k).map (cutJ n)) := by show _ = _; rw [if_pos hn0, hk0 hn0]; rfl
                have hall5 : (#[.int .i64 ki, .int .i64 m, .string s, nv, kv] : Array Value).all (·.oneCell') = true := by simp [own_one HKR.out.1, own_one HKR.out.2.1, show ∀ k z, (Value.int k z).oneCell' = true from fun _ _ => rfl, show ∀ s, (Value.string s).oneCell' = true from fun _ => rfl]
                have hD := cut_done hki hm HD.out HS.out HDN.out (by rw [← HN.out]; omega) (by first | exact HT.out | rfl) HB3.out (by rw [← HK.out]; exact hkK) (by first | exact HKL.out | rfl) HKR.out HK2.out
                have HDD : Hid _ := hD
                have hz5 : (Tryd.prog.info? 25).map (·.size) = some 5 := by kernel_rfl
                have o0 := hO.cell 0
                have o1 := hO.cell 1
                have o2' := hO.cell 2
                have o3 := hO.cell 3
                have o4 := hO.cell 4
                clear hD HKL
                go_wp2_with ((refine wpList_store_row rfl 25 (.tmp 4) (.tmp 79) rfl (w.heap.size + 1) #[.int .i64 ki, .int .i64 m, .string s, nv, kv] rfl rfl 25 _ HK2.out.2.2.2.1 hz5 rfl hall5 ?_))
                refine bodyPost_ret (v := .agg #[.int .i64 ki, .int .i64 m, .string s, nv, kv]) ?_ rfl ⟨_, rfl, HDD.out.1, by rw [HR.out]; exact HDD.out.2⟩
                exact results_cell_row Tryd.results7 _ _ _ 25 #[.int .i64 ki, .int .i64 m, .string s, nv, kv] (0, 0) _ rfl (setRow_heap _ _ _ _ _ _ HK2.out.2.2.2.1) Tryd.underlying25 rfl hz5
              · have hni : (0 : Int) < (n : Int) := by omega
                obtain ⟨b1, o1, rfl, hc1⟩ := hkc (by rw [← HK.out]; omega)
                have l1 : k < ks.length := by rw [← HK.out]; exact hkK2
                obtain ⟨cs0, hx1, hS1⟩ := hc1 k l1
                obtain ⟨j1, hj1⟩ : ∃ j, j = ks[k]'l1 := ⟨_, rfl⟩
                rw [← hj1] at hS1
                have HJ1 : Hid (j1 = ks[k]'l1) := hj1
                have q1 := lt_of_heap hX
                have q2 := lt_of_heap hO
                have o4 := hO.cell 4
                have hnn : ¬ (n : Int) ≤ 0 := by omega
                have hrecn := HREC.out hn0
                obtain ⟨i1, hi1, hy0, hy1, hy2⟩ := info25
                clear hj1 hc1 hkc
                go_wp2_with fail
                refine wp_region_inv 11 (specs [Is (.pointer (some ⟨w.heap.size + 1 + 1, 4, none⟩)), Is kv, Is (.pointer (some ⟨w.heap.size, 4, none⟩)), Is (.slice (some ⟨b1, o1, none⟩) K kc), Is (.int .i64 (k : Int)), Is (.pointer (some ⟨b1, o1 + k * 5, none⟩)), JV j1, Is (.int .i64 (n : Int)), Is (.int .i64 ((n : Int) - 1)), CutR wr.heap.size j1, NewK wr.heap.size j1])
                  (by kernel_rfl) (specs_stb ⟨Is.stb _, Is.stb _, Is.stb _, Is.stb _, Is.stb _, Is.stb _, JV.stb _, Is.stb _, Is.stb _, CutR.stb _ _, NewK.stb _ _, trivial⟩) (by kernel_rfl) ?_ ?_
                · refine ⟨fun a w2 hB2 hfr hdep => Step.plain rfl (Does.run _ (fa25 _ 4 (by decide) rfl (hfr 5 (by kernel_rfl))) rfl),
                    fun a w2 hB2 hfr hdep => Step.plain rfl (Does.run _ (ldK rfl (hdep 0 66 (by kernel_rfl)) ((hB2.cell (p := ⟨w.heap.size + 1 + 1, 4, none⟩) q2).trans o4)) rfl),
                    fun a w2 hB2 hfr hdep => Step.plain rfl (Does.run _ (fa25 _ 4 (by decide) rfl (hfr 2 (by kernel_rfl))) rfl),
                    fun a w2 hB2 hfr hdep => Step.plain rfl (Does.run _ (ldK rfl (hdep 2 68 (by kernel_rfl)) ((hB2.cell (p := ⟨w.heap.size, 4, none⟩) q1).trans c4)) rfl),
                    fun a w2 hB2 hfr hdep => Step.plain rfl (dMove (R := Is _) rfl (hfr 8 (by kernel_rfl))),
                    fun a w2 hB2 hfr hdep => Step.plain rfl (Does.run _ (idxK rfl (hdep 3 69 (by kernel_rfl)) (hdep 4 70 (by kernel_rfl)) hkK2) rfl),
                    fun a w2 hB2 hfr hdep => Step.plain rfl (dLdV (n := n) rfl (hdep 5 71 (by kernel_rfl)) ((hx1.below hB).below hB2) (JC.below _ _ _ _ _ hB2 (JC.below _ _ _ _ _ hB hS1))),
                    fun a w2 hB2 hfr hdep => Step.plain rfl (dMove (R := Is _) rfl (hfr 1 (by kernel_rfl))),
                    fun a w2 hB2 hfr hdep => Step.plain rfl (Does.run _ (subO rfl (hdep 7 73 (by kernel_rfl)) rfl (by omega) (by omega)) rfl),
                    fun a w2 hB2 hfr hdep => Step.plain rfl (Does.call 7 #[a.eval (.tmp 72), a.eval (.tmp 74)] (by kernel_rfl) (by
                      rw [show a.eval (.tmp 74) = .int .i64 ((n : Int) - 1) from hdep 8 74 (by kernel_rfl)]
                      exact (hrecn j1 _ w2 (hdep 6 72 (by kernel_rfl))).mono fun e w' ⟨v', e1, e2, cs, e3, e4, e5⟩ => ⟨v', e1, e2, cs, e3, e4, JM.move (fun b _ hS => ⟨Nat.le_trans hB2.size hS, rfl⟩) _ _ _ e5⟩)),
                    fun a w2 hB2 hfr hdep => Step.plain rfl (newK rfl (hdep 9 75 (by kernel_rfl))), trivial⟩
                intro u hu
                simp only [List.take, List.drop, FinAll, Act.put, List.setIfInBounds_toArray, List.set_cons_succ, List.set_cons_zero]
                rintro _ rfl v67 h67 _ rfl _ rfl _ rfl _ rfl v72 _ _ rfl _ rfl v75 _ _ ⟨g0, cs, rfl, hcs5, hgc, hJ⟩
                have h67 : v67 = kv := h67
                subst v67
                have hnews : ∀ (j : Nat) x, cs[j]? = some x → u.cell? ((⟨g0, 0, none⟩ : Addr).add j) = some x := fun j x hj => by
                  rw [Addr.add_mid, Nat.zero_add, cell_of_row _ _ _ _ _ _ hgc, ← hj]; simp
                have hone := JM.one hn0 hJ
                have hbs2 : B2 ≤ u.heap.size := Nat.le_trans hBs hu.size
                refine wpList_append_lies u rfl (.tmp 67) (.tmp 76) 23 rfl B2 25 i1 _ 5 80 Tryd.underlying23 hi1 hy0 hy1 hy2 rfl (by decide) kv k css.flatten rfl (owned_below HKR.out.2.1 hu) ⟨g0, 0, none⟩ 1 1 cs rfl hcs5 hnews hone (by decide) (by unfold maxLen; omega) (by omega) hbs2 _ rfl ?_
                intro g cap w4 hown4 hgrow4 hat4 hlt4
                have hKu := Keeps.below HK2.out hu
                have hlk : ∀ b, kv.ownBlock = some b → B2 ≤ b ∧ b < u.heap.size := World.ownsRow.lt (owned_below HKR.out.2.1 hu)
                have hO4 : w4.heap[w.heap.size + 1 + 1]? = some (.cells #[.int .i64 ki, .int .i64 m, .string s, nv, kv] 25 (0, 0)) := grown_keep0 hKu.2.2.2.2 hgrow4 hlk (by have := HB3.out; omega)
                have hc4 : w4.cell? ⟨w.heap.size + 1 + 1, 4, none⟩ = some kv := (cell_of_row _ _ _ _ _ _ hO4).trans rfl
                have hf4 : w4.frozen? ⟨w.heap.size + 1 + 1, 4, none⟩ = false := free_ints hO4 4
                have hK5 := Keeps.step0 (row := kv) hKu hlk HB3.out hgrow4 (j := 4) (u := .slice (some ⟨g, 0, none⟩) (k + 1) cap) rfl
                have hR5 := kids_step l1 HKR.out hu hcs5 (by rw [← HJ1.out]; exact hJ) hgrow4 hown4 hat4 hBs HNB.out HB3.out
                have HE5 : Hid _ := (⟨hK5, hR5⟩ : _ ∧ _)
                have hs4 := hgrow4.size
                clear hKu hlk hK5 hR5 hO4 hnews hone hx1 hS1 hX hO hZ c4 o4 hgrow4 hown4 hat4
                go_wp2
                exact ⟨⟨k + 1, by omega, by omega, by omega, by go_num, by simp; omega, _, _, HE5.out.1, HE5.out.2⟩, by simp [intOf]; omega⟩
            · obtain rfl : k = 5 := by omega
              have HKL : Hid ((if n = 0 then [] else (ks.take 5).map (cutJ n)) = (ks.take 5).map (cutJ n)) := by show _ = _; rw [if_neg (fun h => by have := hk0 h; omega)]
              have h55' : ¬ ((5 : Nat) : Int) < 5 := by omega
              have hall5 : (#[.int .i64 ki, .int .i64 m, .string s, nv, kv] : Array Value).all (·.oneCell') = true := by simp [own_one HKR.out.1, own_one HKR.out.2.1, show ∀ k z, (Value.int k z).oneCell' = true from fun _ _ => rfl, show ∀ s, (Value.string s).oneCell' = true from fun _ => rfl]
              have hD := cut_done hki hm HD.out HS.out HDN.out (by rw [← HN.out]; omega) (by first | exact HT.out | rfl) HB3.out (by rw [← HK.out]; exact hkK) (by first | exact HKL.out | rfl) HKR.out HK2.out
              have HDD : Hid _ := hD
              have hz5 : (Tryd.prog.info? 25).map (·.size) = some 5 := by kernel_rfl
              have o0 := hO.cell 0
              have o1 := hO.cell 1
              have o2' := hO.cell 2
              have o3 := hO.cell 3
              have o4 := hO.cell 4
              clear hD HKL
              go_wp2_with ((refine wpList_store_row rfl 25 (.tmp 4) (.tmp 79) rfl (w.heap.size + 1) #[.int .i64 ki, .int .i64 m, .string s, nv, kv] rfl rfl 25 _ HK2.out.2.2.2.1 hz5 rfl hall5 ?_))
              refine bodyPost_ret (v := .agg #[.int .i64 ki, .int .i64 m, .string s, nv, kv]) ?_ rfl ⟨_, rfl, HDD.out.1, by rw [HR.out]; exact HDD.out.2⟩
              exact results_cell_row Tryd.results7 _ _ _ 25 #[.int .i64 ki, .int .i64 m, .string s, nv, kv] (0, 0) _ rfl (setRow_heap _ _ _ _ _ _ HK2.out.2.2.2.1) Tryd.underlying25 rfl hz5
          · obtain rfl : K = k := by omega
            have HKL : Hid ((if n = 0 then [] else (ks.take 5).map (cutJ n)) = (ks.take K).map (cutJ n)) := by
              show _ = _
              rw [List.take_of_length_le (i := K) (by rw [← HK.out]; exact Nat.le_refl _), List.take_of_length_le (i := 5) (by rw [← HK.out]; exact hk5')]
              by_cases h0 : n = 0
              · have := hk0 h0; rw [HK.out] at this; rw [List.eq_nil_of_length_eq_zero this]; simp
              · rw [if_neg h0]
            have hall5 : (#[.int .i64 ki, .int .i64 m, .string s, nv, kv] : Array Value).all (·.oneCell') = true := by simp [own_one HKR.out.1, own_one HKR.out.2.1, show ∀ k z, (Value.int k z).oneCell' = true from fun _ _ => rfl, show ∀ s, (Value.string s).oneCell' = true from fun _ => rfl]
            have hD := cut_done hki hm HD.out HS.out HDN.out (by rw [← HN.out]; omega) (by first | exact HT.out | rfl) HB3.out (by rw [← HK.out]; exact hkK) (by first | exact HKL.out | rfl) HKR.out HK2.out
            have HDD : Hid _ := hD
            have hz5 : (Tryd.prog.info? 25).map (·.size) = some 5 := by kernel_rfl
            have o0 := hO.cell 0
            have o1 := hO.cell 1
            have o2' := hO.cell 2
            have o3 := hO.cell 3
            have o4 := hO.cell 4
            clear hD HKL
            go_wp2_with ((refine wpList_store_row rfl 25 (.tmp 4) (.tmp 79) rfl (w.heap.size + 1) #[.int .i64 ki, .int .i64 m, .string s, nv, kv] rfl rfl 25 _ HK2.out.2.2.2.1 hz5 rfl hall5 ?_))
            refine bodyPost_ret (v := .agg #[.int .i64 ki, .int .i64 m, .string s, nv, kv]) ?_ rfl ⟨_, rfl, HDD.out.1, by rw [HR.out]; exact HDD.out.2⟩
            exact results_cell_row Tryd.results7 _ _ _ 25 #[.int .i64 ki, .int .i64 m, .string s, nv, kv] (0, 0) _ rfl (setRow_heap _ _ _ _ _ _ HK2.out.2.2.2.1) Tryd.underlying25 rfl hz5
    · obtain rfl : N = k := by omega
      have HT : Hid (ns.take 5 = ns.take N) := by show _ = _; rw [List.take_of_length_le (by rw [← HN.out]; exact hk5), List.take_of_length_le (by rw [← HN.out]; exact Nat.le_refl _)]
      go_wp2_with fail
      obtain ⟨B2, hB2⟩ : ∃ B2, B2 = wr.heap.size := ⟨_, rfl⟩
      have HB2 : Hid (B2 = wr.heap.size) := hB2
      have hnb : ∀ b, nv.ownBlock = some b → b < B2 := fun b hb => by rw [hB2]; exact (World.ownsRow.lt hown b hb).2
      have HNB : Hid _ := hnb
      have HB3 : Hid (w.heap.size + 3 ≤ B2) := by show _ ≤ _; rw [hB2]; exact hsz
      have HOW : Hid _ := hown
      clear hB2 hB hsz hX hZ hO HO hown hnb c3 hnc
      go_loopw [8] (fun i wr => ∃ k : Nat, k ≤ K ∧ k ≤ 5 ∧ (n = 0 → k = 0) ∧ i = .int .i64 k ∧ B2 ≤ wr.heap.size ∧ ∃ kv css, Keeps w ki m s s (.slice na N nc) (.slice ka K kc) nv kv wr ∧ KidsR n w B2 N ns ks nv kv k css wr) (fun i _ => K - (intOf i).toNat)
      case atStart => exact ⟨0, by omega, by omega, by omega, rfl, by rw [HB2.out]; exact Nat.le_refl _, _, [], HKe.out, HOW.out, World.ownsRow_nil _ _ _ _, rfl, fun c hc => (by cases hc), fun i _ h => absurd h (by simp)⟩
      case round =>
        obtain ⟨k, hkK, hk5', hk0, rfl, hBs, kv, css, hKe2, hKR⟩ := hrel
        have HK2 : Hid _ := hKe2
        have HKR : Hid _ := hKR
        obtain ⟨hB, hsz, hX, hZ, hO⟩ := hKe2
        have c4 := hX.cell 4
        clear HKe HOW
        have fin : CutR w.heap.size (n := n + 1) (⟨ki, m, t, ns, ks⟩ : JN (J n)) (.agg #[.int .i64 ki, .int .i64 m, .string s, nv, kv]) wr ∨ True := .inr trivial
        clear fin
        by_cases hkK2 : k < K
        · by_cases hk52 : k < 5
          · by_cases hn0 : n = 0
            · have hni : ¬ (0 : Int) < (n : Int) := by omega
              have HKL : Hid ((if n = 0 then [] else (ks.take 5).map (cutJ n)) = (ks.take k).map (cutJ n)) := by show _ = _; rw [if_pos hn0, hk0 hn0]; rfl
              have hall5 : (#[.int .i64 ki, .int .i64 m, .string s, nv, kv] : Array Value).all (·.oneCell') = true := by simp [own_one HKR.out.1, own_one HKR.out.2.1, show ∀ k z, (Value.int k z).oneCell' = true from fun _ _ => rfl, show ∀ s, (Value.string s).oneCell' = true from fun _ => rfl]
              have hD := cut_done hki hm HD.out HS.out HDN.out (by rw [← HN.out]; omega) (by first | exact HT.out | rfl) HB3.out (by rw [← HK.out]; exact hkK) (by first | exact HKL.out | rfl) HKR.out HK2.out
              have HDD : Hid _ := hD
              have hz5 : (Tryd.prog.info? 25).map (·.size) = some 5 := by kernel_rfl
              have o0 := hO.cell 0
              have o1 := hO.cell 1
              have o2' := hO.cell 2
              have o3 := hO.cell 3
              have o4 := hO.cell 4
              clear hD HKL
              go_wp2_with ((refine wpList_store_row rfl 25 (.tmp 4) (.tmp 79) rfl (w.heap.size + 1) #[.int .i64 ki, .int .i64 m, .string s, nv, kv] rfl rfl 25 _ HK2.out.2.2.2.1 hz5 rfl hall5 ?_))
              refine bodyPost_ret (v := .agg #[.int .i64 ki, .int .i64 m, .string s, nv, kv]) ?_ rfl ⟨_, rfl, HDD.out.1, by rw [HR.out]; exact HDD.out.2⟩
              exact results_cell_row Tryd.results7 _ _ _ 25 #[.int .i64 ki, .int .i64 m, .string s, nv, kv] (0, 0) _ rfl (setRow_heap _ _ _ _ _ _ HK2.out.2.2.2.1) Tryd.underlying25 rfl hz5
            · have hni : (0 : Int) < (n : Int) := by omega
              obtain ⟨b1, o1, rfl, hc1⟩ := hkc (by rw [← HK.out]; omega)
              have l1 : k < ks.length := by rw [← HK.out]; exact hkK2
              obtain ⟨cs0, hx1, hS1⟩ := hc1 k l1
              obtain ⟨j1, hj1⟩ : ∃ j, j = ks[k]'l1 := ⟨_, rfl⟩
              rw [← hj1] at hS1
              have HJ1 : Hid (j1 = ks[k]'l1) := hj1
              have q1 := lt_of_heap hX
              have q2 := lt_of_heap hO
              have o4 := hO.cell 4
              have hnn : ¬ (n : Int) ≤ 0 := by omega
              have hrecn := HREC.out hn0
              obtain ⟨i1, hi1, hy0, hy1, hy2⟩ := info25
              clear hj1 hc1 hkc
              go_wp2_with fail
              refine wp_region_inv 11 (specs [Is (.pointer (some ⟨w.heap.size + 1 + 1, 4, none⟩)), Is kv, Is (.pointer (some ⟨w.heap.size, 4, none⟩)), Is (.slice (some ⟨b1, o1, none⟩) K kc), Is (.int .i64 (k : Int)), Is (.pointer (some ⟨b1, o1 + k * 5, none⟩)), JV j1, Is (.int .i64 (n : Int)), Is (.int .i64 ((n : Int) - 1)), CutR wr.heap.size j1, NewK wr.heap.size j1])
                (by kernel_rfl) (specs_stb ⟨Is.stb _, Is.stb _, Is.stb _, Is.stb _, Is.stb _, Is.stb _, JV.stb _, Is.stb _, Is.stb _, CutR.stb _ _, NewK.stb _ _, trivial⟩) (by kernel_rfl) ?_ ?_
              · refine ⟨fun a w2 hB2 hfr hdep => Step.plain rfl (Does.run _ (fa25 _ 4 (by decide) rfl (hfr 5 (by kernel_rfl))) rfl),
                  fun a w2 hB2 hfr hdep => Step.plain rfl (Does.run _ (ldK rfl (hdep 0 66 (by kernel_rfl)) ((hB2.cell (p := ⟨w.heap.size + 1 + 1, 4, none⟩) q2).trans o4)) rfl),
                  fun a w2 hB2 hfr hdep => Step.plain rfl (Does.run _ (fa25 _ 4 (by decide) rfl (hfr 2 (by kernel_rfl))) rfl),
                  fun a w2 hB2 hfr hdep => Step.plain rfl (Does.run _ (ldK rfl (hdep 2 68 (by kernel_rfl)) ((hB2.cell (p := ⟨w.heap.size, 4, none⟩) q1).trans c4)) rfl),
                  fun a w2 hB2 hfr hdep => Step.plain rfl (dMove (R := Is _) rfl (hfr 8 (by kernel_rfl))),
                  fun a w2 hB2 hfr hdep => Step.plain rfl (Does.run _ (idxK rfl (hdep 3 69 (by kernel_rfl)) (hdep 4 70 (by kernel_rfl)) hkK2) rfl),
                  fun a w2 hB2 hfr hdep => Step.plain rfl (dLdV (n := n) rfl (hdep 5 71 (by kernel_rfl)) ((hx1.below hB).below hB2) (JC.below _ _ _ _ _ hB2 (JC.below _ _ _ _ _ hB hS1))),
                  fun a w2 hB2 hfr hdep => Step.plain rfl (dMove (R := Is _) rfl (hfr 1 (by kernel_rfl))),
                  fun a w2 hB2 hfr hdep => Step.plain rfl (Does.run _ (subO rfl (hdep 7 73 (by kernel_rfl)) rfl (by omega) (by omega)) rfl),
                  fun a w2 hB2 hfr hdep => Step.plain rfl (Does.call 7 #[a.eval (.tmp 72), a.eval (.tmp 74)] (by kernel_rfl) (by
                    rw [show a.eval (.tmp 74) = .int .i64 ((n : Int) - 1) from hdep 8 74 (by kernel_rfl)]
                    exact (hrecn j1 _ w2 (hdep 6 72 (by kernel_rfl))).mono fun e w' ⟨v', e1, e2, cs, e3, e4, e5⟩ => ⟨v', e1, e2, cs, e3, e4, JM.move (fun b _ hS => ⟨Nat.le_trans hB2.size hS, rfl⟩) _ _ _ e5⟩)),
                  fun a w2 hB2 hfr hdep => Step.plain rfl (newK rfl (hdep 9 75 (by kernel_rfl))), trivial⟩
              intro u hu
              simp only [List.take, List.drop, FinAll, Act.put, List.setIfInBounds_toArray, List.set_cons_succ, List.set_cons_zero]
              rintro _ rfl v67 h67 _ rfl _ rfl _ rfl _ rfl v72 _ _ rfl _ rfl v75 _ _ ⟨g0, cs, rfl, hcs5, hgc, hJ⟩
              have h67 : v67 = kv := h67
              subst v67
              have hnews : ∀ (j : Nat) x, cs[j]? = some x → u.cell? ((⟨g0, 0, none⟩ : Addr).add j) = some x := fun j x hj => by
                rw [Addr.add_mid, Nat.zero_add, cell_of_row _ _ _ _ _ _ hgc, ← hj]; simp
              have hone := JM.one hn0 hJ
              have hbs2 : B2 ≤ u.heap.size := Nat.le_trans hBs hu.size
              refine wpList_append_lies u rfl (.tmp 67) (.tmp 76) 23 rfl B2 25 i1 _ 5 80 Tryd.underlying23 hi1 hy0 hy1 hy2 rfl (by decide) kv k css.flatten rfl (owned_below HKR.out.2.1 hu) ⟨g0, 0, none⟩ 1 1 cs rfl hcs5 hnews hone (by decide) (by unfold maxLen; omega) (by omega) hbs2 _ rfl ?_
              intro g cap w4 hown4 hgrow4 hat4 hlt4
              have hKu := Keeps.below HK2.out hu
              have hlk : ∀ b, kv.ownBlock = some b → B2 ≤ b ∧ b < u.heap.size := World.ownsRow.lt (owned_below HKR.out.2.1 hu)
              have hO4 : w4.heap[w.heap.size + 1 + 1]? = some (.cells #[.int .i64 ki, .int .i64 m, .string s, nv, kv] 25 (0, 0)) := grown_keep0 hKu.2.2.2.2 hgrow4 hlk (by have := HB3.out; omega)
              have hc4 : w4.cell? ⟨w.heap.size + 1 + 1, 4, none⟩ = some kv := (cell_of_row _ _ _ _ _ _ hO4).trans rfl
              have hf4 : w4.frozen? ⟨w.heap.size + 1 + 1, 4, none⟩ = false := free_ints hO4 4
              have hK5 := Keeps.step0 (row := kv) hKu hlk HB3.out hgrow4 (j := 4) (u := .slice (some ⟨g, 0, none⟩) (k + 1) cap) rfl
              have hR5 := kids_step l1 HKR.out hu hcs5 (by rw [← HJ1.out]; exact hJ) hgrow4 hown4 hat4 hBs HNB.out HB3.out
              have HE5 : Hid _ := (⟨hK5, hR5⟩ : _ ∧ _)
              have hs4 := hgrow4.size
              clear hKu hlk hK5 hR5 hO4 hnews hone hx1 hS1 hX hO hZ c4 o4 hgrow4 hown4 hat4
              go_wp2
              exact ⟨⟨k + 1, by omega, by omega, by omega, by go_num, by simp; omega, _, _, HE5.out.1, HE5.out.2⟩, by simp [intOf]; omega⟩
          · obtain rfl : k = 5 := by omega
            have HKL : Hid ((if n = 0 then [] else (ks.take 5).map (cutJ n)) = (ks.take 5).map (cutJ n)) := by show _ = _; rw [if_neg (fun h => by have := hk0 h; omega)]
            have h55' : ¬ ((5 : Nat) : Int) < 5 := by omega
            have hall5 : (#[.int .i64 ki, .int .i64 m, .string s, nv, kv] : Array Value).all (·.oneCell') = true := by simp [own_one HKR.out.1, own_one HKR.out.2.1, show ∀ k z, (Value.int k z).oneCell' = true from fun _ _ => rfl, show ∀ s, (Value.string s).oneCell' = true from fun _ => rfl]
            have hD := cut_done hki hm HD.out HS.out HDN.out (by rw [← HN.out]; omega) (by first | exact HT.out | rfl) HB3.out (by rw [← HK.out]; exact hkK) (by first | exact HKL.out | rfl) HKR.out HK2.out
            have HDD : Hid _ := hD
            have hz5 : (Tryd.prog.info? 25).map (·.size) = some 5 := by kernel_rfl
            have o0 := hO.cell 0
            have o1 := hO.cell 1
            have o2' := hO.cell 2
            have o3 := hO.cell 3
            have o4 := hO.cell 4
            clear hD HKL
            go_wp2_with ((refine wpList_store_row rfl 25 (.tmp 4) (.tmp 79) rfl (w.heap.size + 1) #[.int .i64 ki, .int .i64 m, .string s, nv, kv] rfl rfl 25 _ HK2.out.2.2.2.1 hz5 rfl hall5 ?_))
            refine bodyPost_ret (v := .agg #[.int .i64 ki, .int .i64 m, .string s, nv, kv]) ?_ rfl ⟨_, rfl, HDD.out.1, by rw [HR.out]; exact HDD.out.2⟩
            exact results_cell_row Tryd.results7 _ _ _ 25 #[.int .i64 ki, .int .i64 m, .string s, nv, kv] (0, 0) _ rfl (setRow_heap _ _ _ _ _ _ HK2.out.2.2.2.1) Tryd.underlying25 rfl hz5
        · obtain rfl : K = k := by omega
          have HKL : Hid ((if n = 0 then [] else (ks.take 5).map (cutJ n)) = (ks.take K).map (cutJ n)) := by
            show _ = _
            rw [List.take_of_length_le (i := K) (by rw [← HK.out]; exact Nat.le_refl _), List.take_of_length_le (i := 5) (by rw [← HK.out]; exact hk5')]
            by_cases h0 : n = 0
            · have := hk0 h0; rw [HK.out] at this; rw [List.eq_nil_of_length_eq_zero this]; simp
            · rw [if_neg h0]
          have hall5 : (#[.int .i64 ki, .int .i64 m, .string s, nv, kv] : Array Value).all (·.oneCell') = true := by simp [own_one HKR.out.1, own_one HKR.out.2.1, show ∀ k z, (Value.int k z).oneCell' = true from fun _ _ => rfl, show ∀ s, (Value.string s).oneCell' = true from fun _ => rfl]
          have hD := cut_done hki hm HD.out HS.out HDN.out (by rw [← HN.out]; omega) (by first | exact HT.out | rfl) HB3.out (by rw [← HK.out]; exact hkK) (by first | exact HKL.out | rfl) HKR.out HK2.out
          have HDD : Hid _ := hD
          have hz5 : (Tryd.prog.info? 25).map (·.size) = some 5 := by kernel_rfl
          have o0 := hO.cell 0
          have o1 := hO.cell 1
          have o2' := hO.cell 2
          have o3 := hO.cell 3
          have o4 := hO.cell 4
          clear hD HKL
          go_wp2_with ((refine wpList_store_row rfl 25 (.tmp 4) (.tmp 79) rfl (w.heap.size + 1) #[.int .i64 ki, .int .i64 m, .string s, nv, kv] rfl rfl 25 _ HK2.out.2.2.2.1 hz5 rfl hall5 ?_))
          refine bodyPost_ret (v := .agg #[.int .i64 ki, .int .i64 m, .string s, nv, kv]) ?_ rfl ⟨_, rfl, HDD.out.1, by rw [HR.out]; exact HDD.out.2⟩
          exact results_cell_row Tryd.results7 _ _ _ 25 #[.int .i64 ki, .int .i64 m, .string s, nv, kv] (0, 0) _ rfl (setRow_heap _ _ _ _ _ _ HK2.out.2.2.2.1) Tryd.underlying25 rfl hz5
theorem cutStep {n : Nat} (ih : ∀ m, n = m + 1 → CutC m) : CutC n := by
  intro j v w hn hv
  obtain ⟨ki, m, t, ns, ks⟩ := j
  by_cases h : 50 < t.length
  · exact cutL ih ki m t ns ks v w hn hv h
  · exact cutS ih ki m t ns ks v w hn hv (by omega)
theorem cutR : ∀ n, CutC n
  | 0 => cutStep (fun m h => absurd h (by omega))
  | n + 1 => cutStep (fun m h => by
    have e : n = m := by omega
    rw [← e]; exact cutR n)
theorem cutJ_full : ∀ (n : Nat) (j : J (n + 1)), Full (n + 1) (cutJ (n + 1) j)
  | 0, j => fun k hk => by
    have hk : k ∈ (if 0 = 0 then ([] : List (J 0)) else ((JN.kids j).take 5).map (cutJ 0)) := hk
    rw [if_pos rfl] at hk; cases hk
  | n + 1, j => fun k hk => by
    have hk : k ∈ (if n + 1 = 0 then [] else ((JN.kids j).take 5).map (cutJ (n + 1))) := hk
    rw [if_neg (by omega)] at hk
    obtain ⟨k', _, rfl⟩ := List.mem_map.1 hk
    exact cutJ_full n k'
theorem cutJ_txt : ∀ (n : Nat) (j : J n), TxtJ 50 n (cutJ n j)
  | 0, _ => trivial
  | n + 1, j => by
    refine ⟨by show ((JN.text j).take 50).length ≤ 50; simp; omega, fun x hx => ?_, fun k hk => ?_⟩
    · have hx : x ∈ ((JN.names j).take 5).map (fun x => x.take 50) := hx
      obtain ⟨y, _, rfl⟩ := List.mem_map.1 hx
      simp; omega
    · have hk : k ∈ (if n = 0 then [] else ((JN.kids j).take 5).map (cutJ n)) := hk
      split at hk
      · cases hk
      · obtain ⟨k', _, rfl⟩ := List.mem_map.1 hk
        exact cutJ_txt n k'
theorem TxtJ.mono {A B : Nat} (h : A ≤ B) : ∀ (n : Nat) (j : J n), TxtJ A n j → TxtJ B n j
  | 0, _, _ => trivial
  | n + 1, j, ⟨h1, h2, h3⟩ => ⟨Nat.le_trans h1 h, fun x hx => Nat.le_trans (h2 x hx) h, fun k hk => TxtJ.mono h n k (h3 k hk)⟩
/-- What is a value may be written. -/
theorem wf_of_is : ∀ (n d : Nat) (j : J n), IsJ n d j → WfJ n j
  | 0, _, _, h => h
  | n + 1, d, j, ⟨⟨a1, a2, _⟩, _, _, hk, hi, _, hr⟩ => by
    refine ⟨fun h => by have := (hi h).1; omega, fun h => ?_, fun k hm => ?_⟩
    · have := (hr (by omega) (by omega)).2.1 h; omega
    · by_cases h5 : JN.kind j = 5 ∨ JN.kind j = 4
      · exact wf_of_is n (d - 1) k ((hr (by omega) (by omega)).2.2.2 k hm)
      · have := hk (by omega) (by omega)
        rw [List.eq_nil_of_length_eq_zero this] at hm; cases hm
end Go.Proofs.YtljgnpneeecafaaDoor
