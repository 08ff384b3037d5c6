/-
  JSON: the reader's integers. JSON: the reader's strings. JSON: the reader's strings, texts, names. JSON: the reader's texts, names. JSON read as the program reads it: what stands between two signs, one by one. JSON: what stands between two signs is read one by one. JSON: the rows of kids.
-/
import Derived.Test.YtljgnpneeecafaaDoorC4
set_option linter.unusedVariables false
namespace Go.Proofs.YtljgnpneeecafaaDoor
open Go.RowKit Go.Sort Go.BigFrame
set_option maxRecDepth 100000
set_option maxHeartbeats 2000000
theorem digit46 (c : Nat) (w : World) (hc : c < 256) : Calls Tryd.prog 46 #[.int .u8 (c : Int)] w fun e w' => e = .returned (.bool (isD c)) ∧ w' = w := by
  by_cases h1 : 48 ≤ c
  · have i1 : (48 : Int) ≤ (c : Int) := by omega
    by_cases h2 : c ≤ 57
    · have i2 : (c : Int) ≤ 57 := by omega
      have e : isD c = true := by simp [isD, h1, h2]
      rw [e]
      clear h1 h2 e
      go_enter Tryd.func46, Tryd.ntmps46
      go_wp2
      go_ret
      exact ⟨rfl, rfl⟩
    · have i2 : ¬ (c : Int) ≤ 57 := by omega
      have e : isD c = false := by simp [isD, h1, h2]
      rw [e]
      clear h1 h2 e
      go_enter Tryd.func46, Tryd.ntmps46
      go_wp2
      go_ret
      exact ⟨rfl, rfl⟩
  · have i1 : ¬ (48 : Int) ≤ (c : Int) := by omega
    have e : isD c = false := by simp [isD, h1]
    rw [e]
    clear h1 e
    go_enter Tryd.func46, Tryd.ntmps46
    go_wp2
    go_ret
    exact ⟨rfl, rfl⟩
/-- How much is left to be read. -/
def restN (g : Nat) (w : World) : Nat := match w.cell? ⟨g, 1, none⟩ with
  | some (.string s) => s.size
  | _ => 0
theorem RdAt.restN {g ar : Nat} {l : List Nat} {mv : Value} {w : World} (h : RdAt g ar l mv w) : restN g w = l.length := by
  unfold Go.Proofs.YtljgnpneeecafaaDoor.restN
  rw [h.c1]
  exact (str_strOf h.1).size
theorem lit_nil (a : Nat) : litP [a] [] = none := rfl
theorem lit_cons (a c : Nat) (r : List Nat) : litP [a] (c :: r) = if c = a then some r else none := by
  unfold litP
  simp
theorem lit_some {a : Nat} {l r : List Nat} (h : litP [a] l = some r) : l = a :: r := by
  cases l with
  | nil => cases h
  | cons c t =>
    rw [lit_cons] at h
    split at h
    · next hc => injection h with h; rw [hc, h]
    · cases h
theorem lit_head {a : Nat} {l : List Nat} (h : litP [a] l = none) : l.head? ≠ some a := by
  cases l with
  | nil => simp
  | cons c t =>
    rw [lit_cons] at h
    intro e
    have : c = a := by simpa using e
    rw [if_pos this] at h
    cases h
theorem mem_digs {l : List Nat} : ∀ c ∈ l.takeWhile isD, isD c = true := by
  induction l with
  | nil => intro c h; simp at h
  | cons a l ih =>
    intro c h
    rw [List.takeWhile_cons] at h
    split at h
    · next ha =>
      rcases List.mem_cons.1 h with rfl | h
      · exact ha
      · exact ih c h
    · simp at h
theorem fold_ge : ∀ (t : List Nat) (a : Nat), a * 10 ^ t.length ≤ t.foldl (fun n c => 10 * n + (c - 48)) a
  | [], a => by simp
  | c :: t, a => by
    rw [List.foldl_cons, List.length_cons]
    refine Nat.le_trans ?_ (fold_ge t _)
    rw [Nat.pow_succ, Nat.mul_comm (10 ^ t.length) 10, ← Nat.mul_assoc]
    exact Nat.mul_le_mul_right _ (by omega)
theorem valT_take (d : List Nat) (k : Nat) : valT (d.take k) ≤ valT d := by
  have e : valT d = (d.drop k).foldl (fun n c => 10 * n + (c - 48)) (valT (d.take k)) := by
    unfold valT
    rw [← List.foldl_append, List.take_append_drop]
  rw [e]
  refine Nat.le_trans ?_ (fold_ge _ _)
  exact Nat.le_mul_of_pos_right _ (Nat.pow_pos (by decide))
theorem valT_lead {c : Nat} {t : List Nat} (h : 49 ≤ c) : 10 ^ t.length ≤ valT (c :: t) := by
  show _ ≤ t.foldl _ (10 * 0 + (c - 48))
  refine Nat.le_trans ?_ (fold_ge _ _)
  exact Nat.le_mul_of_pos_left _ (by omega)
theorem valT_step {d : List Nat} {k : Nat} (hk : k < d.length) : valT (d.take (k + 1)) = 10 * valT (d.take k) + (d[k] - 48) := by
  rw [List.take_succ_eq_append_getElem hk, valT_snoc]
theorem digs_at {l : List Nat} {k : Nat} : k ≤ (l.takeWhile isD).length → ((k < (l.takeWhile isD).length ↔ isD ((l.drop k).headD 0) = true) ∧ ∀ h : k < (l.takeWhile isD).length, (l.drop k).headD 0 = (l.takeWhile isD)[k]) := by
  induction l generalizing k with
  | nil => intro h; simp at h; subst h; simp [isD]
  | cons c l ih =>
    rw [List.takeWhile_cons]
    by_cases hc : isD c = true
    · rw [if_pos hc]
      cases k with
      | zero => intro _; simp [hc]
      | succ k =>
        intro h
        have := ih (k := k) (by simpa using h)
        refine ⟨by simpa using this.1, fun h2 => ?_⟩
        have := this.2 (by simpa using h2)
        simpa using this
    · rw [if_neg hc]
      intro h
      simp at h
      subst h
      simp [hc]
theorem drop_digs (l : List Nat) : l.drop (l.takeWhile isD).length = l.dropWhile isD := by
  induction l with
  | nil => rfl
  | cons a l ih =>
    rw [List.takeWhile_cons, List.dropWhile_cons]
    split
    · simpa using ih
    · rfl
/-- Digits of which the first is none of '0': what they tell. -/
theorem numD_bad {minus : Bool} {d r : List Nat} (h : 1000000000000000 < valT d ∨ d = []) : numD minus d r = .error 13 := by
  unfold numD
  split
  · rfl
  · next h1 =>
    rcases h with h | h
    · rw [if_pos h]
    · subst h; simp at h1
theorem numD_good {minus : Bool} {d r : List Nat} (hd : d ≠ []) (h0 : d.head? ≠ some 48) (hdig : ∀ c ∈ d, isD c = true) (h : valT d ≤ 1000000000000000) : numD minus d r = .ok (if minus then -(valT d : Int) else (valT d : Int), r) := by
  unfold numD
  obtain ⟨c, t, rfl⟩ : ∃ c t, d = c :: t := by cases d with | nil => exact absurd rfl hd | cons c t => exact ⟨c, t, rfl⟩
  have hc : 49 ≤ c := by
    have := hdig c (by simp)
    simp [isD] at this
    have : c ≠ 48 := fun e => h0 (by rw [e]; rfl)
    omega
  have hl := valT_lead (t := t) hc
  have hlen : t.length ≤ 15 := by
    rcases Nat.lt_or_ge 15 t.length with h' | h'
    · have : 10 ^ 16 ≤ 10 ^ t.length := Nat.pow_le_pow_right (by decide) h'
      omega
    · exact h'
  rw [if_neg (by rintro (h1 | h1 | h1); simp at h1; simp at h1; omega; exact h0 h1.1), if_neg (by omega)]
theorem numD_zero {d r : List Nat} (h0 : d.head? = some 48) (h1 : 1 < d.length) (minus : Bool) : numD minus d r = .error 13 := by
  unfold numD
  rw [if_pos (.inr (.inr ⟨h0, .inl h1⟩))]
def NumR (g ar : Nat) (l : List Nat) (mv : Value) (w : World) : Prop := ∀ n, Calls Tryd.prog 32 #[.pointer (some ⟨g, 0, none⟩)] w (RdR g ar mv w (n := n + 1) (rdMap (fun z => (⟨2, z, [], [], []⟩ : JN (J n))) (numP l)))
theorem rdErr {α β : Type} (f : α → β) {x : Rd α} {e : Int} (h : x = .error e) : rdMap f x = .error e := by rw [h]; rfl
theorem rdOk {α β : Type} (f : α → β) {x : Rd α} {a : α} {r : List Nat} (h : x = .ok (a, r)) : rdMap f x = .ok (f a, r) := by rw [h]; rfl
theorem numM0 {g ar : Nat} {l l1 r0 : List Nat} {mv : Value} {w : World} (h : RdAt g ar l mv w) (hl : litP [45] l = some l1) (hn : ∀ x, numP l = x ↔ numD true (l1.takeWhile isD) (l1.dropWhile isD) = x) (h48 : litP [48] l1 = some r0) : NumR g ar l mv w := by
  intro n
  have hc1 : l1 = 48 :: r0 := lit_some h48
  obtain ⟨w1, hw1⟩ : ∃ w1, w1 = w.alloc (.cells zero5 25) := ⟨_, rfl⟩
  have hB1 : Below w.heap.size w w1 := by rw [hw1]; exact below1 _ _
  have hZ1 : w1.heap[w.heap.size]? = some (.cells zero5 25 (0, 0)) := by rw [hw1]; exact heap_alloc_new _ _
  have hR1 := h.new hB1
  have hgl := h.lt
  have hs := str_lit (bs := [45]) (by decide)
  rw [show strOf [45] = ByteArray.mk #[45] by decide] at hs
  have hsk := skip45 hR1 hs
  have hs0 := str_lit (bs := [48]) (by decide)
  rw [show strOf [48] = ByteArray.mk #[48] by decide] at hs0
  rw [hl] at hsk
  have hsk : Calls Tryd.prog 45 #[.pointer (some ⟨g, 0, none⟩), .string ⟨#[45]⟩] w1 fun e w' => e = .returned (.bool true) ∧ RdAt g ar l1 mv w' ∧ Fg g w1 w' := hsk
  have HW1 : Hid _ := hw1
  rw [hw1] at hsk
  unfold zero5 at hsk
  clear hl
  go_enter Tryd.func32, Tryd.ntmps32
  go_wp2_with fail
  refine hsk.mono ?_
  rintro e w2 ⟨rfl, hR2, hF2⟩
  have hF2 : Fg g w1 w2 := by rw [HW1.out]; exact hF2
  have hZ2 := hF2.block hZ1 (by omega)
  have hFw2 := (Fg.new (g := g) hB1).trans hF2
  have hsk0 := skip45 hR2 hs0
  clear hsk hZ1 hR1
  rw [h48] at hsk0
  have hsk0 : Calls Tryd.prog 45 #[.pointer (some ⟨g, 0, none⟩), .string ⟨#[48]⟩] w2 fun e w' => e = .returned (.bool true) ∧ RdAt g ar r0 mv w' ∧ Fg g w2 w' := hsk0
  clear h48
  go_wp2_with fail
  refine hsk0.mono ?_
  rintro e w3 ⟨rfl, hR3, hF3⟩
  have hZ3 := hF3.block hZ2 (by omega)
  have hFw3 := hFw2.trans hF3
  clear hZ2 hsk0
  go_wp2_with (refine wpList_store_row rfl 25 (.tmp 2) (.tmp 12) rfl w.heap.size #[.int .i64 0, .int .i64 0, .string ⟨#[]⟩, .slice none 0 0, .slice none 0 0] rfl rfl 25 zero5 hZ3 size25 rfl (one5 _ _ _) ?_)
  refine bodyPost_ret (v := .tuple #[.agg #[.int .i64 0, .int .i64 0, .string ⟨#[]⟩, .slice none 0 0, .slice none 0 0], .int .i64 13]) ?_ rfl ⟨_, _, _, rfl, rfl, one5 _ _ _, hFw3.trans_new (Nat.le_refl _), ⟨hR3.1, (setRow_other _ _ _ _ (by omega)).trans hR3.2⟩, ?_⟩
  · exact results_cell_tmp Tryd.results32 _ _ _ 25 _ (0, 0) _ _ rfl rfl (setRow_heap _ _ _ _ _ _ hZ3) Tryd.underlying25 rfl size25
  · exact RdM.err (rdErr _ ((hn (.error 13)).2 (by
      rw [hc1, List.takeWhile_cons, if_pos (by decide)]
      unfold numD
      rw [if_pos (.inr (.inr ⟨rfl, .inr rfl⟩))]))) (.inl ⟨rfl, by decide⟩)
theorem numM1 {g ar : Nat} {l l1 : List Nat} {mv : Value} {w : World} (h : RdAt g ar l mv w) (hl : litP [45] l = some l1) (hll : l.length ≤ 1000000) (hll1 : l1.length ≤ l.length) (hn : ∀ x, numP l = x ↔ numD true (l1.takeWhile isD) (l1.dropWhile isD) = x) (h48 : litP [48] l1 = none) : NumR g ar l mv w := by
  intro n
  have hh : l1.head? ≠ some 48 := lit_head h48
  obtain ⟨w1, hw1⟩ : ∃ w1, w1 = w.alloc (.cells zero5 25) := ⟨_, rfl⟩
  have hB1 : Below w.heap.size w w1 := by rw [hw1]; exact below1 _ _
  have hZ1 : w1.heap[w.heap.size]? = some (.cells zero5 25 (0, 0)) := by rw [hw1]; exact heap_alloc_new _ _
  have hR1 := h.new hB1
  have hgl := h.lt
  have hs := str_lit (bs := [45]) (by decide)
  rw [show strOf [45] = ByteArray.mk #[45] by decide] at hs
  have hsk := skip45 hR1 hs
  have hs0 := str_lit (bs := [48]) (by decide)
  rw [show strOf [48] = ByteArray.mk #[48] by decide] at hs0
  rw [hl] at hsk
  have hsk : Calls Tryd.prog 45 #[.pointer (some ⟨g, 0, none⟩), .string ⟨#[45]⟩] w1 fun e w' => e = .returned (.bool true) ∧ RdAt g ar l1 mv w' ∧ Fg g w1 w' := hsk
  have HW1 : Hid _ := hw1
  rw [hw1] at hsk
  unfold zero5 at hsk
  clear hl
  go_enter Tryd.func32, Tryd.ntmps32
  go_wp2_with fail
  refine hsk.mono ?_
  rintro e w2 ⟨rfl, hR2, hF2⟩
  have hF2 : Fg g w1 w2 := by rw [HW1.out]; exact hF2
  have hZ2 := hF2.block hZ1 (by omega)
  have hFw2 := (Fg.new (g := g) hB1).trans hF2
  have hsk0 := skip45 hR2 hs0
  clear hsk hZ1 hR1
  rw [h48] at hsk0
  have hsk0 : Calls Tryd.prog 45 #[.pointer (some ⟨g, 0, none⟩), .string ⟨#[48]⟩] w2 fun e w' => e = .returned (.bool false) ∧ RdAt g ar l1 mv w' ∧ Fg g w2 w' := hsk0
  clear h48
  go_wp2_with fail
  refine hsk0.mono ?_
  rintro e w3 ⟨rfl, hR3, hF3⟩
  have hZ3 := hF3.block hZ2 (by omega)
  have hFw3 := hFw2.trans hF3
  clear hZ2 hsk0 hR2 hF2 hF3 hFw2
  obtain ⟨D, hD⟩ : ∃ D, D = l1.takeWhile isD := ⟨_, rfl⟩
  have hDn : ∀ c ∈ D, isD c = true := by rw [hD]; exact mem_digs
  have hDh : D.head? ≠ some 48 := by
    rw [hD]
    intro e
    apply hh
    cases l1 with
    | nil => simp at e
    | cons c t =>
      rw [List.takeWhile_cons] at e
      split at e
      · simpa using e
      · simp at e
  have hat : ∀ k, k ≤ D.length → ((k < D.length ↔ isD ((l1.drop k).headD 0) = true) ∧ ∀ h : k < D.length, (l1.drop k).headD 0 = D[k]) := by subst hD; exact fun k hk => digs_at hk
  have HD : Hid _ := hD
  have HN : Hid _ := hn
  have hDl : D.length ≤ 1000000 := by
    rw [hD]
    have := (List.takeWhile_sublist isD (l := l1)).length_le
    omega
  clear hD hn hh
  go_wp2_with fail
  go_loopw [5] (fun i wr => ∃ k : Nat, k ≤ D.length ∧ i = .int .i64 ((valT (D.take k) : Nat) : Int) ∧ RdAt g ar (l1.drop k) mv wr ∧ Fg g w3 wr ∧ valT (D.take k) ≤ 10000000000000009) (fun _ wr => restN g wr)
  case atStart => exact ⟨0, by omega, rfl, by simpa using hR3, Fg.refl _ _, by simp [valT]⟩
  case round =>
    obtain ⟨k, hk, rfl, hRk, hFk, hVk⟩ := hrel
    obtain ⟨V, hV⟩ : ∃ V, V = valT (D.take k) := ⟨_, rfl⟩
    rw [← hV] at hVk ⊢
    obtain ⟨C, hC⟩ : ∃ C, C = (l1.drop k).headD 0 := ⟨_, rfl⟩
    have hnx := next37 hRk
    rw [← hC] at hnx
    have hC256 : C < 256 := by
      rw [hC]
      cases e : l1.drop k with
      | nil => simp
      | cons c t =>
        have := mem_of_dig hRk.1 c (by rw [e]; simp)
        simpa using this
    have hat1 := hat k hk
    rw [← hC] at hat1
    have HC : Hid _ := hC
    have HV : Hid _ := hV
    clear hC hV
    by_cases hkD : k < D.length
    · have hCD := hat1.1.1 hkD
      have hC2 : C = D[k] := hat1.2 hkD
      have hdg := digit46 C wr hC256
      rw [hCD] at hdg
      have h48 : 48 ≤ C ∧ C ≤ 57 := by simpa [isD] using hCD
      by_cases hVg : V ≤ 1000000000000000
      · have hVi : (V : Int) ≤ 1000000000000000 := by omega
        have htk := take47 hRk (by simp; omega)
        rw [← HC.out] at htk
        have hu8 : IntKind.u8.wrap ((C : Int) - 48) = ((C - 48 : Nat) : Int) := by rw [IntKind.wrap_u8]; omega
        have hcv : ∀ w : World, (convert 5 3 (.int .u8 ((C - 48 : Nat) : Int))).run Tryd.prog w = .ok (.int .i64 ((C - 48 : Nat) : Int)) w := fun w => by
          have h2 : IntKind.i64.wrap ((C - 48 : Nat) : Int) = ((C - 48 : Nat) : Int) := by rw [IntKind.wrap_i64]; omega
          simp [go_sem, h2]
        have hsum : (10 * (V : Int)) + ((C - 48 : Nat) : Int) = ((valT (D.take (k + 1)) : Nat) : Int) := by rw [valT_step hkD, ← HV.out, ← hC2]; omega
        have hsumb : valT (D.take (k + 1)) ≤ 10000000000000009 := by rw [valT_step hkD, ← HV.out, ← hC2]; omega
        have HS : Hid _ := hsum
        have HSB : Hid _ := hsumb
        have hCl : restN g wr = (l1.drop k).length := hRk.restN
        have hDL : k < l1.length := by
          have e := hat1.1.1 hkD
          rcases Nat.lt_or_ge k l1.length with h' | h'
          · exact h'
          · rw [HC.out, List.drop_eq_nil_of_le h'] at e
            simp [isD] at e
        have HCl : Hid _ := hCl
        clear hsum hsumb hat1 hCD hC2 hCl
        go_wp2_with fail
        refine hnx.mono ?_
        rintro e w4 ⟨rfl, rfl⟩
        go_wp2_with fail
        refine hdg.mono ?_
        rintro e w4 ⟨rfl, rfl⟩
        go_wp2_with fail
        refine htk.mono ?_
        rintro e w5 ⟨rfl, hR5, hF5⟩
        go_wp2
        refine ⟨⟨k + 1, by omega, ?_, by rw [List.drop_drop] at hR5; exact hR5, hFk.trans hF5, HSB.out⟩, ?_⟩
        · have e1 := HS.out
          have e2 := HSB.out
          rw [e1]
        · rw [HCl.out, hR5.restN]; simp; omega
      · have hVi : ¬ (V : Int) ≤ 1000000000000000 := by omega
        have hVj : (1000000000000000 : Int) < (V : Int) := by omega
        have hV0 : ((V : Int) == 0) = false := by have : ¬ (V : Int) = 0 := by omega
                                                  simpa using this
        have hZk := hFk.block hZ3 (by omega)
        have hFkw := hFw3.trans hFk
        have hbad : 1000000000000000 < valT D := by have := valT_take D k; rw [← HV.out] at this; omega
        clear hat1 hCD hC2 h48
        go_wp2_with fail
        refine hnx.mono ?_
        rintro e w4 ⟨rfl, rfl⟩
        go_wp2_with fail
        refine hdg.mono ?_
        rintro e w4 ⟨rfl, rfl⟩
        go_wp2_with (refine wpList_store_row rfl 25 (.tmp 2) (.tmp 34) rfl w.heap.size #[.int .i64 0, .int .i64 0, .string ⟨#[]⟩, .slice none 0 0, .slice none 0 0] rfl rfl 25 zero5 hZk size25 rfl (one5 _ _ _) ?_)
        refine bodyPost_ret (v := .tuple #[.agg #[.int .i64 0, .int .i64 0, .string ⟨#[]⟩, .slice none 0 0, .slice none 0 0], .int .i64 13]) ?_ rfl ⟨_, _, _, rfl, rfl, one5 _ _ _, hFkw.trans_new (Nat.le_refl _), ⟨hRk.1, (setRow_other _ _ _ _ (by omega)).trans hRk.2⟩, ?_⟩
        · exact results_cell_tmp Tryd.results32 _ _ _ 25 _ (0, 0) _ _ rfl rfl (setRow_heap _ _ _ _ _ _ hZk) Tryd.underlying25 rfl size25
        · exact RdM.err (rdErr _ ((HN.out (.error 13)).2 (by rw [← HD.out]; exact numD_bad (.inl hbad)))) (.inl ⟨rfl, by decide⟩)
    · have hkD2 : k = D.length := by omega
      have hCD : isD C = false := by
        cases e : isD C with
        | false => rfl
        | true => exact absurd (hat1.1.2 e) hkD
      have hdg := digit46 C wr hC256
      rw [hCD] at hdg
      have hVD : V = valT D := by rw [HV.out, hkD2, List.take_length]
      have hZk := hFk.block hZ3 (by omega)
      have hFkw := hFw3.trans hFk
      have hrest : l1.drop k = l1.dropWhile isD := by rw [hkD2, HD.out, drop_digs]
      have HR : Hid _ := hrest
      have HVD : Hid _ := hVD
      clear hat1 hCD hkD hrest hVD
      by_cases hVz : V = 0
      · have hV0 : ((V : Int) == 0) = true := by have : (V : Int) = 0 := by omega
                                                 simpa using this
        have hbad : D = [] := by
          have e := HVD.out
          cases hD2 : D with
          | nil => rfl
          | cons c t =>
            exfalso
            rw [hD2] at e hDh hDn
            have h1 := hDn c (by simp)
            have h2 : c ≠ 48 := fun e => hDh (by rw [e]; rfl)
            have h3 : 49 ≤ c := by simp [isD] at h1; omega
            have := valT_lead (t := t) h3
            have : 0 < 10 ^ t.length := Nat.pow_pos (by decide)
            omega
        have HB : Hid _ := hbad
        clear hVz hbad
        go_wp2_with fail
        refine hnx.mono ?_
        rintro e w4 ⟨rfl, rfl⟩
        go_wp2_with fail
        refine hdg.mono ?_
        rintro e w4 ⟨rfl, rfl⟩
        go_wp2_with (refine wpList_store_row rfl 25 (.tmp 2) (.tmp 34) rfl w.heap.size #[.int .i64 0, .int .i64 0, .string ⟨#[]⟩, .slice none 0 0, .slice none 0 0] rfl rfl 25 zero5 hZk size25 rfl (one5 _ _ _) ?_)
        refine bodyPost_ret (v := .tuple #[.agg #[.int .i64 0, .int .i64 0, .string ⟨#[]⟩, .slice none 0 0, .slice none 0 0], .int .i64 13]) ?_ rfl ⟨_, _, _, rfl, rfl, one5 _ _ _, hFkw.trans_new (Nat.le_refl _), ⟨hRk.1, (setRow_other _ _ _ _ (by omega)).trans hRk.2⟩, ?_⟩
        · exact results_cell_tmp Tryd.results32 _ _ _ 25 _ (0, 0) _ _ rfl rfl (setRow_heap _ _ _ _ _ _ hZk) Tryd.underlying25 rfl size25
        · exact RdM.err (rdErr _ ((HN.out (.error 13)).2 (by rw [← HD.out]; exact numD_bad (.inr HB.out)))) (.inl ⟨rfl, by decide⟩)
      · have hV0 : ((V : Int) == 0) = false := by have : ¬ (V : Int) = 0 := by omega
                                                  simpa using this
        by_cases hVg : V ≤ 1000000000000000
        · have hVi : (V : Int) ≤ 1000000000000000 := by omega
          have hVj : ¬ (1000000000000000 : Int) < (V : Int) := by omega
          have hgood := numD_good (minus := true) (d := D) (r := l1.dropWhile isD) (by rintro rfl; exact hVz (by rw [HVD.out]; rfl)) hDh hDn (by rw [← HVD.out]; exact hVg)
          rw [← HVD.out] at hgood
          have hx := (HN.out (.ok (-(V : Int), l1.dropWhile isD))).2 (by rw [← HD.out]; simpa using hgood)
          have HX : Hid _ := hx
          clear hgood hx hVz hVg
          go_wp2_with fail
          refine hnx.mono ?_
          rintro e w4 ⟨rfl, rfl⟩
          go_wp2_with fail
          refine hdg.mono ?_
          rintro e w4 ⟨rfl, rfl⟩
          go_wp2_with (refine wpList_store_row rfl 25 (.tmp 2) (.tmp 38) rfl w.heap.size #[.int .i64 2, .int .i64 (-(V : Int)), .string ⟨#[]⟩, .slice none 0 0, .slice none 0 0] rfl rfl 25 zero5 hZk size25 rfl (one5 _ _ _) ?_)
          refine bodyPost_ret (v := .tuple #[.agg #[.int .i64 2, .int .i64 (-(V : Int)), .string ⟨#[]⟩, .slice none 0 0, .slice none 0 0], .int .i64 0]) ?_ rfl ⟨_, _, _, rfl, rfl, one5 _ _ _, hFkw.trans_new (Nat.le_refl _), ⟨hRk.1, (setRow_other _ _ _ _ (by omega)).trans hRk.2⟩, ?_⟩
          · exact results_cell_tmp Tryd.results32 _ _ _ 25 _ (0, 0) _ _ rfl rfl (setRow_heap _ _ _ _ _ _ hZk) Tryd.underlying25 rfl size25
          · exact RdM.ok (rdOk _ HX.out) rfl HR.out (jm_zero _ 2 (-(V : Int)) _ [] _ str_none (by decide) (by omega))
        · have hVi : ¬ (V : Int) ≤ 1000000000000000 := by omega
          have hVj : (1000000000000000 : Int) < (V : Int) := by omega
          have hbad : 1000000000000000 < valT D := by rw [← HVD.out]; omega
          clear hVz hVg
          go_wp2_with fail
          refine hnx.mono ?_
          rintro e w4 ⟨rfl, rfl⟩
          go_wp2_with fail
          refine hdg.mono ?_
          rintro e w4 ⟨rfl, rfl⟩
          go_wp2_with (refine wpList_store_row rfl 25 (.tmp 2) (.tmp 34) rfl w.heap.size #[.int .i64 0, .int .i64 0, .string ⟨#[]⟩, .slice none 0 0, .slice none 0 0] rfl rfl 25 zero5 hZk size25 rfl (one5 _ _ _) ?_)
          refine bodyPost_ret (v := .tuple #[.agg #[.int .i64 0, .int .i64 0, .string ⟨#[]⟩, .slice none 0 0, .slice none 0 0], .int .i64 13]) ?_ rfl ⟨_, _, _, rfl, rfl, one5 _ _ _, hFkw.trans_new (Nat.le_refl _), ⟨hRk.1, (setRow_other _ _ _ _ (by omega)).trans hRk.2⟩, ?_⟩
          · exact results_cell_tmp Tryd.results32 _ _ _ 25 _ (0, 0) _ _ rfl rfl (setRow_heap _ _ _ _ _ _ hZk) Tryd.underlying25 rfl size25
          · exact RdM.err (rdErr _ ((HN.out (.error 13)).2 (by rw [← HD.out]; exact numD_bad (.inl hbad)))) (.inl ⟨rfl, by decide⟩)
theorem numN0 {g ar : Nat} {l l1 r0 : List Nat} {mv : Value} {w : World} (h : RdAt g ar l mv w) (hl : litP [45] l = none) (he : l1 = l) (hn : ∀ x, numP l = x ↔ numD false (l1.takeWhile isD) (l1.dropWhile isD) = x) (h48 : litP [48] l1 = some r0) : NumR g ar l mv w := by
  intro n
  have hc1 : l1 = 48 :: r0 := lit_some h48
  subst he
  obtain ⟨w1, hw1⟩ : ∃ w1, w1 = w.alloc (.cells zero5 25) := ⟨_, rfl⟩
  have hB1 : Below w.heap.size w w1 := by rw [hw1]; exact below1 _ _
  have hZ1 : w1.heap[w.heap.size]? = some (.cells zero5 25 (0, 0)) := by rw [hw1]; exact heap_alloc_new _ _
  have hR1 := h.new hB1
  have hgl := h.lt
  have hs := str_lit (bs := [45]) (by decide)
  rw [show strOf [45] = ByteArray.mk #[45] by decide] at hs
  have hsk := skip45 hR1 hs
  have hs0 := str_lit (bs := [48]) (by decide)
  rw [show strOf [48] = ByteArray.mk #[48] by decide] at hs0
  rw [hl] at hsk
  have hsk : Calls Tryd.prog 45 #[.pointer (some ⟨g, 0, none⟩), .string ⟨#[45]⟩] w1 fun e w' => e = .returned (.bool false) ∧ RdAt g ar l1 mv w' ∧ Fg g w1 w' := hsk
  have HW1 : Hid _ := hw1
  rw [hw1] at hsk
  unfold zero5 at hsk
  clear hl
  go_enter Tryd.func32, Tryd.ntmps32
  go_wp2_with fail
  refine hsk.mono ?_
  rintro e w2 ⟨rfl, hR2, hF2⟩
  have hF2 : Fg g w1 w2 := by rw [HW1.out]; exact hF2
  have hZ2 := hF2.block hZ1 (by omega)
  have hFw2 := (Fg.new (g := g) hB1).trans hF2
  have hsk0 := skip45 hR2 hs0
  clear hsk hZ1 hR1
  rw [h48] at hsk0
  have hsk0 : Calls Tryd.prog 45 #[.pointer (some ⟨g, 0, none⟩), .string ⟨#[48]⟩] w2 fun e w' => e = .returned (.bool true) ∧ RdAt g ar r0 mv w' ∧ Fg g w2 w' := hsk0
  clear h48
  go_wp2_with fail
  refine hsk0.mono ?_
  rintro e w3 ⟨rfl, hR3, hF3⟩
  have hZ3 := hF3.block hZ2 (by omega)
  have hFw3 := hFw2.trans hF3
  clear hZ2 hsk0
  go_wp2_with (refine wpList_store_row rfl 25 (.tmp 2) (.tmp 13) rfl w.heap.size #[.int .i64 2, .int .i64 0, .string ⟨#[]⟩, .slice none 0 0, .slice none 0 0] rfl rfl 25 zero5 hZ3 size25 rfl (one5 _ _ _) ?_)
  refine bodyPost_ret (v := .tuple #[.agg #[.int .i64 2, .int .i64 0, .string ⟨#[]⟩, .slice none 0 0, .slice none 0 0], .int .i64 0]) ?_ rfl ⟨_, _, _, rfl, rfl, one5 _ _ _, hFw3.trans_new (Nat.le_refl _), ⟨hR3.1, (setRow_other _ _ _ _ (by omega)).trans hR3.2⟩, ?_⟩
  · exact results_cell_tmp Tryd.results32 _ _ _ 25 _ (0, 0) _ _ rfl rfl (setRow_heap _ _ _ _ _ _ hZ3) Tryd.underlying25 rfl size25
  · cases r0 with
    | nil => exact RdM.ok (rdOk _ ((hn (.ok (0, []))).2 (by rw [hc1]; rfl))) rfl rfl (jm_zero _ 2 0 _ [] _ str_none (by decide) (by decide))
    | cons c t =>
      by_cases hd : isD c = true
      · exact RdM.err (rdErr _ ((hn (.error 13)).2 (by
          refine numD_zero ?_ ?_ _
          · rw [hc1, List.takeWhile_cons, if_pos (by decide)]; rfl
          · rw [hc1, List.takeWhile_cons, if_pos (by decide), List.takeWhile_cons, if_pos hd]; simp))) (.inr ⟨rfl, rfl, c, t, rfl, hd⟩)
      · exact RdM.ok (rdOk _ ((hn (.ok (0, c :: t))).2 (by
          rw [hc1, List.takeWhile_cons, if_pos (by decide), List.takeWhile_cons, if_neg hd, List.dropWhile_cons, if_pos (by decide), List.dropWhile_cons, if_neg hd]; rfl))) rfl rfl (jm_zero _ 2 0 _ [] _ str_none (by decide) (by decide))
theorem numN1 {g ar : Nat} {l l1 : List Nat} {mv : Value} {w : World} (h : RdAt g ar l mv w) (hl : litP [45] l = none) (he : l1 = l) (hll : l.length ≤ 1000000) (hll1 : l1.length ≤ l.length) (hn : ∀ x, numP l = x ↔ numD false (l1.takeWhile isD) (l1.dropWhile isD) = x) (h48 : litP [48] l1 = none) : NumR g ar l mv w := by
  intro n
  have hh : l1.head? ≠ some 48 := lit_head h48
  subst he
  obtain ⟨w1, hw1⟩ : ∃ w1, w1 = w.alloc (.cells zero5 25) := ⟨_, rfl⟩
  have hB1 : Below w.heap.size w w1 := by rw [hw1]; exact below1 _ _
  have hZ1 : w1.heap[w.heap.size]? = some (.cells zero5 25 (0, 0)) := by rw [hw1]; exact heap_alloc_new _ _
  have hR1 := h.new hB1
  have hgl := h.lt
  have hs := str_lit (bs := [45]) (by decide)
  rw [show strOf [45] = ByteArray.mk #[45] by decide] at hs
  have hsk := skip45 hR1 hs
  have hs0 := str_lit (bs := [48]) (by decide)
  rw [show strOf [48] = ByteArray.mk #[48] by decide] at hs0
  rw [hl] at hsk
  have hsk : Calls Tryd.prog 45 #[.pointer (some ⟨g, 0, none⟩), .string ⟨#[45]⟩] w1 fun e w' => e = .returned (.bool false) ∧ RdAt g ar l1 mv w' ∧ Fg g w1 w' := hsk
  have HW1 : Hid _ := hw1
  rw [hw1] at hsk
  unfold zero5 at hsk
  clear hl
  go_enter Tryd.func32, Tryd.ntmps32
  go_wp2_with fail
  refine hsk.mono ?_
  rintro e w2 ⟨rfl, hR2, hF2⟩
  have hF2 : Fg g w1 w2 := by rw [HW1.out]; exact hF2
  have hZ2 := hF2.block hZ1 (by omega)
  have hFw2 := (Fg.new (g := g) hB1).trans hF2
  have hsk0 := skip45 hR2 hs0
  clear hsk hZ1 hR1
  rw [h48] at hsk0
  have hsk0 : Calls Tryd.prog 45 #[.pointer (some ⟨g, 0, none⟩), .string ⟨#[48]⟩] w2 fun e w' => e = .returned (.bool false) ∧ RdAt g ar l1 mv w' ∧ Fg g w2 w' := hsk0
  clear h48
  go_wp2_with fail
  refine hsk0.mono ?_
  rintro e w3 ⟨rfl, hR3, hF3⟩
  have hZ3 := hF3.block hZ2 (by omega)
  have hFw3 := hFw2.trans hF3
  clear hZ2 hsk0 hR2 hF2 hF3 hFw2
  obtain ⟨D, hD⟩ : ∃ D, D = l1.takeWhile isD := ⟨_, rfl⟩
  have hDn : ∀ c ∈ D, isD c = true := by rw [hD]; exact mem_digs
  have hDh : D.head? ≠ some 48 := by
    rw [hD]
    intro e
    apply hh
    cases l1 with
    | nil => simp at e
    | cons c t =>
      rw [List.takeWhile_cons] at e
      split at e
      · simpa using e
      · simp at e
  have hat : ∀ k, k ≤ D.length → ((k < D.length ↔ isD ((l1.drop k).headD 0) = true) ∧ ∀ h : k < D.length, (l1.drop k).headD 0 = D[k]) := by subst hD; exact fun k hk => digs_at hk
  have HD : Hid _ := hD
  have HN : Hid _ := hn
  have hDl : D.length ≤ 1000000 := by
    rw [hD]
    have := (List.takeWhile_sublist isD (l := l1)).length_le
    omega
  clear hD hn hh
  go_wp2_with fail
  go_loopw [5] (fun i wr => ∃ k : Nat, k ≤ D.length ∧ i = .int .i64 ((valT (D.take k) : Nat) : Int) ∧ RdAt g ar (l1.drop k) mv wr ∧ Fg g w3 wr ∧ valT (D.take k) ≤ 10000000000000009) (fun _ wr => restN g wr)
  case atStart => exact ⟨0, by omega, rfl, by simpa using hR3, Fg.refl _ _, by simp [valT]⟩
  case round =>
    obtain ⟨k, hk, rfl, hRk, hFk, hVk⟩ := hrel
    obtain ⟨V, hV⟩ : ∃ V, V = valT (D.take k) := ⟨_, rfl⟩
    rw [← hV] at hVk ⊢
    obtain ⟨C, hC⟩ : ∃ C, C = (l1.drop k).headD 0 := ⟨_, rfl⟩
    have hnx := next37 hRk
    rw [← hC] at hnx
    have hC256 : C < 256 := by
      rw [hC]
      cases e : l1.drop k with
      | nil => simp
      | cons c t =>
        have := mem_of_dig hRk.1 c (by rw [e]; simp)
        simpa using this
    have hat1 := hat k hk
    rw [← hC] at hat1
    have HC : Hid _ := hC
    have HV : Hid _ := hV
    clear hC hV
    by_cases hkD : k < D.length
    · have hCD := hat1.1.1 hkD
      have hC2 : C = D[k] := hat1.2 hkD
      have hdg := digit46 C wr hC256
      rw [hCD] at hdg
      have h48 : 48 ≤ C ∧ C ≤ 57 := by simpa [isD] using hCD
      by_cases hVg : V ≤ 1000000000000000
      · have hVi : (V : Int) ≤ 1000000000000000 := by omega
        have htk := take47 hRk (by simp; omega)
        rw [← HC.out] at htk
        have hu8 : IntKind.u8.wrap ((C : Int) - 48) = ((C - 48 : Nat) : Int) := by rw [IntKind.wrap_u8]; omega
        have hcv : ∀ w : World, (convert 5 3 (.int .u8 ((C - 48 : Nat) : Int))).run Tryd.prog w = .ok (.int .i64 ((C - 48 : Nat) : Int)) w := fun w => by
          have h2 : IntKind.i64.wrap ((C - 48 : Nat) : Int) = ((C - 48 : Nat) : Int) := by rw [IntKind.wrap_i64]; omega
          simp [go_sem, h2]
        have hsum : (10 * (V : Int)) + ((C - 48 : Nat) : Int) = ((valT (D.take (k + 1)) : Nat) : Int) := by rw [valT_step hkD, ← HV.out, ← hC2]; omega
        have hsumb : valT (D.take (k + 1)) ≤ 10000000000000009 := by rw [valT_step hkD, ← HV.out, ← hC2]; omega
        have HS : Hid _ := hsum
        have HSB : Hid _ := hsumb
        have hCl : restN g wr = (l1.drop k).length := hRk.restN
        have hDL : k < l1.length := by
          have e := hat1.1.1 hkD
          rcases Nat.lt_or_ge k l1.length with h' | h'
          · exact h'
          · rw [HC.out, List.drop_eq_nil_of_le h'] at e
            simp [isD] at e
        have HCl : Hid _ := hCl
        clear hsum hsumb hat1 hCD hC2 hCl
        go_wp2_with fail
        refine hnx.mono ?_
        rintro e w4 ⟨rfl, rfl⟩
        go_wp2_with fail
        refine hdg.mono ?_
        rintro e w4 ⟨rfl, rfl⟩
        go_wp2_with fail
        refine htk.mono ?_
        rintro e w5 ⟨rfl, hR5, hF5⟩
        go_wp2
        refine ⟨⟨k + 1, by omega, ?_, by rw [List.drop_drop] at hR5; exact hR5, hFk.trans hF5, HSB.out⟩, ?_⟩
        · have e1 := HS.out
          have e2 := HSB.out
          rw [e1]
        · rw [HCl.out, hR5.restN]; simp; omega
      · have hVi : ¬ (V : Int) ≤ 1000000000000000 := by omega
        have hVj : (1000000000000000 : Int) < (V : Int) := by omega
        have hV0 : ((V : Int) == 0) = false := by have : ¬ (V : Int) = 0 := by omega
                                                  simpa using this
        have hZk := hFk.block hZ3 (by omega)
        have hFkw := hFw3.trans hFk
        have hbad : 1000000000000000 < valT D := by have := valT_take D k; rw [← HV.out] at this; omega
        clear hat1 hCD hC2 h48
        go_wp2_with fail
        refine hnx.mono ?_
        rintro e w4 ⟨rfl, rfl⟩
        go_wp2_with fail
        refine hdg.mono ?_
        rintro e w4 ⟨rfl, rfl⟩
        go_wp2_with (refine wpList_store_row rfl 25 (.tmp 2) (.tmp 34) rfl w.heap.size #[.int .i64 0, .int .i64 0, .string ⟨#[]⟩, .slice none 0 0, .slice none 0 0] rfl rfl 25 zero5 hZk size25 rfl (one5 _ _ _) ?_)
        refine bodyPost_ret (v := .tuple #[.agg #[.int .i64 0, .int .i64 0, .string ⟨#[]⟩, .slice none 0 0, .slice none 0 0], .int .i64 13]) ?_ rfl ⟨_, _, _, rfl, rfl, one5 _ _ _, hFkw.trans_new (Nat.le_refl _), ⟨hRk.1, (setRow_other _ _ _ _ (by omega)).trans hRk.2⟩, ?_⟩
        · exact results_cell_tmp Tryd.results32 _ _ _ 25 _ (0, 0) _ _ rfl rfl (setRow_heap _ _ _ _ _ _ hZk) Tryd.underlying25 rfl size25
        · exact RdM.err (rdErr _ ((HN.out (.error 13)).2 (by rw [← HD.out]; exact numD_bad (.inl hbad)))) (.inl ⟨rfl, by decide⟩)
    · have hkD2 : k = D.length := by omega
      have hCD : isD C = false := by
        cases e : isD C with
        | false => rfl
        | true => exact absurd (hat1.1.2 e) hkD
      have hdg := digit46 C wr hC256
      rw [hCD] at hdg
      have hVD : V = valT D := by rw [HV.out, hkD2, List.take_length]
      have hZk := hFk.block hZ3 (by omega)
      have hFkw := hFw3.trans hFk
      have hrest : l1.drop k = l1.dropWhile isD := by rw [hkD2, HD.out, drop_digs]
      have HR : Hid _ := hrest
      have HVD : Hid _ := hVD
      clear hat1 hCD hkD hrest hVD
      by_cases hVz : V = 0
      · have hV0 : ((V : Int) == 0) = true := by have : (V : Int) = 0 := by omega
                                                 simpa using this
        have hbad : D = [] := by
          have e := HVD.out
          cases hD2 : D with
          | nil => rfl
          | cons c t =>
            exfalso
            rw [hD2] at e hDh hDn
            have h1 := hDn c (by simp)
            have h2 : c ≠ 48 := fun e => hDh (by rw [e]; rfl)
            have h3 : 49 ≤ c := by simp [isD] at h1; omega
            have := valT_lead (t := t) h3
            have : 0 < 10 ^ t.length := Nat.pow_pos (by decide)
            omega
        have HB : Hid _ := hbad
        clear hVz hbad
        go_wp2_with fail
        refine hnx.mono ?_
        rintro e w4 ⟨rfl, rfl⟩
        go_wp2_with fail
        refine hdg.mono ?_
        rintro e w4 ⟨rfl, rfl⟩
        go_wp2_with (refine wpList_store_row rfl 25 (.tmp 2) (.tmp 34) rfl w.heap.size #[.int .i64 0, .int .i64 0, .string ⟨#[]⟩, .slice none 0 0, .slice none 0 0] rfl rfl 25 zero5 hZk size25 rfl (one5 _ _ _) ?_)
        refine bodyPost_ret (v := .tuple #[.agg #[.int .i64 0, .int .i64 0, .string ⟨#[]⟩, .slice none 0 0, .slice none 0 0], .int .i64 13]) ?_ rfl ⟨_, _, _, rfl, rfl, one5 _ _ _, hFkw.trans_new (Nat.le_refl _), ⟨hRk.1, (setRow_other _ _ _ _ (by omega)).trans hRk.2⟩, ?_⟩
        · exact results_cell_tmp Tryd.results32 _ _ _ 25 _ (0, 0) _ _ rfl rfl (setRow_heap _ _ _ _ _ _ hZk) Tryd.underlying25 rfl size25
        · exact RdM.err (rdErr _ ((HN.out (.error 13)).2 (by rw [← HD.out]; exact numD_bad (.inr HB.out)))) (.inl ⟨rfl, by decide⟩)
      · have hV0 : ((V : Int) == 0) = false := by have : ¬ (V : Int) = 0 := by omega
                                                  simpa using this
        by_cases hVg : V ≤ 1000000000000000
        · have hVi : (V : Int) ≤ 1000000000000000 := by omega
          have hVj : ¬ (1000000000000000 : Int) < (V : Int) := by omega
          have hgood := numD_good (minus := false) (d := D) (r := l1.dropWhile isD) (by rintro rfl; exact hVz (by rw [HVD.out]; rfl)) hDh hDn (by rw [← HVD.out]; exact hVg)
          rw [← HVD.out] at hgood
          have hx := (HN.out (.ok ((V : Int), l1.dropWhile isD))).2 (by rw [← HD.out]; simpa using hgood)
          have HX : Hid _ := hx
          clear hgood hx hVz hVg
          go_wp2_with fail
          refine hnx.mono ?_
          rintro e w4 ⟨rfl, rfl⟩
          go_wp2_with fail
          refine hdg.mono ?_
          rintro e w4 ⟨rfl, rfl⟩
          go_wp2_with (refine wpList_store_row rfl 25 (.tmp 2) (.tmp 38) rfl w.heap.size #[.int .i64 2, .int .i64 ((V : Int)), .string ⟨#[]⟩, .slice none 0 0, .slice none 0 0] rfl rfl 25 zero5 hZk size25 rfl (one5 _ _ _) ?_)
          refine bodyPost_ret (v := .tuple #[.agg #[.int .i64 2, .int .i64 ((V : Int)), .string ⟨#[]⟩, .slice none 0 0, .slice none 0 0], .int .i64 0]) ?_ rfl ⟨_, _, _, rfl, rfl, one5 _ _ _, hFkw.trans_new (Nat.le_refl _), ⟨hRk.1, (setRow_other _ _ _ _ (by omega)).trans hRk.2⟩, ?_⟩
          · exact results_cell_tmp Tryd.results32 _ _ _ 25 _ (0, 0) _ _ rfl rfl (setRow_heap _ _ _ _ _ _ hZk) Tryd.underlying25 rfl size25
          · exact RdM.ok (rdOk _ HX.out) rfl HR.out (jm_zero _ 2 ((V : Int)) _ [] _ str_none (by decide) (by omega))
        · have hVi : ¬ (V : Int) ≤ 1000000000000000 := by omega
          have hVj : (1000000000000000 : Int) < (V : Int) := by omega
          have hbad : 1000000000000000 < valT D := by rw [← HVD.out]; omega
          clear hVz hVg
          go_wp2_with fail
          refine hnx.mono ?_
          rintro e w4 ⟨rfl, rfl⟩
          go_wp2_with fail
          refine hdg.mono ?_
          rintro e w4 ⟨rfl, rfl⟩
          go_wp2_with (refine wpList_store_row rfl 25 (.tmp 2) (.tmp 34) rfl w.heap.size #[.int .i64 0, .int .i64 0, .string ⟨#[]⟩, .slice none 0 0, .slice none 0 0] rfl rfl 25 zero5 hZk size25 rfl (one5 _ _ _) ?_)
          refine bodyPost_ret (v := .tuple #[.agg #[.int .i64 0, .int .i64 0, .string ⟨#[]⟩, .slice none 0 0, .slice none 0 0], .int .i64 13]) ?_ rfl ⟨_, _, _, rfl, rfl, one5 _ _ _, hFkw.trans_new (Nat.le_refl _), ⟨hRk.1, (setRow_other _ _ _ _ (by omega)).trans hRk.2⟩, ?_⟩
          · exact results_cell_tmp Tryd.results32 _ _ _ 25 _ (0, 0) _ _ rfl rfl (setRow_heap _ _ _ _ _ _ hZk) Tryd.underlying25 rfl size25
          · exact RdM.err (rdErr _ ((HN.out (.error 13)).2 (by rw [← HD.out]; exact numD_bad (.inl hbad)))) (.inl ⟨rfl, by decide⟩)
end Go.Proofs.YtljgnpneeecafaaDoor
set_option linter.unusedVariables false
namespace Go.Proofs.YtljgnpneeecafaaDoor
open Go.RowKit Go.Sort Go.BigFrame
set_option maxRecDepth 100000
set_option maxHeartbeats 2000000
theorem integer32 {g ar : Nat} {l : List Nat} {mv : Value} {w : World} (h : RdAt g ar l mv w) (hl : l.length ≤ 1000000) : NumR g ar l mv w := by
  cases e : litP [45] l with
  | some l1 =>
    have hc := lit_some e
    have hn : ∀ x, numP l = x ↔ numD true (l1.takeWhile isD) (l1.dropWhile isD) = x := fun x => by rw [hc]; exact Iff.rfl
    cases e2 : litP [48] l1 with
    | some r0 => exact numM0 h e hn e2
    | none => exact numM1 h e hl (by rw [hc]; simp) hn e2
  | none =>
    have hc := lit_head e
    have hn : ∀ x, numP l = x ↔ numD false (l.takeWhile isD) (l.dropWhile isD) = x := fun x => by
      unfold numP
      split
      · next r => exact absurd rfl hc
      · exact Iff.rfl
    cases e2 : litP [48] l with
    | some r0 => exact numN0 h e rfl hn e2
    | none => exact numN1 h e rfl hl (Nat.le_refl _) hn e2
/- digits of sixteen -/
def hexZ (c : Nat) : Int := match hexP c with
  | some x => (x : Int)
  | none => -1
def smallS : ByteArray := ⟨#[48, 49, 50, 51, 52, 53, 54, 55, 56, 57, 97, 98, 99, 100, 101, 102]⟩
def greatS : ByteArray := ⟨#[48, 49, 50, 51, 52, 53, 54, 55, 56, 57, 65, 66, 67, 68, 69, 70]⟩
theorem hex_max : ∀ c, c < 256 → max (Lib.indexByte smallS.data.toList c.toUInt8) (Lib.indexByte greatS.data.toList c.toUInt8) = hexZ c := by decide +kernel
theorem digit67 (c : Nat) (w : World) (hc : c < 256) : Calls Tryd.prog 67 #[.int .u8 (c : Int)] w fun e w' => ∃ x : Nat, e = .returned (.tuple #[.int .u8 (x : Int), .bool (hexP c).isSome]) ∧ x < 256 ∧ (∀ y, hexP c = some y → x = y) ∧ w' = w := by
  have h1 := Tryd.strings_IndexByte smallS (c : Int) w
  have h2 := Tryd.strings_IndexByte greatS (c : Int) w
  have hm := hex_max c hc
  rw [Int.toNat_natCast] at h1 h2
  obtain ⟨a, ha⟩ : ∃ a, a = Lib.indexByte smallS.data.toList c.toUInt8 := ⟨_, rfl⟩
  obtain ⟨b, hb⟩ : ∃ b, b = Lib.indexByte greatS.data.toList c.toUInt8 := ⟨_, rfl⟩
  rw [← ha, ← hb] at hm
  rw [← ha] at h1
  rw [← hb] at h2
  unfold smallS at h1
  unfold greatS at h2
  clear ha hb
  cases hx : hexP c with
  | none =>
    have hz : max a b = -1 := by rw [hm]; unfold hexZ; rw [hx]
    have hw : IntKind.i64.wrap (max a b) = -1 := by rw [hz]; rfl
    clear hm
    go_enter Tryd.func67, Tryd.ntmps67
    go_wp2_with fail
    refine h1.mono ?_
    rintro e w1 ⟨rfl, rfl⟩
    go_wp2_with fail
    refine h2.mono ?_
    rintro e w1 ⟨rfl, rfl⟩
    go_wp2
    go_ret2
    exact ⟨255, rfl, by decide, fun y hy => (by cases hy), rfl⟩
  | some y =>
    have hy := hexP_lt hx
    have hz : max a b = (y : Int) := by rw [hm]; unfold hexZ; rw [hx]
    have hcv : ∀ w : World, (convert 3 5 (.int .i64 (y : Int))).run Tryd.prog w = .ok (.int .u8 (y : Int)) w := fun w => by
      have h2 : IntKind.u8.wrap (y : Int) = (y : Int) := by rw [IntKind.wrap_u8]; omega
      simp [go_sem, h2]
    have h0 : (0 : Int) ≤ (y : Int) := by omega
    have hy2 : y < 256 := by omega
    clear hm hx hy
    go_enter Tryd.func67, Tryd.ntmps67
    go_wp2_with fail
    refine h1.mono ?_
    rintro e w1 ⟨rfl, rfl⟩
    go_wp2_with fail
    refine h2.mono ?_
    rintro e w1 ⟨rfl, rfl⟩
    go_wp2
    go_ret2
    exact ⟨y, rfl, hy2, fun z hz => Option.some.inj hz, rfl⟩
/- what stands behind a '\\' -/
def escL : List Nat → Option (Nat × List Nat)
  | [] => none
  | k :: r => match escP k with
    | some x => some (x, r)
    | none => if k = 117 then uniP r else none
def marksS : ByteArray := ⟨#[34, 92, 47, 98, 102, 110, 114, 116]⟩
def toldS : ByteArray := ⟨#[34, 92, 47, 8, 12, 10, 13, 9]⟩
def escOk (c : Nat) : Bool := match escP c with
  | some x => decide (0 ≤ Lib.indexByte marksS.data.toList c.toUInt8) && decide (Lib.indexByte marksS.data.toList c.toUInt8 < 8) && ((toldS.data.toList.map UInt8.toNat)[(Lib.indexByte marksS.data.toList c.toUInt8).toNat]? == some x)
  | none => Lib.indexByte marksS.data.toList c.toUInt8 == -1
theorem escOk_all : ∀ c, c < 256 → escOk c = true := by decide +kernel
theorem headD_lt {l : List Nat} (h : Dig l) : l.headD 0 < 256 := by
  cases l with
  | nil => decide
  | cons c t => exact mem_of_dig h c (by simp)
/-- A byte and whether it is one; what is left. -/
def EscR (g ar : Nat) (mv : Value) (w : World) (x : Option (Nat × List Nat)) (e : Ending) (w' : World) : Prop :=
  ∃ (b : Int) (l' : List Nat), e = .returned (.tuple #[.int .u8 b, .bool x.isSome]) ∧ Fg g w w' ∧ RdAt g ar l' mv w' ∧ ∀ y, x = some y → b = (y.1 : Int) ∧ l' = y.2
theorem escB {g ar : Nat} {l : List Nat} {mv : Value} {w : World} (h : RdAt g ar l mv w) (hl : l.length ≤ 1000000) (hno : litP [117, 48, 48] l = none) :
    Calls Tryd.prog 57 #[.pointer (some ⟨g, 0, none⟩)] w (EscR g ar mv w (escL l)) := by
  have hs := str_lit (bs := [117, 48, 48]) (by decide)
  rw [show strOf [117, 48, 48] = ByteArray.mk #[117, 48, 48] by decide] at hs
  have hsk := skip45 h hs
  rw [hno] at hsk
  have hsk : Calls Tryd.prog 45 #[.pointer (some ⟨g, 0, none⟩), .string ⟨#[117, 48, 48]⟩] w fun e w' => e = .returned (.bool false) ∧ RdAt g ar l mv w' ∧ Fg g w w' := hsk
  obtain ⟨C, hC⟩ : ∃ C, C = l.headD 0 := ⟨_, rfl⟩
  have hC256 : C < 256 := by rw [hC]; exact headD_lt h.1
  have hok := escOk_all C hC256
  unfold escOk at hok
  have hidx := fun w => Tryd.strings_IndexByte marksS (C : Int) w
  rw [Int.toNat_natCast] at hidx
  obtain ⟨I, hI⟩ : ∃ I, I = Lib.indexByte marksS.data.toList C.toUInt8 := ⟨_, rfl⟩
  rw [← hI] at hok hidx
  unfold marksS at hidx
  have hrest : escL l = match escP C with | some x => some (x, l.drop 1) | none => none := by
    cases l with
    | nil => rw [hC]; rfl
    | cons k r =>
      have : C = k := hC
      subst this
      show (match escP C with | some x => some (x, r) | none => if C = 117 then uniP r else none) = (match escP C with | some x => some (x, r) | none => none)
      cases escP C with
      | some x => rfl
      | none =>
        show (if C = 117 then uniP r else none) = none
        split
        · next hk =>
          unfold uniP
          split
          · next a b r' =>
            exfalso
            rw [hk] at hno
            simp [litP] at hno
          · rfl
        · rfl
  rw [hrest]
  have HC : Hid _ := hC
  clear hI hno hs hrest hC
  cases hx : escP C with
  | none =>
    rw [hx] at hok
    have hI1 : I = -1 := by simpa using hok
    subst hI1
    clear hx hok
    go_enter Tryd.func57, Tryd.ntmps57
    go_wp2_with fail
    refine hsk.mono ?_
    rintro e w1 ⟨rfl, hR1, hF1⟩
    have htk := take47 hR1 hl
    rw [← HC.out] at htk
    go_wp2_with fail
    refine htk.mono ?_
    rintro e w2 ⟨rfl, hR2, hF2⟩
    go_wp2_with fail
    refine (hidx _).mono ?_
    rintro e w3 ⟨rfl, rfl⟩
    go_wp2
    go_ret2
    exact ⟨0, _, rfl, hF1.trans hF2, hR2, fun y hy => (by cases hy)⟩
  | some x =>
    rw [hx] at hok
    simp only [Bool.and_eq_true, decide_eq_true_eq, beq_iff_eq] at hok
    obtain ⟨⟨i1, i2⟩, i3⟩ := hok
    obtain ⟨i, hi⟩ : ∃ i : Nat, I = (i : Int) := ⟨I.toNat, by omega⟩
    subst hi
    have hi8 : i < 8 := by omega
    rw [Int.toNat_natCast] at i3
    have hel : ((⟨#[34, 92, 47, 8, 12, 10, 13, 9]⟩ : ByteArray)[i]'(by exact hi8)).toNat = x := by
      unfold toldS at i3
      rw [List.getElem?_map] at i3
      obtain ⟨y, hy1, hy2⟩ := Option.map_eq_some_iff.1 i3
      rw [← hy2]
      have := List.getElem?_eq_some_iff.1 hy1
      obtain ⟨q1, q2⟩ := this
      rw [← q2]
      rfl
    have hi1 : ¬ (i : Int) < 0 := by omega
    have hi2 : (0 : Int) ≤ (i : Int) ∧ (i : Int) < 8 := by omega
    clear hx i1 i2 i3
    go_enter Tryd.func57, Tryd.ntmps57
    go_wp2_with fail
    refine hsk.mono ?_
    rintro e w1 ⟨rfl, hR1, hF1⟩
    have htk := take47 hR1 hl
    rw [← HC.out] at htk
    go_wp2_with fail
    refine htk.mono ?_
    rintro e w2 ⟨rfl, hR2, hF2⟩
    go_wp2_with fail
    refine (hidx _).mono ?_
    rintro e w3 ⟨rfl, rfl⟩
    go_wp2
    go_ret2
    exact ⟨x, _, rfl, hF1.trans hF2, hR2, fun y hy => by obtain rfl := Option.some.inj hy; exact ⟨rfl, rfl⟩⟩
theorem escA {g ar : Nat} {l r : List Nat} {mv : Value} {w : World} (h : RdAt g ar l mv w) (hl : l.length ≤ 1000000) (hyes : litP [117, 48, 48] l = some r) :
    Calls Tryd.prog 57 #[.pointer (some ⟨g, 0, none⟩)] w (EscR g ar mv w (escL l)) := by
  have hs := str_lit (bs := [117, 48, 48]) (by decide)
  rw [show strOf [117, 48, 48] = ByteArray.mk #[117, 48, 48] by decide] at hs
  have hsk := skip45 h hs
  rw [hyes] at hsk
  have hsk : Calls Tryd.prog 45 #[.pointer (some ⟨g, 0, none⟩), .string ⟨#[117, 48, 48]⟩] w fun e w' => e = .returned (.bool true) ∧ RdAt g ar r mv w' ∧ Fg g w w' := hsk
  have hlr : l = 117 :: 48 :: 48 :: r := by
    unfold litP at hyes
    split at hyes
    · next hh =>
      injection hyes with hyes
      have := List.take_append_drop 3 l
      rw [← this, ← hyes]
      have h3 : List.take 3 l = [117, 48, 48] := hh
      rw [h3]; rfl
    · cases hyes
  have hrl : r.length ≤ 1000000 := by rw [hlr] at hl; simp at hl; omega
  obtain ⟨C, hC⟩ : ∃ C, C = r.headD 0 := ⟨_, rfl⟩
  obtain ⟨D, hD⟩ : ∃ D, D = (r.drop 1).headD 0 := ⟨_, rfl⟩
  have hdr : Dig r := by
    have := Dig.dropN h.1 3
    rw [hlr] at this
    exact this
  have hC256 : C < 256 := by rw [hC]; exact headD_lt hdr
  have hD256 : D < 256 := by rw [hD]; exact headD_lt (Dig.dropN hdr 1)
  have hd1 := fun w => digit67 C w hC256
  have hd2 := fun w => digit67 D w hD256
  have hE : escL l = match hexP C, hexP D with
    | some x, some y => if 16 * x + y ≤ 126 then some (16 * x + y, (r.drop 1).drop 1) else none
    | _, _ => none := by
    rw [hlr]
    show uniP (48 :: 48 :: r) = _
    cases r with
    | nil => rw [hC]; rfl
    | cons a r1 =>
      have e1 : C = a := hC
      cases r1 with
      | nil =>
        have e2 : D = 0 := hD
        subst e1 e2
        show none = _
        cases hexP C <;> rfl
      | cons b r2 =>
        have e2 : D = b := hD
        subst e1 e2
        rfl
  obtain ⟨E, hE2⟩ : ∃ E, E = escL l := ⟨_, rfl⟩
  rw [← hE2] at hE ⊢
  have HE : Hid _ := hE
  have HC : Hid _ := hC
  have HD : Hid _ := hD
  clear hyes hs hlr hdr hC hD hE hE2
  go_enter Tryd.func57, Tryd.ntmps57
  go_wp2_with fail
  refine hsk.mono ?_
  rintro e w1 ⟨rfl, hR1, hF1⟩
  have htk := take47 hR1 hrl
  rw [← HC.out] at htk
  go_wp2_with fail
  refine htk.mono ?_
  rintro e w2 ⟨rfl, hR2, hF2⟩
  go_wp2_with fail
  refine (hd1 _).mono ?_
  rintro e w2' ⟨x, rfl, hx, hx2, rfl⟩
  have htk2 := take47 hR2 (by simp; omega)
  rw [← HD.out] at htk2
  go_wp2_with fail
  refine htk2.mono ?_
  rintro e w3 ⟨rfl, hR3, hF3⟩
  go_wp2_with fail
  refine (hd2 _).mono ?_
  rintro e w3' ⟨y, rfl, hy, hy2, rfl⟩
  have hF := (hF1.trans hF2).trans hF3
  clear hsk htk htk2 hd1 hd2
  cases h1 : hexP C with
  | none =>
    obtain rfl : E = none := by rw [HE.out, h1]
    clear HE
    go_wp2
    all_goals
      go_ret2
      exact ⟨_, _, rfl, hF, hR3, fun y hy => (by cases hy)⟩
  | some x' =>
    obtain rfl := hx2 x' h1
    have hx16 := hexP_lt h1
    cases h2 : hexP D with
    | none =>
      obtain rfl : E = none := by rw [HE.out, h1, h2]
      clear HE
      go_wp2
      all_goals
        go_ret2
        exact ⟨_, _, rfl, hF, hR3, fun y hy => (by cases hy)⟩
    | some y' =>
      obtain rfl := hy2 y' h2
      have hy16 := hexP_lt h2
      have u1 : IntKind.u8.wrap (16 * (x : Int)) = 16 * (x : Int) := by rw [IntKind.wrap_u8]; omega
      have u2 : IntKind.u8.wrap (16 * (x : Int) + (y : Int)) = 16 * (x : Int) + (y : Int) := by rw [IntKind.wrap_u8]; omega
      by_cases h126 : 16 * x + y ≤ 126
      · have hi : 16 * (x : Int) + (y : Int) ≤ 126 := by omega
        obtain rfl : E = some (16 * x + y, (r.drop 1).drop 1) := by rw [HE.out, h1, h2]; exact if_pos h126
        clear HE h126
        go_wp2
        go_ret2
        exact ⟨_, _, rfl, hF, hR3, fun z hz => by obtain rfl := Option.some.inj hz; exact ⟨by simp, rfl⟩⟩
      · have hi : ¬ 16 * (x : Int) + (y : Int) ≤ 126 := by omega
        obtain rfl : E = none := by rw [HE.out, h1, h2]; exact if_neg h126
        clear HE h126
        go_wp2
        rw [show decide (16 * (x : Int) + (y : Int) ≤ 126) = false from decide_eq_false (by omega)]
        go_ret2
        exact ⟨_, _, rfl, hF, hR3, fun y hy => (by cases hy)⟩
theorem escaped57 {g ar : Nat} {l : List Nat} {mv : Value} {w : World} (h : RdAt g ar l mv w) (hl : l.length ≤ 1000000) :
    Calls Tryd.prog 57 #[.pointer (some ⟨g, 0, none⟩)] w (EscR g ar mv w (escL l)) := by
  cases e : litP [117, 48, 48] l with
  | none => exact escB h hl e
  | some r => exact escA h hl e
end Go.Proofs.YtljgnpneeecafaaDoor
set_option linter.unusedVariables false
namespace Go.Proofs.YtljgnpneeecafaaDoor
open Go.RowKit Go.Sort Go.BigFrame
set_option maxRecDepth 100000
set_option maxHeartbeats 2000000
theorem isb_keep {B b : Nat} {xs : List Value} {w w' : World} (h : Lib.IsBuilderF 43 5 B b xs w) (hk : ∀ k, B ≤ k → k < w.heap.size → w'.heap[k]? = w.heap[k]?) : Lib.IsBuilderF 43 5 B b xs w' := by
  have key : ∀ p, Lib.BuilderAtF 43 5 B b p xs w → Lib.BuilderAtF 43 5 B b p xs w' := fun p h => by
    obtain ⟨hB, v, hb, hown, hne⟩ := h
    refine ⟨hB, v, (hk b hB (lt_of_heap hb)).trans hb, ⟨hown.1, ?_⟩, hne⟩
    rcases hown.2 with hn | ⟨g, cap, cur, fz, hv, hbg, hg, rest⟩
    · exact .inl hn
    · exact .inr ⟨g, cap, cur, fz, hv, hbg, (hk g hbg (lt_of_heap hg)).trans hg, rest⟩
  rcases h with h | h
  · exact .inl (key _ h)
  · exact .inr (key _ h)
theorem Fg.then {g : Nat} {a b c : World} (h : Fg g a b) (h' : Below a.heap.size b c) : Fg g a c :=
  ⟨h.1.trans (h'.mono (Nat.zero_le _)), fun k hk hg => (h'.block k hk).trans (h.2 k hk hg)⟩
theorem RdAt.under {g ar B : Nat} {l : List Nat} {mv : Value} {w w' : World} (h : RdAt g ar l mv w) (hb : Below B w w') (hg : g < B) : RdAt g ar l mv w' := ⟨h.1, (hb.block g hg).trans h.2⟩
theorem bv_byteCells {bs : List Nat} (hd : Dig bs) : bv bs = Lib.byteCells (bs.map UInt8.ofNat) := by
  unfold bv Lib.byteCells
  rw [List.map_map]
  apply List.map_congr_left
  intro x hx
  have := mem_of_dig hd x hx
  simp [Function.comp, Nat.mod_eq_of_lt this]
theorem txtP_esc (f : Nat) (l : List Nat) : txtP (f + 1) (92 :: l) = match escL l with
  | some (x, r) => rdMap (x :: ·) (txtP f r)
  | none => .error 13 := by
  conv => lhs; unfold txtP
  rw [if_neg (by omega), if_neg (by omega), if_neg (by omega)]
  cases l with
  | nil => rfl
  | cons k r =>
    show (match escP k with | some x => rdMap (x :: ·) (txtP f r) | none => if k = 117 then (match uniP r with | some (x, r3) => rdMap (x :: ·) (txtP f r3) | none => .error 13) else .error 13) = _
    rw [show escL (k :: r) = (match escP k with | some x => some (x, r) | none => if k = 117 then uniP r else none) from rfl]
    cases escP k with
    | some x => rfl
    | none =>
      by_cases hk : k = 117
      · simp only [hk, if_true]
      · simp [hk]
theorem escL_ok {l r : List Nat} {x : Nat} (h : escL l = some (x, r)) : x ≤ 126 ∧ r.length < l.length := by
  cases l with
  | nil => cases h
  | cons k t =>
    have h : (match escP k with | some x => some (x, t) | none => if k = 117 then uniP t else none) = some (x, r) := h
    cases he : escP k with
    | some z =>
      rw [he] at h
      have h := Option.some.inj h
      injection h with h1 h2
      subst h1 h2
      exact ⟨escP_le he, by simp⟩
    | none =>
      rw [he] at h
      have h : (if k = 117 then uniP t else none) = some (x, r) := h
      split at h
      · have := uniP_ok h
        exact ⟨this.1, by simp; omega⟩
      · cases h
theorem txtP_plain (f : Nat) (c : Nat) (l : List Nat) (h1 : 32 ≤ c) (h2 : c ≤ 126) (h3 : c ≠ 34) (h4 : c ≠ 92) : txtP (f + 1) (c :: l) = rdMap (c :: ·) (txtP f l) := by
  conv => lhs; unfold txtP
  rw [if_neg (by omega), if_neg h3, if_pos h4]
theorem txtP_bad (f : Nat) (l : List Nat) (h : ¬ (32 ≤ l.headD 0 ∧ l.headD 0 ≤ 126)) : txtP f l = .error 13 := by
  cases f with
  | zero => rfl
  | succ f =>
    cases l with
    | nil => rfl
    | cons c r =>
      have h : ¬ (32 ≤ c ∧ c ≤ 126) := h
      unfold txtP
      rw [if_pos (by omega)]
theorem txtP_end (f : Nat) (l : List Nat) : txtP (f + 1) (34 :: l) = .ok ([], l) := by
  unfold txtP; simp
theorem rdMap_map {α β γ : Type} (f : β → γ) (g : α → β) (x : Rd α) : rdMap f (rdMap g x) = rdMap (fun a => f (g a)) x := by
  cases x with
  | error e => rfl
  | ok p => rfl
/-- A string with its two signs. -/
def quoP (l : List Nat) : Rd (List Nat) := match l with
  | 34 :: q => txtP (q.length + 1) q
  | _ => .error 13
theorem quoP_no {l : List Nat} (h : litP [34] l = none) : quoP l = .error 13 := by
  have := lit_head h
  unfold quoP
  split
  · next q => exact absurd rfl this
  · rfl
def QuoR (g ar : Nat) (mv : Value) (w : World) (x : Rd (List Nat)) (e : Ending) (w' : World) : Prop :=
  ∃ (s : ByteArray) (c : Bool) (l' : List Nat), e = .returned (.tuple #[.string s, .bool c]) ∧ Fg g w w' ∧ RdAt g ar l' mv w' ∧ match x with
    | .ok (t, r) => c = true ∧ l' = r ∧ Str s t
    | .error e0 => c = false ∧ e0 = 13
theorem QuoR.ok {g ar : Nat} {mv : Value} {w w' : World} {x : Rd (List Nat)} {t r : List Nat} {s : ByteArray} (h : x = .ok (t, r)) (hF : Fg g w w') (hR : RdAt g ar r mv w') (hs : Str s t) : QuoR g ar mv w x (.returned (.tuple #[.string s, .bool true])) w' := by
  rw [h]; exact ⟨_, _, _, rfl, hF, hR, rfl, rfl, hs⟩
theorem QuoR.err {g ar : Nat} {mv : Value} {w w' : World} {x : Rd (List Nat)} {l' : List Nat} {s : ByteArray} (h : x = .error 13) (hF : Fg g w w') (hR : RdAt g ar l' mv w') : QuoR g ar mv w x (.returned (.tuple #[.string s, .bool false])) w' := by
  rw [h]; exact ⟨_, _, _, rfl, hF, hR, rfl, rfl⟩
theorem quoted48 {g ar : Nat} {l : List Nat} {mv : Value} {w : World} (h : RdAt g ar l mv w) (hl : l.length ≤ 100000) :
    Calls Tryd.prog 48 #[.pointer (some ⟨g, 0, none⟩)] w (QuoR g ar mv w (quoP l)) := by
  have hs := str_lit (bs := [34]) (by decide)
  rw [show strOf [34] = ByteArray.mk #[34] by decide] at hs
  have hsk := skip45 h hs
  have hgl := h.lt
  cases hc : litP [34] l with
  | none =>
    rw [hc] at hsk
    have hsk : Calls Tryd.prog 45 #[.pointer (some ⟨g, 0, none⟩), .string ⟨#[34]⟩] w fun e w' => e = .returned (.bool false) ∧ RdAt g ar l mv w' ∧ Fg g w w' := hsk
    have hq := quoP_no hc
    clear hc
    go_enter Tryd.func48, Tryd.ntmps48
    go_wp2_with fail
    refine hsk.mono ?_
    rintro e w1 ⟨rfl, hR1, hF1⟩
    go_wp2
    go_ret2
    exact QuoR.err hq hF1 hR1
  | some q =>
    rw [hc] at hsk
    have hsk : Calls Tryd.prog 45 #[.pointer (some ⟨g, 0, none⟩), .string ⟨#[34]⟩] w fun e w' => e = .returned (.bool true) ∧ RdAt g ar q mv w' ∧ Fg g w w' := hsk
    have hlq := lit_some hc
    have hX : quoP l = txtP (q.length + 1) q := by rw [hlq]; rfl
    have hql : q.length ≤ 100000 := by rw [hlq] at hl; simp at hl; omega
    obtain ⟨X, hX2⟩ : ∃ X, X = quoP l := ⟨_, rfl⟩
    rw [← hX2] at hX ⊢
    have HX : Hid _ := hX
    clear hc hlq hX hX2
    go_enter Tryd.func48, Tryd.ntmps48
    go_wp2_with fail
    refine hsk.mono ?_
    rintro e w1 ⟨rfl, hR1, hF1⟩
    have hg1 := hR1.lt
    have hb0 := Lib.IsBuilderF.of (Lib.fresh_isBuilder 43 5 w1)
    have hR2 := hR1.new (below1 w1 (.cells #[.pointer none, .slice none 0 0] 43))
    have hF2 := Fg.new (g := g) (below1 w1 (.cells #[.pointer none, .slice none 0 0] 43))
    clear hsk
    go_wp2_with fail
    go_loopw [5] (fun _ wr => ∃ (bs l2 : List Nat) (f : Nat), RdAt g ar l2 mv wr ∧ Fg g w1 wr ∧ Lib.IsBuilderF 43 5 w1.heap.size w1.heap.size (bv bs) wr ∧ (Dig bs ∧ bs.length + l2.length ≤ 100000 ∧ l2.length < f) ∧ X = rdMap (bs ++ ·) (txtP f l2)) (fun _ wr => restN g wr)
    case atStart => exact ⟨[], q, q.length + 1, hR2, hF2, hb0, ⟨fun j => by simp, by simpa using hql, by omega⟩, by
      rw [HX.out]
      cases txtP (q.length + 1) q <;> rfl⟩
    case round =>
      obtain ⟨bs, l2, f, hRk, hFk, hbk, ⟨hd, hlen, hf⟩, hXk⟩ := hrel
      have hFw := hF1.trans hFk
      have hsz1 := hFk.size
      have hN := hRk.restN
      obtain ⟨C, hC⟩ : ∃ C, C = l2.headD 0 := ⟨_, rfl⟩
      have htk := take47 hRk (by omega)
      rw [← hC] at htk
      have hC256 : C < 256 := by rw [hC]; exact headD_lt hRk.1
      have HX2 : Hid _ := hXk
      have HN : Hid _ := hN
      obtain ⟨f', rfl⟩ : ∃ f', f = f' + 1 := ⟨f - 1, by omega⟩
      clear hXk hN
      have keep : ∀ {wr w5 : World}, Fg g wr w5 → Lib.IsBuilderF 43 5 w1.heap.size w1.heap.size (bv bs) wr → Lib.IsBuilderF 43 5 w1.heap.size w1.heap.size (bv bs) w5 := fun h hb => isb_keep hb (fun k hk1 hk2 => h.2 k hk2 (by omega))
      by_cases h34 : C = 34
      · -- the end
        have hl2 : l2 = 34 :: l2.drop 1 := by
          cases l2 with
          | nil => rw [hC] at h34; exact absurd h34 (by decide)
          | cons c r => have : c = 34 := by rw [← h34, hC]; rfl
                        rw [this]; rfl
        have hres : X = .ok (bs, l2.drop 1) := by
          rw [HX2.out, hl2, txtP_end]
          simp [rdMap]
        have HR : Hid _ := hres
        clear hC hl2 hres
        subst h34
        go_wp2_with fail
        refine htk.mono ?_
        rintro e w3 ⟨rfl, hR3, hF3⟩
        have hb3 := keep hF3 hbk
        rw [bv_byteCells hd] at hb3
        have hst := Tryd.Builder_String_any_k _ _ _ _ hb3 (by have := hF3.size; omega)
        go_wp2_with fail
        refine hst.mono ?_
        rintro e w4 ⟨rfl, hb4, hB4, _⟩
        go_wp2
        go_ret2
        have hw14 : Fg g w1 w4 := (hFk.trans hF3).then hB4
        refine QuoR.ok HR.out (hF1.trans hw14) (hR3.under hB4 hg1) ?_
        rw [← strOf_arr]
        exact str_strOf hd
      · have i34 : ((C : Int) == 34) = false := by have : ¬ (C : Int) = 34 := by omega
                                                   simpa using this
        have wr1 : ∀ (x : Nat) (r : List Nat) (w5 : World), x ≤ 126 → RdAt g ar r mv w5 → Fg g wr w5 → r.length + 1 ≤ l2.length →
            Calls Tryd.prog 58 #[.pointer (some ⟨w1.heap.size, 0, none⟩), .int .u8 (x : Int)] w5 fun e w' => e = .returned .nilIface ∧ RdAt g ar r mv w' ∧ Fg g w1 w' ∧ Lib.IsBuilderF 43 5 w1.heap.size w1.heap.size (bv (bs ++ [x])) w' ∧ Dig (bs ++ [x]) := fun x r w5 hx hR5 hF5 hr => by
          have hb5 := keep hF5 hbk
          refine (Tryd.Builder_WriteByte_k _ _ _ (x : Int) _ hb5 (by simp [bv]; omega) (by have := hF5.size; omega)).mono ?_
          rintro e w6 ⟨rfl, hb6, hB6, _⟩
          refine ⟨rfl, hR5.under hB6 hg1, (hFk.trans hF5).then hB6, .inr ?_, dig_app hd (dig_lt (by simp; omega))⟩
          rw [show bv (bs ++ [x]) = bv bs ++ [.int .u8 (x : Int)] by simp [bv]]
          exact hb6
        have HW : Hid _ := wr1
        clear wr1
        by_cases h92 : C = 92
        · have hl2 : l2 = 92 :: l2.drop 1 := by
            cases l2 with
            | nil => rw [hC] at h92; exact absurd h92 (by decide)
            | cons c r => have : c = 92 := by rw [← h92, hC]; rfl
                          rw [this]; rfl
          have hl3 : (l2.drop 1).length + 1 = l2.length := by
            conv => rhs; rw [hl2]
            rfl
          have hX3 : X = rdMap (bs ++ ·) (match escL (l2.drop 1) with | some (x, r) => rdMap (x :: ·) (txtP f' r) | none => .error 13) := by
            rw [HX2.out, ← txtP_esc, ← hl2]
          have HL : Hid _ := hl3
          obtain ⟨E, hE⟩ : ∃ E, E = escL (l2.drop 1) := ⟨_, rfl⟩
          rw [← hE] at hX3
          have HX3 : Hid _ := hX3
          have HE : Hid _ := hE
          clear hC hl2 hl3 hX3 hE
          subst h92
          go_wp2_with fail
          refine htk.mono ?_
          rintro e w3 ⟨rfl, hR3, hF3⟩
          have hesc := escaped57 hR3 (by have := HL.out; omega)
          rw [← HE.out] at hesc
          go_wp2_with fail
          refine hesc.mono ?_
          rintro e w4 ⟨b, l4, rfl, hF4, hR4, hEs⟩
          have hF34 := hF3.trans hF4
          clear htk hesc
          cases E with
          | none =>
            go_wp2
            go_ret2
            exact QuoR.err (by rw [HX3.out]; rfl) (hFw.trans hF34) hR4
          | some y =>
            obtain ⟨x, r⟩ := y
            obtain ⟨hbx, hlr⟩ := hEs _ rfl
            have hbx : b = (x : Int) := hbx
            have hlr : l4 = r := hlr
            rw [hlr] at hR4
            subst hbx
            clear hlr
            have hxr := escL_ok HE.out.symm
            have hr1 : r.length + 1 ≤ l2.length := by have := HL.out; omega
            have HR1 : Hid _ := hr1
            have HX126 : Hid _ := hxr.1
            clear hxr hr1 hEs
            go_wp2_with fail
            refine (HW.out x _ _ HX126.out hR4 hF34 HR1.out).mono ?_
            rintro e w5 ⟨rfl, hR5, hF5, hb5, hd5⟩
            go_wp2
            refine ⟨⟨bs ++ [x], r, f', hR5, hF5, hb5, ⟨hd5, by have := HR1.out; simp; omega, by have := HR1.out; omega⟩, ?_⟩, ?_⟩
            · rw [HX3.out]
              show rdMap _ (rdMap _ _) = _
              rw [rdMap_map]
              simp
            · rw [hR5.restN, HN.out]
              have := HR1.out
              omega
        · have i92 : ((C : Int) == 92) = false := by have : ¬ (C : Int) = 92 := by omega
                                                     simpa using this
          by_cases hlo : 32 ≤ C ∧ C ≤ 126
          · have i1 : (32 : Int) ≤ (C : Int) := by omega
            have i2 : (C : Int) ≤ 126 := by omega
            have hl2 : l2 = C :: l2.drop 1 := by
              cases l2 with
              | nil => have : C = 0 := hC
                       omega
              | cons c r => have : C = c := hC
                            rw [this]; rfl
            have hl3 : (l2.drop 1).length + 1 = l2.length := by
              conv => rhs; rw [hl2]
              rfl
            have hres : X = rdMap ((bs ++ [C]) ++ ·) (txtP f' (l2.drop 1)) := by
              rw [HX2.out, hl2, txtP_plain _ _ _ hlo.1 hlo.2 h34 h92, rdMap_map]
              simp
            have HR : Hid _ := hres
            have HL : Hid _ := hl3
            have hc126 := hlo.2
            clear hC hl2 hres hl3 hlo h34 h92
            go_wp2_with fail
            refine htk.mono ?_
            rintro e w3 ⟨rfl, hR3, hF3⟩
            go_wp2_with fail
            refine (HW.out C _ _ hc126 hR3 hF3 (by rw [HL.out]; omega)).mono ?_
            rintro e w4 ⟨rfl, hR4, hF4, hb4, hd4⟩
            go_wp2
            refine ⟨⟨bs ++ [C], l2.drop 1, f', hR4, hF4, hb4, ⟨hd4, by have := HL.out; simp at this ⊢; omega, by have := HL.out; omega⟩, HR.out⟩, ?_⟩
            rw [hR4.restN, HN.out]
            have := HL.out
            omega
          · have hbad : X = .error 13 := by rw [HX2.out, txtP_bad _ _ (by rw [← hC]; exact hlo)]; rfl
            have HR : Hid _ := hbad
            by_cases h32 : 32 ≤ C
            · have i1 : (32 : Int) ≤ (C : Int) := by omega
              have i2 : decide ((C : Int) ≤ 126) = false := decide_eq_false (by omega)
              clear hC hbad hlo h34 h92 h32
              go_wp2_with fail
              refine htk.mono ?_
              rintro e w3 ⟨rfl, hR3, hF3⟩
              go_wp2
              go_ret2
              exact QuoR.err HR.out (hFw.trans hF3) hR3
            · have i1 : decide ((32 : Int) ≤ (C : Int)) = false := decide_eq_false (by omega)
              clear hC hbad hlo h34 h92 h32
              go_wp2_with fail
              refine htk.mono ?_
              rintro e w3 ⟨rfl, hR3, hF3⟩
              go_wp2
              go_ret2
              exact QuoR.err HR.out (hFw.trans hF3) hR3
end Go.Proofs.YtljgnpneeecafaaDoor
set_option linter.unusedVariables false
namespace Go.Proofs.YtljgnpneeecafaaDoor
open Go.RowKit Go.Sort Go.BigFrame
set_option maxRecDepth 100000
set_option maxHeartbeats 2000000
theorem text33 {n g ar : Nat} {l : List Nat} {mv : Value} {w : World} (h : RdAt g ar l mv w) (hl : l.length ≤ 100000) :
    Calls Tryd.prog 33 #[.pointer (some ⟨g, 0, none⟩)] w (RdR g ar mv w (n := n + 1) (rdMap (fun t => (⟨3, 0, t, [], []⟩ : JN (J n))) (quoP l))) := by
  obtain ⟨w1, hw1⟩ : ∃ w1, w1 = w.alloc (.cells zero5 25) := ⟨_, rfl⟩
  have hB1 : Below w.heap.size w w1 := by rw [hw1]; exact below1 _ _
  have hZ1 : w1.heap[w.heap.size]? = some (.cells zero5 25 (0, 0)) := by rw [hw1]; exact heap_alloc_new _ _
  have hR1 := h.new hB1
  have hgl := h.lt
  have hq := quoted48 hR1 hl
  obtain ⟨X, hX⟩ : ∃ X, X = quoP l := ⟨_, rfl⟩
  rw [← hX] at hq ⊢
  rw [hw1] at hq
  unfold zero5 at hq
  clear hX
  go_enter Tryd.func33, Tryd.ntmps33
  go_wp2_with fail
  refine hq.mono ?_
  rintro e w2 ⟨s, c, l', rfl, hF2, hR2, hm⟩
  have hF2 : Fg g w1 w2 := by rw [hw1]; exact hF2
  have hZ2 := hF2.block hZ1 (by omega)
  have hFw := (Fg.new (g := g) hB1).trans hF2
  clear hq hw1 hZ1 hR1 hB1
  cases X with
  | error e0 =>
    obtain ⟨rfl, rfl⟩ := hm
    go_wp2_with (refine wpList_store_row rfl 25 (.tmp 2) (.tmp 13) rfl w.heap.size #[.int .i64 0, .int .i64 0, .string ⟨#[]⟩, .slice none 0 0, .slice none 0 0] rfl rfl 25 zero5 hZ2 size25 rfl (one5 _ _ _) ?_)
    refine bodyPost_ret (v := .tuple #[.agg #[.int .i64 0, .int .i64 0, .string ⟨#[]⟩, .slice none 0 0, .slice none 0 0], .int .i64 13]) ?_ rfl ⟨_, _, _, rfl, rfl, one5 _ _ _, hFw.trans_new (Nat.le_refl _), ⟨hR2.1, (setRow_other _ _ _ _ (by omega)).trans hR2.2⟩, RdM.err rfl (.inl ⟨rfl, by decide⟩)⟩
    exact results_cell_tmp Tryd.results33 _ _ _ 25 _ (0, 0) _ _ rfl rfl (setRow_heap _ _ _ _ _ _ hZ2) Tryd.underlying25 rfl size25
  | ok p =>
    obtain ⟨t, r⟩ := p
    obtain ⟨rfl, rfl, hs⟩ := hm
    go_wp2_with (refine wpList_store_row rfl 25 (.tmp 2) (.tmp 15) rfl w.heap.size #[.int .i64 3, .int .i64 0, .string s, .slice none 0 0, .slice none 0 0] rfl rfl 25 zero5 hZ2 size25 rfl (one5 _ _ _) ?_)
    refine bodyPost_ret (v := .tuple #[.agg #[.int .i64 3, .int .i64 0, .string s, .slice none 0 0, .slice none 0 0], .int .i64 0]) ?_ rfl ⟨_, _, _, rfl, rfl, one5 _ _ _, hFw.trans_new (Nat.le_refl _), ⟨hR2.1, (setRow_other _ _ _ _ (by omega)).trans hR2.2⟩, RdM.ok rfl rfl rfl (jm_zero _ 3 0 _ t _ hs (by decide) (by decide))⟩
    exact results_cell_tmp Tryd.results33 _ _ _ 25 _ (0, 0) _ _ rfl rfl (setRow_heap _ _ _ _ _ _ hZ2) Tryd.underlying25 rfl size25
/-- A name that is not there yet, and the sign behind it. -/
def nameP (ns : List (List Nat)) (l : List Nat) : Rd (List Nat) := match quoP (gapL l) with
  | .error e => .error e
  | .ok (nm, r) => if nm ∈ ns then .error 8 else match litP [58] (gapL r) with
    | some r2 => .ok (nm, r2)
    | none => .error 13
theorem SRowM.keep {g : Nat} {ns : List (List Nat)} {v : Value} {w w' : World} (h : SRowM (fun b => b ≠ g) ns v w) (hF : Fg g w w') : SRowM (fun b => b ≠ g) ns v w' := by
  obtain ⟨a, cap, h1, h2, h3, h4⟩ := h
  refine ⟨a, cap, h1, h2, h3, fun hp => ?_⟩
  obtain ⟨b, off, ha, hb, hc⟩ := h4 hp
  have hbl : b < w.heap.size := by
    obtain ⟨s, hs, _⟩ := hc 0 hp
    exact cell_some_lt hs
  refine ⟨b, off, ha, hb, fun i hi => ?_⟩
  obtain ⟨s, hs, hS⟩ := hc i hi
  exact ⟨s, (World.cell?_of_block (w := w) (a := ⟨b, off + i, none⟩) (hF.2 b hbl hb)).trans hs, hS⟩
theorem srow_dig {S : Nat → Prop} {ns : List (List Nat)} {v : Value} {w : World} (h : SRowM S ns v w) : ∀ x ∈ ns, Dig x := fun x hx => by
  obtain ⟨a, cap, _, _, _, h4⟩ := h
  obtain ⟨i, hi, rfl⟩ := List.getElem_of_mem hx
  obtain ⟨b, off, _, _, hc⟩ := h4 (by omega)
  obtain ⟨s, _, hS⟩ := hc i hi
  have := hS.dig
  simpa [hi] using this
theorem contains59 {S : Nat → Prop} {ns : List (List Nat)} {v : Value} {w : World} {s : ByteArray} {t : List Nat} (h : SRowM S ns v w) (hs : Str s t) :
    Calls Tryd.prog 59 #[v, .string s] w fun e w' => e = .returned (.bool (decide (t ∈ ns))) ∧ w' = w := by
  have hd := srow_dig h
  obtain ⟨a, cap, rfl, h2, h3, h4⟩ := h
  by_cases hp : 0 < ns.length
  · obtain ⟨b, off, rfl, _, hc⟩ := h4 hp
    have := Tryd.slices_Contains_string b off ns.length cap (ns.map strOf) s w (by simp) (by omega) (fun j hj => by
      have hj' : j < ns.length := by simpa using hj
      obtain ⟨s1, hs1, hS1⟩ := hc j hj'
      rw [hs1, hS1.eq]
      simp [hj'])
    refine this.mono ?_
    rintro e w' ⟨rfl, rfl⟩
    refine ⟨?_, rfl⟩
    congr 2
    rw [Bool.eq_iff_iff, Lib.containsS_iff, decide_eq_true_eq, List.take_of_length_le (by simp), hs.eq]
    constructor
    · intro hm
      obtain ⟨x, hx, e⟩ := List.mem_map.1 hm
      have := strOf_inj (hd x hx) hs.dig e
      rw [← this]; exact hx
    · intro hm
      exact List.mem_map.2 ⟨t, hm, rfl⟩
  · have hn : ns = [] := List.eq_nil_of_length_eq_zero (by omega)
    subst hn
    refine (Tryd.slices_Contains_string_empty a cap s w).mono ?_
    rintro e w' ⟨rfl, rfl⟩
    exact ⟨by simp, rfl⟩
def NamR (g ar : Nat) (mv : Value) (w : World) (x : Rd (List Nat)) (e : Ending) (w' : World) : Prop :=
  ∃ (s : ByteArray) (er : Int) (l' : List Nat), e = .returned (.tuple #[.string s, .int .i64 er]) ∧ Fg g w w' ∧ RdAt g ar l' mv w' ∧ match x with
    | .ok (t, r) => er = 0 ∧ l' = r ∧ Str s t
    | .error e0 => er = e0 ∧ e0 ≠ 0
theorem NamR.ok {g ar : Nat} {mv : Value} {w w' : World} {x : Rd (List Nat)} {t r : List Nat} {s : ByteArray} (h : x = .ok (t, r)) (hF : Fg g w w') (hR : RdAt g ar r mv w') (hs : Str s t) : NamR g ar mv w x (.returned (.tuple #[.string s, .int .i64 0])) w' := by
  rw [h]; exact ⟨_, _, _, rfl, hF, hR, rfl, rfl, hs⟩
theorem NamR.err {g ar : Nat} {mv : Value} {w w' : World} {x : Rd (List Nat)} {l' : List Nat} {s : ByteArray} {e0 : Int} (h : x = .error e0) (h0 : e0 ≠ 0) (hF : Fg g w w') (hR : RdAt g ar l' mv w') : NamR g ar mv w x (.returned (.tuple #[.string s, .int .i64 e0])) w' := by
  rw [h]; exact ⟨_, _, _, rfl, hF, hR, rfl, h0⟩
theorem gapL_le (l : List Nat) : (gapL l).length ≤ l.length := gapL_len l
theorem quoP_len {l t r : List Nat} (h : quoP l = .ok (t, r)) : r.length < l.length := by
  unfold quoP at h
  split at h
  · next q => have := (txtP_ok _ _ _ _ h).2; simp; omega
  · cases h
theorem name52 {g ar : Nat} {l : List Nat} {ns : List (List Nat)} {mv nv : Value} {w : World} (h : RdAt g ar l mv w) (hn : SRowM (fun b => b ≠ g) ns nv w) (hl : l.length ≤ 100000) :
    Calls Tryd.prog 52 #[.pointer (some ⟨g, 0, none⟩), nv] w (NamR g ar mv w (nameP ns l)) := by
  have hbl := blanks36 h
  obtain ⟨X, hX⟩ : ∃ X, X = nameP ns l := ⟨_, rfl⟩
  rw [← hX]
  have HX : Hid _ := hX
  have hgl := gapL_le l
  clear hX
  go_enter Tryd.func52, Tryd.ntmps52
  go_wp2_with fail
  refine hbl.mono ?_
  rintro e w1 ⟨rfl, hR1, hF1⟩
  have hq := quoted48 hR1 (by omega)
  clear hbl
  obtain ⟨Q, hQ⟩ : ∃ Q, Q = quoP (gapL l) := ⟨_, rfl⟩
  rw [← hQ] at hq
  have HQ : Hid _ := hQ
  clear hQ
  go_wp2_with fail
  refine hq.mono ?_
  rintro e w2 ⟨s, c, l', rfl, hF2, hR2, hm⟩
  have hF12 := hF1.trans hF2
  clear hq
  cases Q with
  | error e0 =>
    obtain ⟨rfl, rfl⟩ := hm
    go_wp2
    go_ret2
    exact NamR.err (by rw [HX.out]; unfold nameP; rw [← HQ.out]) (by decide) hF12 hR2
  | ok p =>
    obtain ⟨t, r⟩ := p
    obtain ⟨rfl, hlr, hs⟩ := hm
    have hlr : l' = r := hlr
    rw [hlr] at hR2
    clear hlr
    have hn2 := hn.keep hF12
    obtain ⟨na, nc, rfl, q2, q3, q4⟩ := hn2
    have hct := contains59 (S := fun b => b ≠ g) (ns := ns) (w := w2) ⟨na, nc, rfl, q2, q3, q4⟩ hs
    by_cases hmem : t ∈ ns
    · rw [decide_eq_true hmem] at hct
      have hres : X = .error 8 := by rw [HX.out]; unfold nameP; rw [← HQ.out]; exact if_pos hmem
      have HR : Hid _ := hres
      clear hmem hres q4 q2
      go_wp2_with fail
      refine hct.mono ?_
      rintro e w3 ⟨rfl, rfl⟩
      go_wp2
      go_ret2
      exact NamR.err HR.out (by decide) hF12 hR2
    · rw [decide_eq_false hmem] at hct
      have hres : X = match litP [58] (gapL r) with | some r2 => .ok (t, r2) | none => .error 13 := by rw [HX.out]; unfold nameP; rw [← HQ.out]; exact if_neg hmem
      have HR : Hid _ := hres
      have hbl2 := blanks36 hR2
      have hs58 := str_lit (bs := [58]) (by decide)
      rw [show strOf [58] = ByteArray.mk #[58] by decide] at hs58
      clear hmem hres q4 q2
      go_wp2_with fail
      refine hct.mono ?_
      rintro e w3 ⟨rfl, rfl⟩
      go_wp2_with fail
      refine hbl2.mono ?_
      rintro e w4 ⟨rfl, hR4, hF4⟩
      have hsk := skip45 hR4 hs58
      clear hbl2
      cases hc : litP [58] (gapL r) with
      | none =>
        rw [hc] at hsk
        have hsk : Calls Tryd.prog 45 #[.pointer (some ⟨g, 0, none⟩), .string ⟨#[58]⟩] w4 fun e w' => e = .returned (.bool false) ∧ RdAt g ar (gapL r) mv w' ∧ Fg g w4 w' := hsk
        have HC : Hid _ := hc
        clear hc
        go_wp2_with fail
        refine hsk.mono ?_
        rintro e w5 ⟨rfl, hR5, hF5⟩
        go_wp2
        go_ret2
        exact NamR.err (by rw [HR.out, HC.out]) (by decide) ((hF12.trans hF4).trans hF5) hR5
      | some r2 =>
        rw [hc] at hsk
        have hsk : Calls Tryd.prog 45 #[.pointer (some ⟨g, 0, none⟩), .string ⟨#[58]⟩] w4 fun e w' => e = .returned (.bool true) ∧ RdAt g ar r2 mv w' ∧ Fg g w4 w' := hsk
        have HC : Hid _ := hc
        clear hc
        go_wp2_with fail
        refine hsk.mono ?_
        rintro e w5 ⟨rfl, hR5, hF5⟩
        go_wp2
        go_ret2
        exact NamR.ok (by rw [HR.out, HC.out]) ((hF12.trans hF4).trans hF5) hR5 hs
end Go.Proofs.YtljgnpneeecafaaDoor
set_option linter.unusedVariables false
namespace Go.Proofs.YtljgnpneeecafaaDoor
open Go.RowKit Go.Sort Go.BigFrame
set_option maxRecDepth 100000
set_option maxHeartbeats 2000000
/-- Blanks behind are taken, too. -/
def gapR {α : Type} : Rd α → Rd α
  | .ok (a, r) => .ok (a, gapL r)
  | .error e => .error e
/-- Steps between two signs, with commas between. -/
def itemsS {α : Type} (stp : α → List Nat → Rd α) (en : Nat) : Nat → α → List Nat → Rd α
  | 0, _, _ => .error 13
  | f + 1, a, l => match stp a l with
    | .error e => .error e
    | .ok (a', r) => match litP [en] r with
      | some q => .ok (a', q)
      | none => match litP [44] r with
        | some q => itemsS stp en f a' q
        | none => .error 13
def wholeS {α : Type} (stp : α → List Nat → Rd α) (en : Nat) (a : α) (s : List Nat) : Rd α := match litP [en] (gapL s) with
  | some q => .ok (a, q)
  | none => itemsS stp en (s.length + 1) a (gapL s)
def stepL {K : Type} (kp : List Nat → Rd K) (ks : List K) (l : List Nat) : Rd (List K) := rdMap (fun k => ks ++ [k]) (gapR (kp l))
def stepM {K : Type} (kp : List Nat → Rd K) (p : List (List Nat) × List K) (l : List Nat) : Rd (List (List Nat) × List K) := match nameP p.1 l with
  | .error e => .error e
  | .ok (nm, r) => rdMap (fun k => (p.1 ++ [nm], p.2 ++ [k])) (gapR (kp r))
theorem gapL_head (l : List Nat) : gapL l = [] ∨ ∃ c t, gapL l = c :: t ∧ blankB c = false := by
  induction l with
  | nil => exact .inl rfl
  | cons c l ih =>
    cases h : blankB c with
    | true => rw [show gapL (c :: l) = gapL l by conv => lhs; unfold gapL; rw [if_pos h]]; exact ih
    | false => exact .inr ⟨c, l, gapL_of h, h⟩
theorem gapL_gap (l : List Nat) : gapL (gapL l) = gapL l := by
  rcases gapL_head l with h | ⟨c, t, h, hb⟩
  · rw [h]; rfl
  · rw [h, gapL_of hb]
/-- A match on the first sign, told by litP. -/
theorem m1 {β : Type} (x : List Nat) (A : List Nat → β) (C : β) : (match x with | 58 :: q => A q | _ => C) = (match litP [58] x with | some q => A q | none => C) := by
  cases x with
  | nil => rfl
  | cons c t =>
    rw [lit_cons]
    by_cases h : c = 58
    · subst h; rfl
    · rw [if_neg h]
      split
      · next q h2 => injection h2 with h2 _; exact absurd h2 h
      · rfl
theorem m0 {β : Type} (x : List Nat) (A : List Nat → β) (C : β) : (match x with | 34 :: q => A q | _ => C) = (match litP [34] x with | some q => A q | none => C) := by
  cases x with
  | nil => rfl
  | cons c t =>
    rw [lit_cons]
    by_cases h : c = 34
    · subst h; rfl
    · rw [if_neg h]
      split
      · next q h2 => injection h2 with h2 _; exact absurd h2 h
      · rfl
theorem m2 {β : Type} (x : List Nat) (A B : List Nat → β) (C : β) : (match x with | 93 :: q => A q | 44 :: q => B q | _ => C) = (match litP [93] x with | some q => A q | none => match litP [44] x with | some q => B q | none => C) := by
  cases x with
  | nil => rfl
  | cons c t =>
    rw [lit_cons, lit_cons]
    by_cases h : c = 93
    · subst h; rfl
    · rw [if_neg h]
      by_cases h3 : c = 44
      · subst h3; rfl
      · rw [if_neg h3]
        split
        · next q h2 => injection h2 with h2 _; exact absurd h2 h
        · next q h2 => injection h2 with h2 _; exact absurd h2 h3
        · rfl
theorem m3 {β : Type} (x : List Nat) (A B : List Nat → β) (C : β) : (match x with | 125 :: q => A q | 44 :: q => B q | _ => C) = (match litP [125] x with | some q => A q | none => match litP [44] x with | some q => B q | none => C) := by
  cases x with
  | nil => rfl
  | cons c t =>
    rw [lit_cons, lit_cons]
    by_cases h : c = 125
    · subst h; rfl
    · rw [if_neg h]
      by_cases h3 : c = 44
      · subst h3; rfl
      · rw [if_neg h3]
        split
        · next q h2 => injection h2 with h2 _; exact absurd h2 h
        · next q h2 => injection h2 with h2 _; exact absurd h2 h3
        · rfl
theorem itemsP_step {K : Type} (kp : List Nat → Rd K) (f : Nat) (s : List Nat) : itemsP kp (f + 1) s = match kp s with
    | .error e => .error e
    | .ok (k, r) => match litP [93] (gapL r) with
      | some q => .ok ([k], q)
      | none => match litP [44] (gapL r) with
        | some q => rdMap (k :: ·) (itemsP kp f q)
        | none => .error 13 := by
  conv => lhs; unfold itemsP
  cases kp s with
  | error e => rfl
  | ok p =>
    obtain ⟨k, r⟩ := p
    exact m2 (gapL r) _ _ _
theorem quoP_m (l : List Nat) : quoP l = match litP [34] l with
  | some q => txtP (q.length + 1) q
  | none => .error 13 := m0 l _ _
theorem pairsP_step {K : Type} (kp : List Nat → Rd K) (f : Nat) (ns : List (List Nat)) (s : List Nat) : pairsP kp (f + 1) ns s = match nameP ns s with
    | .error e => .error e
    | .ok (nm, r2) => match kp r2 with
      | .error e => .error e
      | .ok (k, r3) => match litP [125] (gapL r3) with
        | some q => .ok (([nm], [k]), q)
        | none => match litP [44] (gapL r3) with
          | some q => rdMap (fun p => (nm :: p.1, k :: p.2)) (pairsP kp f (nm :: ns) q)
          | none => .error 13 := by
  unfold nameP
  rw [quoP_m]
  conv => lhs; unfold pairsP
  refine (m0 (gapL s) _ _).trans ?_
  cases litP [34] (gapL s) with
  | none => rfl
  | some q =>
    dsimp only
    cases txtP (q.length + 1) q with
    | error e => rfl
    | ok p =>
      obtain ⟨nm, r⟩ := p
      dsimp only
      by_cases hm : nm ∈ ns
      · rw [if_pos hm, if_pos hm]
      · rw [if_neg hm, if_neg hm]
        refine (m1 (gapL r) _ _).trans ?_
        cases litP [58] (gapL r) with
        | none => rfl
        | some r2 =>
          dsimp only
          cases kp r2 with
          | error e => rfl
          | ok p2 =>
            obtain ⟨k, r3⟩ := p2
            exact m3 (gapL r3) _ _ _
theorem itemsS_list {K : Type} {kp : List Nat → Rd K} : ∀ (f : Nat) (ks : List K) (l : List Nat), itemsS (stepL kp) 93 f ks l = rdMap (ks ++ ·) (itemsP kp f l)
  | 0, _, _ => rfl
  | f + 1, ks, l => by
    rw [itemsP_step]
    unfold itemsS stepL
    cases hk : kp l with
    | error e => rfl
    | ok p =>
      obtain ⟨k, r⟩ := p
      show (match litP [93] (gapL r) with | some q => .ok (ks ++ [k], q) | none => match litP [44] (gapL r) with | some q => itemsS (stepL kp) 93 f (ks ++ [k]) q | none => .error 13) = rdMap _ (match litP [93] (gapL r) with | some q => .ok ([k], q) | none => match litP [44] (gapL r) with | some q => rdMap (k :: ·) (itemsP kp f q) | none => .error 13)
      cases litP [93] (gapL r) with
      | some q => rfl
      | none =>
        dsimp only
        cases litP [44] (gapL r) with
        | none => rfl
        | some q =>
          dsimp only
          rw [itemsS_list f, rdMap_map]
          congr 1
          funext x
          simp
theorem name_congr {s1 s2 : List (List Nat)} (h : ∀ x, x ∈ s1 ↔ x ∈ s2) (l : List Nat) : nameP s1 l = nameP s2 l := by
  unfold nameP
  cases quoP (gapL l) with
  | error e => rfl
  | ok p =>
    obtain ⟨nm, r⟩ := p
    dsimp only
    by_cases hm : nm ∈ s1
    · rw [if_pos hm, if_pos ((h nm).1 hm)]
    · rw [if_neg hm, if_neg (fun e => hm ((h nm).2 e))]
theorem pairs_congr {K : Type} {kp : List Nat → Rd K} : ∀ (f : Nat) (s1 s2 : List (List Nat)) (l : List Nat), (∀ x, x ∈ s1 ↔ x ∈ s2) → pairsP kp f s1 l = pairsP kp f s2 l
  | 0, _, _, _, _ => rfl
  | f + 1, s1, s2, l, h => by
    rw [pairsP_step, pairsP_step, name_congr h]
    cases nameP s2 l with
    | error e => rfl
    | ok p =>
      obtain ⟨nm, r⟩ := p
      dsimp only
      cases kp r with
      | error e => rfl
      | ok p2 =>
        obtain ⟨k, r3⟩ := p2
        dsimp only
        cases litP [125] (gapL r3) with
        | some q => rfl
        | none =>
          dsimp only
          cases litP [44] (gapL r3) with
          | none => rfl
          | some q =>
            dsimp only
            rw [pairs_congr f (nm :: s1) (nm :: s2) q (fun x => by simp [h x])]
theorem itemsS_map {K : Type} {kp : List Nat → Rd K} : ∀ (f : Nat) (ns : List (List Nat)) (ks : List K) (l : List Nat), itemsS (stepM kp) 125 f (ns, ks) l = rdMap (fun p => (ns ++ p.1, ks ++ p.2)) (pairsP kp f ns l)
  | 0, _, _, _ => rfl
  | f + 1, ns, ks, l => by
    rw [pairsP_step]
    unfold itemsS stepM
    dsimp only
    cases nameP ns l with
    | error e => rfl
    | ok p =>
      obtain ⟨nm, r⟩ := p
      dsimp only
      cases kp r with
      | error e => rfl
      | ok p2 =>
        obtain ⟨k, r3⟩ := p2
        show (match litP [125] (gapL r3) with | some q => .ok ((ns ++ [nm], ks ++ [k]), q) | none => match litP [44] (gapL r3) with | some q => itemsS (stepM kp) 125 f (ns ++ [nm], ks ++ [k]) q | none => .error 13) = rdMap _ (match litP [125] (gapL r3) with | some q => .ok (([nm], [k]), q) | none => match litP [44] (gapL r3) with | some q => rdMap (fun p => (nm :: p.1, k :: p.2)) (pairsP kp f (nm :: ns) q) | none => .error 13)
        cases litP [125] (gapL r3) with
        | some q => rfl
        | none =>
          dsimp only
          cases litP [44] (gapL r3) with
          | none => rfl
          | some q =>
            dsimp only
            rw [itemsS_map f, rdMap_map, pairs_congr f (ns ++ [nm]) (nm :: ns) q (fun x => by simp [or_comm])]
            congr 1
            funext x
            simp
theorem m93 {β : Type} (x : List Nat) (A : List Nat → β) (C : β) : (match x with | 93 :: q => A q | _ => C) = (match litP [93] x with | some q => A q | none => C) := by
  cases x with
  | nil => rfl
  | cons c t =>
    rw [lit_cons]
    by_cases h : c = 93
    · subst h; rfl
    · rw [if_neg h]
      split
      · next q h2 => injection h2 with h2 _; exact absurd h2 h
      · rfl
theorem m125 {β : Type} (x : List Nat) (A : List Nat → β) (C : β) : (match x with | 125 :: q => A q | _ => C) = (match litP [125] x with | some q => A q | none => C) := by
  cases x with
  | nil => rfl
  | cons c t =>
    rw [lit_cons]
    by_cases h : c = 125
    · subst h; rfl
    · rw [if_neg h]
      split
      · next q h2 => injection h2 with h2 _; exact absurd h2 h
      · rfl
/-- A reader of kids that begins with blanks. -/
def GapK {K : Type} (kp : List Nat → Rd K) : Prop := ∀ l, kp (gapL l) = kp l
theorem valP_gap (m : Nat) : GapK (valP m) := fun l => by
  cases m <;> (show headP (gapL (gapL l)) _ _ = headP (gapL l) _ _; rw [gapL_gap])
theorem wholeS_list {K : Type} {kp : List Nat → Rd K} (hg : GapK kp) (s : List Nat) : wholeS (stepL kp) 93 [] s = listP kp s := by
  unfold wholeS listP
  refine Eq.symm ((m93 (gapL s) _ _).trans ?_)
  cases litP [93] (gapL s) with
  | some q => rfl
  | none =>
    dsimp only
    rw [itemsS_list]
    have e : itemsP kp (s.length + 1) (gapL s) = itemsP kp (s.length + 1) s := by rw [itemsP_step, itemsP_step, hg]
    rw [e]
    cases itemsP kp (s.length + 1) s with
    | error e => rfl
    | ok p => rfl
theorem nameP_gap (ns : List (List Nat)) (l : List Nat) : nameP ns (gapL l) = nameP ns l := by
  unfold nameP
  rw [gapL_gap]
theorem wholeS_map {K : Type} (kp : List Nat → Rd K) (s : List Nat) : wholeS (stepM kp) 125 ([], []) s = mapP kp s := by
  unfold wholeS mapP
  refine Eq.symm ((m125 (gapL s) _ _).trans ?_)
  cases litP [125] (gapL s) with
  | some q => rfl
  | none =>
    dsimp only
    rw [itemsS_map]
    have e : pairsP kp (s.length + 1) [] (gapL s) = pairsP kp (s.length + 1) [] s := by rw [pairsP_step, pairsP_step, nameP_gap]
    rw [e]
    cases pairsP kp (s.length + 1) [] s with
    | error e => rfl
    | ok p => rfl
end Go.Proofs.YtljgnpneeecafaaDoor
set_option linter.unusedVariables false
namespace Go.Proofs.YtljgnpneeecafaaDoor
open Go.RowKit Go.Sort Go.BigFrame
set_option maxRecDepth 100000
set_option maxHeartbeats 2000000
theorem itemsS_err {α : Type} {stp : α → List Nat → Rd α} {en f : Nat} {a : α} {l : List Nat} {e : Int} (h : stp a l = .error e) : itemsS stp en (f + 1) a l = .error e := by unfold itemsS; rw [h]
theorem itemsS_end {α : Type} {stp : α → List Nat → Rd α} {en f : Nat} {a a' : α} {l r q : List Nat} (h : stp a l = .ok (a', r)) (hq : litP [en] r = some q) : itemsS stp en (f + 1) a l = .ok (a', q) := by unfold itemsS; rw [h]; dsimp only; rw [hq]
theorem itemsS_no {α : Type} {stp : α → List Nat → Rd α} {en f : Nat} {a a' : α} {l r : List Nat} (h : stp a l = .ok (a', r)) (hq : litP [en] r = none) (hq2 : litP [44] r = none) : itemsS stp en (f + 1) a l = .error 13 := by unfold itemsS; rw [h]; dsimp only; rw [hq]; dsimp only; rw [hq2]
theorem itemsS_go {α : Type} {stp : α → List Nat → Rd α} {en f : Nat} {a a' : α} {l r q : List Nat} (h : stp a l = .ok (a', r)) (hq : litP [en] r = none) (hq2 : litP [44] r = some q) : itemsS stp en (f + 1) a l = itemsS stp en f a' q := by rw [itemsS, h]; dsimp only; rw [hq]; dsimp only; rw [hq2]
/-- Nothing below has changed, but for block g. -/
def Fo (lo g : Nat) (w w' : World) : Prop := Below 0 w w' ∧ ∀ k, k < lo → k ≠ g → w'.heap[k]? = w.heap[k]?
theorem Fo.refl (lo g : Nat) (w : World) : Fo lo g w w := ⟨Below.refl _ _, fun _ _ _ => rfl⟩
theorem Fo.size {lo g : Nat} {w w' : World} (h : Fo lo g w w') : w.heap.size ≤ w'.heap.size := h.1.size
theorem Fo.trans {lo g : Nat} {a b c : World} (h : Fo lo g a b) (h' : Fo lo g b c) : Fo lo g a c := ⟨h.1.trans h'.1, fun k hk hg => (h'.2 k hk hg).trans (h.2 k hk hg)⟩
theorem Fg.fo {lo g : Nat} {w w' : World} (h : Fg g w w') (hl : lo ≤ w.heap.size) : Fo lo g w w' := ⟨h.1, fun k hk hg => h.2 k (by omega) hg⟩
theorem Fo.fg {g : Nat} {w w' : World} (h : Fo w.heap.size g w w') : Fg g w w' := ⟨h.1, fun k hk hg => h.2 k hk hg⟩
theorem RdAt.c0 {g ar : Nat} {l : List Nat} {mv : Value} {w : World} (h : RdAt g ar l mv w) : w.cell? ⟨g, 0, none⟩ = some (.int .i64 (ar : Int)) := (cell_of_row _ _ _ _ _ _ h.2).trans rfl
theorem deeperR {g ar : Nat} {l : List Nat} {mv : Value} {w : World} (h : RdAt g ar l mv w) (ha : ar < 6) :
    Calls Tryd.prog 41 #[.pointer (some ⟨g, 0, none⟩)] w fun e w' => e = .returned (.bool true) ∧ RdAt g (ar + 1) l mv w' ∧ Fg g w w' := by
  have c0 := h.c0
  have f0 := h.f1 0
  have hne : ((ar : Int) == 6) = false := by have : ¬ (ar : Int) = 6 := by omega
                                             simpa using this
  go_enter Tryd.func41, Tryd.ntmps41
  go_wp2
  go_ret
  have e : (ar : Int) + 1 = ((ar + 1 : Nat) : Int) := by omega
  refine ⟨rfl, ⟨h.1, ?_⟩, (Fg.refl _ _).set 0 _⟩
  rw [heap_setCell_same _ _ _ _ _ _ h.2, e]
  rfl
theorem deeperR_no {g : Nat} {l : List Nat} {mv : Value} {w : World} (h : RdAt g 6 l mv w) :
    Calls Tryd.prog 41 #[.pointer (some ⟨g, 0, none⟩)] w fun e w' => e = .returned (.bool false) ∧ w' = w := by
  have c0 : w.cell? ⟨g, 0, none⟩ = some (.int .i64 6) := h.c0
  go_enter Tryd.func41, Tryd.ntmps41
  go_wp2
  go_ret
  exact ⟨rfl, rfl⟩
theorem higherR {g ar : Nat} {l : List Nat} {mv : Value} {w : World} (u : FrameMode) (h : RdAt g (ar + 1) l mv w) (ha : ar < 6) :
    CallsD Tryd.prog 42 #[.pointer (some ⟨g, 0, none⟩)] u w fun e u' w' => u' = u ∧ e = .returned (.tuple #[]) ∧ RdAt g ar l mv w' ∧ Fg g w w' := by
  have c0 : w.cell? ⟨g, 0, none⟩ = some (.int .i64 ((ar + 1 : Nat) : Int)) := h.c0
  have f0 := h.f1 0
  go_enter_d Tryd.func42, Tryd.ntmps42
  go_wp2
  go_end0
  refine ⟨rfl, ⟨h.1, ?_⟩, (Fg.refl _ _).set 0 _⟩
  rw [heap_setCell_same _ _ _ _ _ _ h.2]
  rfl
theorem items_deep {g : Nat} {l : List Nat} {mv b1 b2 fv : Value} {w : World} (h : RdAt g 6 l mv w) :
    Calls Tryd.prog 49 #[.pointer (some ⟨g, 0, none⟩), b1, b2, fv] w fun e w' => e = .returned (.int .i64 9) ∧ w' = w := by
  have hd := deeperR_no h
  go_enter Tryd.func49, Tryd.ntmps49
  go_wp2_with fail
  refine hd.mono ?_
  rintro e w1 ⟨rfl, rfl⟩
  go_wp2
  go_ret
  exact ⟨rfl, rfl⟩
theorem digit_no {c : Nat} {t : List Nat} (h : isD c = true) (a : Nat) (ha : isD a = false) : litP [a] (c :: t) = none := by
  rw [lit_cons, if_neg (by rintro rfl; rw [h] at ha; cases ha)]
/-- What a step leaves. -/
def StpM {α : Type} (St : α → World → Prop) (Er : World → Prop) (l : List Nat) (er : Int) (l' : List Nat) (x : Rd α) (w' : World) : Prop := match x with
  | .ok (a', r) => er = 0 ∧ l' = r ∧ St a' w' ∧ r.length < l.length
  | .error e0 => ((er = e0 ∧ e0 ≠ 0) ∨ (e0 = 13 ∧ er = 0 ∧ ∃ c t, l' = c :: t ∧ isD c = true)) ∧ Er w'
def ItmM {α : Type} (St : α → World → Prop) (Er : World → Prop) (er : Int) (l' : List Nat) (x : Rd α) (w' : World) : Prop := match x with
  | .ok (a, q) => er = 0 ∧ l' = q ∧ St a w'
  | .error e0 => er = e0 ∧ e0 ≠ 0 ∧ Er w'
theorem ItmM.ok {α : Type} {St : α → World → Prop} {Er : World → Prop} {l' : List Nat} {x : Rd α} {w' : World} {a : α} (h : x = .ok (a, l')) (hs : St a w') : ItmM St Er 0 l' x w' := by rw [h]; exact ⟨rfl, rfl, hs⟩
theorem ItmM.err {α : Type} {St : α → World → Prop} {Er : World → Prop} {l' : List Nat} {x : Rd α} {w' : World} {e0 : Int} (h : x = .error e0) (h0 : e0 ≠ 0) (hE : Er w') : ItmM St Er e0 l' x w' := by rw [h]; exact ⟨rfl, h0, hE⟩
theorem itemsL {α : Type} {μ : α → Nat} {stp : α → List Nat → Rd α} {St : α → World → Prop} {Er : World → Prop} {g ar bR bV lo : Nat} {mv : Value} {a0 : α} {l s : List Nat} {w : World} (ha : ar < 6) (hbe : litP [91] l = some s) (hlen : μ a0 + l.length ≤ 100000) (hμ : ∀ a l a' r, stp a l = .ok (a', r) → μ a' + r.length ≤ μ a + l.length) (hlo : lo ≤ w.heap.size)
    (hSt : ∀ a w w', St a w → Fg g w w' → St a w') (hEr : ∀ w w', Er w → Fg g w w' → Er w') (hSE : ∀ a w, St a w → Er w)
    (hI : ∀ a l w, St a w → RdAt g (ar + 1) l mv w → μ a + l.length ≤ 100000 → lo ≤ w.heap.size → Calls Tryd.prog 50 #[.pointer (some ⟨bR, 0, none⟩), .pointer (some ⟨bV, 0, none⟩)] w fun e w' => ∃ er l', e = .returned (.int .i64 er) ∧ RdAt g (ar + 1) l' mv w' ∧ Fo lo g w w' ∧ StpM St Er l er l' (stp a l) w')
    (h : RdAt g ar l mv w) (hs0 : St a0 w) :
    Calls Tryd.prog 49 #[.pointer (some ⟨g, 0, none⟩), .string ⟨#[91]⟩, .string ⟨#[93]⟩, .func (.func 50) #[] #[.pointer (some ⟨bR, 0, none⟩), .pointer (some ⟨bV, 0, none⟩)]] w fun e w' => ∃ er l', e = .returned (.int .i64 er) ∧ RdAt g ar l' mv w' ∧ Fo lo g w w' ∧ ItmM St Er er l' (wholeS stp 93 a0 s) w' := by
  have hs91 := str_lit (bs := [91]) (by decide)
  rw [show strOf [91] = ByteArray.mk #[91] by decide] at hs91
  have hs93 := str_lit (bs := [93]) (by decide)
  rw [show strOf [93] = ByteArray.mk #[93] by decide] at hs93
  have hs44 := str_lit (bs := [44]) (by decide)
  rw [show strOf [44] = ByteArray.mk #[44] by decide] at hs44
  have hls := lit_some hbe
  have hsl : μ a0 + s.length ≤ 99999 := by rw [hls] at hlen; simp at hlen; omega
  have hd := deeperR h ha
  obtain ⟨X, hX⟩ : ∃ X, X = wholeS stp 93 a0 s := ⟨_, rfl⟩
  rw [← hX]
  have HX : Hid _ := hX
  have HS : Hid _ := hSt
  have HEr : Hid _ := hEr
  have HSE : Hid _ := hSE
  have HI : Hid _ := hI
  have HM : Hid _ := hμ
  have HBE : Hid _ := hbe
  clear hX hSt hI hls hbe hμ hEr hSE
  go_enter_defers Tryd.func49, Tryd.ntmps49
  go_wp2_with fail
  refine hd.mono ?_
  rintro e w1 ⟨rfl, hR1, hF1⟩
  have hk1 := skip45 hR1 hs91
  rw [HBE.out] at hk1
  have hk1 : Calls Tryd.prog 45 #[.pointer (some ⟨g, 0, none⟩), .string ⟨#[91]⟩] w1 fun e w' => e = .returned (.bool true) ∧ RdAt g (ar + 1) s mv w' ∧ Fg g w1 w' := hk1
  clear hd
  go_wp2_with fail
  refine hk1.mono ?_
  rintro e w2 ⟨rfl, hR2, hF2⟩
  have hbl := blanks36 hR2
  clear hk1
  go_wp2_with fail
  refine hbl.mono ?_
  rintro e w3 ⟨rfl, hR3, hF3⟩
  have hF13 := (hF1.trans hF2).trans hF3
  have hsz3 := hF13.size
  have hs3 := HS.out _ _ _ hs0 hF13
  have hgs := gapL_le s
  clear hbl
  cases hc : litP [93] (gapL s) with
  | some q =>
    have hk4 := skip45 hR3 hs93
    rw [hc] at hk4
    have hk4 : Calls Tryd.prog 45 #[.pointer (some ⟨g, 0, none⟩), .string ⟨#[93]⟩] w3 fun e w' => e = .returned (.bool true) ∧ RdAt g (ar + 1) q mv w' ∧ Fg g w3 w' := hk4
    have hres : X = .ok (a0, q) := by rw [HX.out]; unfold wholeS; rw [hc]
    have HR : Hid _ := hres
    clear hc hres
    go_wp2_with fail
    refine hk4.mono ?_
    rintro e w4 ⟨rfl, hR4, hF4⟩
    go_wp2
    refine leaves_cons (f := 42) (args := #[.pointer (some ⟨g, 0, none⟩)]) (by simp) (by simp [go_sem]) ?_
    refine (higherR .returning hR4 ha).mono ?_
    rintro e u' w9 ⟨rfl, rfl, hR9, hF9⟩
    have hFF := (hF13.trans hF4).trans hF9
    exact ⟨_, results_tmp rfl _ _ _, 0, _, rfl, hR9, hFF.fo hlo, ItmM.ok HR.out (HS.out _ _ _ hs0 hFF)⟩
  | none =>
    have hk4 := skip45 hR3 hs93
    rw [hc] at hk4
    have hk4 : Calls Tryd.prog 45 #[.pointer (some ⟨g, 0, none⟩), .string ⟨#[93]⟩] w3 fun e w' => e = .returned (.bool false) ∧ RdAt g (ar + 1) (gapL s) mv w' ∧ Fg g w3 w' := hk4
    have hres : X = itemsS stp 93 (s.length + 1) a0 (gapL s) := by rw [HX.out]; unfold wholeS; rw [hc]
    have HR : Hid _ := hres
    clear hc hres
    go_wp2_with fail
    refine hk4.mono ?_
    rintro e w4 ⟨rfl, hR4, hF4⟩
    have hs4 := HS.out _ _ _ hs3 hF4
    have hF14 := (hF13.trans hF4).fo hlo
    clear hk4
    go_wp2_with fail
    go_loopw [9] (fun _ wr => ∃ (a : α) (l2 : List Nat) (f : Nat), RdAt g (ar + 1) l2 mv wr ∧ St a wr ∧ Fo lo g w wr ∧ (l2.length < f ∧ μ a + l2.length ≤ 100000) ∧ X = itemsS stp 93 f a l2) (fun _ wr => restN g wr)
    case atStart => exact ⟨a0, gapL s, s.length + 1, hR4, hs4, hF14, ⟨by omega, by omega⟩, HR.out⟩
    case round =>
      obtain ⟨a, l2, f, hRk, hsk, hFk, ⟨hf, hl2⟩, hXk⟩ := hrel
      obtain ⟨f', rfl⟩ : ∃ f', f = f' + 1 := ⟨f - 1, by omega⟩
      have hN := hRk.restN
      have hszk := hFk.size
      have hIk := HI.out a l2 wr hsk hRk hl2 (by omega)
      obtain ⟨Y, hY⟩ : ∃ Y, Y = stp a l2 := ⟨_, rfl⟩
      rw [← hY] at hIk
      have HX2 : Hid (X = itemsS stp 93 (f' + 1) a l2) := hXk
      have HY : Hid (Y = stp a l2) := hY
      have HN : Hid _ := hN
      clear hXk hN
      clear hY
      go_wp2_with fail
      refine hIk.mono ?_
      rintro e w5 ⟨er, l5, rfl, hR5, hF5, hm⟩
      have hF5w := hFk.trans hF5
      have hsz5 := hF5w.size
      clear hIk
      cases Y with
      | error e0 =>
        obtain ⟨hm, hE5⟩ : ((er = e0 ∧ e0 ≠ 0) ∨ (e0 = 13 ∧ er = 0 ∧ ∃ c t, l5 = c :: t ∧ isD c = true)) ∧ Er w5 := hm
        have HE5 : Hid (Er w5) := hE5
        clear hE5
        have hXe : X = .error e0 := HX2.out.trans (itemsS_err HY.out.symm)
        have HXE : Hid _ := hXe
        clear hXe
        rcases hm with ⟨rfl, h0⟩ | ⟨rfl, rfl, c, t, rfl, hd⟩
        · have hne : (er != 0) = true := by simpa using h0
          have H0 : Hid _ := h0
          clear h0
          go_wp2
          refine leaves_cons (f := 42) (args := #[.pointer (some ⟨g, 0, none⟩)]) (by simp) (by simp [go_sem]) ?_
          refine (higherR .returning hR5 ha).mono ?_
          rintro e u' w9 ⟨rfl, rfl, hR9, hF9⟩
          exact ⟨_, results_tmp rfl _ _ _, er, _, rfl, hR9, hF5w.trans (hF9.fo (by omega)), ItmM.err HXE.out H0.out (HEr.out _ _ HE5.out hF9)⟩
        · have hne : ((0 : Int) != 0) = false := rfl
          have hc1 : litP [93] (c :: t) = none := digit_no hd _ (by decide)
          have hc2 : litP [44] (c :: t) = none := digit_no hd _ (by decide)
          have hk6 := skip45 hR5 hs93
          rw [hc1] at hk6
          have hk6 : Calls Tryd.prog 45 #[.pointer (some ⟨g, 0, none⟩), .string ⟨#[93]⟩] w5 fun e w' => e = .returned (.bool false) ∧ RdAt g (ar + 1) (c :: t) mv w' ∧ Fg g w5 w' := hk6
          have HC2 : Hid _ := hc2
          clear hc1 hc2 hd
          go_wp2_with fail
          refine hk6.mono ?_
          rintro e w6 ⟨rfl, hR6, hF6⟩
          have hk7 := skip45 hR6 hs44
          rw [HC2.out] at hk7
          have hk7 : Calls Tryd.prog 45 #[.pointer (some ⟨g, 0, none⟩), .string ⟨#[44]⟩] w6 fun e w' => e = .returned (.bool false) ∧ RdAt g (ar + 1) (c :: t) mv w' ∧ Fg g w6 w' := hk7
          clear hk6
          go_wp2_with fail
          refine hk7.mono ?_
          rintro e w7 ⟨rfl, hR7, hF7⟩
          have hF67 := hF6.trans hF7
          go_wp2
          refine leaves_cons (f := 42) (args := #[.pointer (some ⟨g, 0, none⟩)]) (by simp) (by simp [go_sem]) ?_
          refine (higherR .returning hR7 ha).mono ?_
          rintro e u' w9 ⟨rfl, rfl, hR9, hF9⟩
          exact ⟨_, results_tmp rfl _ _ _, 13, _, rfl, hR9, hF5w.trans ((hF67.trans hF9).fo (by omega)), ItmM.err HXE.out (by decide) (HEr.out _ _ HE5.out (hF67.trans hF9))⟩
      | ok p =>
        obtain ⟨a', r⟩ := p
        obtain ⟨rfl, hlr, hs5, hrl⟩ := hm
        have hlr : l5 = r := hlr
        rw [hlr] at hR5
        clear hlr
        have hne : ((0 : Int) != 0) = false := rfl
        cases hc : litP [93] r with
        | some q =>
          have hXe : X = .ok (a', q) := HX2.out.trans (itemsS_end HY.out.symm hc)
          have HXE : Hid _ := hXe
          have hk6 := skip45 hR5 hs93
          rw [hc] at hk6
          have hk6 : Calls Tryd.prog 45 #[.pointer (some ⟨g, 0, none⟩), .string ⟨#[93]⟩] w5 fun e w' => e = .returned (.bool true) ∧ RdAt g (ar + 1) q mv w' ∧ Fg g w5 w' := hk6
          clear hc hXe
          go_wp2_with fail
          refine hk6.mono ?_
          rintro e w6 ⟨rfl, hR6, hF6⟩
          go_wp2
          refine leaves_cons (f := 42) (args := #[.pointer (some ⟨g, 0, none⟩)]) (by simp) (by simp [go_sem]) ?_
          refine (higherR .returning hR6 ha).mono ?_
          rintro e u' w9 ⟨rfl, rfl, hR9, hF9⟩
          have hFF := hF6.trans hF9
          exact ⟨_, results_tmp rfl _ _ _, 0, _, rfl, hR9, hF5w.trans (hFF.fo (by omega)), ItmM.ok HXE.out (HS.out _ _ _ hs5 hFF)⟩
        | none =>
          have hk6 := skip45 hR5 hs93
          rw [hc] at hk6
          have hk6 : Calls Tryd.prog 45 #[.pointer (some ⟨g, 0, none⟩), .string ⟨#[93]⟩] w5 fun e w' => e = .returned (.bool false) ∧ RdAt g (ar + 1) r mv w' ∧ Fg g w5 w' := hk6
          cases hc2 : litP [44] r with
          | none =>
            have hXe : X = .error 13 := HX2.out.trans (itemsS_no HY.out.symm hc hc2)
            have HXE : Hid _ := hXe
            have HC2 : Hid _ := hc2
            clear hc hc2 hXe
            go_wp2_with fail
            refine hk6.mono ?_
            rintro e w6 ⟨rfl, hR6, hF6⟩
            have hk7 := skip45 hR6 hs44
            rw [HC2.out] at hk7
            have hk7 : Calls Tryd.prog 45 #[.pointer (some ⟨g, 0, none⟩), .string ⟨#[44]⟩] w6 fun e w' => e = .returned (.bool false) ∧ RdAt g (ar + 1) r mv w' ∧ Fg g w6 w' := hk7
            clear hk6
            go_wp2_with fail
            refine hk7.mono ?_
            rintro e w7 ⟨rfl, hR7, hF7⟩
            have hF67 := hF6.trans hF7
            go_wp2
            refine leaves_cons (f := 42) (args := #[.pointer (some ⟨g, 0, none⟩)]) (by simp) (by simp [go_sem]) ?_
            refine (higherR .returning hR7 ha).mono ?_
            rintro e u' w9 ⟨rfl, rfl, hR9, hF9⟩
            exact ⟨_, results_tmp rfl _ _ _, 13, _, rfl, hR9, hF5w.trans ((hF67.trans hF9).fo (by omega)), ItmM.err HXE.out (by decide) (HEr.out _ _ (HSE.out _ _ hs5) (hF67.trans hF9))⟩
          | some q =>
            have hXe : X = itemsS stp 93 f' a' q := HX2.out.trans (itemsS_go HY.out.symm hc hc2)
            have HXE : Hid _ := hXe
            have HC2 : Hid _ := hc2
            have hql : q.length < r.length := lit_len hc2 (by simp)
            have HQ : Hid _ := hql
            have HRL : Hid _ := hrl
            clear hc hc2 hXe hql hrl
            go_wp2_with fail
            refine hk6.mono ?_
            rintro e w6 ⟨rfl, hR6, hF6⟩
            have hk7 := skip45 hR6 hs44
            rw [HC2.out] at hk7
            have hk7 : Calls Tryd.prog 45 #[.pointer (some ⟨g, 0, none⟩), .string ⟨#[44]⟩] w6 fun e w' => e = .returned (.bool true) ∧ RdAt g (ar + 1) q mv w' ∧ Fg g w6 w' := hk7
            clear hk6
            go_wp2_with fail
            refine hk7.mono ?_
            rintro e w7 ⟨rfl, hR7, hF7⟩
            have hF67 := hF6.trans hF7
            go_wp2
            refine ⟨⟨a', q, f', hR7, HS.out _ _ _ hs5 hF67, hF5w.trans (hF67.fo (by omega)), ⟨by have := HQ.out; have := HRL.out; omega, by have := HQ.out; have := HM.out _ _ _ _ HY.out.symm; omega⟩, HXE.out⟩, ?_⟩
            rw [hR7.restN, HN.out]
            have := HQ.out
            have := HRL.out
            omega
theorem itemsM {α : Type} {μ : α → Nat} {stp : α → List Nat → Rd α} {St : α → World → Prop} {Er : World → Prop} {g ar bR bV lo : Nat} {mv : Value} {a0 : α} {l s : List Nat} {w : World} (ha : ar < 6) (hbe : litP [123] l = some s) (hlen : μ a0 + l.length ≤ 100000) (hμ : ∀ a l a' r, stp a l = .ok (a', r) → μ a' + r.length ≤ μ a + l.length) (hlo : lo ≤ w.heap.size)
    (hSt : ∀ a w w', St a w → Fg g w w' → St a w') (hEr : ∀ w w', Er w → Fg g w w' → Er w') (hSE : ∀ a w, St a w → Er w)
    (hI : ∀ a l w, St a w → RdAt g (ar + 1) l mv w → μ a + l.length ≤ 100000 → lo ≤ w.heap.size → Calls Tryd.prog 51 #[.pointer (some ⟨bR, 0, none⟩), .pointer (some ⟨bV, 0, none⟩)] w fun e w' => ∃ er l', e = .returned (.int .i64 er) ∧ RdAt g (ar + 1) l' mv w' ∧ Fo lo g w w' ∧ StpM St Er l er l' (stp a l) w')
    (h : RdAt g ar l mv w) (hs0 : St a0 w) :
    Calls Tryd.prog 49 #[.pointer (some ⟨g, 0, none⟩), .string ⟨#[123]⟩, .string ⟨#[125]⟩, .func (.func 51) #[] #[.pointer (some ⟨bR, 0, none⟩), .pointer (some ⟨bV, 0, none⟩)]] w fun e w' => ∃ er l', e = .returned (.int .i64 er) ∧ RdAt g ar l' mv w' ∧ Fo lo g w w' ∧ ItmM St Er er l' (wholeS stp 125 a0 s) w' := by
  have hs123 := str_lit (bs := [123]) (by decide)
  rw [show strOf [123] = ByteArray.mk #[123] by decide] at hs123
  have hs125 := str_lit (bs := [125]) (by decide)
  rw [show strOf [125] = ByteArray.mk #[125] by decide] at hs125
  have hs44 := str_lit (bs := [44]) (by decide)
  rw [show strOf [44] = ByteArray.mk #[44] by decide] at hs44
  have hls := lit_some hbe
  have hsl : μ a0 + s.length ≤ 99999 := by rw [hls] at hlen; simp at hlen; omega
  have hd := deeperR h ha
  obtain ⟨X, hX⟩ : ∃ X, X = wholeS stp 125 a0 s := ⟨_, rfl⟩
  rw [← hX]
  have HX : Hid _ := hX
  have HS : Hid _ := hSt
  have HEr : Hid _ := hEr
  have HSE : Hid _ := hSE
  have HI : Hid _ := hI
  have HM : Hid _ := hμ
  have HBE : Hid _ := hbe
  clear hX hSt hI hls hbe hμ hEr hSE
  go_enter_defers Tryd.func49, Tryd.ntmps49
  go_wp2_with fail
  refine hd.mono ?_
  rintro e w1 ⟨rfl, hR1, hF1⟩
  have hk1 := skip45 hR1 hs123
  rw [HBE.out] at hk1
  have hk1 : Calls Tryd.prog 45 #[.pointer (some ⟨g, 0, none⟩), .string ⟨#[123]⟩] w1 fun e w' => e = .returned (.bool true) ∧ RdAt g (ar + 1) s mv w' ∧ Fg g w1 w' := hk1
  clear hd
  go_wp2_with fail
  refine hk1.mono ?_
  rintro e w2 ⟨rfl, hR2, hF2⟩
  have hbl := blanks36 hR2
  clear hk1
  go_wp2_with fail
  refine hbl.mono ?_
  rintro e w3 ⟨rfl, hR3, hF3⟩
  have hF13 := (hF1.trans hF2).trans hF3
  have hsz3 := hF13.size
  have hs3 := HS.out _ _ _ hs0 hF13
  have hgs := gapL_le s
  clear hbl
  cases hc : litP [125] (gapL s) with
  | some q =>
    have hk4 := skip45 hR3 hs125
    rw [hc] at hk4
    have hk4 : Calls Tryd.prog 45 #[.pointer (some ⟨g, 0, none⟩), .string ⟨#[125]⟩] w3 fun e w' => e = .returned (.bool true) ∧ RdAt g (ar + 1) q mv w' ∧ Fg g w3 w' := hk4
    have hres : X = .ok (a0, q) := by rw [HX.out]; unfold wholeS; rw [hc]
    have HR : Hid _ := hres
    clear hc hres
    go_wp2_with fail
    refine hk4.mono ?_
    rintro e w4 ⟨rfl, hR4, hF4⟩
    go_wp2
    refine leaves_cons (f := 42) (args := #[.pointer (some ⟨g, 0, none⟩)]) (by simp) (by simp [go_sem]) ?_
    refine (higherR .returning hR4 ha).mono ?_
    rintro e u' w9 ⟨rfl, rfl, hR9, hF9⟩
    have hFF := (hF13.trans hF4).trans hF9
    exact ⟨_, results_tmp rfl _ _ _, 0, _, rfl, hR9, hFF.fo hlo, ItmM.ok HR.out (HS.out _ _ _ hs0 hFF)⟩
  | none =>
    have hk4 := skip45 hR3 hs125
    rw [hc] at hk4
    have hk4 : Calls Tryd.prog 45 #[.pointer (some ⟨g, 0, none⟩), .string ⟨#[125]⟩] w3 fun e w' => e = .returned (.bool false) ∧ RdAt g (ar + 1) (gapL s) mv w' ∧ Fg g w3 w' := hk4
    have hres : X = itemsS stp 125 (s.length + 1) a0 (gapL s) := by rw [HX.out]; unfold wholeS; rw [hc]
    have HR : Hid _ := hres
    clear hc hres
    go_wp2_with fail
    refine hk4.mono ?_
    rintro e w4 ⟨rfl, hR4, hF4⟩
    have hs4 := HS.out _ _ _ hs3 hF4
    have hF14 := (hF13.trans hF4).fo hlo
    clear hk4
    go_wp2_with fail
    go_loopw [9] (fun _ wr => ∃ (a : α) (l2 : List Nat) (f : Nat), RdAt g (ar + 1) l2 mv wr ∧ St a wr ∧ Fo lo g w wr ∧ (l2.length < f ∧ μ a + l2.length ≤ 100000) ∧ X = itemsS stp 125 f a l2) (fun _ wr => restN g wr)
    case atStart => exact ⟨a0, gapL s, s.length + 1, hR4, hs4, hF14, ⟨by omega, by omega⟩, HR.out⟩
    case round =>
      obtain ⟨a, l2, f, hRk, hsk, hFk, ⟨hf, hl2⟩, hXk⟩ := hrel
      obtain ⟨f', rfl⟩ : ∃ f', f = f' + 1 := ⟨f - 1, by omega⟩
      have hN := hRk.restN
      have hszk := hFk.size
      have hIk := HI.out a l2 wr hsk hRk hl2 (by omega)
      obtain ⟨Y, hY⟩ : ∃ Y, Y = stp a l2 := ⟨_, rfl⟩
      rw [← hY] at hIk
      have HX2 : Hid (X = itemsS stp 125 (f' + 1) a l2) := hXk
      have HY : Hid (Y = stp a l2) := hY
      have HN : Hid _ := hN
      clear hXk hN
      clear hY
      go_wp2_with fail
      refine hIk.mono ?_
      rintro e w5 ⟨er, l5, rfl, hR5, hF5, hm⟩
      have hF5w := hFk.trans hF5
      have hsz5 := hF5w.size
      clear hIk
      cases Y with
      | error e0 =>
        obtain ⟨hm, hE5⟩ : ((er = e0 ∧ e0 ≠ 0) ∨ (e0 = 13 ∧ er = 0 ∧ ∃ c t, l5 = c :: t ∧ isD c = true)) ∧ Er w5 := hm
        have HE5 : Hid (Er w5) := hE5
        clear hE5
        have hXe : X = .error e0 := HX2.out.trans (itemsS_err HY.out.symm)
        have HXE : Hid _ := hXe
        clear hXe
        rcases hm with ⟨rfl, h0⟩ | ⟨rfl, rfl, c, t, rfl, hd⟩
        · have hne : (er != 0) = true := by simpa using h0
          have H0 : Hid _ := h0
          clear h0
          go_wp2
          refine leaves_cons (f := 42) (args := #[.pointer (some ⟨g, 0, none⟩)]) (by simp) (by simp [go_sem]) ?_
          refine (higherR .returning hR5 ha).mono ?_
          rintro e u' w9 ⟨rfl, rfl, hR9, hF9⟩
          exact ⟨_, results_tmp rfl _ _ _, er, _, rfl, hR9, hF5w.trans (hF9.fo (by omega)), ItmM.err HXE.out H0.out (HEr.out _ _ HE5.out hF9)⟩
        · have hne : ((0 : Int) != 0) = false := rfl
          have hc1 : litP [125] (c :: t) = none := digit_no hd _ (by decide)
          have hc2 : litP [44] (c :: t) = none := digit_no hd _ (by decide)
          have hk6 := skip45 hR5 hs125
          rw [hc1] at hk6
          have hk6 : Calls Tryd.prog 45 #[.pointer (some ⟨g, 0, none⟩), .string ⟨#[125]⟩] w5 fun e w' => e = .returned (.bool false) ∧ RdAt g (ar + 1) (c :: t) mv w' ∧ Fg g w5 w' := hk6
          have HC2 : Hid _ := hc2
          clear hc1 hc2 hd
          go_wp2_with fail
          refine hk6.mono ?_
          rintro e w6 ⟨rfl, hR6, hF6⟩
          have hk7 := skip45 hR6 hs44
          rw [HC2.out] at hk7
          have hk7 : Calls Tryd.prog 45 #[.pointer (some ⟨g, 0, none⟩), .string ⟨#[44]⟩] w6 fun e w' => e = .returned (.bool false) ∧ RdAt g (ar + 1) (c :: t) mv w' ∧ Fg g w6 w' := hk7
          clear hk6
          go_wp2_with fail
          refine hk7.mono ?_
          rintro e w7 ⟨rfl, hR7, hF7⟩
          have hF67 := hF6.trans hF7
          go_wp2
          refine leaves_cons (f := 42) (args := #[.pointer (some ⟨g, 0, none⟩)]) (by simp) (by simp [go_sem]) ?_
          refine (higherR .returning hR7 ha).mono ?_
          rintro e u' w9 ⟨rfl, rfl, hR9, hF9⟩
          exact ⟨_, results_tmp rfl _ _ _, 13, _, rfl, hR9, hF5w.trans ((hF67.trans hF9).fo (by omega)), ItmM.err HXE.out (by decide) (HEr.out _ _ HE5.out (hF67.trans hF9))⟩
      | ok p =>
        obtain ⟨a', r⟩ := p
        obtain ⟨rfl, hlr, hs5, hrl⟩ := hm
        have hlr : l5 = r := hlr
        rw [hlr] at hR5
        clear hlr
        have hne : ((0 : Int) != 0) = false := rfl
        cases hc : litP [125] r with
        | some q =>
          have hXe : X = .ok (a', q) := HX2.out.trans (itemsS_end HY.out.symm hc)
          have HXE : Hid _ := hXe
          have hk6 := skip45 hR5 hs125
          rw [hc] at hk6
          have hk6 : Calls Tryd.prog 45 #[.pointer (some ⟨g, 0, none⟩), .string ⟨#[125]⟩] w5 fun e w' => e = .returned (.bool true) ∧ RdAt g (ar + 1) q mv w' ∧ Fg g w5 w' := hk6
          clear hc hXe
          go_wp2_with fail
          refine hk6.mono ?_
          rintro e w6 ⟨rfl, hR6, hF6⟩
          go_wp2
          refine leaves_cons (f := 42) (args := #[.pointer (some ⟨g, 0, none⟩)]) (by simp) (by simp [go_sem]) ?_
          refine (higherR .returning hR6 ha).mono ?_
          rintro e u' w9 ⟨rfl, rfl, hR9, hF9⟩
          have hFF := hF6.trans hF9
          exact ⟨_, results_tmp rfl _ _ _, 0, _, rfl, hR9, hF5w.trans (hFF.fo (by omega)), ItmM.ok HXE.out (HS.out _ _ _ hs5 hFF)⟩
        | none =>
          have hk6 := skip45 hR5 hs125
          rw [hc] at hk6
          have hk6 : Calls Tryd.prog 45 #[.pointer (some ⟨g, 0, none⟩), .string ⟨#[125]⟩] w5 fun e w' => e = .returned (.bool false) ∧ RdAt g (ar + 1) r mv w' ∧ Fg g w5 w' := hk6
          cases hc2 : litP [44] r with
          | none =>
            have hXe : X = .error 13 := HX2.out.trans (itemsS_no HY.out.symm hc hc2)
            have HXE : Hid _ := hXe
            have HC2 : Hid _ := hc2
            clear hc hc2 hXe
            go_wp2_with fail
            refine hk6.mono ?_
            rintro e w6 ⟨rfl, hR6, hF6⟩
            have hk7 := skip45 hR6 hs44
            rw [HC2.out] at hk7
            have hk7 : Calls Tryd.prog 45 #[.pointer (some ⟨g, 0, none⟩), .string ⟨#[44]⟩] w6 fun e w' => e = .returned (.bool false) ∧ RdAt g (ar + 1) r mv w' ∧ Fg g w6 w' := hk7
            clear hk6
            go_wp2_with fail
            refine hk7.mono ?_
            rintro e w7 ⟨rfl, hR7, hF7⟩
            have hF67 := hF6.trans hF7
            go_wp2
            refine leaves_cons (f := 42) (args := #[.pointer (some ⟨g, 0, none⟩)]) (by simp) (by simp [go_sem]) ?_
            refine (higherR .returning hR7 ha).mono ?_
            rintro e u' w9 ⟨rfl, rfl, hR9, hF9⟩
            exact ⟨_, results_tmp rfl _ _ _, 13, _, rfl, hR9, hF5w.trans ((hF67.trans hF9).fo (by omega)), ItmM.err HXE.out (by decide) (HEr.out _ _ (HSE.out _ _ hs5) (hF67.trans hF9))⟩
          | some q =>
            have hXe : X = itemsS stp 125 f' a' q := HX2.out.trans (itemsS_go HY.out.symm hc hc2)
            have HXE : Hid _ := hXe
            have HC2 : Hid _ := hc2
            have hql : q.length < r.length := lit_len hc2 (by simp)
            have HQ : Hid _ := hql
            have HRL : Hid _ := hrl
            clear hc hc2 hXe hql hrl
            go_wp2_with fail
            refine hk6.mono ?_
            rintro e w6 ⟨rfl, hR6, hF6⟩
            have hk7 := skip45 hR6 hs44
            rw [HC2.out] at hk7
            have hk7 : Calls Tryd.prog 45 #[.pointer (some ⟨g, 0, none⟩), .string ⟨#[44]⟩] w6 fun e w' => e = .returned (.bool true) ∧ RdAt g (ar + 1) q mv w' ∧ Fg g w6 w' := hk7
            clear hk6
            go_wp2_with fail
            refine hk7.mono ?_
            rintro e w7 ⟨rfl, hR7, hF7⟩
            have hF67 := hF6.trans hF7
            go_wp2
            refine ⟨⟨a', q, f', hR7, HS.out _ _ _ hs5 hF67, hF5w.trans (hF67.fo (by omega)), ⟨by have := HQ.out; have := HRL.out; omega, by have := HQ.out; have := HM.out _ _ _ _ HY.out.symm; omega⟩, HXE.out⟩, ?_⟩
            rw [hR7.restN, HN.out]
            have := HQ.out
            have := HRL.out
            omega
end Go.Proofs.YtljgnpneeecafaaDoor
set_option linter.unusedVariables false
namespace Go.Proofs.YtljgnpneeecafaaDoor
open Go.RowKit Go.Sort Go.BigFrame
set_option maxRecDepth 100000
set_option maxHeartbeats 2000000
theorem grown_refl (w : World) (r : Option Nat) : w.grownBy w r := ⟨rfl, rfl, rfl, Nat.le_refl _, fun _ _ _ => rfl⟩
theorem grown_trans {a b c : World} {r : Option Nat} (h : a.grownBy b r) (h' : b.grownBy c r) : a.grownBy c r :=
  ⟨h'.os.trans h.os, h'.tape.trans h.tape, h'.output.trans h.output, Nat.le_trans h.size h'.size, fun k hk hr => (h'.block k (Nat.lt_of_lt_of_le hk h.size) hr).trans (h.block k hk hr)⟩
/-- Cells that are stored into a row. -/
theorem setCells_row {g : Nat} {t : TypeId} : ∀ (cs : List Value) (o : Nat) (w : World) (cur : Array Value), w.heap[g]? = some (.cells cur t (0, 0)) → o + cs.length ≤ cur.size →
    (∃ cur', (w.setCells g o cs).heap[g]? = some (.cells cur' t (0, 0)) ∧ cur'.toList = cur.toList.take o ++ cs ++ cur.toList.drop (o + cs.length)) ∧ w.grownBy (w.setCells g o cs) (some g)
  | [], o, w, cur, h, ho => ⟨⟨cur, h, by simp⟩, grown_refl _ _⟩
  | v :: r, o, w, cur, h, ho => by
    have ho2 : o + (r.length + 1) ≤ cur.size := by simpa using ho
    obtain ⟨⟨cur', h1, h2⟩, h3⟩ := setCells_row r (o + 1) (w.setCell ⟨g, o, none⟩ v) (cur.setIfInBounds o v) (heap_setCell_same _ _ _ _ _ _ h) (by simp; omega)
    refine ⟨⟨cur', h1, ?_⟩, grown_trans (grown_setCell w g o v) h3⟩
    have hol : o < cur.toList.length := by simp; omega
    rw [h2, Array.toList_setIfInBounds, List.set_eq_take_append_cons_drop, if_pos hol]
    have ht : (cur.toList.take o).length = o := by rw [List.length_take]; omega
    rw [List.take_append, List.drop_append, ht]
    have e1 : (cur.toList.take o).take (o + 1) = cur.toList.take o := List.take_of_length_le (by omega)
    have e2 : (cur.toList.take o).drop (o + 1 + r.length) = [] := List.drop_eq_nil_of_le (by omega)
    rw [e1, e2, show o + 1 - o = 0 + 1 by omega, show o + 1 + r.length - o = r.length + 1 by omega, List.take_succ_cons, List.drop_succ_cons, List.drop_drop]
    simp only [List.take_zero, List.nil_append, List.length_cons, List.append_assoc, List.cons_append]
    rw [show o + 1 + r.length = o + (r.length + 1) by omega]
theorem own_setCells {w : World} {B e size n g cap : Nat} {xs zs cs : List Value} (h : w.ownsRow B e size (.slice (some ⟨g, 0, none⟩) n cap) n (xs ++ zs)) (hl : cs.length = zs.length) :
    (w.setCells g xs.length cs).ownsRow B e size (.slice (some ⟨g, 0, none⟩) n cap) n (xs ++ cs) ∧ w.grownBy (w.setCells g xs.length cs) (some g) := by
  obtain ⟨h0, ⟨hv, _⟩ | ⟨g', cap', cur, hv, hb, hg, h1, h2, h3, h4⟩⟩ := h
  · cases hv
  · injection hv with e1 _ e3
    injection e1 with e1
    injection e1 with e1
    subst e1 e3
    have hlen : xs.length + zs.length = n * size := by rw [← h0, List.length_append]
    have hle : n * size ≤ cap * size := Nat.mul_le_mul_right _ h1
    obtain ⟨⟨cur', k1, k2⟩, k3⟩ := setCells_row cs xs.length w cur hg (by omega)
    refine ⟨⟨by rw [List.length_append]; omega, .inr ⟨g, cap, cur', rfl, hb, k1, h1, h2, ?_, ?_⟩⟩, k3⟩
    · have := congrArg List.length k2
      simp at this
      omega
    · rw [k2]
      have hx : cur.toList.take xs.length = xs := by
        have := congrArg (List.take xs.length) h4
        rw [List.take_take, Nat.min_eq_left (by omega)] at this
        rw [this]; simp
      rw [hx]
      exact List.take_left' (by rw [List.length_append]; omega)
theorem own_there {w : World} {B e size n g cap o k : Nat} {xs : List Value} (h : w.ownsRow B e size (.slice (some ⟨g, 0, none⟩) n cap) n xs) (hk : o + k ≤ n * size) : w.there g o k := fun j hj => by
  obtain ⟨_, ⟨hv, _⟩ | ⟨g', cap', cur, hv, hb, hg, h1, h2, h3, h4⟩⟩ := h
  · cases hv
  · injection hv with e1 _ e3
    injection e1 with e1
    injection e1 with e1
    subst e1 e3
    have hle : n * size ≤ cap * size := Nat.mul_le_mul_right _ h1
    refine ⟨?_, frozen_of_row _ _ _ _ _ hg⟩
    rw [cell_of_row _ _ _ _ _ _ hg, Array.getElem?_eq_getElem (by omega)]
    rfl
theorem setCell_comm (w : World) {a b : Addr} (h : a.block ≠ b.block) (v u : Value) : (w.setCell a v).setCell b u = (w.setCell b u).setCell a v := by
  unfold World.setCell
  congr 1
  apply Array.ext_getElem?
  intro i
  simp only [Array.getElem?_modify]
  by_cases ha : a.block = i
  · have hb : ¬ b.block = i := fun e => h (ha.trans e.symm)
    simp [ha, hb]
  · simp [ha]
theorem setCells_comm {g : Nat} {b : Addr} (h : g ≠ b.block) (u : Value) : ∀ (cs : List Value) (o : Nat) (w : World), (w.setCells g o cs).setCell b u = (w.setCell b u).setCells g o cs
  | [], _, _ => rfl
  | v :: r, o, w => by
    rw [World.setCells, World.setCells, setCells_comm h u r, setCell_comm w (a := ⟨g, o, none⟩) h]
/-- The kids so far, in a row of their own; none of their blocks is x. -/
def KidsL (n B : Nat) (x : Option Nat) (ks : List (J n)) (kv : Value) (css : List (List Value)) (w : World) : Prop :=
  w.ownsRow B 25 5 kv ks.length css.flatten ∧ css.length = ks.length ∧ (∀ c ∈ css, c.length = 5) ∧
  ∀ i (h1 : i < ks.length) (h2 : i < css.length), JM (fun b => B ≤ b ∧ kv.ownBlock ≠ some b ∧ x ≠ some b) n (ks[i]'h1) (css[i]'h2) w
theorem KidsL.nil (n B : Nat) (x : Option Nat) (w : World) : KidsL n B x [] (.slice none 0 0) [] w := ⟨⟨rfl, .inl ⟨rfl, rfl⟩⟩, rfl, fun _ h => absurd h (by simp), fun i h => absurd h (by simp)⟩
theorem own_move {w w' : World} {B e size n : Nat} {v : Value} {xs : List Value} (h : w.ownsRow B e size v n xs) (hm : ∀ b, v.ownBlock = some b → B ≤ b → b < w.heap.size → w'.heap[b]? = w.heap[b]?) : w'.ownsRow B e size v n xs := by
  refine ⟨h.1, ?_⟩
  rcases h.2 with hn | ⟨g, cap, cur, rfl, h1, h2, h3⟩
  · exact .inl hn
  · exact .inr ⟨g, cap, cur, rfl, h1, (hm g rfl h1 (Array.getElem?_eq_some_iff.1 h2).1).trans h2, h3⟩
theorem KidsL.move {n B : Nat} {x : Option Nat} {ks : List (J n)} {kv : Value} {css : List (List Value)} {w w' : World} (h : KidsL n B x ks kv css w) (hm : ∀ b, B ≤ b → b < w.heap.size → w'.heap[b]? = w.heap[b]?) : KidsL n B x ks kv css w' :=
  ⟨own_move h.1 fun b _ => hm b, h.2.1, h.2.2.1, fun i h1 h2 => JM.move (fun b hb hS => ⟨hS, hm b hS.1 hb⟩) _ _ _ (h.2.2.2 i h1 h2)⟩
/-- Another block is kept out, and the old one may change. -/
theorem KidsL.swap {n B : Nat} {x y : Option Nat} {ks : List (J n)} {kv : Value} {css : List (List Value)} {w w' : World} (h : KidsL n B x ks kv css w) (hkx : ∀ b, kv.ownBlock = some b → x ≠ some b) (hxy : ∀ b, b < w.heap.size → B ≤ b → x ≠ some b → y ≠ some b) (hm : ∀ b, B ≤ b → b < w.heap.size → x ≠ some b → w'.heap[b]? = w.heap[b]?) : KidsL n B y ks kv css w' :=
  ⟨own_move h.1 fun b e hB hb => hm b hB hb (hkx b e), h.2.1, h.2.2.1, fun i h1 h2 => JM.move (fun b hb hS => ⟨⟨hS.1, hS.2.1, hxy b hb hS.1 hS.2.2⟩, hm b hS.1 hb hS.2.2⟩) _ _ _ (h.2.2.2 i h1 h2)⟩
theorem KidsL.app {n B g cap : Nat} {x y : Option Nat} {ks : List (J n)} {kv : Value} {css : List (List Value)} {kid : J n} {cs : List Value} {u w5 : World} (hK : KidsL n B x ks kv css u) (hxy : ∀ b, b < u.heap.size → x ≠ some b → y ≠ some b) (hm : ∀ b, b < u.heap.size → B ≤ b → kv.ownBlock ≠ some b → x ≠ some b → w5.heap[b]? = u.heap[b]?)
    (hown : w5.ownsRow B 25 5 (.slice (some ⟨g, 0, none⟩) (ks.length + 1) cap) (ks.length + 1) (css.flatten ++ cs)) (hat : kv.ownBlock = some g ∨ u.heap.size ≤ g) (h5 : cs.length = 5)
    (hJ : JM (fun b => B ≤ b ∧ kv.ownBlock ≠ some b ∧ x ≠ some b) n kid cs u) : KidsL n B y (ks ++ [kid]) (.slice (some ⟨g, 0, none⟩) (ks.length + 1) cap) (css ++ [cs]) w5 := by
  obtain ⟨r2, r3, r4, r5⟩ := hK
  have ne : ∀ b, b < u.heap.size → kv.ownBlock ≠ some b → g ≠ b := fun b hb hk e => by
    rcases hat with h | h
    · exact hk (by rw [h, e])
    · omega
  have mv : ∀ b, b < u.heap.size → (B ≤ b ∧ kv.ownBlock ≠ some b ∧ x ≠ some b) → ((B ≤ b ∧ (Value.slice (some ⟨g, 0, none⟩) (ks.length + 1) cap).ownBlock ≠ some b ∧ y ≠ some b) ∧ w5.heap[b]? = u.heap[b]?) := fun b hb hS =>
    ⟨⟨hS.1, fun e => ne b hb hS.2.1 (by simpa [Value.ownBlock] using e), hxy b hb hS.2.2⟩, hm b hb hS.1 hS.2.1 hS.2.2⟩
  refine ⟨by simpa using hown, by simp [r3], fun c hc => ?_, fun i h1 h2 => ?_⟩
  · rcases List.mem_append.1 hc with h | h
    · exact r4 c h
    · obtain rfl : c = cs := by simpa using h
      exact h5
  · by_cases hi : i < css.length
    · rw [List.getElem_append_left hi, List.getElem_append_left (by omega)]
      exact JM.move mv _ _ _ (r5 i (by omega) hi)
    · have hik : i = css.length := by simp at h2; omega
      subst hik
      have e1 : (css ++ [cs])[css.length]'h2 = cs := by simp
      have e2 : (ks ++ [kid])[css.length]'h1 = kid := by simp [r3]
      rw [e1, e2]
      exact JM.move mv _ _ _ hJ
theorem arr5 {cs : Array Value} (h : cs.size = 5) : ∃ d0 d1 d2 d3 d4, cs = #[d0, d1, d2, d3, d4] := by
  obtain ⟨l⟩ := cs
  match l, h with
  | [d0, d1, d2, d3, d4], _ => exact ⟨d0, d1, d2, d3, d4, rfl⟩
theorem gapR_ok {α : Type} {x : Rd α} {a : α} {r : List Nat} (h : gapR x = .ok (a, r)) : ∃ r0, x = .ok (a, r0) ∧ r.length ≤ r0.length := by
  cases x with
  | error e => cases h
  | ok p =>
    obtain ⟨a0, r0⟩ := p
    injection h with h
    injection h with h1 h2
    exact ⟨r0, by rw [h1], by rw [← h2]; exact gapL_len r0⟩
end Go.Proofs.YtljgnpneeecafaaDoor
