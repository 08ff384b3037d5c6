/-
  JSON: a value is read, by its first byte. JSON: Read. JSON: the document's examples. JSON: what Read gives, as a tree. JSON: what is read is no longer than the text. JSON: what is written of a value is bytes. JSON: the law JsonBlanks.
-/
import Derived.Test.YtljgnpneeecafaaDoorC6
import Derived.Test.YtljgnpneeecafaaDoorC3
set_option linter.unusedVariables false
set_option linter.unusedSimpArgs false
namespace Go.Proofs.YtljgnpneeecafaaDoor
open Go.RowKit Go.Sort Go.BigFrame
set_option maxRecDepth 100000
set_option maxHeartbeats 4000000
theorem litP_ne {a c : Nat} {p t : List Nat} (h : c ≠ a) : litP (a :: p) (c :: t) = none := by
  unfold litP
  rw [if_neg]
  intro e
  simp at e
  exact h e.1
theorem litP_nil (a : Nat) (p : List Nat) : litP (a :: p) [] = none := by simp [litP]
theorem numP_bad {c : Nat} {t : List Nat} (h : c ≠ 45) (hd : isD c = false) : numP (c :: t) = .error 13 := by
  unfold numP
  split
  · rename_i h2
    injection h2 with h2
    exact absurd h2 h
  · rw [List.takeWhile_cons, hd]
    rfl
theorem headP_num {K : Type} {c : Nat} {t : List Nat} {lst : List Nat → Rd (List K)} {mp : List Nat → Rd (List (List Nat) × List K)} (h1 : c ≠ 110) (h2 : c ≠ 116) (h3 : c ≠ 102) (h4 : c ≠ 34) (h5 : c ≠ 91) (h6 : c ≠ 123) : headP (c :: t) lst mp = rdMap (fun n => (⟨2, n, [], [], []⟩ : JN K)) (numP (c :: t)) := by
  unfold headP
  rw [litP_ne h1, litP_ne h2, litP_ne h3]
  dsimp only
  split
  · rename_i e; injection e with e; exact absurd e h4
  · rename_i e; injection e with e; exact absurd e h5
  · rename_i e; injection e with e; exact absurd e h6
  · rfl
theorem headP_nil {K : Type} {lst : List Nat → Rd (List K)} {mp : List Nat → Rd (List (List Nat) × List K)} : headP [] lst mp = .error 13 := by
  unfold headP
  rw [litP_nil, litP_nil, litP_nil]
  rfl
theorem headP_n {K : Type} {t : List Nat} {lst : List Nat → Rd (List K)} {mp : List Nat → Rd (List (List Nat) × List K)} : headP (110 :: t) lst mp = (match litP [110, 117, 108, 108] (110 :: t) with | some r => .ok ((⟨0, 0, [], [], []⟩ : JN K), r) | none => .error 13) := by
  unfold headP
  cases litP [110, 117, 108, 108] (110 :: t) with
  | some r => rfl
  | none =>
    dsimp only
    rw [litP_ne (a := 116) (by decide), litP_ne (a := 102) (by decide)]
    dsimp only
    show rdMap (fun n => (⟨2, n, [], [], []⟩ : JN K)) (numP (110 :: t)) = .error 13
    rw [numP_bad (by decide) (by decide)]
    rfl
theorem headP_t {K : Type} {t : List Nat} {lst : List Nat → Rd (List K)} {mp : List Nat → Rd (List (List Nat) × List K)} : headP (116 :: t) lst mp = (match litP [116, 114, 117, 101] (116 :: t) with | some r => .ok ((⟨1, 1, [], [], []⟩ : JN K), r) | none => .error 13) := by
  unfold headP
  rw [litP_ne (a := 110) (by decide)]
  dsimp only
  cases litP [116, 114, 117, 101] (116 :: t) with
  | some r => rfl
  | none =>
    dsimp only
    rw [litP_ne (a := 102) (by decide)]
    dsimp only
    show rdMap (fun n => (⟨2, n, [], [], []⟩ : JN K)) (numP (116 :: t)) = .error 13
    rw [numP_bad (by decide) (by decide)]
    rfl
theorem headP_f {K : Type} {t : List Nat} {lst : List Nat → Rd (List K)} {mp : List Nat → Rd (List (List Nat) × List K)} : headP (102 :: t) lst mp = (match litP [102, 97, 108, 115, 101] (102 :: t) with | some r => .ok ((⟨1, 0, [], [], []⟩ : JN K), r) | none => .error 13) := by
  unfold headP
  rw [litP_ne (a := 110) (by decide), litP_ne (a := 116) (by decide)]
  dsimp only
  cases litP [102, 97, 108, 115, 101] (102 :: t) with
  | some r => rfl
  | none =>
    dsimp only
    show rdMap (fun n => (⟨2, n, [], [], []⟩ : JN K)) (numP (102 :: t)) = .error 13
    rw [numP_bad (by decide) (by decide)]
    rfl
theorem headP_s {K : Type} {t : List Nat} {lst : List Nat → Rd (List K)} {mp : List Nat → Rd (List (List Nat) × List K)} : headP (34 :: t) lst mp = rdMap (fun x => (⟨3, 0, x, [], []⟩ : JN K)) (quoP (34 :: t)) := by
  unfold headP
  rw [litP_ne (a := 110) (by decide), litP_ne (a := 116) (by decide), litP_ne (a := 102) (by decide)]
  rfl
theorem headP_l {K : Type} {t : List Nat} {lst : List Nat → Rd (List K)} {mp : List Nat → Rd (List (List Nat) × List K)} : headP (91 :: t) lst mp = rdMap (fun ks => (⟨4, 0, [], [], ks⟩ : JN K)) (lst t) := by
  unfold headP
  rw [litP_ne (a := 110) (by decide), litP_ne (a := 116) (by decide), litP_ne (a := 102) (by decide)]
  rfl
theorem headP_m {K : Type} {t : List Nat} {lst : List Nat → Rd (List K)} {mp : List Nat → Rd (List (List Nat) × List K)} : headP (123 :: t) lst mp = rdMap (fun p => (⟨5, 0, [], p.1, p.2⟩ : JN K)) (mp t) := by
  unfold headP
  rw [litP_ne (a := 110) (by decide), litP_ne (a := 116) (by decide), litP_ne (a := 102) (by decide)]
  rfl
theorem cf29 (args : Array Value) (w : World) : (callFunc 29 args).run Tryd.prog w = .ok (.enter 29 args) w := by simp [go_sem]
theorem cf30 (args : Array Value) (w : World) : (callFunc 30 args).run Tryd.prog w = .ok (.enter 30 args) w := by simp [go_sem]
theorem cf31 (args : Array Value) (w : World) : (callFunc 31 args).run Tryd.prog w = .ok (.enter 31 args) w := by simp [go_sem]
theorem cf32 (args : Array Value) (w : World) : (callFunc 32 args).run Tryd.prog w = .ok (.enter 32 args) w := by simp [go_sem]
theorem cf33 (args : Array Value) (w : World) : (callFunc 33 args).run Tryd.prog w = .ok (.enter 33 args) w := by simp [go_sem]
theorem cf34 (args : Array Value) (w : World) : (callFunc 34 args).run Tryd.prog w = .ok (.enter 34 args) w := by simp [go_sem]
theorem cf35 (args : Array Value) (w : World) : (callFunc 35 args).run Tryd.prog w = .ok (.enter 35 args) w := by simp [go_sem]
def ValC (mb : Nat) (OB : Obj) (m : Nat) : Prop := ∀ (g ar : Nat) (l : List Nat) (w : World), ar + m = 6 → mb ≠ g → RdAt g ar l (.map (some mb)) w → w.heap[mb]? = some OB → l.length ≤ 100000 → Calls Tryd.prog 21 #[.pointer (some ⟨g, 0, none⟩)] w (RdR g ar (.map (some mb)) w (gapR (valP m l)))
/-- A value by its first byte, given what reads lists and maps. -/
theorem value_by {n g ar mb c : Nat} {OB : Obj} {es : Array MapEntry} {l : List Nat} {w : World} {lst : List Nat → Rd (List (J n))} {mp : List Nat → Rd (List (List Nat) × List (J n))} (hOB : OB = .map es c) (hE : EsB begL es) (h : RdAt g ar l (.map (some mb)) w) (hmb : w.heap[mb]? = some OB) (hmg : mb ≠ g) (hl : l.length ≤ 100000)
    (hL : ∀ t w1, RdAt g ar (91 :: t) (.map (some mb)) w1 → w1.heap[mb]? = some OB → (91 :: t).length ≤ 100000 → Calls Tryd.prog 34 #[.pointer (some ⟨g, 0, none⟩)] w1 (RdR g ar (.map (some mb)) w1 (n := n + 1) (rdMap (fun ks => (⟨4, 0, [], [], ks⟩ : JN (J n))) (lst t))))
    (hM : ∀ t w1, RdAt g ar (123 :: t) (.map (some mb)) w1 → w1.heap[mb]? = some OB → (123 :: t).length ≤ 100000 → Calls Tryd.prog 35 #[.pointer (some ⟨g, 0, none⟩)] w1 (RdR g ar (.map (some mb)) w1 (n := n + 1) (rdMap (fun p => (⟨5, 0, [], p.1, p.2⟩ : JN (J n))) (mp t)))) :
    Calls Tryd.prog 21 #[.pointer (some ⟨g, 0, none⟩)] w (RdR g ar (.map (some mb)) w (n := n + 1) (gapR (headP (K := J n) (gapL l) lst mp))) := by
  have hgl := gapL_len l
  cases hs : gapL l with
  | nil =>
    rw [headP_nil]
    exact value_no (b := 0) hOB hE h hmb hmg (by rw [hs]; rfl) (by decide)
  | cons b t =>
    have hb : (gapL l).headD 0 = b := by rw [hs]; rfl
    have hlt : (b :: t).length ≤ 100000 := by rw [← hs]; omega
    by_cases h1 : b = 110
    · subst h1
      rw [headP_n]
      exact value_yes hOB hE h hmb hmg hb ⟨110, by decide⟩ cf29 fun w1 hR _ => by rw [hs] at hR; exact null29 hR
    by_cases h2 : b = 116
    · subst h2
      rw [headP_t]
      exact value_yes hOB hE h hmb hmg hb ⟨116, by decide⟩ cf30 fun w1 hR _ => by rw [hs] at hR; exact yes30 hR
    by_cases h3 : b = 102
    · subst h3
      rw [headP_f]
      exact value_yes hOB hE h hmb hmg hb ⟨102, by decide⟩ cf31 fun w1 hR _ => by rw [hs] at hR; exact no31 hR
    by_cases h4 : b = 34
    · subst h4
      rw [headP_s]
      exact value_yes hOB hE h hmb hmg hb ⟨34, by decide⟩ cf33 fun w1 hR _ => by rw [hs] at hR; exact text33 hR hlt
    by_cases h5 : b = 91
    · subst h5
      rw [headP_l]
      exact value_yes hOB hE h hmb hmg hb ⟨91, by decide⟩ cf34 fun w1 hR hm => by rw [hs] at hR; exact hL t w1 hR hm hlt
    by_cases h6 : b = 123
    · subst h6
      rw [headP_m]
      exact value_yes hOB hE h hmb hmg hb ⟨123, by decide⟩ cf35 fun w1 hR hm => by rw [hs] at hR; exact hM t w1 hR hm hlt
    rw [headP_num h1 h2 h3 h4 h5 h6]
    by_cases h7 : b = 45 ∨ isD b = true
    · refine value_yes hOB hE h hmb hmg hb (f := 32) ⟨(b : Int), ?_⟩ cf32 fun w1 hR _ => by rw [hs] at hR; exact integer32 hR (by omega) n
      rcases h7 with rfl | h7
      · decide
      · simp only [isD, Bool.and_eq_true, decide_eq_true_eq] at h7
        rcases (by omega : b = 48 ∨ b = 49 ∨ b = 50 ∨ b = 51 ∨ b = 52 ∨ b = 53 ∨ b = 54 ∨ b = 55 ∨ b = 56 ∨ b = 57) with rfl | rfl | rfl | rfl | rfl | rfl | rfl | rfl | rfl | rfl <;> decide
    · have h8 : b ≠ 45 := fun e => h7 (.inl e)
      have h9 : isD b = false := by
        cases e : isD b with
        | false => rfl
        | true => exact absurd (.inr e) h7
      rw [numP_bad h8 h9]
      refine value_no hOB hE h hmb hmg hb (List.find?_eq_none.2 fun p hp he => ?_)
      have he2 : (b : Int) = p.1 := by simpa using he
      have hd : ¬ (48 ≤ b ∧ b ≤ 57) := fun hh => by simp [isD, hh.1, hh.2] at h9
      simp only [begL, List.mem_cons, List.not_mem_nil, or_false] at hp
      rcases hp with rfl | rfl | rfl | rfl | rfl | rfl | rfl | rfl | rfl | rfl | rfl | rfl | rfl | rfl | rfl | rfl | rfl <;> simp only at he2 <;> omega
theorem valC (mb : Nat) {OB : Obj} {es : Array MapEntry} {c : Nat} (hOB : OB = .map es c) (hE : EsB begL es) : ∀ m, ValC mb OB m
  | 0 => fun g ar l w ha hmg h hmb hl => by
    obtain rfl : ar = 6 := by omega
    exact value_by (n := 0) (lst := fun _ => .error 9) (mp := fun _ => .error 9) hOB hE h hmb hmg hl (fun t w1 hR _ _ => list34d hR) (fun t w1 hR _ _ => table35d hR)
  | m + 1 => fun g ar l w ha hmg h hmb hl => by
    have ih := valC mb hOB hE m
    have hkp : ∀ l k r, valP m l = .ok (k, r) → r.length < l.length := fun l k r e => (valP_is m l k r e).2
    have hV : ∀ l w, RdAt g (ar + 1) l (.map (some mb)) w → w.heap[mb]? = some OB → l.length ≤ 100000 → Calls Tryd.prog 21 #[.pointer (some ⟨g, 0, none⟩)] w (RdR g (ar + 1) (.map (some mb)) w (gapR (valP m l))) := fun l w hR hM hL => ih g (ar + 1) l w (by omega) hmg hR hM hL
    exact value_by (n := m + 1) (lst := listP (valP m)) (mp := mapP (valP m)) hOB hE h hmb hmg hl
      (fun t w1 hR hM hL => list34 (by omega) hmg hV hkp (valP_gap m) hR hM hL (by rw [lit_cons, if_pos rfl])) (fun t w1 hR hM hL => table35 (by omega) hmg hV hkp (valP_gap m) hR hM hL (by rw [lit_cons, if_pos rfl]))
end Go.Proofs.YtljgnpneeecafaaDoor
set_option linter.unusedVariables false
set_option linter.unusedSimpArgs false
namespace Go.Proofs.YtljgnpneeecafaaDoor
open Go.RowKit Go.Sort Go.BigFrame
set_option maxRecDepth 100000
set_option maxHeartbeats 4000000
theorem size56 : (Tryd.prog.info? 56).map (·.size) = some 3 := by kernel_rfl
/-- What Read leaves. -/
def ReadR (l : List Nat) (w : World) (e : Ending) (w' : World) : Prop :=
  ∃ (cs : Array Value) (er : Int), e = .returned (.tuple #[.agg cs, .int .i64 er]) ∧ cs.size = 5 ∧ cs.all (·.oneCell') = true ∧ Below w.heap.size w w' ∧ (2000 < l.length → er = 4 ∧ cs = zero5) ∧
    (l.length ≤ 2000 → match readL l with | .ok j => er = 0 ∧ JM (fun b => w.heap.size ≤ b) 7 j cs.toList w' | .error e0 => er = e0 ∧ e0 ≠ 0 ∧ cs = zero5)
theorem readL_err {l : List Nat} {e0 : Int} (h : gapR (valP 6 l) = .error e0) : readL l = .error e0 := by
  unfold readL
  cases hx : valP 6 l with
  | error e => rw [hx] at h; injection h with h; rw [h]
  | ok p => rw [hx] at h; cases h
theorem readL_ok {l r : List Nat} {j : J 7} (h : gapR (valP 6 l) = .ok (j, r)) : readL l = if r = [] then .ok j else .error 13 := by
  unfold readL
  cases hx : valP 6 l with
  | error e => rw [hx] at h; cases h
  | ok p =>
    obtain ⟨j0, r0⟩ := p
    rw [hx] at h
    injection h with h
    injection h with h1 h2
    dsimp only
    rw [h1, h2]
theorem read_long {s : ByteArray} {l : List Nat} (w : World) (hs : Str s l) (hl : 2000 < l.length) : Calls Tryd.prog 12 #[.string s] w (ReadR l w) := by
  have hi : (2000 : Int) < (s.size : Int) := by have := hs.size; omega
  have hZ := heap_alloc_new w (.cells zero5 25)
  unfold zero5 at hZ
  have HL : Hid _ := hl
  clear hl hs
  go_enter Tryd.func12, Tryd.ntmps12
  go_wp2_with (refine wpList_store_row rfl 25 (.tmp 2) (.tmp 10) rfl w.heap.size #[.int .i64 0, .int .i64 0, .string ⟨#[]⟩, .slice none 0 0, .slice none 0 0] rfl rfl 25 _ hZ size25 rfl (one5 _ _ _) ?_)
  refine bodyPost_ret (v := .tuple #[.agg #[.int .i64 0, .int .i64 0, .string ⟨#[]⟩, .slice none 0 0, .slice none 0 0], .int .i64 4]) ?_ rfl ⟨_, 4, rfl, rfl, one5 _ _ _, ((below1 _ _).trans ⟨rfl, rfl, rfl, by simp, fun b hb => setRow_other _ _ _ _ (by omega)⟩), fun _ => ⟨rfl, rfl⟩, fun h => by have := HL.out; omega⟩
  exact results_cell_tmp Tryd.results12 _ _ _ 25 _ (0, 0) _ _ rfl rfl (setRow_heap _ _ _ _ _ _ hZ) Tryd.underlying25 rfl size25
theorem read_short {s : ByteArray} {l : List Nat} (w : World) (hs : Str s l) (hl : l.length ≤ 2000) : Calls Tryd.prog 12 #[.string s] w (ReadR l w) := by
  obtain rfl := hs.eq
  have hi : ¬ (2000 : Int) < ((strOf l).size : Int) := by have := hs.size; omega
  have hd := hs.dig
  obtain ⟨w1, hw1⟩ : ∃ w1, w1 = w.alloc (.cells #[.int .i64 0, .int .i64 0, .string ⟨#[]⟩, .slice none 0 0, .slice none 0 0] 25) := ⟨_, rfl⟩
  have hB1 : Below w.heap.size w w1 := by rw [hw1]; exact below1 _ _
  have hZ1 : w1.heap[w.heap.size]? = some (.cells zero5 25 (0, 0)) := by rw [hw1]; exact heap_alloc_new _ _
  have hbg := begins20 w1
  have HW1 : Hid _ := hw1
  rw [hw1] at hbg
  have HL : Hid _ := hl
  clear hw1 hl hs
  go_enter Tryd.func12, Tryd.ntmps12
  go_wp2_with fail
  refine hbg.mono ?_
  rintro e w2 ⟨rfl, hS2⟩
  rw [← HW1.out] at hS2
  obtain ⟨hB2, _, es, c, hm2, hE⟩ := hS2
  have hs1 := hB1.size
  have hs2 := hB2.size
  have hz1 := lt_of_heap hZ1
  have hZ2 : w2.heap[w.heap.size]? = some (.cells zero5 25 (0, 0)) := block_below hB2 hz1 hZ1
  obtain ⟨mb, hmb⟩ : ∃ mb, mb = w1.heap.size := ⟨_, rfl⟩
  have hmb2 : (w.alloc (.cells #[.int .i64 0, .int .i64 0, .string ⟨#[]⟩, .slice none 0 0, .slice none 0 0] 25)).heap.size = mb := by rw [hmb, HW1.out]
  rw [hmb2]
  rw [← hmb] at hm2
  have hlm := lt_of_heap hm2
  have hG := heap_alloc_new w2 (.cells #[.int .i64 0, .string ⟨#[]⟩, .map none] 56)
  have HB12 : Hid (Below w.heap.size w w2) := hB1.trans (hB2.mono (by omega))
  clear hbg hB1 hB2 hZ1 hmb hmb2
  go_wp2_with (refine wpList_store_row rfl 56 (.tmp 4) (.tmp 13) rfl w2.heap.size #[.int .i64 0, .string (strOf l), .map (some mb)] rfl rfl 56 _ hG size56 rfl (by simp [Value.oneCell']) ?_)
  obtain ⟨w3, hw3⟩ : ∃ w3, w3 = (w2.alloc (.cells #[.int .i64 0, .string ⟨#[]⟩, .map none] 56)).setRow w2.heap.size #[.int .i64 0, .string (strOf l), .map (some mb)] := ⟨_, rfl⟩
  rw [← hw3]
  have hB3 : Below w2.heap.size w2 w3 := by rw [hw3]; exact (below1 _ _).trans ⟨rfl, rfl, rfl, by simp, fun b hb => setRow_other _ _ _ _ (by omega)⟩
  have hR3 : RdAt w2.heap.size 0 l (.map (some mb)) w3 := ⟨hd, by rw [hw3]; exact setRow_heap _ _ _ _ _ _ hG⟩
  have hm3 := block_below hB3 hlm hm2
  have hv := valC mb rfl hE 6 w2.heap.size 0 l w3 rfl (by omega) hR3 hm3 (by have := HL.out; omega)
  obtain ⟨X, hX⟩ : ∃ X, X = gapR (valP 6 l) := ⟨_, rfl⟩
  rw [← hX] at hv
  have HX : Hid (X = gapR (valP 6 l)) := hX
  have hZ3 : w3.heap[w.heap.size]? = some (.cells zero5 25 (0, 0)) := block_below hB3 (lt_of_heap hZ2) hZ2
  have hs3 := hB3.size
  have HB3 : Hid (Below w.heap.size w w3) := HB12.out.trans (hB3.mono (by omega))
  have hg2 : w.heap.size < w2.heap.size := lt_of_heap hZ2
  clear hX hw3 hB3 hR3 hm3 hG hm2 hZ2 hE
  refine hv.mono ?_
  rintro e w4 ⟨cs, er, l', rfl, h5, hone, hF4, hR4, hm4⟩
  obtain ⟨d0, d1, d2, d3, d4, rfl⟩ := arr5 h5
  have hN := heap_alloc_new w4 (.cells zero5 25)
  unfold zero5 at hN
  have hZ4 := hF4.block hZ3 (by omega)
  have hs4 := hF4.size
  have hlt4 := hR4.lt
  have hz4 := lt_of_heap hZ4
  have hB4 := HB3.out.trans (hF4.below (B := w.heap.size) (by omega) (by omega))
  have HM4 : Hid (RdM w3 #[d0, d1, d2, d3, d4] er l' X w4) := hm4
  clear hv h5 hZ3 hm4
  go_wp2_with (refine wpList_store_row rfl 25 (.tmp 5) (.tmp 16) rfl w4.heap.size #[d0, d1, d2, d3, d4] rfl rfl 25 _ hN size25 rfl hone ?_; refine Hid.out ?_)
  obtain ⟨w5, hw5⟩ : ∃ w5, w5 = (w4.alloc (.cells #[.int .i64 0, .int .i64 0, .string ⟨#[]⟩, .slice none 0 0, .slice none 0 0] 25)).setRow w4.heap.size #[d0, d1, d2, d3, d4] := ⟨_, rfl⟩
  rw [← hw5]
  refine Lib.hid ?_
  have hB5 : Below w4.heap.size w4 w5 := by rw [hw5]; exact (below1 _ _).trans ⟨rfl, rfl, rfl, by simp, fun b hb => setRow_other _ _ _ _ (by omega)⟩
  have hX5 : w5.heap[w4.heap.size]? = some (.cells #[d0, d1, d2, d3, d4] 25 (0, 0)) := by rw [hw5]; exact setRow_heap _ _ _ _ _ _ hN
  have hZ5 : w5.heap[w.heap.size]? = some (.cells zero5 25 (0, 0)) := block_below hB5 hz4 hZ4
  have hS' := str_strOf hR4.1
  have hnil := str_empty hS'
  have c1 : w5.cell? ⟨w2.heap.size, 1, none⟩ = some (.string (strOf l')) := (hR4.new hB5).c1
  obtain ⟨S, hS⟩ : ∃ S, S = strOf l' := ⟨_, rfl⟩
  rw [← hS] at c1 hnil
  have x0 : w5.cell? ⟨w4.heap.size, 0, none⟩ = some d0 := (cell_of_row _ _ _ _ _ _ hX5).trans rfl
  have x1 : w5.cell? ⟨w4.heap.size, 1, none⟩ = some d1 := (cell_of_row _ _ _ _ _ _ hX5).trans rfl
  have x2 : w5.cell? ⟨w4.heap.size, 2, none⟩ = some d2 := (cell_of_row _ _ _ _ _ _ hX5).trans rfl
  have x3 : w5.cell? ⟨w4.heap.size, 3, none⟩ = some d3 := (cell_of_row _ _ _ _ _ _ hX5).trans rfl
  have x4 : w5.cell? ⟨w4.heap.size, 4, none⟩ = some d4 := (cell_of_row _ _ _ _ _ _ hX5).trans rfl
  have HB45 : Hid (Below w4.heap.size w4 w5) := hB5
  have HB5 : Hid (Below w.heap.size w w5) := hB4.trans (hB5.mono (by omega))
  have HF4 : Hid (Fg w2.heap.size w3 w4) := hF4
  have hlt5 := lt_of_heap hX5
  clear hw5 hN hB5 hB4 hX5 hZ4 hR4 hF4 hS' hS
  by_cases h0 : er = 0
  · subst h0
    cases hl' : l' with
    | nil =>
      have hem : S.toList.isEmpty = true := by rw [hnil, hl']; rfl
      have hz0 : ((0 : Int) == 0) = true := rfl
      have HL' : Hid _ := hl'
      clear hnil hl'
      go_wp2_with (refine wpList_store_row rfl 25 (.tmp 2) (.tmp 29) rfl w.heap.size #[d0, d1, d2, d3, d4] rfl rfl 25 zero5 hZ5 size25 rfl hone ?_)
      refine bodyPost_ret (v := .tuple #[.agg #[d0, d1, d2, d3, d4], .int .i64 0]) ?_ rfl ⟨_, 0, rfl, rfl, hone, HB5.out.trans ⟨rfl, rfl, rfl, by simp, fun b hb => setRow_other _ _ _ _ (by omega)⟩, fun h => by have := HL.out; omega, fun _ => ?_⟩
      · exact results_cell_tmp Tryd.results12 _ _ _ 25 _ (0, 0) _ _ rfl rfl (setRow_heap _ _ _ _ _ _ hZ5) Tryd.underlying25 rfl size25
      · have hm := HM4.out
        cases X with
        | error e0 =>
          rcases hm with ⟨h1, h2⟩ | ⟨h1, h2, c', t', h3, h4⟩
          · exact absurd h1.symm h2
          · rw [HL'.out] at h3; cases h3
        | ok q =>
          obtain ⟨j', r⟩ := q
          obtain ⟨z1, z2, z3⟩ := hm
          have hr : r = [] := z2.symm.trans HL'.out
          rw [readL_ok HX.out.symm, if_pos hr]
          refine ⟨rfl, JM.move (S := fun b => w3.heap.size ≤ b) (w := w4) (fun b hb hS => ⟨show w.heap.size ≤ b from by omega, ?_⟩) _ _ _ z3⟩
          exact (setRow_other _ _ _ _ (by omega)).trans (HB45.out.block b hb)
    | cons c' t' =>
      have hem : S.toList.isEmpty = false := by rw [hnil, hl']; rfl
      have hz0 : ((0 : Int) == 0) = true := rfl
      have HL' : Hid _ := hl'
      clear hnil hl'
      go_wp2_with (refine wpList_store_row rfl 25 (.tmp 2) (.tmp 27) rfl w.heap.size #[.int .i64 0, .int .i64 0, .string ⟨#[]⟩, .slice none 0 0, .slice none 0 0] rfl rfl 25 zero5 hZ5 size25 rfl (one5 _ _ _) ?_)
      refine bodyPost_ret (v := .tuple #[.agg #[.int .i64 0, .int .i64 0, .string ⟨#[]⟩, .slice none 0 0, .slice none 0 0], .int .i64 13]) ?_ rfl ⟨_, 13, rfl, rfl, (one5 _ _ _), HB5.out.trans ⟨rfl, rfl, rfl, by simp, fun b hb => setRow_other _ _ _ _ (by omega)⟩, fun h => by have := HL.out; omega, fun _ => ?_⟩
      · exact results_cell_tmp Tryd.results12 _ _ _ 25 _ (0, 0) _ _ rfl rfl (setRow_heap _ _ _ _ _ _ hZ5) Tryd.underlying25 rfl size25
      · have hm := HM4.out
        cases X with
        | error e0 =>
          rcases hm with ⟨h1, h2⟩ | ⟨h1, h2, c', t', h3, h4⟩
          · exact absurd h1.symm h2
          · rw [readL_err HX.out.symm]; exact ⟨h1.symm, by rw [h1]; decide, rfl⟩
        | ok q =>
          obtain ⟨j', r⟩ := q
          obtain ⟨z1, z2, z3⟩ := hm
          have hr : r ≠ [] := fun e => by rw [← z2, HL'.out] at e; cases e
          rw [readL_ok HX.out.symm, if_neg hr]
          exact ⟨rfl, by decide, rfl⟩
  · have hz0 : (er == 0) = false := by simpa using h0
    have hz1 : (er != 0) = true := by simpa using h0
    have H0 : Hid _ := h0
    clear hnil h0
    go_wp2_with (refine wpList_store_row rfl 25 (.tmp 2) (.tmp 27) rfl w.heap.size #[.int .i64 0, .int .i64 0, .string ⟨#[]⟩, .slice none 0 0, .slice none 0 0] rfl rfl 25 zero5 hZ5 size25 rfl (one5 _ _ _) ?_)
    refine bodyPost_ret (v := .tuple #[.agg #[.int .i64 0, .int .i64 0, .string ⟨#[]⟩, .slice none 0 0, .slice none 0 0], .int .i64 er]) ?_ rfl ⟨_, er, rfl, rfl, (one5 _ _ _), HB5.out.trans ⟨rfl, rfl, rfl, by simp, fun b hb => setRow_other _ _ _ _ (by omega)⟩, fun h => by have := HL.out; omega, fun _ => ?_⟩
    · exact results_cell_tmp Tryd.results12 _ _ _ 25 _ (0, 0) _ _ rfl rfl (setRow_heap _ _ _ _ _ _ hZ5) Tryd.underlying25 rfl size25
    · have hm := HM4.out
      cases X with
      | error e0 =>
        rcases hm with ⟨h1, h2⟩ | ⟨h1, h2, _⟩
        · rw [readL_err HX.out.symm]; exact ⟨h1, h2, rfl⟩
        · exact absurd h2 H0.out
      | ok q =>
        obtain ⟨j', r⟩ := q
        exact absurd hm.1 H0.out
theorem readP {s : ByteArray} {l : List Nat} (w : World) (hs : Str s l) : Calls Tryd.prog 12 #[.string s] w (ReadR l w) := by
  by_cases h : l.length ≤ 2000
  · exact read_short w hs h
  · exact read_long w hs (by omega)
end Go.Proofs.YtljgnpneeecafaaDoor
set_option linter.unusedVariables false
set_option linter.unusedSimpArgs false
namespace Go.Proofs.YtljgnpneeecafaaDoor
open Go.RowKit Go.Sort Go.BigFrame
set_option maxRecDepth 100000
set_option maxHeartbeats 4000000
theorem isJ_full : ∀ (n d : Nat) (j : J n), IsJ n d j → Full n j
  | 0, _, _, h => h
  | n + 1, d, j, h => fun k hk => by
    obtain ⟨_, _, _, h4, _, _, h7⟩ := h
    by_cases h : JN.kind j = 5 ∨ JN.kind j = 4
    · exact isJ_full n (d - 1) k ((h7 (by omega) (by omega)).2.2.2 k hk)
    · have := h4 (fun e => h (.inl e)) (fun e => h (.inr e))
      rw [List.length_eq_zero_iff.1 this] at hk
      cases hk
def lit1 : List Nat := [32, 123, 34, 97, 34, 32, 58, 32, 91, 49, 44, 116, 114, 117, 101, 93, 125]
def lit2 : List Nat := [123, 34, 97, 34, 58, 91, 49, 44, 116, 114, 117, 101, 93, 125]
def lit3 : List Nat := [91, 91, 91, 91, 91, 91, 91]
def ex1 : J 7 := (⟨5, 0, [], [[97]], [(⟨4, 0, [], [], [(⟨2, 1, [], [], []⟩ : JN (J 4)), (⟨1, 1, [], [], []⟩ : JN (J 4))]⟩ : JN (J 5))]⟩ : JN (J 6))
theorem ex1_read : readL lit1 = .ok ex1 := by kernel_rfl
theorem ex3_read : readL lit3 = .error 9 := by kernel_rfl
theorem ex1_write : writeJ 7 ex1 = lit2 := by kernel_rfl
theorem ex1_is : IsJ 7 6 ex1 := readL_is ex1_read
theorem leaf_txt (B n : Nat) (k m : Int) : TxtJ B (n + 1) (⟨k, m, [], [], []⟩ : JN (J n)) := by
  refine ⟨Nat.zero_le _, ?_, ?_⟩
  · intro x hx; cases hx
  · intro x hx; cases hx
theorem ex1_txt : TxtJ 1000000 7 ex1 := by
  refine ⟨Nat.zero_le _, ?_, ?_⟩
  · intro x hx
    rw [List.mem_singleton.1 hx]
    decide
  · intro k hk
    rw [List.mem_singleton.1 hk]
    refine ⟨Nat.zero_le _, ?_, ?_⟩
    · intro x hx; cases hx
    · intro k hk
      rcases List.mem_cons.1 hk with h | h
      · rw [h]; exact leaf_txt _ 4 _ _
      · rw [List.mem_singleton.1 h]; exact leaf_txt _ 4 _ _
theorem livesP (w : World) (hT : Tab w) : Ret 10 #[] w (Is (.bool true)) := by
  have hs1 := str_lit (bs := lit1) (by decide)
  rw [show strOf lit1 = ByteArray.mk #[32, 123, 34, 97, 34, 32, 58, 32, 91, 49, 44, 116, 114, 117, 101, 93, 125] by decide] at hs1
  have hs3 := str_lit (bs := lit3) (by decide)
  rw [show strOf lit3 = ByteArray.mk #[91, 91, 91, 91, 91, 91, 91] by decide] at hs3
  have hr1 := readP w hs1
  unfold Ret
  go_enter Tryd.func10, Tryd.ntmps10
  go_wp2_with fail
  refine hr1.mono ?_
  rintro e w1 ⟨cs, er, rfl, h5, hone, hB1, _, hq⟩
  have hq := hq (by decide)
  rw [ex1_read] at hq
  obtain ⟨rfl, hJ⟩ : er = 0 ∧ JM (fun b => w.heap.size ≤ b) 7 ex1 cs.toList w1 := hq
  obtain ⟨d0, d1, d2, d3, d4, rfl⟩ := arr5 h5
  have hN := heap_alloc_new w1 (.cells zero5 25)
  unfold zero5 at hN
  clear hr1 h5 hs1
  go_wp2_with (refine wpList_store_row rfl 25 (.tmp 1) (.tmp 9) rfl w1.heap.size #[d0, d1, d2, d3, d4] rfl rfl 25 _ hN size25 rfl hone ?_; refine Hid.out ?_)
  obtain ⟨w2, hw2⟩ : ∃ w2, w2 = (w1.alloc (.cells #[.int .i64 0, .int .i64 0, .string ⟨#[]⟩, .slice none 0 0, .slice none 0 0] 25)).setRow w1.heap.size #[d0, d1, d2, d3, d4] := ⟨_, rfl⟩
  rw [← hw2]
  refine Lib.hid ?_
  have hB2 : Below w1.heap.size w1 w2 := by rw [hw2]; exact (below1 _ _).trans ⟨rfl, rfl, rfl, by simp, fun b hb => setRow_other _ _ _ _ (by omega)⟩
  have hX2 : w2.heap[w1.heap.size]? = some (.cells #[d0, d1, d2, d3, d4] 25 (0, 0)) := by rw [hw2]; exact setRow_heap _ _ _ _ _ _ hN
  have hs1 := hB1.size
  have hBw : Below w.heap.size w w2 := hB1.trans (hB2.mono hs1)
  have hT2 := hT.below hBw
  have hj : JV ex1 (.agg #[d0, d1, d2, d3, d4]) w2 := ⟨_, rfl, rfl, JM.jc _ _ _ _ (hJ.stb hB2)⟩
  have hw := writeP (n := 6) ex1 _ w2 hT2 (isJ_full 7 6 ex1 ex1_is) ex1_txt hj
  have x0 : w2.cell? ⟨w1.heap.size, 0, none⟩ = some d0 := (cell_of_row _ _ _ _ _ _ hX2).trans rfl
  have x1 : w2.cell? ⟨w1.heap.size, 1, none⟩ = some d1 := (cell_of_row _ _ _ _ _ _ hX2).trans rfl
  have x2 : w2.cell? ⟨w1.heap.size, 2, none⟩ = some d2 := (cell_of_row _ _ _ _ _ _ hX2).trans rfl
  have x3 : w2.cell? ⟨w1.heap.size, 3, none⟩ = some d3 := (cell_of_row _ _ _ _ _ _ hX2).trans rfl
  have x4 : w2.cell? ⟨w1.heap.size, 4, none⟩ = some d4 := (cell_of_row _ _ _ _ _ _ hX2).trans rfl
  have HBW : Hid (Below w.heap.size w w2) := hBw
  clear hw2 hN hB1 hB2 hJ hX2 hj hBw hT2 hT
  go_wp2_with fail
  refine Calls.mono hw ?_
  rintro e w3 ⟨v, rfl, hB3, hq⟩
  have hv := hq.1 ex1_is (by rw [ex1_write]; decide)
  rw [ex1_write, show strOf lit2 = ByteArray.mk #[123, 34, 97, 34, 58, 91, 49, 44, 116, 114, 117, 101, 93, 125] by decide] at hv
  subst hv
  have hr3 := readP w3 hs3
  have hs3' := hB3.size
  have hs2 := HBW.out.size
  have HB3 : Hid (Below w.heap.size w w3) := HBW.out.trans (hB3.mono hs2)
  clear hw hq hB3 x0 x1 x2 x3 x4 hs3
  go_wp2_with fail
  refine hr3.mono ?_
  rintro e w4 ⟨cs, er, rfl, h5, hone, hB4, _, hq⟩
  have hq := hq (by decide)
  rw [ex3_read] at hq
  obtain ⟨rfl, _, rfl⟩ : er = 9 ∧ (9 : Int) ≠ 0 ∧ cs = zero5 := hq
  unfold zero5
  have hN := heap_alloc_new w4 (.cells zero5 25)
  unfold zero5 at hN
  have hs4 := hB4.size
  have hs33 := HB3.out.size
  have HB4 : Hid (Below w.heap.size w w4) := HB3.out.trans (hB4.mono hs33)
  have hs44 := HB4.out.size
  clear hr3 h5 hB4
  go_wp2_with (refine wpList_store_row rfl 25 (.tmp 5) (.tmp 18) rfl w4.heap.size #[.int .i64 0, .int .i64 0, .string ⟨#[]⟩, .slice none 0 0, .slice none 0 0] rfl rfl 25 _ hN size25 rfl (one5 _ _ _) ?_)
  go_ret
  exact ⟨_, rfl, HB4.out.trans ((below1 _ _).mono hs44 |>.trans ⟨rfl, rfl, rfl, by simp, fun b hb => setRow_other _ _ _ _ (by omega)⟩), rfl⟩
end Go.Proofs.YtljgnpneeecafaaDoor
set_option linter.unusedVariables false
set_option linter.unusedSimpArgs false
namespace Go.Proofs.YtljgnpneeecafaaDoor
open Go.RowKit Go.Sort Go.BigFrame
set_option maxRecDepth 100000
set_option maxHeartbeats 4000000
/-- The tree and the error of a reading. -/
def treeL (x : Except Int (J 7)) : J 7 := match x with
  | .ok j => j
  | .error _ => (⟨0, 0, [], [], []⟩ : JN (J 6))
def errL (x : Except Int (J 7)) : Int := match x with
  | .ok _ => 0
  | .error e => e
theorem treeL_full (l : List Nat) : Full 7 (treeL (readL l)) := by
  cases h : readL l with
  | ok j => exact isJ_full 7 6 j (readL_is h)
  | error e => intro k hk; cases hk
theorem ReadR.tree {l : List Nat} {w w' : World} {e : Ending} (hl : l.length ≤ 2000) (h : ReadR l w e w') :
    ∃ (cs : Array Value), e = .returned (.tuple #[.agg cs, .int .i64 (errL (readL l))]) ∧ cs.size = 5 ∧ cs.all (·.oneCell') = true ∧ Below w.heap.size w w' ∧ JM (fun b => w.heap.size ≤ b) 7 (treeL (readL l)) cs.toList w' := by
  obtain ⟨cs, er, rfl, h5, hone, hB, _, hq⟩ := h
  have hq := hq hl
  cases hx : readL l with
  | ok j =>
    rw [hx] at hq
    obtain ⟨rfl, hJ⟩ := hq
    exact ⟨cs, rfl, h5, hone, hB, hJ⟩
  | error e0 =>
    rw [hx] at hq
    obtain ⟨rfl, h0, rfl⟩ := hq
    exact ⟨_, rfl, rfl, one50, hB, jm_zero _ 0 0 _ [] _ str_none (by decide) (by decide)⟩
/-- Blanks, so many of them. -/
def gapB (n : Nat) : List Nat := (List.range n).map fun i => ([32, 9, 10, 13] : List Nat).getD (i % 4) 0
theorem gapB_blk (n : Nat) : Blk (gapB n) := fun c hc => by
  obtain ⟨i, _, rfl⟩ := List.mem_map.1 hc
  rcases (by omega : i % 4 = 0 ∨ i % 4 = 1 ∨ i % 4 = 2 ∨ i % 4 = 3) with h | h | h | h <;> rw [h] <;> decide
theorem gapB_len (n : Nat) : (gapB n).length = n := by simp [gapB]
theorem gapB_dig (n : Nat) : Dig (gapB n) := fun j => by
  by_cases h : j < (gapB n).length
  · have hm : (gapB n).getD j 0 ∈ gapB n := by
      rw [List.getD_eq_getElem?_getD, List.getElem?_eq_getElem h]
      exact List.getElem_mem h
    have := gapB_blk n _ hm
    simp only [blankB, Bool.or_eq_true, beq_iff_eq] at this
    omega
  · rw [List.getD_eq_getElem?_getD, List.getElem?_eq_none (by omega)]
    decide
theorem gapB_succ (n c : Nat) (h : ([32, 9, 10, 13] : List Nat).getD (n % 4) 0 = c) : gapB (n + 1) = gapB n ++ [c] := by
  unfold gapB
  rw [List.range_succ, List.map_append, List.map_cons, List.map_nil, h]
theorem gap_step (n c : Nat) (h : ([32, 9, 10, 13] : List Nat).getD (n % 4) 0 = c) (hc : c < 256) {t : ByteArray} (ht : Str t [c]) : strOf (gapB n) ++ t = strOf (gapB (n + 1)) := by
  rw [gapB_succ n c h]
  exact ((str_strOf (gapB_dig n)).app ht).eq
theorem cut300 {s : ByteArray} (h2 : 300 ≤ s.size) (w : World) : (Instr.slice 9 (.string s) none (some (.int .i64 300)) none).run Tryd.prog w = .ok (.string (s.extract 0 300)) w := by
  have h3 : ¬ ((s.size : Int) < 300) := by omega
  simp [go_sem, h3]
theorem blk0 (w : World) : (Instr.slice 9 (.string ⟨#[32, 9, 10, 13]⟩) (some (.int .i64 0)) (some (.int .i64 1)) none).run Tryd.prog w = .ok (.string ⟨#[32]⟩) w := by simp [go_sem]; decide
theorem blk1 (w : World) : (Instr.slice 9 (.string ⟨#[32, 9, 10, 13]⟩) (some (.int .i64 1)) (some (.int .i64 2)) none).run Tryd.prog w = .ok (.string ⟨#[9]⟩) w := by simp [go_sem]; decide
theorem blk2 (w : World) : (Instr.slice 9 (.string ⟨#[32, 9, 10, 13]⟩) (some (.int .i64 2)) (some (.int .i64 3)) none).run Tryd.prog w = .ok (.string ⟨#[10]⟩) w := by simp [go_sem]; decide
theorem blk3 (w : World) : (Instr.slice 9 (.string ⟨#[32, 9, 10, 13]⟩) (some (.int .i64 3)) (some (.int .i64 4)) none).run Tryd.prog w = .ok (.string ⟨#[13]⟩) w := by simp [go_sem]; decide
end Go.Proofs.YtljgnpneeecafaaDoor
set_option linter.unusedVariables false
set_option linter.unusedSimpArgs false
namespace Go.Proofs.YtljgnpneeecafaaDoor
theorem txtP_txt : ∀ (f : Nat) (l t r : List Nat), txtP f l = .ok (t, r) → t.length ≤ l.length
  | 0, l, t, r, h => by simp [txtP] at h
  | f + 1, [], t, r, h => by simp [txtP] at h
  | f + 1, c :: s, t, r, h => by
    have key : ∀ (x : Nat) (s' : List Nat), rdMap (x :: ·) (txtP f s') = .ok (t, r) → s'.length ≤ s.length → t.length ≤ (c :: s).length := fun x s' hx hl => by
      cases ht : txtP f s' with
      | error e => rw [ht] at hx; cases hx
      | ok p =>
        obtain ⟨t0, r0⟩ := p
        rw [ht] at hx
        injection hx with hx
        injection hx with h1 h2
        have := txtP_txt f s' t0 r0 ht
        subst h1
        simp
        omega
    unfold txtP at h
    split at h
    · cases h
    · split at h
      · injection h with h
        injection h with h1 h2
        subst h1
        simp
      · split at h
        · exact key _ _ h (Nat.le_refl _)
        · cases s with
          | nil => cases h
          | cons k r2 =>
            dsimp only at h
            cases he : escP k with
            | some x => rw [he] at h; exact key _ _ h (by simp)
            | none =>
              rw [he] at h
              dsimp only at h
              split at h
              · cases hu : uniP r2 with
                | none => rw [hu] at h; cases h
                | some p =>
                  obtain ⟨x, r3⟩ := p
                  rw [hu] at h
                  have := uniP_len hu
                  exact key _ _ h (by simp; omega)
              · cases h
theorem quoP_txt {l t r : List Nat} (h : quoP l = .ok (t, r)) : t.length ≤ l.length := by
  unfold quoP at h
  split at h
  · have := txtP_txt _ _ _ _ h
    simp
    omega
  · cases h
theorem nameP_txt {ns : List (List Nat)} {l t r : List Nat} (h : nameP ns l = .ok (t, r)) : t.length ≤ l.length := by
  unfold nameP at h
  have g1 := gapL_len l
  cases hq : quoP (gapL l) with
  | error e => rw [hq] at h; cases h
  | ok p =>
    obtain ⟨nm, r1⟩ := p
    rw [hq] at h
    dsimp only at h
    have := quoP_txt hq
    split at h
    · cases h
    · cases hc : litP [58] (gapL r1) with
      | none => rw [hc] at h; cases h
      | some q =>
        rw [hc] at h
        injection h with h
        injection h with h1 _
        subst h1
        omega
theorem itemsS_txtL {n B : Nat} {kp : List Nat → Rd (J n)} (hk : ∀ s k r, s.length ≤ B → kp s = .ok (k, r) → TxtJ B n k) (hl : ∀ s k r, kp s = .ok (k, r) → r.length < s.length) :
    ∀ (f : Nat) (ks : List (J n)) (s : List Nat) (ks' : List (J n)) (r : List Nat), s.length ≤ B → (∀ k ∈ ks, TxtJ B n k) → itemsS (stepL kp) 93 f ks s = .ok (ks', r) → ∀ k ∈ ks', TxtJ B n k
  | 0, ks, s, ks', r, _, _, h => by cases h
  | f + 1, ks, s, ks', r, hs, h0, h => by
    cases hx : gapR (kp s) with
    | error e =>
      rw [itemsS_err (e := e) (by unfold stepL; rw [hx]; rfl)] at h
      cases h
    | ok p =>
      obtain ⟨k1, r1⟩ := p
      obtain ⟨r0, e1, e2⟩ := gapR_ok hx
      have hst : stepL kp ks s = .ok (ks ++ [k1], r1) := by unfold stepL; rw [hx]; rfl
      have hnew : ∀ k ∈ ks ++ [k1], TxtJ B n k := fun k hk' => by
        rcases List.mem_append.1 hk' with h | h
        · exact h0 k h
        · rw [List.mem_singleton.1 h]; exact hk s k1 r0 hs e1
      have hlt := hl s k1 r0 e1
      cases hc : litP [93] r1 with
      | some q =>
        rw [itemsS_end hst hc] at h
        injection h with h
        injection h with h1 _
        subst h1
        exact hnew
      | none =>
        cases hc2 : litP [44] r1 with
        | none => rw [itemsS_no hst hc hc2] at h; cases h
        | some q =>
          rw [itemsS_go hst hc hc2] at h
          have := lit_len hc2 (by simp)
          exact itemsS_txtL hk hl f _ q ks' r (by omega) hnew h
theorem itemsS_txtM {n B : Nat} {kp : List Nat → Rd (J n)} (hk : ∀ s k r, s.length ≤ B → kp s = .ok (k, r) → TxtJ B n k) (hl : ∀ s k r, kp s = .ok (k, r) → r.length < s.length) :
    ∀ (f : Nat) (ns : List (List Nat)) (ks : List (J n)) (s : List Nat) (p' : List (List Nat) × List (J n)) (r : List Nat), s.length ≤ B → (∀ x ∈ ns, x.length ≤ B) → (∀ k ∈ ks, TxtJ B n k) → itemsS (stepM kp) 125 f (ns, ks) s = .ok (p', r) → (∀ x ∈ p'.1, x.length ≤ B) ∧ ∀ k ∈ p'.2, TxtJ B n k
  | 0, ns, ks, s, p', r, _, _, _, h => by cases h
  | f + 1, ns, ks, s, p', r, hs, hn, h0, h => by
    cases hnm : nameP ns s with
    | error e => rw [itemsS_err (stepM_err hnm)] at h; cases h
    | ok q0 =>
      obtain ⟨nm, s1⟩ := q0
      have hs1 := nameP_len hnm
      have hnl := nameP_txt hnm
      cases hx : gapR (kp s1) with
      | error e =>
        rw [itemsS_err (e := e) (by rw [stepM_ok hnm, hx]; rfl)] at h
        cases h
      | ok p =>
        obtain ⟨k1, r1⟩ := p
        obtain ⟨r0, e1, e2⟩ := gapR_ok hx
        have hst : stepM kp (ns, ks) s = .ok ((ns ++ [nm], ks ++ [k1]), r1) := by rw [stepM_ok hnm, hx]; rfl
        have hnn : ∀ x ∈ ns ++ [nm], x.length ≤ B := fun x hx' => by
          rcases List.mem_append.1 hx' with h | h
          · exact hn x h
          · rw [List.mem_singleton.1 h]; omega
        have hnew : ∀ k ∈ ks ++ [k1], TxtJ B n k := fun k hk' => by
          rcases List.mem_append.1 hk' with h | h
          · exact h0 k h
          · rw [List.mem_singleton.1 h]; exact hk s1 k1 r0 (by omega) e1
        have hlt := hl s1 k1 r0 e1
        cases hc : litP [125] r1 with
        | some q =>
          rw [itemsS_end hst hc] at h
          injection h with h
          injection h with h1 _
          subst h1
          exact ⟨hnn, hnew⟩
        | none =>
          cases hc2 : litP [44] r1 with
          | none => rw [itemsS_no hst hc hc2] at h; cases h
          | some q =>
            rw [itemsS_go hst hc hc2] at h
            have := lit_len hc2 (by simp)
            exact itemsS_txtM hk hl f _ _ q p' r (by omega) hnn hnew h
theorem listP_txt {n B : Nat} {kp : List Nat → Rd (J n)} (hg : GapK kp) (hk : ∀ s k r, s.length ≤ B → kp s = .ok (k, r) → TxtJ B n k) (hl : ∀ s k r, kp s = .ok (k, r) → r.length < s.length) {s r : List Nat} {ks : List (J n)} (hs : s.length ≤ B) (h : listP kp s = .ok (ks, r)) : ∀ k ∈ ks, TxtJ B n k := by
  rw [← wholeS_list hg] at h
  have hgl := gapL_len s
  unfold wholeS at h
  cases hc : litP [93] (gapL s) with
  | some q => rw [hc] at h; injection h with h; injection h with h1 _; subst h1; intro k hk'; cases hk'
  | none => rw [hc] at h; exact itemsS_txtL hk hl _ _ _ _ _ (by omega) (fun k hk' => by cases hk') h
theorem mapP_txt {n B : Nat} {kp : List Nat → Rd (J n)} (hk : ∀ s k r, s.length ≤ B → kp s = .ok (k, r) → TxtJ B n k) (hl : ∀ s k r, kp s = .ok (k, r) → r.length < s.length) {s r : List Nat} {p : List (List Nat) × List (J n)} (hs : s.length ≤ B) (h : mapP kp s = .ok (p, r)) : (∀ x ∈ p.1, x.length ≤ B) ∧ ∀ k ∈ p.2, TxtJ B n k := by
  rw [← wholeS_map] at h
  have hgl := gapL_len s
  unfold wholeS at h
  cases hc : litP [125] (gapL s) with
  | some q => rw [hc] at h; injection h with h; injection h with h1 _; subst h1; exact ⟨fun x hx => (by cases hx), fun k hk' => (by cases hk')⟩
  | none => rw [hc] at h; exact itemsS_txtM hk hl _ _ _ _ _ _ (by omega) (fun k hk' => by cases hk') (fun k hk' => by cases hk') h
theorem headP_txt {n B : Nat} {s r : List Nat} {lst : List Nat → Rd (List (J n))} {mp : List Nat → Rd (List (List Nat) × List (J n))} {j : JN (J n)} (hs : s.length ≤ B) (hL : ∀ t ks r, t.length ≤ B → lst t = .ok (ks, r) → ∀ k ∈ ks, TxtJ B n k) (hM : ∀ t p r, t.length ≤ B → mp t = .ok (p, r) → (∀ x ∈ p.1, x.length ≤ B) ∧ ∀ k ∈ p.2, TxtJ B n k)
    (h : headP (K := J n) s lst mp = .ok (j, r)) : TxtJ B (n + 1) j := by
  have leaf : ∀ k m : Int, TxtJ B (n + 1) (⟨k, m, [], [], []⟩ : JN (J n)) := fun k m => leaf_txt B n k m
  cases s with
  | nil => rw [headP_nil] at h; cases h
  | cons b t =>
    have ht : t.length ≤ B := by simp at hs; omega
    by_cases h1 : b = 110
    · subst h1
      rw [headP_n] at h
      split at h
      · injection h with h; injection h with h2 _; subst h2; exact leaf 0 0
      · cases h
    by_cases h2 : b = 116
    · subst h2
      rw [headP_t] at h
      split at h
      · injection h with h; injection h with h2 _; subst h2; exact leaf 1 1
      · cases h
    by_cases h3 : b = 102
    · subst h3
      rw [headP_f] at h
      split at h
      · injection h with h; injection h with h2 _; subst h2; exact leaf 1 0
      · cases h
    by_cases h4 : b = 34
    · subst h4
      rw [headP_s] at h
      cases hq : quoP (34 :: t) with
      | error e => rw [hq] at h; cases h
      | ok p =>
        obtain ⟨x, r1⟩ := p
        rw [hq] at h
        injection h with h
        injection h with h2 _
        subst h2
        have := quoP_txt hq
        exact ⟨Nat.le_trans this hs, fun x hx => (by cases hx), fun k hk => (by cases hk)⟩
    by_cases h5 : b = 91
    · subst h5
      rw [headP_l] at h
      cases hq : lst t with
      | error e => rw [hq] at h; cases h
      | ok p =>
        obtain ⟨ks, r1⟩ := p
        rw [hq] at h
        injection h with h
        injection h with h2 _
        subst h2
        exact ⟨Nat.zero_le _, fun x hx => (by cases hx), hL t ks r1 ht hq⟩
    by_cases h6 : b = 123
    · subst h6
      rw [headP_m] at h
      cases hq : mp t with
      | error e => rw [hq] at h; cases h
      | ok p =>
        obtain ⟨q, r1⟩ := p
        rw [hq] at h
        injection h with h
        injection h with h2 _
        subst h2
        exact ⟨Nat.zero_le _, (hM t q r1 ht hq).1, (hM t q r1 ht hq).2⟩
    rw [headP_num h1 h2 h3 h4 h5 h6] at h
    cases hq : numP (b :: t) with
    | error e => rw [hq] at h; cases h
    | ok p =>
      obtain ⟨z, r1⟩ := p
      rw [hq] at h
      injection h with h
      injection h with h2 _
      subst h2
      exact leaf 2 z
theorem valP_txt (B : Nat) : ∀ (m : Nat) (s : List Nat) (j : J (m + 1)) (r : List Nat), s.length ≤ B → valP m s = .ok (j, r) → TxtJ B (m + 1) j
  | 0, s, j, r, hs, h => by
    have := gapL_len s
    exact headP_txt (n := 0) (lst := fun _ => .error 9) (mp := fun _ => .error 9) (by omega) (fun _ _ _ _ h => by cases h) (fun _ _ _ _ h => by cases h) h
  | m + 1, s, j, r, hs, h => by
    have := gapL_len s
    have hl : ∀ s k r, valP m s = .ok (k, r) → r.length < s.length := fun s k r e => (valP_is m s k r e).2
    have hk : ∀ s k r, s.length ≤ B → valP m s = .ok (k, r) → TxtJ B (m + 1) k := fun s k r hs e => valP_txt B m s k r hs e
    exact headP_txt (n := m + 1) (lst := listP (valP m)) (mp := mapP (valP m)) (by omega) (fun t ks r ht e => listP_txt (valP_gap m) hk hl ht e) (fun t p r ht e => mapP_txt hk hl ht e) h
theorem readL_txt {B : Nat} {s : List Nat} {j : J 7} (hs : s.length ≤ B) (h : readL s = .ok j) : TxtJ B 7 j := by
  unfold readL at h
  cases hx : valP 6 s with
  | error e => rw [hx] at h; cases h
  | ok p =>
    obtain ⟨j0, r0⟩ := p
    rw [hx] at h
    dsimp only at h
    split at h
    · injection h with h; subst h; exact valP_txt B 6 s j0 r0 hs hx
    · cases h
end Go.Proofs.YtljgnpneeecafaaDoor
set_option linter.unusedVariables false
set_option linter.unusedSimpArgs false
namespace Go.Proofs.YtljgnpneeecafaaDoor
theorem letters_dig {l : List Nat} (h : lettersB l = true) : Dig l := dig_lt fun x hx => by
  unfold lettersB at h
  have := List.all_eq_true.1 h x hx
  have := of_decide_eq_true this
  omega
theorem accW_dig {f : Nat → List Nat} : ∀ k, (∀ i, i < k → Dig (f i)) → Dig (accW f k)
  | 0, _ => dig_lt (fun x hx => by cases hx)
  | k + 1, h => by
    show Dig (accW f k ++ (if k = 0 then [] else [44]) ++ f k)
    refine ((accW_dig k (fun i hi => h i (by omega))).app ?_).app (h k (by omega))
    split
    · exact dig_lt (fun x hx => by cases hx)
    · exact dig_lt (by simp)
theorem writeJ_dig : ∀ (n d : Nat) (j : J n), IsJ n d j → Dig (writeJ n j)
  | 0, _, _, h => absurd h (fun h => h)
  | n + 1, d, j, h => by
    obtain ⟨_, _, _, _, _, _, h7⟩ := h
    have hk : JN.kind j ≠ 2 → JN.kind j ≠ 1 → ∀ i, i < (JN.kids j).length → Dig (((JN.kids j).map (writeJ n)).getD i []) := fun a b i hi => by
      have hm := (h7 a b).2.2.2 ((JN.kids j)[i]) (List.getElem_mem hi)
      have e : ((JN.kids j).map (writeJ n)).getD i [] = writeJ n ((JN.kids j)[i]) := by simp [hi]
      rw [e]
      exact writeJ_dig n (d - 1) _ hm
    unfold writeJ
    split
    · split <;> exact dig_lt (by simp)
    · split
      · exact digT_dig _
      · split
        · rename_i h1 h2 h3
          exact quoT_dig (letters_dig (h7 h2 h1).2.2.1.1)
        · split
          · rename_i h1 h2 h3 h4
            exact Dig.app (a := [91]) (dig_lt (by simp)) ((accW_dig _ (hk h2 h1)).app (dig_lt (by simp)))
          · split
            · rename_i h1 h2 h3 h4 h5
              refine Dig.app (a := [123]) (dig_lt (by simp)) ((accW_dig _ (fun i hi => ?_)).app (dig_lt (by simp)))
              have hl := (h7 h2 h1).2.1 h5
              refine Dig.app (Dig.app (quoT_dig (letters_dig ((h7 h2 h1).2.2.1.2 i (by omega)).1)) (dig_lt (by simp))) (hk h2 h1 i hi)
            · exact dig_lt (by simp)
end Go.Proofs.YtljgnpneeecafaaDoor
set_option linter.unusedVariables false
set_option linter.unusedSimpArgs false
namespace Go.Proofs.YtljgnpneeecafaaDoor
open Go.RowKit Go.Sort Go.BigFrame
set_option maxRecDepth 100000
set_option maxHeartbeats 4000000
theorem tmodK (m : Int) (h : 0 ≤ m) : ∃ K : Nat, Int.tmod m 21 = (K : Int) ∧ K < 21 := ⟨(Int.tmod m 21).toNat, by have := Int.tmod_nonneg 21 h; omega, by have := Int.tmod_lt_of_pos m (b := 21) (by decide); have := Int.tmod_nonneg 21 h; omega⟩
theorem tmod4 (j : Nat) : Int.tmod (j : Int) 4 = ((j % 4 : Nat) : Int) := by
  rw [Int.tmod_eq_emod_of_nonneg (by omega)]
  rfl
theorem Str.cut300 {s : ByteArray} {bs : List Nat} (h : Str s bs) (h5 : 300 ≤ s.size) : Str (s.extract 0 300) (bs.take 300) := by
  have hsz := h.size
  refine ⟨by simp; omega, fun i hi => ?_, dig_lt (fun x hx => mem_of_dig h.dig x (List.mem_of_mem_take hx))⟩
  have hi2 : i < 300 := by simp at hi; omega
  have h1 := h.at' i (by omega)
  rw [ByteArray.getElem_extract]
  simp only [Nat.zero_add]
  rw [h1]
  simp [show i < bs.length by omega, hi2]
theorem jsonBlanksA (W : World) (hT : Tab W) {s : ByteArray} {bs : List Nat} (hs : Str s bs) {n : Int} (h1 : -9223372036854775808 ≤ n) (h2 : n ≤ 9223372036854775807) (hc : bs.length ≤ 300) (hn : 0 ≤ n) : Ret 5 #[.string s, .int .i64 n] W (Is (.bool true)) := by
  have hsz := hs.size
  have hs' : Str s bs := hs
  have hlen : bs.length ≤ 300 := by exact hc
  have hcut : ¬ (300 : Int) < (s.size : Int) := by omega
  
  
  have hneg : ¬ n < 0 := by omega
  obtain ⟨K, hK, hK21⟩ := tmodK (n) (by omega)
  have h4 := tmod4
  have HT : Hid (Tab W) := hT
  obtain ⟨l, hl⟩ : ∃ l, l = bs := ⟨_, rfl⟩
  rw [← hl] at hs' hlen
  have HS : Hid (Str s l) := hs'
  have HH4 : Hid _ := h4
  clear hT hs hs' hl hsz h4 
  unfold Ret
  go_enter Tryd.func5, Tryd.ntmps5
  go_wp2_with fail
  go_loopw [5, 6, 7] (fun gv i kv wr => ∃ j : Nat, j ≤ K ∧ i = .int .i64 j ∧ gv = .string (strOf (gapB j)) ∧ wr = W) (fun gv i kv _ => K - (intOf i).toNat)
  case atStart => exact ⟨0, by omega, rfl, rfl, rfl⟩
  case round =>
    obtain ⟨j, hj, rfl, rfl, rfl⟩ := hrel
    by_cases hjK : j < K
    · have hlt : (j : Int) < (K : Int) := by omega
      have h4 := HH4.out j
      obtain ⟨G, hG⟩ : ∃ G, G = strOf (gapB j) := ⟨_, rfl⟩
      rw [← hG]
      have hGs : ¬ 9223372036854775807 < G.size + 1 := by rw [hG, strOf_size, gapB_len]; omega
      have HG : Hid (G = strOf (gapB j)) := hG
      clear hG
      rcases (by omega : j % 4 = 0 ∨ j % 4 = 1 ∨ j % 4 = 2 ∨ j % 4 = 3) with h | h | h | h
      all_goals rw [h] at h4
      all_goals have HM : Hid _ := h
      all_goals clear h
      · have h4 : Int.tmod (j : Int) 4 = 0 := h4
        have hb := blk0
        go_wp2
        exact ⟨⟨j + 1, by omega, by go_num, by rw [HG.out]; exact congrArg Value.string (gap_step j 32 (by rw [HM.out]; rfl) (by decide) (str_lit (bs := [32]) (by decide))), trivial⟩, by simp [intOf]; omega⟩
      · have h4 : Int.tmod (j : Int) 4 = 1 := h4
        have hb := blk1
        go_wp2
        exact ⟨⟨j + 1, by omega, by go_num, by rw [HG.out]; exact congrArg Value.string (gap_step j 9 (by rw [HM.out]; rfl) (by decide) (str_lit (bs := [9]) (by decide))), trivial⟩, by simp [intOf]; omega⟩
      · have h4 : Int.tmod (j : Int) 4 = 2 := h4
        have hb := blk2
        go_wp2
        exact ⟨⟨j + 1, by omega, by go_num, by rw [HG.out]; exact congrArg Value.string (gap_step j 10 (by rw [HM.out]; rfl) (by decide) (str_lit (bs := [10]) (by decide))), trivial⟩, by simp [intOf]; omega⟩
      · have h4 : Int.tmod (j : Int) 4 = 3 := h4
        have hb := blk3
        go_wp2
        exact ⟨⟨j + 1, by omega, by go_num, by rw [HG.out]; exact congrArg Value.string (gap_step j 13 (by rw [HM.out]; rfl) (by decide) (str_lit (bs := [13]) (by decide))), trivial⟩, by simp [intOf]; omega⟩
    · obtain rfl : j = K := by omega
      have hlt : ¬ (j : Int) < (j : Int) := by omega
      have hr1 := readP wr HS.out
      obtain ⟨G, hG⟩ : ∃ G, G = strOf (gapB j) := ⟨_, rfl⟩
      rw [← hG]
      have HG : Hid (G = strOf (gapB j)) := hG
      have hGj : G.size = j := by rw [hG, strOf_size, gapB_len]
      have hSl : (s).size = l.length := HS.out.size
      have hG1 : ¬ 9223372036854775807 < G.size + (s).size := by omega
      have hG2 : ¬ 9223372036854775807 < G.size + (s).size + G.size := by omega
      have HR2 : Hid (Str (G ++ (s) ++ G) (gapB j ++ l ++ gapB j)) := by show Str _ _; rw [hG]; exact ((str_strOf (gapB_dig j)).app HS.out).app (str_strOf (gapB_dig j))
      have HLN : Hid ((gapB j ++ l ++ gapB j).length ≤ 2000) := by show _ ≤ _; simp only [List.length_append, gapB_len]; omega
      have HRB : Hid (readL (gapB j ++ l ++ gapB j) = readL l) := readL_blanks (gapB_blk j) (gapB_blk j) l
      clear hG hGj hSl
      go_wp2_with fail
      refine hr1.mono ?_
      rintro e w1 hrd
      obtain ⟨cs, rfl, h5, hone, hB1, hJ1⟩ := hrd.tree (by omega)
      obtain ⟨d0, d1, d2, d3, d4, rfl⟩ := arr5 h5
      have hN := heap_alloc_new w1 (.cells zero5 25)
      unfold zero5 at hN
      clear hr1 hrd h5
      go_wp2_with (refine wpList_store_row rfl 25 (.tmp 8) (.tmp 40) rfl w1.heap.size #[d0, d1, d2, d3, d4] rfl rfl 25 _ hN size25 rfl hone ?_; refine Hid.out ?_)
      obtain ⟨w2, hw2⟩ : ∃ w2, w2 = (w1.alloc (.cells #[.int .i64 0, .int .i64 0, .string ⟨#[]⟩, .slice none 0 0, .slice none 0 0] 25)).setRow w1.heap.size #[d0, d1, d2, d3, d4] := ⟨_, rfl⟩
      rw [← hw2]
      refine Lib.hid ?_
      have hB2 : Below w1.heap.size w1 w2 := by rw [hw2]; exact (below1 _ _).trans ⟨rfl, rfl, rfl, by simp, fun b hb => setRow_other _ _ _ _ (by omega)⟩
      have hX2 : w2.heap[w1.heap.size]? = some (.cells #[d0, d1, d2, d3, d4] 25 (0, 0)) := by rw [hw2]; exact setRow_heap _ _ _ _ _ _ hN
      have hs1 := hB1.size
      have hs2 := hB2.size
      have hBw2 : Below wr.heap.size wr w2 := hB1.trans (hB2.mono hs1)
      have hJ2 := hJ1.stb hB2
      have hr2 := readP w2 HR2.out
      have HB2 : Hid (Below wr.heap.size wr w2) := hBw2
      have HJ2 : Hid (JM (fun b => wr.heap.size ≤ b) 7 (treeL (readL l)) [d0, d1, d2, d3, d4] w2) := hJ2
      have HX2 : Hid (w2.heap[w1.heap.size]? = some (.cells #[d0, d1, d2, d3, d4] 25 (0, 0))) := hX2
      clear hw2 hN hB1 hB2 hJ1 hJ2 hX2 hBw2
      go_wp2_with fail
      refine Calls.mono hr2 ?_
      rintro e w3 hrd
      have htr := hrd.tree HLN.out
      rw [HRB.out] at htr
      obtain ⟨cs, rfl, h5, hone2, hB3, hJ3⟩ := htr
      obtain ⟨e0, e1, e2, e3, e4, rfl⟩ := arr5 h5
      have hN := heap_alloc_new w3 (.cells zero5 25)
      unfold zero5 at hN
      clear hr2 hrd h5 hG1 hG2
      go_wp2_with (refine wpList_store_row rfl 25 (.tmp 10) (.tmp 49) rfl w3.heap.size #[e0, e1, e2, e3, e4] rfl rfl 25 _ hN size25 rfl hone2 ?_; refine Hid.out ?_)
      obtain ⟨w4, hw4⟩ : ∃ w4, w4 = (w3.alloc (.cells #[.int .i64 0, .int .i64 0, .string ⟨#[]⟩, .slice none 0 0, .slice none 0 0] 25)).setRow w3.heap.size #[e0, e1, e2, e3, e4] := ⟨_, rfl⟩
      rw [← hw4]
      refine Lib.hid ?_
      have hB4 : Below w3.heap.size w3 w4 := by rw [hw4]; exact (below1 _ _).trans ⟨rfl, rfl, rfl, by simp, fun b hb => setRow_other _ _ _ _ (by omega)⟩
      have hY4 : w4.heap[w3.heap.size]? = some (.cells #[e0, e1, e2, e3, e4] 25 (0, 0)) := by rw [hw4]; exact setRow_heap _ _ _ _ _ _ hN
      have hs3 := hB3.size
      have hs4 := hB4.size
      have hB24 : Below w2.heap.size w2 w4 := hB3.trans (hB4.mono hs3)
      have hX4 := block_below hB24 (lt_of_heap HX2.out) HX2.out
      have hjA : JV (treeL (readL l)) (.agg #[d0, d1, d2, d3, d4]) w4 := ⟨_, rfl, rfl, JM.jc _ _ _ _ (HJ2.out.stb hB24)⟩
      have hjB : JV (treeL (readL l)) (.agg #[e0, e1, e2, e3, e4]) w4 := ⟨_, rfl, rfl, JM.jc _ _ _ _ (hJ3.stb hB4)⟩
      have hsm := sameJ 7 _ _ _ _ w4 (treeL_full l) (treeL_full l) hjA hjB
      have x0 : w4.cell? ⟨w1.heap.size, 0, none⟩ = some d0 := (cell_of_row _ _ _ _ _ _ hX4).trans rfl
      have x1 : w4.cell? ⟨w1.heap.size, 1, none⟩ = some d1 := (cell_of_row _ _ _ _ _ _ hX4).trans rfl
      have x2 : w4.cell? ⟨w1.heap.size, 2, none⟩ = some d2 := (cell_of_row _ _ _ _ _ _ hX4).trans rfl
      have x3 : w4.cell? ⟨w1.heap.size, 3, none⟩ = some d3 := (cell_of_row _ _ _ _ _ _ hX4).trans rfl
      have x4 : w4.cell? ⟨w1.heap.size, 4, none⟩ = some d4 := (cell_of_row _ _ _ _ _ _ hX4).trans rfl
      have y0 : w4.cell? ⟨w3.heap.size, 0, none⟩ = some e0 := (cell_of_row _ _ _ _ _ _ hY4).trans rfl
      have y1 : w4.cell? ⟨w3.heap.size, 1, none⟩ = some e1 := (cell_of_row _ _ _ _ _ _ hY4).trans rfl
      have y2 : w4.cell? ⟨w3.heap.size, 2, none⟩ = some e2 := (cell_of_row _ _ _ _ _ _ hY4).trans rfl
      have y3 : w4.cell? ⟨w3.heap.size, 3, none⟩ = some e3 := (cell_of_row _ _ _ _ _ _ hY4).trans rfl
      have y4 : w4.cell? ⟨w3.heap.size, 4, none⟩ = some e4 := (cell_of_row _ _ _ _ _ _ hY4).trans rfl
      have hsB := HB2.out.size
      have HB4 : Hid (Below wr.heap.size wr w4) := HB2.out.trans (hB24.mono hsB)
      obtain ⟨er, her⟩ : ∃ er, er = errL (readL l) := ⟨_, rfl⟩
      rw [← her]
      clear hw4 hN hB3 hB4 hB24 hJ3 hX4 hY4 hjA hjB her
      go_wp2_with fail
      refine Calls.mono hsm ?_
      rintro e w5 ⟨_, rfl, hB5, c, rfl, hc5⟩
      obtain rfl : c = true := hc5.2 rfl
      have hsC := HB4.out.size
      have HB5 : Hid (Below wr.heap.size wr w5) := HB4.out.trans (hB5.mono hsC)
      have hee : (er == er) = true := by simp
      clear hsm hB5 hc5 x0 x1 x2 x3 x4 y0 y1 y2 y3 y4
      go_wp2_with fail
      refine (livesP _ (HT.out.below HB5.out)).mono ?_
      rintro e w6 ⟨_, rfl, hB6, rfl⟩
      have hsD := HB5.out.size
      have HB6 : Hid (Below wr.heap.size wr w6) := HB5.out.trans (hB6.mono hsD)
      clear hB6
      go_wp2
      go_ret
      exact ⟨_, rfl, HB6.out, rfl⟩
theorem jsonBlanksB (W : World) (hT : Tab W) {s : ByteArray} {bs : List Nat} (hs : Str s bs) {n : Int} (h1 : -9223372036854775808 ≤ n) (h2 : n ≤ 9223372036854775807) (hc : bs.length ≤ 300) (hn : n < 0) : Ret 5 #[.string s, .int .i64 n] W (Is (.bool true)) := by
  have hsz := hs.size
  have hs' : Str s bs := hs
  have hlen : bs.length ≤ 300 := by exact hc
  have hcut : ¬ (300 : Int) < (s.size : Int) := by omega
  
  
  have hneg : n < 0 := by omega
  obtain ⟨K, hK, hK21⟩ := tmodK (-(n + 1)) (by omega)
  have h4 := tmod4
  have HT : Hid (Tab W) := hT
  obtain ⟨l, hl⟩ : ∃ l, l = bs := ⟨_, rfl⟩
  rw [← hl] at hs' hlen
  have HS : Hid (Str s l) := hs'
  have HH4 : Hid _ := h4
  clear hT hs hs' hl hsz h4 
  unfold Ret
  go_enter Tryd.func5, Tryd.ntmps5
  go_wp2_with fail
  go_loopw [5, 6, 7] (fun gv i kv wr => ∃ j : Nat, j ≤ K ∧ i = .int .i64 j ∧ gv = .string (strOf (gapB j)) ∧ wr = W) (fun gv i kv _ => K - (intOf i).toNat)
  case atStart => exact ⟨0, by omega, rfl, rfl, rfl⟩
  case round =>
    obtain ⟨j, hj, rfl, rfl, rfl⟩ := hrel
    by_cases hjK : j < K
    · have hlt : (j : Int) < (K : Int) := by omega
      have h4 := HH4.out j
      obtain ⟨G, hG⟩ : ∃ G, G = strOf (gapB j) := ⟨_, rfl⟩
      rw [← hG]
      have hGs : ¬ 9223372036854775807 < G.size + 1 := by rw [hG, strOf_size, gapB_len]; omega
      have HG : Hid (G = strOf (gapB j)) := hG
      clear hG
      rcases (by omega : j % 4 = 0 ∨ j % 4 = 1 ∨ j % 4 = 2 ∨ j % 4 = 3) with h | h | h | h
      all_goals rw [h] at h4
      all_goals have HM : Hid _ := h
      all_goals clear h
      · have h4 : Int.tmod (j : Int) 4 = 0 := h4
        have hb := blk0
        go_wp2
        exact ⟨⟨j + 1, by omega, by go_num, by rw [HG.out]; exact congrArg Value.string (gap_step j 32 (by rw [HM.out]; rfl) (by decide) (str_lit (bs := [32]) (by decide))), trivial⟩, by simp [intOf]; omega⟩
      · have h4 : Int.tmod (j : Int) 4 = 1 := h4
        have hb := blk1
        go_wp2
        exact ⟨⟨j + 1, by omega, by go_num, by rw [HG.out]; exact congrArg Value.string (gap_step j 9 (by rw [HM.out]; rfl) (by decide) (str_lit (bs := [9]) (by decide))), trivial⟩, by simp [intOf]; omega⟩
      · have h4 : Int.tmod (j : Int) 4 = 2 := h4
        have hb := blk2
        go_wp2
        exact ⟨⟨j + 1, by omega, by go_num, by rw [HG.out]; exact congrArg Value.string (gap_step j 10 (by rw [HM.out]; rfl) (by decide) (str_lit (bs := [10]) (by decide))), trivial⟩, by simp [intOf]; omega⟩
      · have h4 : Int.tmod (j : Int) 4 = 3 := h4
        have hb := blk3
        go_wp2
        exact ⟨⟨j + 1, by omega, by go_num, by rw [HG.out]; exact congrArg Value.string (gap_step j 13 (by rw [HM.out]; rfl) (by decide) (str_lit (bs := [13]) (by decide))), trivial⟩, by simp [intOf]; omega⟩
    · obtain rfl : j = K := by omega
      have hlt : ¬ (j : Int) < (j : Int) := by omega
      have hr1 := readP wr HS.out
      obtain ⟨G, hG⟩ : ∃ G, G = strOf (gapB j) := ⟨_, rfl⟩
      rw [← hG]
      have HG : Hid (G = strOf (gapB j)) := hG
      have hGj : G.size = j := by rw [hG, strOf_size, gapB_len]
      have hSl : (s).size = l.length := HS.out.size
      have hG1 : ¬ 9223372036854775807 < G.size + (s).size := by omega
      have hG2 : ¬ 9223372036854775807 < G.size + (s).size + G.size := by omega
      have HR2 : Hid (Str (G ++ (s) ++ G) (gapB j ++ l ++ gapB j)) := by show Str _ _; rw [hG]; exact ((str_strOf (gapB_dig j)).app HS.out).app (str_strOf (gapB_dig j))
      have HLN : Hid ((gapB j ++ l ++ gapB j).length ≤ 2000) := by show _ ≤ _; simp only [List.length_append, gapB_len]; omega
      have HRB : Hid (readL (gapB j ++ l ++ gapB j) = readL l) := readL_blanks (gapB_blk j) (gapB_blk j) l
      clear hG hGj hSl
      go_wp2_with fail
      refine hr1.mono ?_
      rintro e w1 hrd
      obtain ⟨cs, rfl, h5, hone, hB1, hJ1⟩ := hrd.tree (by omega)
      obtain ⟨d0, d1, d2, d3, d4, rfl⟩ := arr5 h5
      have hN := heap_alloc_new w1 (.cells zero5 25)
      unfold zero5 at hN
      clear hr1 hrd h5
      go_wp2_with (refine wpList_store_row rfl 25 (.tmp 8) (.tmp 40) rfl w1.heap.size #[d0, d1, d2, d3, d4] rfl rfl 25 _ hN size25 rfl hone ?_; refine Hid.out ?_)
      obtain ⟨w2, hw2⟩ : ∃ w2, w2 = (w1.alloc (.cells #[.int .i64 0, .int .i64 0, .string ⟨#[]⟩, .slice none 0 0, .slice none 0 0] 25)).setRow w1.heap.size #[d0, d1, d2, d3, d4] := ⟨_, rfl⟩
      rw [← hw2]
      refine Lib.hid ?_
      have hB2 : Below w1.heap.size w1 w2 := by rw [hw2]; exact (below1 _ _).trans ⟨rfl, rfl, rfl, by simp, fun b hb => setRow_other _ _ _ _ (by omega)⟩
      have hX2 : w2.heap[w1.heap.size]? = some (.cells #[d0, d1, d2, d3, d4] 25 (0, 0)) := by rw [hw2]; exact setRow_heap _ _ _ _ _ _ hN
      have hs1 := hB1.size
      have hs2 := hB2.size
      have hBw2 : Below wr.heap.size wr w2 := hB1.trans (hB2.mono hs1)
      have hJ2 := hJ1.stb hB2
      have hr2 := readP w2 HR2.out
      have HB2 : Hid (Below wr.heap.size wr w2) := hBw2
      have HJ2 : Hid (JM (fun b => wr.heap.size ≤ b) 7 (treeL (readL l)) [d0, d1, d2, d3, d4] w2) := hJ2
      have HX2 : Hid (w2.heap[w1.heap.size]? = some (.cells #[d0, d1, d2, d3, d4] 25 (0, 0))) := hX2
      clear hw2 hN hB1 hB2 hJ1 hJ2 hX2 hBw2
      go_wp2_with fail
      refine Calls.mono hr2 ?_
      rintro e w3 hrd
      have htr := hrd.tree HLN.out
      rw [HRB.out] at htr
      obtain ⟨cs, rfl, h5, hone2, hB3, hJ3⟩ := htr
      obtain ⟨e0, e1, e2, e3, e4, rfl⟩ := arr5 h5
      have hN := heap_alloc_new w3 (.cells zero5 25)
      unfold zero5 at hN
      clear hr2 hrd h5 hG1 hG2
      go_wp2_with (refine wpList_store_row rfl 25 (.tmp 10) (.tmp 49) rfl w3.heap.size #[e0, e1, e2, e3, e4] rfl rfl 25 _ hN size25 rfl hone2 ?_; refine Hid.out ?_)
      obtain ⟨w4, hw4⟩ : ∃ w4, w4 = (w3.alloc (.cells #[.int .i64 0, .int .i64 0, .string ⟨#[]⟩, .slice none 0 0, .slice none 0 0] 25)).setRow w3.heap.size #[e0, e1, e2, e3, e4] := ⟨_, rfl⟩
      rw [← hw4]
      refine Lib.hid ?_
      have hB4 : Below w3.heap.size w3 w4 := by rw [hw4]; exact (below1 _ _).trans ⟨rfl, rfl, rfl, by simp, fun b hb => setRow_other _ _ _ _ (by omega)⟩
      have hY4 : w4.heap[w3.heap.size]? = some (.cells #[e0, e1, e2, e3, e4] 25 (0, 0)) := by rw [hw4]; exact setRow_heap _ _ _ _ _ _ hN
      have hs3 := hB3.size
      have hs4 := hB4.size
      have hB24 : Below w2.heap.size w2 w4 := hB3.trans (hB4.mono hs3)
      have hX4 := block_below hB24 (lt_of_heap HX2.out) HX2.out
      have hjA : JV (treeL (readL l)) (.agg #[d0, d1, d2, d3, d4]) w4 := ⟨_, rfl, rfl, JM.jc _ _ _ _ (HJ2.out.stb hB24)⟩
      have hjB : JV (treeL (readL l)) (.agg #[e0, e1, e2, e3, e4]) w4 := ⟨_, rfl, rfl, JM.jc _ _ _ _ (hJ3.stb hB4)⟩
      have hsm := sameJ 7 _ _ _ _ w4 (treeL_full l) (treeL_full l) hjA hjB
      have x0 : w4.cell? ⟨w1.heap.size, 0, none⟩ = some d0 := (cell_of_row _ _ _ _ _ _ hX4).trans rfl
      have x1 : w4.cell? ⟨w1.heap.size, 1, none⟩ = some d1 := (cell_of_row _ _ _ _ _ _ hX4).trans rfl
      have x2 : w4.cell? ⟨w1.heap.size, 2, none⟩ = some d2 := (cell_of_row _ _ _ _ _ _ hX4).trans rfl
      have x3 : w4.cell? ⟨w1.heap.size, 3, none⟩ = some d3 := (cell_of_row _ _ _ _ _ _ hX4).trans rfl
      have x4 : w4.cell? ⟨w1.heap.size, 4, none⟩ = some d4 := (cell_of_row _ _ _ _ _ _ hX4).trans rfl
      have y0 : w4.cell? ⟨w3.heap.size, 0, none⟩ = some e0 := (cell_of_row _ _ _ _ _ _ hY4).trans rfl
      have y1 : w4.cell? ⟨w3.heap.size, 1, none⟩ = some e1 := (cell_of_row _ _ _ _ _ _ hY4).trans rfl
      have y2 : w4.cell? ⟨w3.heap.size, 2, none⟩ = some e2 := (cell_of_row _ _ _ _ _ _ hY4).trans rfl
      have y3 : w4.cell? ⟨w3.heap.size, 3, none⟩ = some e3 := (cell_of_row _ _ _ _ _ _ hY4).trans rfl
      have y4 : w4.cell? ⟨w3.heap.size, 4, none⟩ = some e4 := (cell_of_row _ _ _ _ _ _ hY4).trans rfl
      have hsB := HB2.out.size
      have HB4 : Hid (Below wr.heap.size wr w4) := HB2.out.trans (hB24.mono hsB)
      obtain ⟨er, her⟩ : ∃ er, er = errL (readL l) := ⟨_, rfl⟩
      rw [← her]
      clear hw4 hN hB3 hB4 hB24 hJ3 hX4 hY4 hjA hjB her
      go_wp2_with fail
      refine Calls.mono hsm ?_
      rintro e w5 ⟨_, rfl, hB5, c, rfl, hc5⟩
      obtain rfl : c = true := hc5.2 rfl
      have hsC := HB4.out.size
      have HB5 : Hid (Below wr.heap.size wr w5) := HB4.out.trans (hB5.mono hsC)
      have hee : (er == er) = true := by simp
      clear hsm hB5 hc5 x0 x1 x2 x3 x4 y0 y1 y2 y3 y4
      go_wp2_with fail
      refine (livesP _ (HT.out.below HB5.out)).mono ?_
      rintro e w6 ⟨_, rfl, hB6, rfl⟩
      have hsD := HB5.out.size
      have HB6 : Hid (Below wr.heap.size wr w6) := HB5.out.trans (hB6.mono hsD)
      clear hB6
      go_wp2
      go_ret
      exact ⟨_, rfl, HB6.out, rfl⟩
theorem jsonBlanksC (W : World) (hT : Tab W) {s : ByteArray} {bs : List Nat} (hs : Str s bs) {n : Int} (h1 : -9223372036854775808 ≤ n) (h2 : n ≤ 9223372036854775807) (hc : 300 < bs.length) (hn : 0 ≤ n) : Ret 5 #[.string s, .int .i64 n] W (Is (.bool true)) := by
  have hsz := hs.size
  obtain ⟨S, hSd⟩ : ∃ S, S = s.extract 0 300 := ⟨_, rfl⟩
  have hs' : Str S (bs.take 300) := by rw [hSd]; exact hs.cut300 (by omega)
  have hlen : (bs.take 300).length ≤ 300 := by simp; omega
  have hcut : (300 : Int) < (s.size : Int) := by omega
  have hct2 := fun (w : World) => cut300 (s := s) (by omega) w
  rw [← hSd] at hct2
  have hneg : ¬ n < 0 := by omega
  obtain ⟨K, hK, hK21⟩ := tmodK (n) (by omega)
  have h4 := tmod4
  have HT : Hid (Tab W) := hT
  obtain ⟨l, hl⟩ : ∃ l, l = (bs.take 300) := ⟨_, rfl⟩
  rw [← hl] at hs' hlen
  have HS : Hid (Str S l) := hs'
  have HH4 : Hid _ := h4
  clear hT hs hs' hl hsz h4 hSd
  unfold Ret
  go_enter Tryd.func5, Tryd.ntmps5
  go_wp2_with fail
  go_loopw [5, 6, 7] (fun gv i kv wr => ∃ j : Nat, j ≤ K ∧ i = .int .i64 j ∧ gv = .string (strOf (gapB j)) ∧ wr = W) (fun gv i kv _ => K - (intOf i).toNat)
  case atStart => exact ⟨0, by omega, rfl, rfl, rfl⟩
  case round =>
    obtain ⟨j, hj, rfl, rfl, rfl⟩ := hrel
    by_cases hjK : j < K
    · have hlt : (j : Int) < (K : Int) := by omega
      have h4 := HH4.out j
      obtain ⟨G, hG⟩ : ∃ G, G = strOf (gapB j) := ⟨_, rfl⟩
      rw [← hG]
      have hGs : ¬ 9223372036854775807 < G.size + 1 := by rw [hG, strOf_size, gapB_len]; omega
      have HG : Hid (G = strOf (gapB j)) := hG
      clear hG
      rcases (by omega : j % 4 = 0 ∨ j % 4 = 1 ∨ j % 4 = 2 ∨ j % 4 = 3) with h | h | h | h
      all_goals rw [h] at h4
      all_goals have HM : Hid _ := h
      all_goals clear h
      · have h4 : Int.tmod (j : Int) 4 = 0 := h4
        have hb := blk0
        go_wp2
        exact ⟨⟨j + 1, by omega, by go_num, by rw [HG.out]; exact congrArg Value.string (gap_step j 32 (by rw [HM.out]; rfl) (by decide) (str_lit (bs := [32]) (by decide))), trivial⟩, by simp [intOf]; omega⟩
      · have h4 : Int.tmod (j : Int) 4 = 1 := h4
        have hb := blk1
        go_wp2
        exact ⟨⟨j + 1, by omega, by go_num, by rw [HG.out]; exact congrArg Value.string (gap_step j 9 (by rw [HM.out]; rfl) (by decide) (str_lit (bs := [9]) (by decide))), trivial⟩, by simp [intOf]; omega⟩
      · have h4 : Int.tmod (j : Int) 4 = 2 := h4
        have hb := blk2
        go_wp2
        exact ⟨⟨j + 1, by omega, by go_num, by rw [HG.out]; exact congrArg Value.string (gap_step j 10 (by rw [HM.out]; rfl) (by decide) (str_lit (bs := [10]) (by decide))), trivial⟩, by simp [intOf]; omega⟩
      · have h4 : Int.tmod (j : Int) 4 = 3 := h4
        have hb := blk3
        go_wp2
        exact ⟨⟨j + 1, by omega, by go_num, by rw [HG.out]; exact congrArg Value.string (gap_step j 13 (by rw [HM.out]; rfl) (by decide) (str_lit (bs := [13]) (by decide))), trivial⟩, by simp [intOf]; omega⟩
    · obtain rfl : j = K := by omega
      have hlt : ¬ (j : Int) < (j : Int) := by omega
      have hr1 := readP wr HS.out
      obtain ⟨G, hG⟩ : ∃ G, G = strOf (gapB j) := ⟨_, rfl⟩
      rw [← hG]
      have HG : Hid (G = strOf (gapB j)) := hG
      have hGj : G.size = j := by rw [hG, strOf_size, gapB_len]
      have hSl : (S).size = l.length := HS.out.size
      have hG1 : ¬ 9223372036854775807 < G.size + (S).size := by omega
      have hG2 : ¬ 9223372036854775807 < G.size + (S).size + G.size := by omega
      have HR2 : Hid (Str (G ++ (S) ++ G) (gapB j ++ l ++ gapB j)) := by show Str _ _; rw [hG]; exact ((str_strOf (gapB_dig j)).app HS.out).app (str_strOf (gapB_dig j))
      have HLN : Hid ((gapB j ++ l ++ gapB j).length ≤ 2000) := by show _ ≤ _; simp only [List.length_append, gapB_len]; omega
      have HRB : Hid (readL (gapB j ++ l ++ gapB j) = readL l) := readL_blanks (gapB_blk j) (gapB_blk j) l
      clear hG hGj hSl
      go_wp2_with fail
      refine hr1.mono ?_
      rintro e w1 hrd
      obtain ⟨cs, rfl, h5, hone, hB1, hJ1⟩ := hrd.tree (by omega)
      obtain ⟨d0, d1, d2, d3, d4, rfl⟩ := arr5 h5
      have hN := heap_alloc_new w1 (.cells zero5 25)
      unfold zero5 at hN
      clear hr1 hrd h5
      go_wp2_with (refine wpList_store_row rfl 25 (.tmp 8) (.tmp 40) rfl w1.heap.size #[d0, d1, d2, d3, d4] rfl rfl 25 _ hN size25 rfl hone ?_; refine Hid.out ?_)
      obtain ⟨w2, hw2⟩ : ∃ w2, w2 = (w1.alloc (.cells #[.int .i64 0, .int .i64 0, .string ⟨#[]⟩, .slice none 0 0, .slice none 0 0] 25)).setRow w1.heap.size #[d0, d1, d2, d3, d4] := ⟨_, rfl⟩
      rw [← hw2]
      refine Lib.hid ?_
      have hB2 : Below w1.heap.size w1 w2 := by rw [hw2]; exact (below1 _ _).trans ⟨rfl, rfl, rfl, by simp, fun b hb => setRow_other _ _ _ _ (by omega)⟩
      have hX2 : w2.heap[w1.heap.size]? = some (.cells #[d0, d1, d2, d3, d4] 25 (0, 0)) := by rw [hw2]; exact setRow_heap _ _ _ _ _ _ hN
      have hs1 := hB1.size
      have hs2 := hB2.size
      have hBw2 : Below wr.heap.size wr w2 := hB1.trans (hB2.mono hs1)
      have hJ2 := hJ1.stb hB2
      have hr2 := readP w2 HR2.out
      have HB2 : Hid (Below wr.heap.size wr w2) := hBw2
      have HJ2 : Hid (JM (fun b => wr.heap.size ≤ b) 7 (treeL (readL l)) [d0, d1, d2, d3, d4] w2) := hJ2
      have HX2 : Hid (w2.heap[w1.heap.size]? = some (.cells #[d0, d1, d2, d3, d4] 25 (0, 0))) := hX2
      clear hw2 hN hB1 hB2 hJ1 hJ2 hX2 hBw2
      go_wp2_with fail
      refine Calls.mono hr2 ?_
      rintro e w3 hrd
      have htr := hrd.tree HLN.out
      rw [HRB.out] at htr
      obtain ⟨cs, rfl, h5, hone2, hB3, hJ3⟩ := htr
      obtain ⟨e0, e1, e2, e3, e4, rfl⟩ := arr5 h5
      have hN := heap_alloc_new w3 (.cells zero5 25)
      unfold zero5 at hN
      clear hr2 hrd h5 hG1 hG2
      go_wp2_with (refine wpList_store_row rfl 25 (.tmp 10) (.tmp 49) rfl w3.heap.size #[e0, e1, e2, e3, e4] rfl rfl 25 _ hN size25 rfl hone2 ?_; refine Hid.out ?_)
      obtain ⟨w4, hw4⟩ : ∃ w4, w4 = (w3.alloc (.cells #[.int .i64 0, .int .i64 0, .string ⟨#[]⟩, .slice none 0 0, .slice none 0 0] 25)).setRow w3.heap.size #[e0, e1, e2, e3, e4] := ⟨_, rfl⟩
      rw [← hw4]
      refine Lib.hid ?_
      have hB4 : Below w3.heap.size w3 w4 := by rw [hw4]; exact (below1 _ _).trans ⟨rfl, rfl, rfl, by simp, fun b hb => setRow_other _ _ _ _ (by omega)⟩
      have hY4 : w4.heap[w3.heap.size]? = some (.cells #[e0, e1, e2, e3, e4] 25 (0, 0)) := by rw [hw4]; exact setRow_heap _ _ _ _ _ _ hN
      have hs3 := hB3.size
      have hs4 := hB4.size
      have hB24 : Below w2.heap.size w2 w4 := hB3.trans (hB4.mono hs3)
      have hX4 := block_below hB24 (lt_of_heap HX2.out) HX2.out
      have hjA : JV (treeL (readL l)) (.agg #[d0, d1, d2, d3, d4]) w4 := ⟨_, rfl, rfl, JM.jc _ _ _ _ (HJ2.out.stb hB24)⟩
      have hjB : JV (treeL (readL l)) (.agg #[e0, e1, e2, e3, e4]) w4 := ⟨_, rfl, rfl, JM.jc _ _ _ _ (hJ3.stb hB4)⟩
      have hsm := sameJ 7 _ _ _ _ w4 (treeL_full l) (treeL_full l) hjA hjB
      have x0 : w4.cell? ⟨w1.heap.size, 0, none⟩ = some d0 := (cell_of_row _ _ _ _ _ _ hX4).trans rfl
      have x1 : w4.cell? ⟨w1.heap.size, 1, none⟩ = some d1 := (cell_of_row _ _ _ _ _ _ hX4).trans rfl
      have x2 : w4.cell? ⟨w1.heap.size, 2, none⟩ = some d2 := (cell_of_row _ _ _ _ _ _ hX4).trans rfl
      have x3 : w4.cell? ⟨w1.heap.size, 3, none⟩ = some d3 := (cell_of_row _ _ _ _ _ _ hX4).trans rfl
      have x4 : w4.cell? ⟨w1.heap.size, 4, none⟩ = some d4 := (cell_of_row _ _ _ _ _ _ hX4).trans rfl
      have y0 : w4.cell? ⟨w3.heap.size, 0, none⟩ = some e0 := (cell_of_row _ _ _ _ _ _ hY4).trans rfl
      have y1 : w4.cell? ⟨w3.heap.size, 1, none⟩ = some e1 := (cell_of_row _ _ _ _ _ _ hY4).trans rfl
      have y2 : w4.cell? ⟨w3.heap.size, 2, none⟩ = some e2 := (cell_of_row _ _ _ _ _ _ hY4).trans rfl
      have y3 : w4.cell? ⟨w3.heap.size, 3, none⟩ = some e3 := (cell_of_row _ _ _ _ _ _ hY4).trans rfl
      have y4 : w4.cell? ⟨w3.heap.size, 4, none⟩ = some e4 := (cell_of_row _ _ _ _ _ _ hY4).trans rfl
      have hsB := HB2.out.size
      have HB4 : Hid (Below wr.heap.size wr w4) := HB2.out.trans (hB24.mono hsB)
      obtain ⟨er, her⟩ : ∃ er, er = errL (readL l) := ⟨_, rfl⟩
      rw [← her]
      clear hw4 hN hB3 hB4 hB24 hJ3 hX4 hY4 hjA hjB her
      go_wp2_with fail
      refine Calls.mono hsm ?_
      rintro e w5 ⟨_, rfl, hB5, c, rfl, hc5⟩
      obtain rfl : c = true := hc5.2 rfl
      have hsC := HB4.out.size
      have HB5 : Hid (Below wr.heap.size wr w5) := HB4.out.trans (hB5.mono hsC)
      have hee : (er == er) = true := by simp
      clear hsm hB5 hc5 x0 x1 x2 x3 x4 y0 y1 y2 y3 y4
      go_wp2_with fail
      refine (livesP _ (HT.out.below HB5.out)).mono ?_
      rintro e w6 ⟨_, rfl, hB6, rfl⟩
      have hsD := HB5.out.size
      have HB6 : Hid (Below wr.heap.size wr w6) := HB5.out.trans (hB6.mono hsD)
      clear hB6
      go_wp2
      go_ret
      exact ⟨_, rfl, HB6.out, rfl⟩
theorem jsonBlanksD (W : World) (hT : Tab W) {s : ByteArray} {bs : List Nat} (hs : Str s bs) {n : Int} (h1 : -9223372036854775808 ≤ n) (h2 : n ≤ 9223372036854775807) (hc : 300 < bs.length) (hn : n < 0) : Ret 5 #[.string s, .int .i64 n] W (Is (.bool true)) := by
  have hsz := hs.size
  obtain ⟨S, hSd⟩ : ∃ S, S = s.extract 0 300 := ⟨_, rfl⟩
  have hs' : Str S (bs.take 300) := by rw [hSd]; exact hs.cut300 (by omega)
  have hlen : (bs.take 300).length ≤ 300 := by simp; omega
  have hcut : (300 : Int) < (s.size : Int) := by omega
  have hct2 := fun (w : World) => cut300 (s := s) (by omega) w
  rw [← hSd] at hct2
  have hneg : n < 0 := by omega
  obtain ⟨K, hK, hK21⟩ := tmodK (-(n + 1)) (by omega)
  have h4 := tmod4
  have HT : Hid (Tab W) := hT
  obtain ⟨l, hl⟩ : ∃ l, l = (bs.take 300) := ⟨_, rfl⟩
  rw [← hl] at hs' hlen
  have HS : Hid (Str S l) := hs'
  have HH4 : Hid _ := h4
  clear hT hs hs' hl hsz h4 hSd
  unfold Ret
  go_enter Tryd.func5, Tryd.ntmps5
  go_wp2_with fail
  go_loopw [5, 6, 7] (fun gv i kv wr => ∃ j : Nat, j ≤ K ∧ i = .int .i64 j ∧ gv = .string (strOf (gapB j)) ∧ wr = W) (fun gv i kv _ => K - (intOf i).toNat)
  case atStart => exact ⟨0, by omega, rfl, rfl, rfl⟩
  case round =>
    obtain ⟨j, hj, rfl, rfl, rfl⟩ := hrel
    by_cases hjK : j < K
    · have hlt : (j : Int) < (K : Int) := by omega
      have h4 := HH4.out j
      obtain ⟨G, hG⟩ : ∃ G, G = strOf (gapB j) := ⟨_, rfl⟩
      rw [← hG]
      have hGs : ¬ 9223372036854775807 < G.size + 1 := by rw [hG, strOf_size, gapB_len]; omega
      have HG : Hid (G = strOf (gapB j)) := hG
      clear hG
      rcases (by omega : j % 4 = 0 ∨ j % 4 = 1 ∨ j % 4 = 2 ∨ j % 4 = 3) with h | h | h | h
      all_goals rw [h] at h4
      all_goals have HM : Hid _ := h
      all_goals clear h
      · have h4 : Int.tmod (j : Int) 4 = 0 := h4
        have hb := blk0
        go_wp2
        exact ⟨⟨j + 1, by omega, by go_num, by rw [HG.out]; exact congrArg Value.string (gap_step j 32 (by rw [HM.out]; rfl) (by decide) (str_lit (bs := [32]) (by decide))), trivial⟩, by simp [intOf]; omega⟩
      · have h4 : Int.tmod (j : Int) 4 = 1 := h4
        have hb := blk1
        go_wp2
        exact ⟨⟨j + 1, by omega, by go_num, by rw [HG.out]; exact congrArg Value.string (gap_step j 9 (by rw [HM.out]; rfl) (by decide) (str_lit (bs := [9]) (by decide))), trivial⟩, by simp [intOf]; omega⟩
      · have h4 : Int.tmod (j : Int) 4 = 2 := h4
        have hb := blk2
        go_wp2
        exact ⟨⟨j + 1, by omega, by go_num, by rw [HG.out]; exact congrArg Value.string (gap_step j 10 (by rw [HM.out]; rfl) (by decide) (str_lit (bs := [10]) (by decide))), trivial⟩, by simp [intOf]; omega⟩
      · have h4 : Int.tmod (j : Int) 4 = 3 := h4
        have hb := blk3
        go_wp2
        exact ⟨⟨j + 1, by omega, by go_num, by rw [HG.out]; exact congrArg Value.string (gap_step j 13 (by rw [HM.out]; rfl) (by decide) (str_lit (bs := [13]) (by decide))), trivial⟩, by simp [intOf]; omega⟩
    · obtain rfl : j = K := by omega
      have hlt : ¬ (j : Int) < (j : Int) := by omega
      have hr1 := readP wr HS.out
      obtain ⟨G, hG⟩ : ∃ G, G = strOf (gapB j) := ⟨_, rfl⟩
      rw [← hG]
      have HG : Hid (G = strOf (gapB j)) := hG
      have hGj : G.size = j := by rw [hG, strOf_size, gapB_len]
      have hSl : (S).size = l.length := HS.out.size
      have hG1 : ¬ 9223372036854775807 < G.size + (S).size := by omega
      have hG2 : ¬ 9223372036854775807 < G.size + (S).size + G.size := by omega
      have HR2 : Hid (Str (G ++ (S) ++ G) (gapB j ++ l ++ gapB j)) := by show Str _ _; rw [hG]; exact ((str_strOf (gapB_dig j)).app HS.out).app (str_strOf (gapB_dig j))
      have HLN : Hid ((gapB j ++ l ++ gapB j).length ≤ 2000) := by show _ ≤ _; simp only [List.length_append, gapB_len]; omega
      have HRB : Hid (readL (gapB j ++ l ++ gapB j) = readL l) := readL_blanks (gapB_blk j) (gapB_blk j) l
      clear hG hGj hSl
      go_wp2_with fail
      refine hr1.mono ?_
      rintro e w1 hrd
      obtain ⟨cs, rfl, h5, hone, hB1, hJ1⟩ := hrd.tree (by omega)
      obtain ⟨d0, d1, d2, d3, d4, rfl⟩ := arr5 h5
      have hN := heap_alloc_new w1 (.cells zero5 25)
      unfold zero5 at hN
      clear hr1 hrd h5
      go_wp2_with (refine wpList_store_row rfl 25 (.tmp 8) (.tmp 40) rfl w1.heap.size #[d0, d1, d2, d3, d4] rfl rfl 25 _ hN size25 rfl hone ?_; refine Hid.out ?_)
      obtain ⟨w2, hw2⟩ : ∃ w2, w2 = (w1.alloc (.cells #[.int .i64 0, .int .i64 0, .string ⟨#[]⟩, .slice none 0 0, .slice none 0 0] 25)).setRow w1.heap.size #[d0, d1, d2, d3, d4] := ⟨_, rfl⟩
      rw [← hw2]
      refine Lib.hid ?_
      have hB2 : Below w1.heap.size w1 w2 := by rw [hw2]; exact (below1 _ _).trans ⟨rfl, rfl, rfl, by simp, fun b hb => setRow_other _ _ _ _ (by omega)⟩
      have hX2 : w2.heap[w1.heap.size]? = some (.cells #[d0, d1, d2, d3, d4] 25 (0, 0)) := by rw [hw2]; exact setRow_heap _ _ _ _ _ _ hN
      have hs1 := hB1.size
      have hs2 := hB2.size
      have hBw2 : Below wr.heap.size wr w2 := hB1.trans (hB2.mono hs1)
      have hJ2 := hJ1.stb hB2
      have hr2 := readP w2 HR2.out
      have HB2 : Hid (Below wr.heap.size wr w2) := hBw2
      have HJ2 : Hid (JM (fun b => wr.heap.size ≤ b) 7 (treeL (readL l)) [d0, d1, d2, d3, d4] w2) := hJ2
      have HX2 : Hid (w2.heap[w1.heap.size]? = some (.cells #[d0, d1, d2, d3, d4] 25 (0, 0))) := hX2
      clear hw2 hN hB1 hB2 hJ1 hJ2 hX2 hBw2
      go_wp2_with fail
      refine Calls.mono hr2 ?_
      rintro e w3 hrd
      have htr := hrd.tree HLN.out
      rw [HRB.out] at htr
      obtain ⟨cs, rfl, h5, hone2, hB3, hJ3⟩ := htr
      obtain ⟨e0, e1, e2, e3, e4, rfl⟩ := arr5 h5
      have hN := heap_alloc_new w3 (.cells zero5 25)
      unfold zero5 at hN
      clear hr2 hrd h5 hG1 hG2
      go_wp2_with (refine wpList_store_row rfl 25 (.tmp 10) (.tmp 49) rfl w3.heap.size #[e0, e1, e2, e3, e4] rfl rfl 25 _ hN size25 rfl hone2 ?_; refine Hid.out ?_)
      obtain ⟨w4, hw4⟩ : ∃ w4, w4 = (w3.alloc (.cells #[.int .i64 0, .int .i64 0, .string ⟨#[]⟩, .slice none 0 0, .slice none 0 0] 25)).setRow w3.heap.size #[e0, e1, e2, e3, e4] := ⟨_, rfl⟩
      rw [← hw4]
      refine Lib.hid ?_
      have hB4 : Below w3.heap.size w3 w4 := by rw [hw4]; exact (below1 _ _).trans ⟨rfl, rfl, rfl, by simp, fun b hb => setRow_other _ _ _ _ (by omega)⟩
      have hY4 : w4.heap[w3.heap.size]? = some (.cells #[e0, e1, e2, e3, e4] 25 (0, 0)) := by rw [hw4]; exact setRow_heap _ _ _ _ _ _ hN
      have hs3 := hB3.size
      have hs4 := hB4.size
      have hB24 : Below w2.heap.size w2 w4 := hB3.trans (hB4.mono hs3)
      have hX4 := block_below hB24 (lt_of_heap HX2.out) HX2.out
      have hjA : JV (treeL (readL l)) (.agg #[d0, d1, d2, d3, d4]) w4 := ⟨_, rfl, rfl, JM.jc _ _ _ _ (HJ2.out.stb hB24)⟩
      have hjB : JV (treeL (readL l)) (.agg #[e0, e1, e2, e3, e4]) w4 := ⟨_, rfl, rfl, JM.jc _ _ _ _ (hJ3.stb hB4)⟩
      have hsm := sameJ 7 _ _ _ _ w4 (treeL_full l) (treeL_full l) hjA hjB
      have x0 : w4.cell? ⟨w1.heap.size, 0, none⟩ = some d0 := (cell_of_row _ _ _ _ _ _ hX4).trans rfl
      have x1 : w4.cell? ⟨w1.heap.size, 1, none⟩ = some d1 := (cell_of_row _ _ _ _ _ _ hX4).trans rfl
      have x2 : w4.cell? ⟨w1.heap.size, 2, none⟩ = some d2 := (cell_of_row _ _ _ _ _ _ hX4).trans rfl
      have x3 : w4.cell? ⟨w1.heap.size, 3, none⟩ = some d3 := (cell_of_row _ _ _ _ _ _ hX4).trans rfl
      have x4 : w4.cell? ⟨w1.heap.size, 4, none⟩ = some d4 := (cell_of_row _ _ _ _ _ _ hX4).trans rfl
      have y0 : w4.cell? ⟨w3.heap.size, 0, none⟩ = some e0 := (cell_of_row _ _ _ _ _ _ hY4).trans rfl
      have y1 : w4.cell? ⟨w3.heap.size, 1, none⟩ = some e1 := (cell_of_row _ _ _ _ _ _ hY4).trans rfl
      have y2 : w4.cell? ⟨w3.heap.size, 2, none⟩ = some e2 := (cell_of_row _ _ _ _ _ _ hY4).trans rfl
      have y3 : w4.cell? ⟨w3.heap.size, 3, none⟩ = some e3 := (cell_of_row _ _ _ _ _ _ hY4).trans rfl
      have y4 : w4.cell? ⟨w3.heap.size, 4, none⟩ = some e4 := (cell_of_row _ _ _ _ _ _ hY4).trans rfl
      have hsB := HB2.out.size
      have HB4 : Hid (Below wr.heap.size wr w4) := HB2.out.trans (hB24.mono hsB)
      obtain ⟨er, her⟩ : ∃ er, er = errL (readL l) := ⟨_, rfl⟩
      rw [← her]
      clear hw4 hN hB3 hB4 hB24 hJ3 hX4 hY4 hjA hjB her
      go_wp2_with fail
      refine Calls.mono hsm ?_
      rintro e w5 ⟨_, rfl, hB5, c, rfl, hc5⟩
      obtain rfl : c = true := hc5.2 rfl
      have hsC := HB4.out.size
      have HB5 : Hid (Below wr.heap.size wr w5) := HB4.out.trans (hB5.mono hsC)
      have hee : (er == er) = true := by simp
      clear hsm hB5 hc5 x0 x1 x2 x3 x4 y0 y1 y2 y3 y4
      go_wp2_with fail
      refine (livesP _ (HT.out.below HB5.out)).mono ?_
      rintro e w6 ⟨_, rfl, hB6, rfl⟩
      have hsD := HB5.out.size
      have HB6 : Hid (Below wr.heap.size wr w6) := HB5.out.trans (hB6.mono hsD)
      clear hB6
      go_wp2
      go_ret
      exact ⟨_, rfl, HB6.out, rfl⟩
theorem jsonBlanks (W : World) (hT : Tab W) {s : ByteArray} {bs : List Nat} (hs : Str s bs) {n : Int} (h1 : -9223372036854775808 ≤ n) (h2 : n ≤ 9223372036854775807) : Ret 5 #[.string s, .int .i64 n] W (Is (.bool true)) := by
  by_cases hc : bs.length ≤ 300
  · by_cases hn : 0 ≤ n
    · exact jsonBlanksA W hT hs h1 h2 hc hn
    · exact jsonBlanksB W hT hs h1 h2 hc (by omega)
  · by_cases hn : 0 ≤ n
    · exact jsonBlanksC W hT hs h1 h2 (by omega) hn
    · exact jsonBlanksD W hT hs h1 h2 (by omega) (by omega)
end Go.Proofs.YtljgnpneeecafaaDoor
