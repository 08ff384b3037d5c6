/-
  JSON: a value is read, by its first byte. JSON: Read. JSON: the document's examples. JSON: the law JsonWrites.
-/
import Derived.Test.YtljgnpneeecafaaDoorC6
import Derived.Test.YtljgnpneeecafaaDoorC3
set_option linter.unusedVariables false
set_option linter.unusedSimpArgs false
namespace Go.Proofs.YtljgnpneeecafaaDoor
open Go.RowKit Go.Sort Go.BigFrame
set_option maxRecDepth 100000
set_option maxHeartbeats 4000000
theorem litP_ne {a c : Nat} {p t : List Nat} (h : c ≠ a) : litP (a :: p) (c :: t) = none := by
  unfold litP
  rw [if_neg]
  intro e
  simp at e
  exact h e.1
theorem litP_nil (a : Nat) (p : List Nat) : litP (a :: p) [] = none := by simp [litP]
theorem numP_bad {c : Nat} {t : List Nat} (h : c ≠ 45) (hd : isD c = false) : numP (c :: t) = .error 13 := by
  unfold numP
  split
  · rename_i h2
    injection h2 with h2
    exact absurd h2 h
  · rw [List.takeWhile_cons, hd]
    rfl
theorem headP_num {K : Type} {c : Nat} {t : List Nat} {lst : List Nat → Rd (List K)} {mp : List Nat → Rd (List (List Nat) × List K)} (h1 : c ≠ 110) (h2 : c ≠ 116) (h3 : c ≠ 102) (h4 : c ≠ 34) (h5 : c ≠ 91) (h6 : c ≠ 123) : headP (c :: t) lst mp = rdMap (fun n => (⟨2, n, [], [], []⟩ : JN K)) (numP (c :: t)) := by
  unfold headP
  rw [litP_ne h1, litP_ne h2, litP_ne h3]
  dsimp only
  split
  · rename_i e; injection e with e; exact absurd e h4
  · rename_i e; injection e with e; exact absurd e h5
  · rename_i e; injection e with e; exact absurd e h6
  · rfl
theorem headP_nil {K : Type} {lst : List Nat → Rd (List K)} {mp : List Nat → Rd (List (List Nat) × List K)} : headP [] lst mp = .error 13 := by
  unfold headP
  rw [litP_nil, litP_nil, litP_nil]
  rfl
theorem headP_n {K : Type} {t : List Nat} {lst : List Nat → Rd (List K)} {mp : List Nat → Rd (List (List Nat) × List K)} : headP (110 :: t) lst mp = (match litP [110, 117, 108, 108] (110 :: t) with | some r => .ok ((⟨0, 0, [], [], []⟩ : JN K), r) | none => .error 13) := by
  unfold headP
  cases litP [110, 117, 108, 108] (110 :: t) with
  | some r => rfl
  | none =>
    dsimp only
    rw [litP_ne (a := 116) (by decide), litP_ne (a := 102) (by decide)]
    dsimp only
    show rdMap (fun n => (⟨2, n, [], [], []⟩ : JN K)) (numP (110 :: t)) = .error 13
    rw [numP_bad (by decide) (by decide)]
    rfl
theorem headP_t {K : Type} {t : List Nat} {lst : List Nat → Rd (List K)} {mp : List Nat → Rd (List (List Nat) × List K)} : headP (116 :: t) lst mp = (match litP [116, 114, 117, 101] (116 :: t) with | some r => .ok ((⟨1, 1, [], [], []⟩ : JN K), r) | none => .error 13) := by
  unfold headP
  rw [litP_ne (a := 110) (by decide)]
  dsimp only
  cases litP [116, 114, 117, 101] (116 :: t) with
  | some r => rfl
  | none =>
    dsimp only
    rw [litP_ne (a := 102) (by decide)]
    dsimp only
    show rdMap (fun n => (⟨2, n, [], [], []⟩ : JN K)) (numP (116 :: t)) = .error 13
    rw [numP_bad (by decide) (by decide)]
    rfl
theorem headP_f {K : Type} {t : List Nat} {lst : List Nat → Rd (List K)} {mp : List Nat → Rd (List (List Nat) × List K)} : headP (102 :: t) lst mp = (match litP [102, 97, 108, 115, 101] (102 :: t) with | some r => .ok ((⟨1, 0, [], [], []⟩ : JN K), r) | none => .error 13) := by
  unfold headP
  rw [litP_ne (a := 110) (by decide), litP_ne (a := 116) (by decide)]
  dsimp only
  cases litP [102, 97, 108, 115, 101] (102 :: t) with
  | some r => rfl
  | none =>
    dsimp only
    show rdMap (fun n => (⟨2, n, [], [], []⟩ : JN K)) (numP (102 :: t)) = .error 13
    rw [numP_bad (by decide) (by decide)]
    rfl
theorem headP_s {K : Type} {t : List Nat} {lst : List Nat → Rd (List K)} {mp : List Nat → Rd (List (List Nat) × List K)} : headP (34 :: t) lst mp = rdMap (fun x => (⟨3, 0, x, [], []⟩ : JN K)) (quoP (34 :: t)) := by
  unfold headP
  rw [litP_ne (a := 110) (by decide), litP_ne (a := 116) (by decide), litP_ne (a := 102) (by decide)]
  rfl
theorem headP_l {K : Type} {t : List Nat} {lst : List Nat → Rd (List K)} {mp : List Nat → Rd (List (List Nat) × List K)} : headP (91 :: t) lst mp = rdMap (fun ks => (⟨4, 0, [], [], ks⟩ : JN K)) (lst t) := by
  unfold headP
  rw [litP_ne (a := 110) (by decide), litP_ne (a := 116) (by decide), litP_ne (a := 102) (by decide)]
  rfl
theorem headP_m {K : Type} {t : List Nat} {lst : List Nat → Rd (List K)} {mp : List Nat → Rd (List (List Nat) × List K)} : headP (123 :: t) lst mp = rdMap (fun p => (⟨5, 0, [], p.1, p.2⟩ : JN K)) (mp t) := by
  unfold headP
  rw [litP_ne (a := 110) (by decide), litP_ne (a := 116) (by decide), litP_ne (a := 102) (by decide)]
  rfl
theorem cf29 (args : Array Value) (w : World) : (callFunc 29 args).run Tryd.prog w = .ok (.enter 29 args) w := by simp [go_sem]
theorem cf30 (args : Array Value) (w : World) : (callFunc 30 args).run Tryd.prog w = .ok (.enter 30 args) w := by simp [go_sem]
theorem cf31 (args : Array Value) (w : World) : (callFunc 31 args).run Tryd.prog w = .ok (.enter 31 args) w := by simp [go_sem]
theorem cf32 (args : Array Value) (w : World) : (callFunc 32 args).run Tryd.prog w = .ok (.enter 32 args) w := by simp [go_sem]
theorem cf33 (args : Array Value) (w : World) : (callFunc 33 args).run Tryd.prog w = .ok (.enter 33 args) w := by simp [go_sem]
theorem cf34 (args : Array Value) (w : World) : (callFunc 34 args).run Tryd.prog w = .ok (.enter 34 args) w := by simp [go_sem]
theorem cf35 (args : Array Value) (w : World) : (callFunc 35 args).run Tryd.prog w = .ok (.enter 35 args) w := by simp [go_sem]
def ValC (mb : Nat) (OB : Obj) (m : Nat) : Prop := ∀ (g ar : Nat) (l : List Nat) (w : World), ar + m = 6 → mb ≠ g → RdAt g ar l (.map (some mb)) w → w.heap[mb]? = some OB → l.length ≤ 100000 → Calls Tryd.prog 21 #[.pointer (some ⟨g, 0, none⟩)] w (RdR g ar (.map (some mb)) w (gapR (valP m l)))
/-- A value by its first byte, given what reads lists and maps. -/
theorem value_by {n g ar mb c : Nat} {OB : Obj} {es : Array MapEntry} {l : List Nat} {w : World} {lst : List Nat → Rd (List (J n))} {mp : List Nat → Rd (List (List Nat) × List (J n))} (hOB : OB = .map es c) (hE : EsB begL es) (h : RdAt g ar l (.map (some mb)) w) (hmb : w.heap[mb]? = some OB) (hmg : mb ≠ g) (hl : l.length ≤ 100000)
    (hL : ∀ t w1, RdAt g ar (91 :: t) (.map (some mb)) w1 → w1.heap[mb]? = some OB → (91 :: t).length ≤ 100000 → Calls Tryd.prog 34 #[.pointer (some ⟨g, 0, none⟩)] w1 (RdR g ar (.map (some mb)) w1 (n := n + 1) (rdMap (fun ks => (⟨4, 0, [], [], ks⟩ : JN (J n))) (lst t))))
    (hM : ∀ t w1, RdAt g ar (123 :: t) (.map (some mb)) w1 → w1.heap[mb]? = some OB → (123 :: t).length ≤ 100000 → Calls Tryd.prog 35 #[.pointer (some ⟨g, 0, none⟩)] w1 (RdR g ar (.map (some mb)) w1 (n := n + 1) (rdMap (fun p => (⟨5, 0, [], p.1, p.2⟩ : JN (J n))) (mp t)))) :
    Calls Tryd.prog 21 #[.pointer (some ⟨g, 0, none⟩)] w (RdR g ar (.map (some mb)) w (n := n + 1) (gapR (headP (K := J n) (gapL l) lst mp))) := by
  have hgl := gapL_len l
  cases hs : gapL l with
  | nil =>
    rw [headP_nil]
    exact value_no (b := 0) hOB hE h hmb hmg (by rw [hs]; rfl) (by decide)
  | cons b t =>
    have hb : (gapL l).headD 0 = b := by rw [hs]; rfl
    have hlt : (b :: t).length ≤ 100000 := by rw [← hs]; omega
    by_cases h1 : b = 110
    · subst h1
      rw [headP_n]
      exact value_yes hOB hE h hmb hmg hb ⟨110, by decide⟩ cf29 fun w1 hR _ => by rw [hs] at hR; exact null29 hR
    by_cases h2 : b = 116
    · subst h2
      rw [headP_t]
      exact value_yes hOB hE h hmb hmg hb ⟨116, by decide⟩ cf30 fun w1 hR _ => by rw [hs] at hR; exact yes30 hR
    by_cases h3 : b = 102
    · subst h3
      rw [headP_f]
      exact value_yes hOB hE h hmb hmg hb ⟨102, by decide⟩ cf31 fun w1 hR _ => by rw [hs] at hR; exact no31 hR
    by_cases h4 : b = 34
    · subst h4
      rw [headP_s]
      exact value_yes hOB hE h hmb hmg hb ⟨34, by decide⟩ cf33 fun w1 hR _ => by rw [hs] at hR; exact text33 hR hlt
    by_cases h5 : b = 91
    · subst h5
      rw [headP_l]
      exact value_yes hOB hE h hmb hmg hb ⟨91, by decide⟩ cf34 fun w1 hR hm => by rw [hs] at hR; exact hL t w1 hR hm hlt
    by_cases h6 : b = 123
    · subst h6
      rw [headP_m]
      exact value_yes hOB hE h hmb hmg hb ⟨123, by decide⟩ cf35 fun w1 hR hm => by rw [hs] at hR; exact hM t w1 hR hm hlt
    rw [headP_num h1 h2 h3 h4 h5 h6]
    by_cases h7 : b = 45 ∨ isD b = true
    · refine value_yes hOB hE h hmb hmg hb (f := 32) ⟨(b : Int), ?_⟩ cf32 fun w1 hR _ => by rw [hs] at hR; exact integer32 hR (by omega) n
      rcases h7 with rfl | h7
      · decide
      · simp only [isD, Bool.and_eq_true, decide_eq_true_eq] at h7
        rcases (by omega : b = 48 ∨ b = 49 ∨ b = 50 ∨ b = 51 ∨ b = 52 ∨ b = 53 ∨ b = 54 ∨ b = 55 ∨ b = 56 ∨ b = 57) with rfl | rfl | rfl | rfl | rfl | rfl | rfl | rfl | rfl | rfl <;> decide
    · have h8 : b ≠ 45 := fun e => h7 (.inl e)
      have h9 : isD b = false := by
        cases e : isD b with
        | false => rfl
        | true => exact absurd (.inr e) h7
      rw [numP_bad h8 h9]
      refine value_no hOB hE h hmb hmg hb (List.find?_eq_none.2 fun p hp he => ?_)
      have he2 : (b : Int) = p.1 := by simpa using he
      have hd : ¬ (48 ≤ b ∧ b ≤ 57) := fun hh => by simp [isD, hh.1, hh.2] at h9
      simp only [begL, List.mem_cons, List.not_mem_nil, or_false] at hp
      rcases hp with rfl | rfl | rfl | rfl | rfl | rfl | rfl | rfl | rfl | rfl | rfl | rfl | rfl | rfl | rfl | rfl | rfl <;> simp only at he2 <;> omega
theorem valC (mb : Nat) {OB : Obj} {es : Array MapEntry} {c : Nat} (hOB : OB = .map es c) (hE : EsB begL es) : ∀ m, ValC mb OB m
  | 0 => fun g ar l w ha hmg h hmb hl => by
    obtain rfl : ar = 6 := by omega
    exact value_by (n := 0) (lst := fun _ => .error 9) (mp := fun _ => .error 9) hOB hE h hmb hmg hl (fun t w1 hR _ _ => list34d hR) (fun t w1 hR _ _ => table35d hR)
  | m + 1 => fun g ar l w ha hmg h hmb hl => by
    have ih := valC mb hOB hE m
    have hkp : ∀ l k r, valP m l = .ok (k, r) → r.length < l.length := fun l k r e => (valP_is m l k r e).2
    have hV : ∀ l w, RdAt g (ar + 1) l (.map (some mb)) w → w.heap[mb]? = some OB → l.length ≤ 100000 → Calls Tryd.prog 21 #[.pointer (some ⟨g, 0, none⟩)] w (RdR g (ar + 1) (.map (some mb)) w (gapR (valP m l))) := fun l w hR hM hL => ih g (ar + 1) l w (by omega) hmg hR hM hL
    exact value_by (n := m + 1) (lst := listP (valP m)) (mp := mapP (valP m)) hOB hE h hmb hmg hl
      (fun t w1 hR hM hL => list34 (by omega) hmg hV hkp (valP_gap m) hR hM hL (by rw [lit_cons, if_pos rfl])) (fun t w1 hR hM hL => table35 (by omega) hmg hV hkp (valP_gap m) hR hM hL (by rw [lit_cons, if_pos rfl]))
end Go.Proofs.YtljgnpneeecafaaDoor
set_option linter.unusedVariables false
set_option linter.unusedSimpArgs false
namespace Go.Proofs.YtljgnpneeecafaaDoor
open Go.RowKit Go.Sort Go.BigFrame
set_option maxRecDepth 100000
set_option maxHeartbeats 4000000
theorem size56 : (Tryd.prog.info? 56).map (·.size) = some 3 := by kernel_rfl
/-- What Read leaves. -/
def ReadR (l : List Nat) (w : World) (e : Ending) (w' : World) : Prop :=
  ∃ (cs : Array Value) (er : Int), e = .returned (.tuple #[.agg cs, .int .i64 er]) ∧ cs.size = 5 ∧ cs.all (·.oneCell') = true ∧ Below w.heap.size w w' ∧ (2000 < l.length → er = 4 ∧ cs = zero5) ∧
    (l.length ≤ 2000 → match readL l with | .ok j => er = 0 ∧ JM (fun b => w.heap.size ≤ b) 7 j cs.toList w' | .error e0 => er = e0 ∧ e0 ≠ 0 ∧ cs = zero5)
theorem readL_err {l : List Nat} {e0 : Int} (h : gapR (valP 6 l) = .error e0) : readL l = .error e0 := by
  unfold readL
  cases hx : valP 6 l with
  | error e => rw [hx] at h; injection h with h; rw [h]
  | ok p => rw [hx] at h; cases h
theorem readL_ok {l r : List Nat} {j : J 7} (h : gapR (valP 6 l) = .ok (j, r)) : readL l = if r = [] then .ok j else .error 13 := by
  unfold readL
  cases hx : valP 6 l with
  | error e => rw [hx] at h; cases h
  | ok p =>
    obtain ⟨j0, r0⟩ := p
    rw [hx] at h
    injection h with h
    injection h with h1 h2
    dsimp only
    rw [h1, h2]
theorem read_long {s : ByteArray} {l : List Nat} (w : World) (hs : Str s l) (hl : 2000 < l.length) : Calls Tryd.prog 12 #[.string s] w (ReadR l w) := by
  have hi : (2000 : Int) < (s.size : Int) := by have := hs.size; omega
  have hZ := heap_alloc_new w (.cells zero5 25)
  unfold zero5 at hZ
  have HL : Hid _ := hl
  clear hl hs
  go_enter Tryd.func12, Tryd.ntmps12
  go_wp2_with (refine wpList_store_row rfl 25 (.tmp 2) (.tmp 10) rfl w.heap.size #[.int .i64 0, .int .i64 0, .string ⟨#[]⟩, .slice none 0 0, .slice none 0 0] rfl rfl 25 _ hZ size25 rfl (one5 _ _ _) ?_)
  refine bodyPost_ret (v := .tuple #[.agg #[.int .i64 0, .int .i64 0, .string ⟨#[]⟩, .slice none 0 0, .slice none 0 0], .int .i64 4]) ?_ rfl ⟨_, 4, rfl, rfl, one5 _ _ _, ((below1 _ _).trans ⟨rfl, rfl, rfl, by simp, fun b hb => setRow_other _ _ _ _ (by omega)⟩), fun _ => ⟨rfl, rfl⟩, fun h => by have := HL.out; omega⟩
  exact results_cell_tmp Tryd.results12 _ _ _ 25 _ (0, 0) _ _ rfl rfl (setRow_heap _ _ _ _ _ _ hZ) Tryd.underlying25 rfl size25
theorem read_short {s : ByteArray} {l : List Nat} (w : World) (hs : Str s l) (hl : l.length ≤ 2000) : Calls Tryd.prog 12 #[.string s] w (ReadR l w) := by
  obtain rfl := hs.eq
  have hi : ¬ (2000 : Int) < ((strOf l).size : Int) := by have := hs.size; omega
  have hd := hs.dig
  obtain ⟨w1, hw1⟩ : ∃ w1, w1 = w.alloc (.cells #[.int .i64 0, .int .i64 0, .string ⟨#[]⟩, .slice none 0 0, .slice none 0 0] 25) := ⟨_, rfl⟩
  have hB1 : Below w.heap.size w w1 := by rw [hw1]; exact below1 _ _
  have hZ1 : w1.heap[w.heap.size]? = some (.cells zero5 25 (0, 0)) := by rw [hw1]; exact heap_alloc_new _ _
  have hbg := begins20 w1
  have HW1 : Hid _ := hw1
  rw [hw1] at hbg
  have HL : Hid _ := hl
  clear hw1 hl hs
  go_enter Tryd.func12, Tryd.ntmps12
  go_wp2_with fail
  refine hbg.mono ?_
  rintro e w2 ⟨rfl, hS2⟩
  rw [← HW1.out] at hS2
  obtain ⟨hB2, _, es, c, hm2, hE⟩ := hS2
  have hs1 := hB1.size
  have hs2 := hB2.size
  have hz1 := lt_of_heap hZ1
  have hZ2 : w2.heap[w.heap.size]? = some (.cells zero5 25 (0, 0)) := block_below hB2 hz1 hZ1
  obtain ⟨mb, hmb⟩ : ∃ mb, mb = w1.heap.size := ⟨_, rfl⟩
  have hmb2 : (w.alloc (.cells #[.int .i64 0, .int .i64 0, .string ⟨#[]⟩, .slice none 0 0, .slice none 0 0] 25)).heap.size = mb := by rw [hmb, HW1.out]
  rw [hmb2]
  rw [← hmb] at hm2
  have hlm := lt_of_heap hm2
  have hG := heap_alloc_new w2 (.cells #[.int .i64 0, .string ⟨#[]⟩, .map none] 56)
  have HB12 : Hid (Below w.heap.size w w2) := hB1.trans (hB2.mono (by omega))
  clear hbg hB1 hB2 hZ1 hmb hmb2
  go_wp2_with (refine wpList_store_row rfl 56 (.tmp 4) (.tmp 13) rfl w2.heap.size #[.int .i64 0, .string (strOf l), .map (some mb)] rfl rfl 56 _ hG size56 rfl (by simp [Value.oneCell']) ?_)
  obtain ⟨w3, hw3⟩ : ∃ w3, w3 = (w2.alloc (.cells #[.int .i64 0, .string ⟨#[]⟩, .map none] 56)).setRow w2.heap.size #[.int .i64 0, .string (strOf l), .map (some mb)] := ⟨_, rfl⟩
  rw [← hw3]
  have hB3 : Below w2.heap.size w2 w3 := by rw [hw3]; exact (below1 _ _).trans ⟨rfl, rfl, rfl, by simp, fun b hb => setRow_other _ _ _ _ (by omega)⟩
  have hR3 : RdAt w2.heap.size 0 l (.map (some mb)) w3 := ⟨hd, by rw [hw3]; exact setRow_heap _ _ _ _ _ _ hG⟩
  have hm3 := block_below hB3 hlm hm2
  have hv := valC mb rfl hE 6 w2.heap.size 0 l w3 rfl (by omega) hR3 hm3 (by have := HL.out; omega)
  obtain ⟨X, hX⟩ : ∃ X, X = gapR (valP 6 l) := ⟨_, rfl⟩
  rw [← hX] at hv
  have HX : Hid (X = gapR (valP 6 l)) := hX
  have hZ3 : w3.heap[w.heap.size]? = some (.cells zero5 25 (0, 0)) := block_below hB3 (lt_of_heap hZ2) hZ2
  have hs3 := hB3.size
  have HB3 : Hid (Below w.heap.size w w3) := HB12.out.trans (hB3.mono (by omega))
  have hg2 : w.heap.size < w2.heap.size := lt_of_heap hZ2
  clear hX hw3 hB3 hR3 hm3 hG hm2 hZ2 hE
  refine hv.mono ?_
  rintro e w4 ⟨cs, er, l', rfl, h5, hone, hF4, hR4, hm4⟩
  obtain ⟨d0, d1, d2, d3, d4, rfl⟩ := arr5 h5
  have hN := heap_alloc_new w4 (.cells zero5 25)
  unfold zero5 at hN
  have hZ4 := hF4.block hZ3 (by omega)
  have hs4 := hF4.size
  have hlt4 := hR4.lt
  have hz4 := lt_of_heap hZ4
  have hB4 := HB3.out.trans (hF4.below (B := w.heap.size) (by omega) (by omega))
  have HM4 : Hid (RdM w3 #[d0, d1, d2, d3, d4] er l' X w4) := hm4
  clear hv h5 hZ3 hm4
  go_wp2_with (refine wpList_store_row rfl 25 (.tmp 5) (.tmp 16) rfl w4.heap.size #[d0, d1, d2, d3, d4] rfl rfl 25 _ hN size25 rfl hone ?_; refine Hid.out ?_)
  obtain ⟨w5, hw5⟩ : ∃ w5, w5 = (w4.alloc (.cells #[.int .i64 0, .int .i64 0, .string ⟨#[]⟩, .slice none 0 0, .slice none 0 0] 25)).setRow w4.heap.size #[d0, d1, d2, d3, d4] := ⟨_, rfl⟩
  rw [← hw5]
  refine Lib.hid ?_
  have hB5 : Below w4.heap.size w4 w5 := by rw [hw5]; exact (below1 _ _).trans ⟨rfl, rfl, rfl, by simp, fun b hb => setRow_other _ _ _ _ (by omega)⟩
  have hX5 : w5.heap[w4.heap.size]? = some (.cells #[d0, d1, d2, d3, d4] 25 (0, 0)) := by rw [hw5]; exact setRow_heap _ _ _ _ _ _ hN
  have hZ5 : w5.heap[w.heap.size]? = some (.cells zero5 25 (0, 0)) := block_below hB5 hz4 hZ4
  have hS' := str_strOf hR4.1
  have hnil := str_empty hS'
  have c1 : w5.cell? ⟨w2.heap.size, 1, none⟩ = some (.string (strOf l')) := (hR4.new hB5).c1
  obtain ⟨S, hS⟩ : ∃ S, S = strOf l' := ⟨_, rfl⟩
  rw [← hS] at c1 hnil
  have x0 : w5.cell? ⟨w4.heap.size, 0, none⟩ = some d0 := (cell_of_row _ _ _ _ _ _ hX5).trans rfl
  have x1 : w5.cell? ⟨w4.heap.size, 1, none⟩ = some d1 := (cell_of_row _ _ _ _ _ _ hX5).trans rfl
  have x2 : w5.cell? ⟨w4.heap.size, 2, none⟩ = some d2 := (cell_of_row _ _ _ _ _ _ hX5).trans rfl
  have x3 : w5.cell? ⟨w4.heap.size, 3, none⟩ = some d3 := (cell_of_row _ _ _ _ _ _ hX5).trans rfl
  have x4 : w5.cell? ⟨w4.heap.size, 4, none⟩ = some d4 := (cell_of_row _ _ _ _ _ _ hX5).trans rfl
  have HB45 : Hid (Below w4.heap.size w4 w5) := hB5
  have HB5 : Hid (Below w.heap.size w w5) := hB4.trans (hB5.mono (by omega))
  have HF4 : Hid (Fg w2.heap.size w3 w4) := hF4
  have hlt5 := lt_of_heap hX5
  clear hw5 hN hB5 hB4 hX5 hZ4 hR4 hF4 hS' hS
  by_cases h0 : er = 0
  · subst h0
    cases hl' : l' with
    | nil =>
      have hem : S.toList.isEmpty = true := by rw [hnil, hl']; rfl
      have hz0 : ((0 : Int) == 0) = true := rfl
      have HL' : Hid _ := hl'
      clear hnil hl'
      go_wp2_with (refine wpList_store_row rfl 25 (.tmp 2) (.tmp 29) rfl w.heap.size #[d0, d1, d2, d3, d4] rfl rfl 25 zero5 hZ5 size25 rfl hone ?_)
      refine bodyPost_ret (v := .tuple #[.agg #[d0, d1, d2, d3, d4], .int .i64 0]) ?_ rfl ⟨_, 0, rfl, rfl, hone, HB5.out.trans ⟨rfl, rfl, rfl, by simp, fun b hb => setRow_other _ _ _ _ (by omega)⟩, fun h => by have := HL.out; omega, fun _ => ?_⟩
      · exact results_cell_tmp Tryd.results12 _ _ _ 25 _ (0, 0) _ _ rfl rfl (setRow_heap _ _ _ _ _ _ hZ5) Tryd.underlying25 rfl size25
      · have hm := HM4.out
        cases X with
        | error e0 =>
          rcases hm with ⟨h1, h2⟩ | ⟨h1, h2, c', t', h3, h4⟩
          · exact absurd h1.symm h2
          · rw [HL'.out] at h3; cases h3
        | ok q =>
          obtain ⟨j', r⟩ := q
          obtain ⟨z1, z2, z3⟩ := hm
          have hr : r = [] := z2.symm.trans HL'.out
          rw [readL_ok HX.out.symm, if_pos hr]
          refine ⟨rfl, JM.move (S := fun b => w3.heap.size ≤ b) (w := w4) (fun b hb hS => ⟨show w.heap.size ≤ b from by omega, ?_⟩) _ _ _ z3⟩
          exact (setRow_other _ _ _ _ (by omega)).trans (HB45.out.block b hb)
    | cons c' t' =>
      have hem : S.toList.isEmpty = false := by rw [hnil, hl']; rfl
      have hz0 : ((0 : Int) == 0) = true := rfl
      have HL' : Hid _ := hl'
      clear hnil hl'
      go_wp2_with (refine wpList_store_row rfl 25 (.tmp 2) (.tmp 27) rfl w.heap.size #[.int .i64 0, .int .i64 0, .string ⟨#[]⟩, .slice none 0 0, .slice none 0 0] rfl rfl 25 zero5 hZ5 size25 rfl (one5 _ _ _) ?_)
      refine bodyPost_ret (v := .tuple #[.agg #[.int .i64 0, .int .i64 0, .string ⟨#[]⟩, .slice none 0 0, .slice none 0 0], .int .i64 13]) ?_ rfl ⟨_, 13, rfl, rfl, (one5 _ _ _), HB5.out.trans ⟨rfl, rfl, rfl, by simp, fun b hb => setRow_other _ _ _ _ (by omega)⟩, fun h => by have := HL.out; omega, fun _ => ?_⟩
      · exact results_cell_tmp Tryd.results12 _ _ _ 25 _ (0, 0) _ _ rfl rfl (setRow_heap _ _ _ _ _ _ hZ5) Tryd.underlying25 rfl size25
      · have hm := HM4.out
        cases X with
        | error e0 =>
          rcases hm with ⟨h1, h2⟩ | ⟨h1, h2, c', t', h3, h4⟩
          · exact absurd h1.symm h2
          · rw [readL_err HX.out.symm]; exact ⟨h1.symm, by rw [h1]; decide, rfl⟩
        | ok q =>
          obtain ⟨j', r⟩ := q
          obtain ⟨z1, z2, z3⟩ := hm
          have hr : r ≠ [] := fun e => by rw [← z2, HL'.out] at e; cases e
          rw [readL_ok HX.out.symm, if_neg hr]
          exact ⟨rfl, by decide, rfl⟩
  · have hz0 : (er == 0) = false := by simpa using h0
    have hz1 : (er != 0) = true := by simpa using h0
    have H0 : Hid _ := h0
    clear hnil h0
    go_wp2_with (refine wpList_store_row rfl 25 (.tmp 2) (.tmp 27) rfl w.heap.size #[.int .i64 0, .int .i64 0, .string ⟨#[]⟩, .slice none 0 0, .slice none 0 0] rfl rfl 25 zero5 hZ5 size25 rfl (one5 _ _ _) ?_)
    refine bodyPost_ret (v := .tuple #[.agg #[.int .i64 0, .int .i64 0, .string ⟨#[]⟩, .slice none 0 0, .slice none 0 0], .int .i64 er]) ?_ rfl ⟨_, er, rfl, rfl, (one5 _ _ _), HB5.out.trans ⟨rfl, rfl, rfl, by simp, fun b hb => setRow_other _ _ _ _ (by omega)⟩, fun h => by have := HL.out; omega, fun _ => ?_⟩
    · exact results_cell_tmp Tryd.results12 _ _ _ 25 _ (0, 0) _ _ rfl rfl (setRow_heap _ _ _ _ _ _ hZ5) Tryd.underlying25 rfl size25
    · have hm := HM4.out
      cases X with
      | error e0 =>
        rcases hm with ⟨h1, h2⟩ | ⟨h1, h2, _⟩
        · rw [readL_err HX.out.symm]; exact ⟨h1, h2, rfl⟩
        · exact absurd h2 H0.out
      | ok q =>
        obtain ⟨j', r⟩ := q
        exact absurd hm.1 H0.out
theorem readP {s : ByteArray} {l : List Nat} (w : World) (hs : Str s l) : Calls Tryd.prog 12 #[.string s] w (ReadR l w) := by
  by_cases h : l.length ≤ 2000
  · exact read_short w hs h
  · exact read_long w hs (by omega)
end Go.Proofs.YtljgnpneeecafaaDoor
set_option linter.unusedVariables false
set_option linter.unusedSimpArgs false
namespace Go.Proofs.YtljgnpneeecafaaDoor
open Go.RowKit Go.Sort Go.BigFrame
set_option maxRecDepth 100000
set_option maxHeartbeats 4000000
theorem isJ_full : ∀ (n d : Nat) (j : J n), IsJ n d j → Full n j
  | 0, _, _, h => h
  | n + 1, d, j, h => fun k hk => by
    obtain ⟨_, _, _, h4, _, _, h7⟩ := h
    by_cases h : JN.kind j = 5 ∨ JN.kind j = 4
    · exact isJ_full n (d - 1) k ((h7 (by omega) (by omega)).2.2.2 k hk)
    · have := h4 (fun e => h (.inl e)) (fun e => h (.inr e))
      rw [List.length_eq_zero_iff.1 this] at hk
      cases hk
def lit1 : List Nat := [32, 123, 34, 97, 34, 32, 58, 32, 91, 49, 44, 116, 114, 117, 101, 93, 125]
def lit2 : List Nat := [123, 34, 97, 34, 58, 91, 49, 44, 116, 114, 117, 101, 93, 125]
def lit3 : List Nat := [91, 91, 91, 91, 91, 91, 91]
def ex1 : J 7 := (⟨5, 0, [], [[97]], [(⟨4, 0, [], [], [(⟨2, 1, [], [], []⟩ : JN (J 4)), (⟨1, 1, [], [], []⟩ : JN (J 4))]⟩ : JN (J 5))]⟩ : JN (J 6))
theorem ex1_read : readL lit1 = .ok ex1 := by kernel_rfl
theorem ex3_read : readL lit3 = .error 9 := by kernel_rfl
theorem ex1_write : writeJ 7 ex1 = lit2 := by kernel_rfl
theorem ex1_is : IsJ 7 6 ex1 := readL_is ex1_read
theorem leaf_txt (B n : Nat) (k m : Int) : TxtJ B (n + 1) (⟨k, m, [], [], []⟩ : JN (J n)) := by
  refine ⟨Nat.zero_le _, ?_, ?_⟩
  · intro x hx; cases hx
  · intro x hx; cases hx
theorem ex1_txt : TxtJ 1000000 7 ex1 := by
  refine ⟨Nat.zero_le _, ?_, ?_⟩
  · intro x hx
    rw [List.mem_singleton.1 hx]
    decide
  · intro k hk
    rw [List.mem_singleton.1 hk]
    refine ⟨Nat.zero_le _, ?_, ?_⟩
    · intro x hx; cases hx
    · intro k hk
      rcases List.mem_cons.1 hk with h | h
      · rw [h]; exact leaf_txt _ 4 _ _
      · rw [List.mem_singleton.1 h]; exact leaf_txt _ 4 _ _
theorem livesP (w : World) (hT : Tab w) : Ret 10 #[] w (Is (.bool true)) := by
  have hs1 := str_lit (bs := lit1) (by decide)
  rw [show strOf lit1 = ByteArray.mk #[32, 123, 34, 97, 34, 32, 58, 32, 91, 49, 44, 116, 114, 117, 101, 93, 125] by decide] at hs1
  have hs3 := str_lit (bs := lit3) (by decide)
  rw [show strOf lit3 = ByteArray.mk #[91, 91, 91, 91, 91, 91, 91] by decide] at hs3
  have hr1 := readP w hs1
  unfold Ret
  go_enter Tryd.func10, Tryd.ntmps10
  go_wp2_with fail
  refine hr1.mono ?_
  rintro e w1 ⟨cs, er, rfl, h5, hone, hB1, _, hq⟩
  have hq := hq (by decide)
  rw [ex1_read] at hq
  obtain ⟨rfl, hJ⟩ : er = 0 ∧ JM (fun b => w.heap.size ≤ b) 7 ex1 cs.toList w1 := hq
  obtain ⟨d0, d1, d2, d3, d4, rfl⟩ := arr5 h5
  have hN := heap_alloc_new w1 (.cells zero5 25)
  unfold zero5 at hN
  clear hr1 h5 hs1
  go_wp2_with (refine wpList_store_row rfl 25 (.tmp 1) (.tmp 9) rfl w1.heap.size #[d0, d1, d2, d3, d4] rfl rfl 25 _ hN size25 rfl hone ?_; refine Hid.out ?_)
  obtain ⟨w2, hw2⟩ : ∃ w2, w2 = (w1.alloc (.cells #[.int .i64 0, .int .i64 0, .string ⟨#[]⟩, .slice none 0 0, .slice none 0 0] 25)).setRow w1.heap.size #[d0, d1, d2, d3, d4] := ⟨_, rfl⟩
  rw [← hw2]
  refine Lib.hid ?_
  have hB2 : Below w1.heap.size w1 w2 := by rw [hw2]; exact (below1 _ _).trans ⟨rfl, rfl, rfl, by simp, fun b hb => setRow_other _ _ _ _ (by omega)⟩
  have hX2 : w2.heap[w1.heap.size]? = some (.cells #[d0, d1, d2, d3, d4] 25 (0, 0)) := by rw [hw2]; exact setRow_heap _ _ _ _ _ _ hN
  have hs1 := hB1.size
  have hBw : Below w.heap.size w w2 := hB1.trans (hB2.mono hs1)
  have hT2 := hT.below hBw
  have hj : JV ex1 (.agg #[d0, d1, d2, d3, d4]) w2 := ⟨_, rfl, rfl, JM.jc _ _ _ _ (hJ.stb hB2)⟩
  have hw := writeP (n := 6) ex1 _ w2 hT2 (isJ_full 7 6 ex1 ex1_is) ex1_txt hj
  have x0 : w2.cell? ⟨w1.heap.size, 0, none⟩ = some d0 := (cell_of_row _ _ _ _ _ _ hX2).trans rfl
  have x1 : w2.cell? ⟨w1.heap.size, 1, none⟩ = some d1 := (cell_of_row _ _ _ _ _ _ hX2).trans rfl
  have x2 : w2.cell? ⟨w1.heap.size, 2, none⟩ = some d2 := (cell_of_row _ _ _ _ _ _ hX2).trans rfl
  have x3 : w2.cell? ⟨w1.heap.size, 3, none⟩ = some d3 := (cell_of_row _ _ _ _ _ _ hX2).trans rfl
  have x4 : w2.cell? ⟨w1.heap.size, 4, none⟩ = some d4 := (cell_of_row _ _ _ _ _ _ hX2).trans rfl
  have HBW : Hid (Below w.heap.size w w2) := hBw
  clear hw2 hN hB1 hB2 hJ hX2 hj hBw hT2 hT
  go_wp2_with fail
  refine Calls.mono hw ?_
  rintro e w3 ⟨v, rfl, hB3, hq⟩
  have hv := hq.1 ex1_is (by rw [ex1_write]; decide)
  rw [ex1_write, show strOf lit2 = ByteArray.mk #[123, 34, 97, 34, 58, 91, 49, 44, 116, 114, 117, 101, 93, 125] by decide] at hv
  subst hv
  have hr3 := readP w3 hs3
  have hs3' := hB3.size
  have hs2 := HBW.out.size
  have HB3 : Hid (Below w.heap.size w w3) := HBW.out.trans (hB3.mono hs2)
  clear hw hq hB3 x0 x1 x2 x3 x4 hs3
  go_wp2_with fail
  refine hr3.mono ?_
  rintro e w4 ⟨cs, er, rfl, h5, hone, hB4, _, hq⟩
  have hq := hq (by decide)
  rw [ex3_read] at hq
  obtain ⟨rfl, _, rfl⟩ : er = 9 ∧ (9 : Int) ≠ 0 ∧ cs = zero5 := hq
  unfold zero5
  have hN := heap_alloc_new w4 (.cells zero5 25)
  unfold zero5 at hN
  have hs4 := hB4.size
  have hs33 := HB3.out.size
  have HB4 : Hid (Below w.heap.size w w4) := HB3.out.trans (hB4.mono hs33)
  have hs44 := HB4.out.size
  clear hr3 h5 hB4
  go_wp2_with (refine wpList_store_row rfl 25 (.tmp 5) (.tmp 18) rfl w4.heap.size #[.int .i64 0, .int .i64 0, .string ⟨#[]⟩, .slice none 0 0, .slice none 0 0] rfl rfl 25 _ hN size25 rfl (one5 _ _ _) ?_)
  go_ret
  exact ⟨_, rfl, HB4.out.trans ((below1 _ _).mono hs44 |>.trans ⟨rfl, rfl, rfl, by simp, fun b hb => setRow_other _ _ _ _ (by omega)⟩), rfl⟩
end Go.Proofs.YtljgnpneeecafaaDoor
set_option linter.unusedVariables false
namespace Go.Proofs.YtljgnpneeecafaaDoor
open Go.RowKit Go.Sort Go.BigFrame
set_option maxRecDepth 100000
set_option maxHeartbeats 2000000
theorem jsonWritesA (W : World) {j : J 8} {v : Value} (hT : Tab W) (hv : JV j v W) (hI : IsJ 8 6 (cutJ 8 j)) (hL : (writeJ 8 (cutJ 8 j)).length ≤ 2000) : Ret 3 #[v] W (Is (.bool true)) := by
  have HT : Hid (Tab W) := hT
  clear hT
  obtain ⟨cs, rfl, h5, hJ⟩ := hv
  obtain ⟨c0, c1, c2, c3, c4, rfl⟩ : ∃ c0 c1 c2 c3 c4, cs = [c0, c1, c2, c3, c4] := by
    match cs, h5 with
    | [c0, c1, c2, c3, c4], _ => exact ⟨c0, c1, c2, c3, c4, rfl⟩
  have hjv : JV j (.agg #[c0, c1, c2, c3, c4]) W := ⟨_, rfl, rfl, hJ⟩
  show Ret _ #[.agg #[c0, c1, c2, c3, c4]] W _
  have hsm := writeJ_small j
  have hB0 : Below W.heap.size W (W.alloc (.cells #[c0, c1, c2, c3, c4] 25)) := below1 _ _
  have hX0 : (W.alloc (.cells #[c0, c1, c2, c3, c4] 25)).heap[W.heap.size]? = some (.cells #[c0, c1, c2, c3, c4] 25 (0, 0)) := heap_alloc_new _ _
  have hjv0 := JV.stb j _ _ _ hB0 hjv
  have hc := cutR 7 j _ _ (by decide) hjv0
  have HX0 : Hid _ := hX0
  have hz5 : (Tryd.prog.info? 25).map (·.size) = some 5 := by kernel_rfl
  clear hX0 hJ hjv hjv0
  unfold Ret
  go_enter Tryd.func3, Tryd.ntmps3
  go_wp2_with fail
  refine hc.mono ?_
  rintro e w1 ⟨_, rfl, hB1, cs, rfl, h5, hJ⟩
  clear hc
  have hone := JM.one (by decide) hJ
  obtain ⟨d0, d1, d2, d3, d4, rfl⟩ : ∃ d0 d1 d2 d3 d4, cs = [d0, d1, d2, d3, d4] := by
    match cs, h5 with
    | [d0, d1, d2, d3, d4], _ => exact ⟨d0, d1, d2, d3, d4, rfl⟩
  have hX1 : w1.heap[W.heap.size]? = some (.cells #[c0, c1, c2, c3, c4] 25 (0, 0)) := block_below hB1 (by simp) HX0.out
  have hall : (#[d0, d1, d2, d3, d4] : Array Value).all (·.oneCell') = true := by simp [hone]
  have hB2 : Below W.heap.size W (w1.setRow W.heap.size #[d0, d1, d2, d3, d4]) := setRow_below (hB0.trans (hB1.mono hB0.size)) (Nat.le_refl _) _
  have hX2 : (w1.setRow W.heap.size #[d0, d1, d2, d3, d4]).heap[W.heap.size]? = some (.cells #[d0, d1, d2, d3, d4] 25 (0, 0)) := setRow_heap _ _ _ _ _ _ hX1
  have hJ2 : JV (cutJ 8 j) (.agg #[d0, d1, d2, d3, d4]) (w1.setRow W.heap.size #[d0, d1, d2, d3, d4]) := ⟨_, rfl, rfl, JM.jc _ _ _ _ (JM.move (T := fun _ => True) (fun b _ hS => ⟨trivial, setRow_other _ _ _ _ (by simp at hS; omega)⟩) _ _ _ hJ)⟩
  clear hJ hone hB1 hB0
  have x0 : (w1.setRow W.heap.size #[d0, d1, d2, d3, d4]).cell? ⟨W.heap.size, 0, none⟩ = some d0 := (cell_of_row _ _ _ _ _ _ hX2).trans rfl
  have x1 : (w1.setRow W.heap.size #[d0, d1, d2, d3, d4]).cell? ⟨W.heap.size, 1, none⟩ = some d1 := (cell_of_row _ _ _ _ _ _ hX2).trans rfl
  have x2 : (w1.setRow W.heap.size #[d0, d1, d2, d3, d4]).cell? ⟨W.heap.size, 2, none⟩ = some d2 := (cell_of_row _ _ _ _ _ _ hX2).trans rfl
  have x3 : (w1.setRow W.heap.size #[d0, d1, d2, d3, d4]).cell? ⟨W.heap.size, 3, none⟩ = some d3 := (cell_of_row _ _ _ _ _ _ hX2).trans rfl
  have x4 : (w1.setRow W.heap.size #[d0, d1, d2, d3, d4]).cell? ⟨W.heap.size, 4, none⟩ = some d4 := (cell_of_row _ _ _ _ _ _ hX2).trans rfl
  have HS : Hid _ := (⟨hB2, hX2, hJ2⟩ : _ ∧ _ ∧ _)
  clear hB2 hX2 hJ2
  go_wp2_with (refine wpList_store_row rfl 25 (.tmp 1) (.tmp 8) rfl W.heap.size #[d0, d1, d2, d3, d4] rfl rfl 25 _ hX1 hz5 rfl hall ?_)
  refine (writeP (n := 7) (cutJ 8 j) _ _ (HT.out.below HS.out.1) (cutJ_full 7 j) (TxtJ.mono (by decide) _ _ (cutJ_txt 8 j)) HS.out.2.2).mono ?_
  rintro e w3 ⟨r, rfl, hB3, hr⟩
  have hr := hr.1 hI hL
  subst hr
  obtain ⟨s1, s2, s3⟩ := HS.out
  have hBw := s1.trans (hB3.mono s1.size)
  have hX := block_below hB3 (lt_of_heap s2) s2
  have hj3 := JV.stb _ _ _ _ hB3 s3
  have HS3 : Hid _ := (⟨hBw, hX, hj3⟩ : _ ∧ _ ∧ _)
  have y0 : w3.cell? ⟨W.heap.size, 0, none⟩ = some d0 := (cell_of_row _ _ _ _ _ _ hX).trans rfl
  have y1 : w3.cell? ⟨W.heap.size, 1, none⟩ = some d1 := (cell_of_row _ _ _ _ _ _ hX).trans rfl
  have y2 : w3.cell? ⟨W.heap.size, 2, none⟩ = some d2 := (cell_of_row _ _ _ _ _ _ hX).trans rfl
  have y3 : w3.cell? ⟨W.heap.size, 3, none⟩ = some d3 := (cell_of_row _ _ _ _ _ _ hX).trans rfl
  have y4 : w3.cell? ⟨W.heap.size, 4, none⟩ = some d4 := (cell_of_row _ _ _ _ _ _ hX).trans rfl
  clear HS hX hBw hj3 s1 s2 s3 hX1 hB3 x0 x1 x2 x3 x4
  go_wp2_with fail
  refine (isR 8 6 (cutJ 8 j) _ _ (by decide) (by decide) (TxtJ.mono (by decide) _ _ (cutJ_txt 8 j)) HS3.out.2.2).mono ?_
  rintro e w4 ⟨_, rfl, hB4, c, rfl, hc⟩
  obtain rfl : c = true := hc.2 hI
  obtain ⟨s1, s2, s3⟩ := HS3.out
  have hBw := s1.trans (hB4.mono s1.size)
  have hX := block_below hB4 (lt_of_heap s2) s2
  have hj3 := JV.stb _ _ _ _ hB4 s3
  have HS4 : Hid _ := (⟨hBw, hX, hj3⟩ : _ ∧ _ ∧ _)
  have z0 : w4.cell? ⟨W.heap.size, 0, none⟩ = some d0 := (cell_of_row _ _ _ _ _ _ hX).trans rfl
  have z1 : w4.cell? ⟨W.heap.size, 1, none⟩ = some d1 := (cell_of_row _ _ _ _ _ _ hX).trans rfl
  have z2 : w4.cell? ⟨W.heap.size, 2, none⟩ = some d2 := (cell_of_row _ _ _ _ _ _ hX).trans rfl
  have z3 : w4.cell? ⟨W.heap.size, 3, none⟩ = some d3 := (cell_of_row _ _ _ _ _ _ hX).trans rfl
  have z4 : w4.cell? ⟨W.heap.size, 4, none⟩ = some d4 := (cell_of_row _ _ _ _ _ _ hX).trans rfl
  clear HS3 hX hBw hj3 s1 s2 s3 hB4 y0 y1 y2 y3 y4 hc
  have hwf := wf_of_is 8 6 _ hI
  go_wp2_with fail
  refine (writeR 8 (cutJ 8 j) _ _ hwf HS4.out.2.2 hsm).mono ?_
  rintro e w5 ⟨_, rfl, hB5, rfl⟩
  have hB := HS4.out.1.trans (hB5.mono HS4.out.1.size)
  have hsz := strOf_size (writeJ 8 (cutJ 8 j))
  obtain ⟨S, hS⟩ : ∃ S, S = strOf (writeJ 8 (cutJ 8 j)) := ⟨_, rfl⟩
  rw [← hS] at hsz ⊢
  clear z0 z1 z2 z3 z4 hB5 hS
  have hi : ¬ (2000 : Int) < (S.size : Int) := by omega
  have hee : (S.toList == S.toList) = true := by simp
  go_wp2_with fail
  refine (livesP _ (HT.out.below hB)).mono ?_
  rintro e w6 ⟨_, rfl, hB6, rfl⟩
  have hBz := hB.trans (hB6.mono hB.size)
  go_wp2
  go_ret
  exact ⟨_, rfl, hBz, rfl⟩
theorem jsonWritesB (W : World) {j : J 8} {v : Value} (hT : Tab W) (hv : JV j v W) (hI : IsJ 8 6 (cutJ 8 j)) (hL : 2000 < (writeJ 8 (cutJ 8 j)).length) : Ret 3 #[v] W (Is (.bool true)) := by
  have HT : Hid (Tab W) := hT
  clear hT
  obtain ⟨cs, rfl, h5, hJ⟩ := hv
  obtain ⟨c0, c1, c2, c3, c4, rfl⟩ : ∃ c0 c1 c2 c3 c4, cs = [c0, c1, c2, c3, c4] := by
    match cs, h5 with
    | [c0, c1, c2, c3, c4], _ => exact ⟨c0, c1, c2, c3, c4, rfl⟩
  have hjv : JV j (.agg #[c0, c1, c2, c3, c4]) W := ⟨_, rfl, rfl, hJ⟩
  show Ret _ #[.agg #[c0, c1, c2, c3, c4]] W _
  have hsm := writeJ_small j
  have hB0 : Below W.heap.size W (W.alloc (.cells #[c0, c1, c2, c3, c4] 25)) := below1 _ _
  have hX0 : (W.alloc (.cells #[c0, c1, c2, c3, c4] 25)).heap[W.heap.size]? = some (.cells #[c0, c1, c2, c3, c4] 25 (0, 0)) := heap_alloc_new _ _
  have hjv0 := JV.stb j _ _ _ hB0 hjv
  have hc := cutR 7 j _ _ (by decide) hjv0
  have HX0 : Hid _ := hX0
  have hz5 : (Tryd.prog.info? 25).map (·.size) = some 5 := by kernel_rfl
  clear hX0 hJ hjv hjv0
  unfold Ret
  go_enter Tryd.func3, Tryd.ntmps3
  go_wp2_with fail
  refine hc.mono ?_
  rintro e w1 ⟨_, rfl, hB1, cs, rfl, h5, hJ⟩
  clear hc
  have hone := JM.one (by decide) hJ
  obtain ⟨d0, d1, d2, d3, d4, rfl⟩ : ∃ d0 d1 d2 d3 d4, cs = [d0, d1, d2, d3, d4] := by
    match cs, h5 with
    | [d0, d1, d2, d3, d4], _ => exact ⟨d0, d1, d2, d3, d4, rfl⟩
  have hX1 : w1.heap[W.heap.size]? = some (.cells #[c0, c1, c2, c3, c4] 25 (0, 0)) := block_below hB1 (by simp) HX0.out
  have hall : (#[d0, d1, d2, d3, d4] : Array Value).all (·.oneCell') = true := by simp [hone]
  have hB2 : Below W.heap.size W (w1.setRow W.heap.size #[d0, d1, d2, d3, d4]) := setRow_below (hB0.trans (hB1.mono hB0.size)) (Nat.le_refl _) _
  have hX2 : (w1.setRow W.heap.size #[d0, d1, d2, d3, d4]).heap[W.heap.size]? = some (.cells #[d0, d1, d2, d3, d4] 25 (0, 0)) := setRow_heap _ _ _ _ _ _ hX1
  have hJ2 : JV (cutJ 8 j) (.agg #[d0, d1, d2, d3, d4]) (w1.setRow W.heap.size #[d0, d1, d2, d3, d4]) := ⟨_, rfl, rfl, JM.jc _ _ _ _ (JM.move (T := fun _ => True) (fun b _ hS => ⟨trivial, setRow_other _ _ _ _ (by simp at hS; omega)⟩) _ _ _ hJ)⟩
  clear hJ hone hB1 hB0
  have x0 : (w1.setRow W.heap.size #[d0, d1, d2, d3, d4]).cell? ⟨W.heap.size, 0, none⟩ = some d0 := (cell_of_row _ _ _ _ _ _ hX2).trans rfl
  have x1 : (w1.setRow W.heap.size #[d0, d1, d2, d3, d4]).cell? ⟨W.heap.size, 1, none⟩ = some d1 := (cell_of_row _ _ _ _ _ _ hX2).trans rfl
  have x2 : (w1.setRow W.heap.size #[d0, d1, d2, d3, d4]).cell? ⟨W.heap.size, 2, none⟩ = some d2 := (cell_of_row _ _ _ _ _ _ hX2).trans rfl
  have x3 : (w1.setRow W.heap.size #[d0, d1, d2, d3, d4]).cell? ⟨W.heap.size, 3, none⟩ = some d3 := (cell_of_row _ _ _ _ _ _ hX2).trans rfl
  have x4 : (w1.setRow W.heap.size #[d0, d1, d2, d3, d4]).cell? ⟨W.heap.size, 4, none⟩ = some d4 := (cell_of_row _ _ _ _ _ _ hX2).trans rfl
  have HS : Hid _ := (⟨hB2, hX2, hJ2⟩ : _ ∧ _ ∧ _)
  clear hB2 hX2 hJ2
  go_wp2_with (refine wpList_store_row rfl 25 (.tmp 1) (.tmp 8) rfl W.heap.size #[d0, d1, d2, d3, d4] rfl rfl 25 _ hX1 hz5 rfl hall ?_)
  refine (writeP (n := 7) (cutJ 8 j) _ _ (HT.out.below HS.out.1) (cutJ_full 7 j) (TxtJ.mono (by decide) _ _ (cutJ_txt 8 j)) HS.out.2.2).mono ?_
  rintro e w3 ⟨r, rfl, hB3, hr⟩
  have hr := hr.2.1 hI hL
  subst hr
  obtain ⟨s1, s2, s3⟩ := HS.out
  have hBw := s1.trans (hB3.mono s1.size)
  have hX := block_below hB3 (lt_of_heap s2) s2
  have hj3 := JV.stb _ _ _ _ hB3 s3
  have HS3 : Hid _ := (⟨hBw, hX, hj3⟩ : _ ∧ _ ∧ _)
  have y0 : w3.cell? ⟨W.heap.size, 0, none⟩ = some d0 := (cell_of_row _ _ _ _ _ _ hX).trans rfl
  have y1 : w3.cell? ⟨W.heap.size, 1, none⟩ = some d1 := (cell_of_row _ _ _ _ _ _ hX).trans rfl
  have y2 : w3.cell? ⟨W.heap.size, 2, none⟩ = some d2 := (cell_of_row _ _ _ _ _ _ hX).trans rfl
  have y3 : w3.cell? ⟨W.heap.size, 3, none⟩ = some d3 := (cell_of_row _ _ _ _ _ _ hX).trans rfl
  have y4 : w3.cell? ⟨W.heap.size, 4, none⟩ = some d4 := (cell_of_row _ _ _ _ _ _ hX).trans rfl
  clear HS hX hBw hj3 s1 s2 s3 hX1 hB3 x0 x1 x2 x3 x4
  go_wp2_with fail
  refine (isR 8 6 (cutJ 8 j) _ _ (by decide) (by decide) (TxtJ.mono (by decide) _ _ (cutJ_txt 8 j)) HS3.out.2.2).mono ?_
  rintro e w4 ⟨_, rfl, hB4, c, rfl, hc⟩
  obtain rfl : c = true := hc.2 hI
  obtain ⟨s1, s2, s3⟩ := HS3.out
  have hBw := s1.trans (hB4.mono s1.size)
  have hX := block_below hB4 (lt_of_heap s2) s2
  have hj3 := JV.stb _ _ _ _ hB4 s3
  have HS4 : Hid _ := (⟨hBw, hX, hj3⟩ : _ ∧ _ ∧ _)
  have z0 : w4.cell? ⟨W.heap.size, 0, none⟩ = some d0 := (cell_of_row _ _ _ _ _ _ hX).trans rfl
  have z1 : w4.cell? ⟨W.heap.size, 1, none⟩ = some d1 := (cell_of_row _ _ _ _ _ _ hX).trans rfl
  have z2 : w4.cell? ⟨W.heap.size, 2, none⟩ = some d2 := (cell_of_row _ _ _ _ _ _ hX).trans rfl
  have z3 : w4.cell? ⟨W.heap.size, 3, none⟩ = some d3 := (cell_of_row _ _ _ _ _ _ hX).trans rfl
  have z4 : w4.cell? ⟨W.heap.size, 4, none⟩ = some d4 := (cell_of_row _ _ _ _ _ _ hX).trans rfl
  clear HS3 hX hBw hj3 s1 s2 s3 hB4 y0 y1 y2 y3 y4 hc
  have hwf := wf_of_is 8 6 _ hI
  go_wp2_with fail
  refine (writeR 8 (cutJ 8 j) _ _ hwf HS4.out.2.2 hsm).mono ?_
  rintro e w5 ⟨_, rfl, hB5, rfl⟩
  have hB := HS4.out.1.trans (hB5.mono HS4.out.1.size)
  have hsz := strOf_size (writeJ 8 (cutJ 8 j))
  obtain ⟨S, hS⟩ : ∃ S, S = strOf (writeJ 8 (cutJ 8 j)) := ⟨_, rfl⟩
  rw [← hS] at hsz ⊢
  clear z0 z1 z2 z3 z4 hB5 hS
  have hi : (2000 : Int) < (S.size : Int) := by omega
  go_wp2_with fail
  refine (livesP _ (HT.out.below hB)).mono ?_
  rintro e w6 ⟨_, rfl, hB6, rfl⟩
  have hBz := hB.trans (hB6.mono hB.size)
  go_wp2
  go_ret
  exact ⟨_, rfl, hBz, rfl⟩
theorem jsonWritesC (W : World) {j : J 8} {v : Value} (hT : Tab W) (hv : JV j v W) (hI : ¬ IsJ 8 6 (cutJ 8 j)) : Ret 3 #[v] W (Is (.bool true)) := by
  have HT : Hid (Tab W) := hT
  clear hT
  obtain ⟨cs, rfl, h5, hJ⟩ := hv
  obtain ⟨c0, c1, c2, c3, c4, rfl⟩ : ∃ c0 c1 c2 c3 c4, cs = [c0, c1, c2, c3, c4] := by
    match cs, h5 with
    | [c0, c1, c2, c3, c4], _ => exact ⟨c0, c1, c2, c3, c4, rfl⟩
  have hjv : JV j (.agg #[c0, c1, c2, c3, c4]) W := ⟨_, rfl, rfl, hJ⟩
  show Ret _ #[.agg #[c0, c1, c2, c3, c4]] W _
  have hsm := writeJ_small j
  have hB0 : Below W.heap.size W (W.alloc (.cells #[c0, c1, c2, c3, c4] 25)) := below1 _ _
  have hX0 : (W.alloc (.cells #[c0, c1, c2, c3, c4] 25)).heap[W.heap.size]? = some (.cells #[c0, c1, c2, c3, c4] 25 (0, 0)) := heap_alloc_new _ _
  have hjv0 := JV.stb j _ _ _ hB0 hjv
  have hc := cutR 7 j _ _ (by decide) hjv0
  have HX0 : Hid _ := hX0
  have hz5 : (Tryd.prog.info? 25).map (·.size) = some 5 := by kernel_rfl
  clear hX0 hJ hjv hjv0
  unfold Ret
  go_enter Tryd.func3, Tryd.ntmps3
  go_wp2_with fail
  refine hc.mono ?_
  rintro e w1 ⟨_, rfl, hB1, cs, rfl, h5, hJ⟩
  clear hc
  have hone := JM.one (by decide) hJ
  obtain ⟨d0, d1, d2, d3, d4, rfl⟩ : ∃ d0 d1 d2 d3 d4, cs = [d0, d1, d2, d3, d4] := by
    match cs, h5 with
    | [d0, d1, d2, d3, d4], _ => exact ⟨d0, d1, d2, d3, d4, rfl⟩
  have hX1 : w1.heap[W.heap.size]? = some (.cells #[c0, c1, c2, c3, c4] 25 (0, 0)) := block_below hB1 (by simp) HX0.out
  have hall : (#[d0, d1, d2, d3, d4] : Array Value).all (·.oneCell') = true := by simp [hone]
  have hB2 : Below W.heap.size W (w1.setRow W.heap.size #[d0, d1, d2, d3, d4]) := setRow_below (hB0.trans (hB1.mono hB0.size)) (Nat.le_refl _) _
  have hX2 : (w1.setRow W.heap.size #[d0, d1, d2, d3, d4]).heap[W.heap.size]? = some (.cells #[d0, d1, d2, d3, d4] 25 (0, 0)) := setRow_heap _ _ _ _ _ _ hX1
  have hJ2 : JV (cutJ 8 j) (.agg #[d0, d1, d2, d3, d4]) (w1.setRow W.heap.size #[d0, d1, d2, d3, d4]) := ⟨_, rfl, rfl, JM.jc _ _ _ _ (JM.move (T := fun _ => True) (fun b _ hS => ⟨trivial, setRow_other _ _ _ _ (by simp at hS; omega)⟩) _ _ _ hJ)⟩
  clear hJ hone hB1 hB0
  have x0 : (w1.setRow W.heap.size #[d0, d1, d2, d3, d4]).cell? ⟨W.heap.size, 0, none⟩ = some d0 := (cell_of_row _ _ _ _ _ _ hX2).trans rfl
  have x1 : (w1.setRow W.heap.size #[d0, d1, d2, d3, d4]).cell? ⟨W.heap.size, 1, none⟩ = some d1 := (cell_of_row _ _ _ _ _ _ hX2).trans rfl
  have x2 : (w1.setRow W.heap.size #[d0, d1, d2, d3, d4]).cell? ⟨W.heap.size, 2, none⟩ = some d2 := (cell_of_row _ _ _ _ _ _ hX2).trans rfl
  have x3 : (w1.setRow W.heap.size #[d0, d1, d2, d3, d4]).cell? ⟨W.heap.size, 3, none⟩ = some d3 := (cell_of_row _ _ _ _ _ _ hX2).trans rfl
  have x4 : (w1.setRow W.heap.size #[d0, d1, d2, d3, d4]).cell? ⟨W.heap.size, 4, none⟩ = some d4 := (cell_of_row _ _ _ _ _ _ hX2).trans rfl
  have HS : Hid _ := (⟨hB2, hX2, hJ2⟩ : _ ∧ _ ∧ _)
  clear hB2 hX2 hJ2
  go_wp2_with (refine wpList_store_row rfl 25 (.tmp 1) (.tmp 8) rfl W.heap.size #[d0, d1, d2, d3, d4] rfl rfl 25 _ hX1 hz5 rfl hall ?_)
  refine (writeP (n := 7) (cutJ 8 j) _ _ (HT.out.below HS.out.1) (cutJ_full 7 j) (TxtJ.mono (by decide) _ _ (cutJ_txt 8 j)) HS.out.2.2).mono ?_
  rintro e w3 ⟨r, rfl, hB3, hr⟩
  have hr := hr.2.2 hI
  subst hr
  obtain ⟨s1, s2, s3⟩ := HS.out
  have hBw := s1.trans (hB3.mono s1.size)
  have hX := block_below hB3 (lt_of_heap s2) s2
  have hj3 := JV.stb _ _ _ _ hB3 s3
  have HS3 : Hid _ := (⟨hBw, hX, hj3⟩ : _ ∧ _ ∧ _)
  have y0 : w3.cell? ⟨W.heap.size, 0, none⟩ = some d0 := (cell_of_row _ _ _ _ _ _ hX).trans rfl
  have y1 : w3.cell? ⟨W.heap.size, 1, none⟩ = some d1 := (cell_of_row _ _ _ _ _ _ hX).trans rfl
  have y2 : w3.cell? ⟨W.heap.size, 2, none⟩ = some d2 := (cell_of_row _ _ _ _ _ _ hX).trans rfl
  have y3 : w3.cell? ⟨W.heap.size, 3, none⟩ = some d3 := (cell_of_row _ _ _ _ _ _ hX).trans rfl
  have y4 : w3.cell? ⟨W.heap.size, 4, none⟩ = some d4 := (cell_of_row _ _ _ _ _ _ hX).trans rfl
  clear HS hX hBw hj3 s1 s2 s3 hX1 hB3 x0 x1 x2 x3 x4
  go_wp2_with fail
  refine (isR 8 6 (cutJ 8 j) _ _ (by decide) (by decide) (TxtJ.mono (by decide) _ _ (cutJ_txt 8 j)) HS3.out.2.2).mono ?_
  rintro e w4 ⟨_, rfl, hB4, c, rfl, hc⟩
  obtain rfl : c = false := by cases c with | false => rfl | true => exact absurd (hc.1 rfl) hI
  obtain ⟨s1, s2, s3⟩ := HS3.out
  have hBw := s1.trans (hB4.mono s1.size)
  have hX := block_below hB4 (lt_of_heap s2) s2
  have hj3 := JV.stb _ _ _ _ hB4 s3
  have HS4 : Hid _ := (⟨hBw, hX, hj3⟩ : _ ∧ _ ∧ _)
  have z0 : w4.cell? ⟨W.heap.size, 0, none⟩ = some d0 := (cell_of_row _ _ _ _ _ _ hX).trans rfl
  have z1 : w4.cell? ⟨W.heap.size, 1, none⟩ = some d1 := (cell_of_row _ _ _ _ _ _ hX).trans rfl
  have z2 : w4.cell? ⟨W.heap.size, 2, none⟩ = some d2 := (cell_of_row _ _ _ _ _ _ hX).trans rfl
  have z3 : w4.cell? ⟨W.heap.size, 3, none⟩ = some d3 := (cell_of_row _ _ _ _ _ _ hX).trans rfl
  have z4 : w4.cell? ⟨W.heap.size, 4, none⟩ = some d4 := (cell_of_row _ _ _ _ _ _ hX).trans rfl
  clear HS3 hX hBw hj3 s1 s2 s3 hB4 y0 y1 y2 y3 y4 hc
  have hB := HS4.out.1
  go_wp2_with fail
  refine (livesP _ (HT.out.below hB)).mono ?_
  rintro e w6 ⟨_, rfl, hB6, rfl⟩
  have hBz := hB.trans (hB6.mono hB.size)
  go_wp2
  go_ret
  exact ⟨_, rfl, hBz, rfl⟩
theorem jsonWrites (W : World) {j : J 8} {v : Value} (hT : Tab W) (hv : JV j v W) : Ret 3 #[v] W (Is (.bool true)) := by
  by_cases hI : IsJ 8 6 (cutJ 8 j)
  · by_cases hL : (writeJ 8 (cutJ 8 j)).length ≤ 2000
    · exact jsonWritesA W hT hv hI hL
    · exact jsonWritesB W hT hv hI (by omega)
  · exact jsonWritesC W hT hv hI
end Go.Proofs.YtljgnpneeecafaaDoor
