/-
  Ids: what a scan from the front on knows; the least that is greater than the last one. Ids: the reference's bytes of some. Ids: the reference's domains, paths, agents' paths, selectors and ids. Ids: the reference's paths, agents' paths, selectors and ids. Ids: the reference's agents' paths, selectors and ids. The reference of JSON: Same. The reference of JSON: Write. The reference of JSON: Is. The reference of JSON: Is, on. The reference of JSON: Is, on. Values of JSON whose blocks are told; what is cut. Ids: the reference's lists of texts: whether one is there, whether all are there, whether two are the same. Ids: rows of texts that the call owns; texts in their order. Ids: the reference's sets of selectors. Ids: what is made of a domain and a path is parsed as these; the laws' own cuts. The library's contracts for this program's functions of strings, laid out of the library's own theorems (what the kit's own command prints). Ids: what the library's functions of strings tell, as functions of lists of bytes.
-/
import Derived.Test.YtbidoiipebokoaaDoorC0
import Derived.BigQuiet
import Derived.Deep.AppendLies
import Derived.Laws.AppendOwn
import Derived.Shelf.Small.Strs
import Derived.Shelf.Small.Wraps
import Derived.Shelf.Strings.Prefix
import Derived.Shelf.Strings.Search2
import Derived.Shelf.Strings.SlTrimAscii
import Derived.Test.YtbidoiipebokoaaDoorProg
set_option linter.unusedVariables false
set_option linter.unusedSimpArgs false
namespace Go.Proofs.YtbidoiipebokoaaDoor
theorem Str.cut {s : ByteArray} {l : List Nat} {f k : Nat} (h : Str s l) (h1 : f ≤ k) (h2 : k ≤ s.size) : Str (s.extract f k) ((l.drop f).take (k - f)) := by
  have hsz := h.size
  refine ⟨by simp; omega, fun i hi => ?_, (h.dig.drop f).take _⟩
  have hi2 : f + i < k := by simp at hi; omega
  have h3 := h.at' (f + i) (by omega)
  rw [ByteArray.getElem_extract, h3]
  simp [show i < k - f by omega]
theorem drop_at {l : List Nat} {k : Nat} (h : k < l.length) : l.drop k = l.getD k 0 :: l.drop (k + 1) := by
  rw [List.drop_eq_getElem_cons h]
  simp [h]
theorem mem_cut {l : List Nat} {f k c : Nat} (h : c ∈ (l.drop f).take (k - f)) : ∃ j, f ≤ j ∧ j < k ∧ j < l.length ∧ l.getD j 0 = c := by
  obtain ⟨i, hi, rfl⟩ := List.getElem_of_mem h
  simp at hi
  refine ⟨f + i, by omega, by omega, by omega, ?_⟩
  simp [show f + i < l.length by omega]
theorem cut_app {l : List Nat} {f k : Nat} (h : f ≤ k) : l.drop f = (l.drop f).take (k - f) ++ l.drop k := by
  conv => lhs; rw [← List.take_append_drop (k - f) (l.drop f)]
  rw [List.drop_drop, show f + (k - f) = k by omega]
theorem seg_step {l : List Nat} {f k : Nat} (hf : f ≤ k) (hk : k < l.length) (hn : ∀ j, f ≤ j → j < k → l.getD j 0 ≠ 47) (hc : l.getD k 0 = 47) : segs (l.drop f) = (l.drop f).take (k - f) :: segs (l.drop (k + 1)) := by
  conv => lhs; rw [cut_app hf, drop_at hk, hc]
  exact segs_app _ (fun hm => by obtain ⟨j, h1, h2, _, h4⟩ := mem_cut hm; exact hn j h1 h2 h4)
theorem seg_end {l : List Nat} {f : Nat} (hf : f ≤ l.length) (hn : ∀ j, f ≤ j → j < l.length → l.getD j 0 ≠ 47) : segs (l.drop f) = [(l.drop f).take (l.length - f)] := by
  have e : (l.drop f).take (l.length - f) = l.drop f := List.take_of_length_le (by simp)
  have hm : 47 ∉ (l.drop f).take (l.length - f) := fun hm => by obtain ⟨j, h1, h2, _, h4⟩ := mem_cut hm; exact hn j h1 h2 h4
  rw [e] at hm ⊢
  exact segs_none hm
theorem upTo_at {c : Nat} {l : List Nat} {k : Nat} (hk : k < l.length) (hn : ∀ j, j < k → l.getD j 0 ≠ c) (hc : l.getD k 0 = c) : upTo c l = l.take k ∧ fromC c l = l.drop k := by
  have e : l = l.take k ++ c :: l.drop (k + 1) := by conv => lhs; rw [← List.take_append_drop k l, drop_at hk, hc]
  have hm : c ∉ l.take k := fun hm => by
    obtain ⟨i, hi, he⟩ := List.getElem_of_mem hm
    simp at hi
    refine hn i (by omega) ?_
    rw [List.getElem_take] at he
    simp [show i < l.length by omega, he]
  have := upTo_app (l.drop (k + 1)) hm
  rw [← e] at this
  refine ⟨this.1, this.2.trans ?_⟩
  rw [drop_at hk, hc]
theorem upTo_end {c : Nat} {l : List Nat} (hn : ∀ j, j < l.length → l.getD j 0 ≠ c) : upTo c l = l ∧ fromC c l = [] := upTo_none (fun hm => by
  obtain ⟨i, hi, he⟩ := List.getElem_of_mem hm
  exact hn i hi (by simp [hi, he]))
theorem of_not {l so : List Nat} {m k : Nat} (hk : k < l.length) (h : inB (l.getD k 0) so = false) : ofB l so m = false := by
  unfold ofB
  rw [Bool.and_eq_false_iff]
  left
  rw [List.all_eq_false]
  refine ⟨l[k], List.getElem_mem hk, ?_⟩
  rw [show l.getD k 0 = l[k] by simp [hk]] at h
  simp [h]
theorem of_all {l so : List Nat} {m : Nat} (h : ∀ j, j < l.length → inB (l.getD j 0) so = true) : ofB l so m = (decide (1 ≤ l.length) && decide (l.length ≤ m)) := by
  unfold ofB
  rw [show l.all (fun c => inB c so) = true from List.all_eq_true.2 (fun x hx => by
    obtain ⟨i, hi, rfl⟩ := List.getElem_of_mem hx
    have := h i hi
    rwa [show l.getD i 0 = l[i] by simp [hi]] at this)]
  simp
theorem in_not {c : Nat} {l : List Nat} (h : ∀ j, j < l.length → l.getD j 0 ≠ c) : inB c l = false := by
  cases hb : inB c l with
  | false => rfl
  | true =>
    obtain ⟨i, hi, he⟩ := List.getElem_of_mem (inB_iff.1 hb)
    exact absurd (by simp [hi, he]) (h i hi)
theorem in_at {c : Nat} {l : List Nat} {k : Nat} (hk : k < l.length) (h : l.getD k 0 = c) : inB c l = true := inB_iff.2 (by rw [← h]; simp [hk])
theorem vis_not {l : List Nat} {k : Nat} (hk : k < l.length) (h : l.getD k 0 < 33 ∨ 126 < l.getD k 0) : vis l = false := by
  unfold vis
  rw [List.all_eq_false]
  refine ⟨l[k], List.getElem_mem hk, ?_⟩
  rw [show l.getD k 0 = l[k] by simp [hk]] at h
  simp; omega
theorem vis_all {l : List Nat} (h : ∀ j, j < l.length → 33 ≤ l.getD j 0 ∧ l.getD j 0 ≤ 126) : vis l = true := by
  unfold vis
  refine List.all_eq_true.2 (fun x hx => ?_)
  obtain ⟨i, hi, rfl⟩ := List.getElem_of_mem hx
  have := h i hi
  rw [show l.getD i 0 = l[i] by simp [hi]] at this
  simp; omega
/- sets -/
/-- Is it greater than the last one? -/
def okB (out : List (List Nat)) (x : List Nat) : Bool := decide (out.length = 0) || ltN (out.getD (out.length - 1) []) x
theorem okB_app (out : List (List Nat)) (b x : List Nat) : okB (out ++ [b]) x = ltN b x := by
  unfold okB
  simp
theorem rise_last : ∀ {out : List (List Nat)}, Rise out → ∀ x ∈ out, x = out.getD (out.length - 1) [] ∨ ltN x (out.getD (out.length - 1) []) = true
  | [], _, x, hx => by cases hx
  | [y], _, x, hx => by rcases List.mem_singleton.1 hx with rfl; exact .inl rfl
  | y :: z :: l, h, x, hx => by
    have h' := List.pairwise_cons.1 h
    have e : (y :: z :: l).getD ((y :: z :: l).length - 1) [] = (z :: l).getD ((z :: l).length - 1) [] := by simp
    rw [e]
    rcases List.mem_cons.1 hx with rfl | hx
    · right
      have hm : (z :: l).getD ((z :: l).length - 1) [] ∈ z :: l := by
        rw [show (z :: l).getD ((z :: l).length - 1) [] = (z :: l)[(z :: l).length - 1]'(by simp) by simp]
        exact List.getElem_mem _
      exact h'.1 _ hm
    · exact rise_last h'.2 x hx
theorem rise_app {out : List (List Nat)} {b : List Nat} (h : Rise out) (hb : okB out b = true) : Rise (out ++ [b]) := by
  refine List.pairwise_append.2 ⟨h, List.pairwise_singleton _ _, fun x hx y hy => ?_⟩
  rcases List.mem_singleton.1 hy with rfl
  have hl : 0 < out.length := List.length_pos_of_mem hx
  have hb : ltN (out.getD (out.length - 1) []) y = true := by
    unfold okB at hb
    rcases Bool.or_eq_true_iff.1 hb with h1 | h1
    · have := of_decide_eq_true h1; omega
    · exact h1
  rcases rise_last h x hx with e | h2
  · rw [e]; exact hb
  · exact ltN_tr h2 hb
/-- The least of the first ones that are greater than the last one; nothing, if there is none. -/
def BestR (l out : List (List Nat)) (i : Nat) (b : List Nat) : Prop :=
  (b = [] ∧ ∀ j, j < i → okB out (l.getD j []) = false) ∨ (b ≠ [] ∧ b ∈ l ∧ okB out b = true ∧ ∀ j, j < i → okB out (l.getD j []) = true → ltN (l.getD j []) b = false)
theorem best_step {l out : List (List Nat)} {i : Nat} {b : List Nat} (hi : i < l.length) (hne : l.getD i [] ≠ []) (h : BestR l out i b) :
    BestR l out (i + 1) (if okB out (l.getD i []) = true ∧ (b = [] ∨ ltN (l.getD i []) b = true) then l.getD i [] else b) := by
  have hm : l.getD i [] ∈ l := by rw [show l.getD i [] = l[i] by simp [hi]]; exact List.getElem_mem hi
  split
  · rename_i hc
    refine .inr ⟨hne, hm, hc.1, fun j hj ho => ?_⟩
    by_cases hji : j = i
    · rw [hji]; exact ltN_irr _
    · rcases h with ⟨_, h2⟩ | ⟨h1, _, _, h4⟩
      · rw [h2 j (by omega)] at ho; cases ho
      · have h5 := h4 j (by omega) ho
        have h6 : ltN (l.getD i []) b = true := hc.2.resolve_left h1
        cases hx : ltN (l.getD j []) (l.getD i []) with
        | false => rfl
        | true => have := ltN_tr hx h6; rw [h5] at this; cases this
  · rename_i hc
    rcases h with ⟨h1, h2⟩ | ⟨h1, h2, h3, h4⟩
    · refine .inl ⟨h1, fun j hj => ?_⟩
      by_cases hji : j = i
      · rw [hji]
        cases hx : okB out (l.getD i []) with
        | false => rfl
        | true => exact absurd ⟨hx, .inl h1⟩ hc
      · exact h2 j (by omega)
    · refine .inr ⟨h1, h2, h3, fun j hj ho => ?_⟩
      by_cases hji : j = i
      · rw [hji] at ho ⊢
        cases hx : ltN (l.getD i []) b with
        | false => rfl
        | true => exact absurd ⟨ho, .inr hx⟩ hc
      · exact h4 j (by omega) ho
def OutR (l out : List (List Nat)) : Prop := Rise out ∧ (∀ x ∈ out, x ∈ l) ∧ (∀ x ∈ l, x ∈ out ∨ okB out x = true) ∧ out.length + l.countP (okB out) ≤ l.length
theorem out_start (l : List (List Nat)) : OutR l [] := ⟨List.Pairwise.nil, (fun x hx => by cases hx), (fun x _ => .inr rfl), by simpa using List.countP_le_length⟩
theorem countP_less {p q : List Nat → Bool} : ∀ {l : List (List Nat)}, (∀ x ∈ l, q x = true → p x = true) → (∃ x ∈ l, p x = true ∧ q x = false) → l.countP q < l.countP p
  | [], _, h => by obtain ⟨x, hx, _⟩ := h; cases hx
  | y :: l, h1, h2 => by
    have hle : l.countP q ≤ l.countP p := List.countP_mono_left (fun x hx => h1 x (List.mem_cons_of_mem _ hx))
    obtain ⟨x, hx, hp, hq⟩ := h2
    rw [List.countP_cons, List.countP_cons]
    rcases List.mem_cons.1 hx with rfl | hx
    · simp [hp, hq]; omega
    · have hlt := countP_less (fun x hx => h1 x (List.mem_cons_of_mem _ hx)) ⟨x, hx, hp, hq⟩
      have := h1 y (by simp)
      by_cases hy : q y = true
      · simp [hy, this hy]; omega
      · simp [hy]; omega
theorem out_step {l out : List (List Nat)} {b : List Nat} (h : OutR l out) (hb : BestR l out l.length b) (hne : b ≠ []) : OutR l (out ++ [b]) := by
  obtain ⟨h1, h2, h3, h4⟩ := h
  rcases hb with ⟨hb, _⟩ | ⟨_, hbl, hbo, hbm⟩
  · exact absurd hb hne
  · refine ⟨rise_app h1 hbo, fun x hx => ?_, fun x hx => ?_, ?_⟩
    · rcases List.mem_append.1 hx with hx | hx
      · exact h2 x hx
      · rw [List.mem_singleton.1 hx]; exact hbl
    · rw [okB_app]
      rcases h3 x hx with h5 | h5
      · exact .inl (List.mem_append_left _ h5)
      · obtain ⟨j, hj, rfl⟩ := List.getElem_of_mem hx
        have e : l.getD j [] = l[j] := by simp [hj]
        have h6 := hbm j hj (by rw [e]; exact h5)
        rw [e] at h6
        rcases ltN_tot b l[j] with h7 | h7 | h7
        · exact .inr h7
        · exact .inl (List.mem_append_right _ (by simp [h7]))
        · rw [h6] at h7; cases h7
    · have : l.countP (okB (out ++ [b])) < l.countP (okB out) := countP_less (fun x hx hq => by
        rw [okB_app] at hq
        unfold okB at hbo ⊢
        rcases Bool.or_eq_true_iff.1 hbo with h5 | h5
        · simp [of_decide_eq_true h5]
        · rw [ltN_tr h5 hq]; simp) ⟨b, hbl, hbo, by rw [okB_app]; exact ltN_irr b⟩
      simp
      omega
theorem out_end {l out : List (List Nat)} (h : OutR l out) (hb : BestR l out l.length []) : out = setL l := by
  obtain ⟨h1, h2, h3, _⟩ := h
  rcases hb with ⟨_, hb⟩ | ⟨hb, _⟩
  · refine setL_of h1 (fun x => ⟨h2 x, fun hx => ?_⟩)
    rcases h3 x hx with h5 | h5
    · exact h5
    · obtain ⟨j, hj, rfl⟩ := List.getElem_of_mem hx
      have := hb j hj
      rw [show l.getD j [] = l[j] by simp [hj], h5] at this; cases this
  · exact absurd rfl hb
theorem selB_ne {x : List Nat} (h : selB x = true) : x ≠ [] := by
  intro e
  subst e
  simp [selB, fromC] at h
end Go.Proofs.YtbidoiipebokoaaDoor
set_option linter.unusedVariables false
set_option linter.unusedSimpArgs false
namespace Go.Proofs.YtbidoiipebokoaaDoor
open Go.RowKit Go.Sort Go.BigFrame
set_option maxRecDepth 100000
set_option maxHeartbeats 2000000
/-- A call that answers a truth and changes nothing. -/
def Says (f : Nat) (args : Array Value) (w : World) (b : Bool) : Prop := Calls Tryd.prog f args w fun e w' => e = .returned (.bool b) ∧ w' = w
theorem in9 {s : ByteArray} {bs : List Nat} (c : Nat) (w : World) (hc : c < 256) (h : Str s bs) (hl : s.size ≤ 9223372036854775807) : Says 32 #[.int .u8 (c : Int), .string s] w (inB c bs) := by
  obtain ⟨hsz, hat, hd⟩ := h
  obtain ⟨n, hn⟩ : ∃ n, n = s.size := ⟨_, rfl⟩
  have hts : s.size = n := hn.symm
  have HN : Hid (n = bs.length) := by show n = _; rw [hn, hsz]
  rw [← hn] at hl
  clear hsz hn
  unfold Says
  go_enter Tryd.func32, Tryd.ntmps32
  go_wp2_with fail
  go_loop [5] (fun i => ∃ k : Nat, k ≤ n ∧ i = .int .i64 k ∧ ∀ j, j < k → bs.getD j 0 ≠ c) (fun i => n - (intOf i).toNat)
  case atStart => exact ⟨0, by omega, rfl, fun j hj => by omega⟩
  case round =>
    obtain ⟨k, hk, rfl, hall⟩ := hrel
    by_cases hlt : k < n
    · have hks : k < s.size := by omega
      have hx := hat k hks
      obtain ⟨d, hdd⟩ : ∃ d, d = bs.getD k 0 := ⟨_, rfl⟩
      rw [← hdd] at hx
      have HC : Hid (d = bs.getD k 0) := hdd
      have HA : Hid (∀ j, j < k → bs.getD j 0 ≠ c) := hall
      clear hat hdd hall hd
      by_cases hdc : d = c
      · have hi : (d : Int) = (c : Int) := by omega
        have HB : Hid (inB c bs = true) := in_at (by rw [← HN.out]; exact hlt) (HC.out.symm.trans hdc)
        clear hdc
        go_wp2
        go_ret
        exact ⟨by rw [HB.out]; rfl, rfl⟩
      · have hi : ¬ (d : Int) = (c : Int) := by omega
        go_wp2
        go_round
        case rel =>
          refine ⟨k + 1, by omega, by go_num, fun j hj => ?_⟩
          by_cases hjk : j = k
          · rw [hjk, ← HC.out]; exact hdc
          · exact HA.out j (by omega)
        case measure => simp [intOf]; omega
    · obtain rfl : n = k := by omega
      have HB : Hid (inB c bs = false) := in_not (fun j hj => hall j (by rw [HN.out]; exact hj))
      clear hall
      go_wp2
      go_ret
      exact ⟨by rw [HB.out]; rfl, rfl⟩
theorem of9 {s t : ByteArray} {bs so : List Nat} (m : Nat) (w : World) (hm : m ≤ 1000) (h : Str s bs) (ht : Str t so) (hl : s.size ≤ 9223372036854775807) (hl2 : t.size ≤ 9223372036854775807) : Says 31 #[.string s, .string t, .int .i64 (m : Int)] w (ofB bs so m) := by
  obtain ⟨hsz, hat, hd⟩ := h
  obtain ⟨n, hn⟩ : ∃ n, n = s.size := ⟨_, rfl⟩
  have hts : s.size = n := hn.symm
  have HN : Hid (n = bs.length) := by show n = _; rw [hn, hsz]
  rw [← hn] at hl
  clear hsz hn
  unfold Says
  go_enter Tryd.func31, Tryd.ntmps31
  go_wp2_with fail
  go_loop [7] (fun i => ∃ k : Nat, k ≤ n ∧ i = .int .i64 k ∧ ∀ j, j < k → inB (bs.getD j 0) so = true) (fun i => n - (intOf i).toNat)
  case atStart => exact ⟨0, by omega, rfl, fun j hj => by omega⟩
  case round =>
    obtain ⟨k, hk, rfl, hall⟩ := hrel
    by_cases hlt : k < n
    · have hks : k < s.size := by omega
      have hx := hat k hks
      obtain ⟨d, hdd⟩ : ∃ d, d = bs.getD k 0 := ⟨_, rfl⟩
      rw [← hdd] at hx
      have HC : Hid (d = bs.getD k 0) := hdd
      have hd2 : d < 256 := by rw [hdd]; exact hd k
      have HA : Hid (∀ j, j < k → inB (bs.getD j 0) so = true) := hall
      have hin := in9 d w hd2 ht hl2
      clear hat hdd hall hd
      go_wp2_with fail
      refine Calls.mono hin ?_
      rintro e w2 ⟨rfl, rfl⟩
      cases hb : inB d so with
      | false =>
        have HB : Hid (ofB bs so m = false) := of_not (by rw [← HN.out]; exact hlt) (by rw [← HC.out]; exact hb)
        clear hb
        go_wp2
        go_ret
        exact ⟨by rw [HB.out]; rfl, rfl⟩
      | true =>
        have HB : Hid (inB d so = true) := hb
        clear hb
        go_wp2
        go_round
        case rel =>
          refine ⟨k + 1, by omega, by go_num, fun j hj => ?_⟩
          by_cases hjk : j = k
          · rw [hjk, ← HC.out]; exact HB.out
          · exact HA.out j (by omega)
        case measure => simp [intOf]; omega
    · obtain rfl : n = k := by omega
      have hB : ofB bs so m = (decide (1 ≤ bs.length) && decide (bs.length ≤ m)) := of_all (fun j hj => hall j (by rw [HN.out]; exact hj))
      rw [← HN.out] at hB
      have HB : Hid (ofB bs so m = (decide (1 ≤ n) && decide (n ≤ m))) := hB
      clear hall hB
      by_cases h1 : 1 ≤ n
      · have h1' : (1 : Int) ≤ (n : Int) := by omega
        by_cases h2 : n ≤ m
        · have h2' : (n : Int) ≤ (m : Int) := by omega
          have HB2 : Hid (ofB bs so m = true) := by show _ = _; rw [HB.out]; simp [h1, h2]
          go_wp2
          go_ret
          exact ⟨by rw [HB2.out]; rfl, rfl⟩
        · have h2' : ¬ (n : Int) ≤ (m : Int) := by omega
          have HB2 : Hid (ofB bs so m = false) := by show _ = _; rw [HB.out]; simp [h2]
          go_wp2
          go_ret
          exact ⟨by rw [HB2.out]; rfl, rfl⟩
      · have h1' : ¬ (1 : Int) ≤ (n : Int) := by omega
        have HB2 : Hid (ofB bs so m = false) := by show _ = _; rw [HB.out]; simp [h1]
        go_wp2
        go_ret
        exact ⟨by rw [HB2.out]; rfl, rfl⟩
end Go.Proofs.YtbidoiipebokoaaDoor
set_option linter.unusedVariables false
set_option linter.unusedSimpArgs false
namespace Go.Proofs.YtbidoiipebokoaaDoor
open Go.RowKit Go.Sort Go.BigFrame
set_option maxRecDepth 100000
set_option maxHeartbeats 4000000
theorem str_mk {a : Array UInt8} {l : List Nat} (h : a.toList.map UInt8.toNat = l) : Str ⟨a⟩ l := h ▸ str_of ⟨a⟩
theorem cutN {s : ByteArray} {n : Nat} (h2 : n ≤ s.size) (w : World) : (Instr.slice 9 (.string s) none (some (.int .i64 (n : Int))) none).run Tryd.prog w = .ok (.string (s.extract 0 n)) w := by
  simp [go_sem, h2]
theorem cutM {s : ByteArray} {n : Nat} (h2 : n ≤ s.size) (w : World) : (Instr.slice 9 (.string s) (some (.int .i64 (n : Int))) none none).run Tryd.prog w = .ok (.string (s.extract n s.size)) w := by
  simp [go_sem, h2]
theorem dom9 {s : ByteArray} {bs : List Nat} (w : World) (h : Str s bs) (hl : s.size ≤ 9223372036854775807) : Says 12 #[.string s] w (domB bs) := by
  have hsz := h.size
  have h1 := of9 16 w (by decide) h (str_mk (a := #[97, 98, 99, 100, 101, 102, 103, 104, 105, 106, 107, 108, 109, 110, 111, 112, 113, 114, 115, 116, 117, 118, 119, 120, 121, 122, 48, 49, 50, 51, 52, 53, 54, 55, 56, 57, 46, 45]) (l := abD) (by decide)) hl (by decide)
  have HS : Hid (Str s bs) := h
  have HN : Hid (s.size = bs.length) := hsz
  clear h hsz
  unfold Says
  go_enter Tryd.func12, Tryd.ntmps12
  go_wp2_with fail
  refine Calls.mono h1 ?_
  rintro e w2 ⟨rfl, rfl⟩
  cases hb : ofB bs abD 16 with
  | false =>
    have HB : Hid (domB bs = false) := by show _ = _; unfold domB; rw [hb]; rfl
    clear hb
    go_wp2
    go_ret
    exact ⟨by rw [HB.out]; rfl, rfl⟩
  | true =>
    have hp : 1 ≤ bs.length ∧ bs.length ≤ 16 := by
      unfold ofB at hb
      simp only [Bool.and_eq_true, decide_eq_true_eq] at hb
      exact hb.2
    have HO : Hid (ofB bs abD 16 = true) := hb
    obtain ⟨m, hm⟩ : ∃ m, s.size = m + 1 := ⟨bs.length - 1, by have := HN.out; omega⟩
    have hm16 : m < 16 := by have := HN.out; omega
    have x0 := HS.out.at' 0 (by omega)
    have x1 := HS.out.at' m (by omega)
    obtain ⟨a, ha⟩ : ∃ a, a = bs.getD 0 0 := ⟨_, rfl⟩
    obtain ⟨b, hb2⟩ : ∃ b, b = bs.getD m 0 := ⟨_, rfl⟩
    rw [← ha] at x0
    rw [← hb2] at x1
    have i1 := in9 a w2 (by rw [ha]; exact HS.out.dig 0) (str_mk (a := #[46, 45]) (l := [46, 45]) (by decide)) (by decide)
    have i2 := in9 b w2 (by rw [hb2]; exact HS.out.dig m) (str_mk (a := #[46, 45]) (l := [46, 45]) (by decide)) (by decide)
    have HB : Hid (domB bs = (!inB a [46, 45] && !inB b [46, 45])) := by
      show _ = _
      unfold domB
      rw [HO.out, ← ha, show bs.length - 1 = m by have := HN.out; omega, ← hb2]; rfl
    clear hb hp ha hb2 h1
    go_wp2_with fail
    refine Calls.mono i1 ?_
    rintro e w3 ⟨rfl, rfl⟩
    clear i1
    go_wp2_with fail
    refine Calls.mono i2 ?_
    rintro e w4 ⟨rfl, rfl⟩
    clear i2
    cases q1 : inB a [46, 45] <;> cases q2 : inB b [46, 45]
    all_goals rw [q1, q2] at HB
    all_goals go_wp2
    all_goals go_ret
    all_goals exact ⟨by rw [HB.out]; rfl, rfl⟩
end Go.Proofs.YtbidoiipebokoaaDoor
set_option linter.unusedVariables false
set_option linter.unusedSimpArgs false
namespace Go.Proofs.YtbidoiipebokoaaDoor
open Go.RowKit Go.Sort Go.BigFrame
set_option maxRecDepth 100000
set_option maxHeartbeats 4000000
theorem Str.upto {s : ByteArray} {l : List Nat} {k : Nat} (h : Str s l) (hk : k ≤ s.size) : Str (s.extract 0 k) (l.take k) := by
  have := h.cut (f := 0) (k := k) (Nat.zero_le _) hk
  simpa using this
theorem Str.from {s : ByteArray} {l : List Nat} {k : Nat} (h : Str s l) (hk : k ≤ s.size) : Str (s.extract k s.size) (l.drop k) := by
  have h1 := h.cut (f := k) (k := s.size) hk (Nat.le_refl _)
  have h2 := h.size
  rwa [List.take_of_length_le (by simp; omega)] at h1
theorem str_lit_eq {s : ByteArray} {x : List Nat} {a : Array UInt8} {l : List Nat} {b : List UInt8} (hs : Str s x) (ha : a.toList.map UInt8.toNat = l) (hb : a.toList = b) : (s.toList == b) = decide (x = l) := by
  have := str_eq_iff hs (str_mk ha)
  rw [Lib.toList_data ⟨a⟩] at this
  rw [← hb]; exact this
theorem path_seg {l : List Nat} {f k : Nat} (hf : f ≤ k) (hk : k ≤ l.length) (hn : ∀ j, f ≤ j → j < k → l.getD j 0 ≠ 47) (he : k = l.length ∨ (k < l.length ∧ l.getD k 0 = 47)) :
    (segs (l.drop f)).all segB = (segB ((l.drop f).take (k - f)) && (if k < l.length then (segs (l.drop (k + 1))).all segB else true)) := by
  rcases he with he | ⟨h1, h2⟩
  · subst he
    rw [seg_end hf hn]
    simp
  · rw [seg_step hf h1 hn h2]
    simp [h1]
theorem segB_of {w : List Nat} {a b c : Bool} (h1 : ofB w abP 40 = a) (h2 : (w == [46]) = b) (h3 : (w == [46, 46]) = c) : segB w = (a && (!b && !c)) := by unfold segB; rw [h1, h2, h3]
theorem path9 {s : ByteArray} {l : List Nat} (w : World) (h : Str s l) (hl : s.size ≤ 9223372036854775807) : Says 14 #[.string s] w (pathB l) := by
  have hsz := h.size
  obtain ⟨n, hn⟩ : ∃ n, n = s.size := ⟨_, rfl⟩
  have hts : s.size = n := hn.symm
  have HS : Hid (Str s l) := h
  have HN : Hid (n = l.length) := by show _ = _; omega
  unfold Says
  by_cases c1 : n < 2
  · have HB : Hid (pathB l = false) := by show _ = _; unfold pathB; simp [show ¬ 2 ≤ l.length by have := HN.out; omega]
    have i1 : (n : Int) < 2 := by omega
    clear h hsz hn
    go_enter Tryd.func14, Tryd.ntmps14
    go_wp2
    go_ret
    exact ⟨by rw [HB.out]; rfl, rfl⟩
  by_cases c2 : 40 < n
  · have HB : Hid (pathB l = false) := by show _ = _; unfold pathB; simp [show ¬ l.length ≤ 40 by have := HN.out; omega]
    have i1 : ¬ (n : Int) < 2 := by omega
    have i2 : (40 : Int) < (n : Int) := by omega
    clear h hsz hn
    go_enter Tryd.func14, Tryd.ntmps14
    go_wp2
    go_ret
    exact ⟨by rw [HB.out]; rfl, rfl⟩
  have i1 : ¬ (n : Int) < 2 := by omega
  have i2 : ¬ (40 : Int) < (n : Int) := by omega
  obtain ⟨a, ha⟩ : ∃ a, a = l.getD 0 0 := ⟨_, rfl⟩
  have hp0 : 0 < s.size := by omega
  have x0 := h.at' 0 hp0
  rw [← ha] at x0
  by_cases c3 : a = 47
  · have HP : Hid (pathB l = (segs (l.drop 1)).all segB) := by
      show _ = _
      unfold pathB
      rw [← ha, c3]
      simp [show 2 ≤ l.length by omega, show l.length ≤ 40 by omega]
    have i3 : (a : Int) = 47 := by omega
    have hd1 : 2 ≤ n := by omega
    have hd2 : n ≤ 40 := by omega
    clear h hsz hn ha c3 c1 c2
    go_enter Tryd.func14, Tryd.ntmps14
    go_wp2_with fail
    clear x0 i3
    go_loop [3, 4] (fun fv iv => ∃ f k : Nat, 1 ≤ f ∧ f ≤ k ∧ fv = .int .i64 f ∧ iv = .int .i64 k ∧ (∀ j, f ≤ j → j < k → l.getD j 0 ≠ 47) ∧ ((k ≤ n ∧ pathB l = (segs (l.drop f)).all segB) ∨ (k = n + 1 ∧ pathB l = true))) (fun fv iv => n + 1 - (intOf iv).toNat)
    case atStart => exact ⟨1, 1, by omega, by omega, rfl, rfl, fun j h1 h2 => by omega, .inl ⟨by omega, HP.out⟩⟩
    case round =>
      obtain ⟨f, k, hf1, hfk, rfl, rfl, hno, hrest⟩ := hrel
      by_cases hkn : k ≤ n
      · have hall : pathB l = (segs (l.drop f)).all segB := by
          rcases hrest with h | h
          · exact h.2
          · omega
        have j1 : (k : Int) ≤ (n : Int) := by omega
        have HA : Hid (pathB l = (segs (l.drop f)).all segB) := hall
        have HNO : Hid (∀ j, f ≤ j → j < k → l.getD j 0 ≠ 47) := hno
        obtain ⟨S, hSd⟩ : ∃ S, S = s.extract f k := ⟨_, rfl⟩
        obtain ⟨W, hW⟩ : ∃ W, W = (l.drop f).take (k - f) := ⟨_, rfl⟩
        have HST : Hid (Str S W) := by show Str _ _; rw [hSd, hW]; exact HS.out.cut hfk (by omega)
        have hct := fun (w : World) => cutI (s := s) hfk (by omega : k ≤ s.size) w
        rw [← hSd] at hct
        have hSz : S.size ≤ 40 := by rw [HST.out.size, hW]; simp; have := HN.out; omega
        clear hall hno hrest
        by_cases hk : k < n
        · have j2 : (k : Int) < (n : Int) := by omega
          have hks : k < s.size := by omega
          have hx := HS.out.at' k hks
          obtain ⟨d, hdd⟩ : ∃ d, d = l.getD k 0 := ⟨_, rfl⟩
          rw [← hdd] at hx
          have HC : Hid (d = l.getD k 0) := hdd
          clear hdd
          by_cases h47 : d = 47
          · have j3 : (d : Int) = 47 := by omega
            have hseg := path_seg hfk (by have := HN.out; omega) HNO.out (.inr ⟨by have := HN.out; omega, HC.out.symm.trans h47⟩)
            rw [← HA.out, ← hW] at hseg
            have HSEG : Hid (pathB l = (segB W && (if k < l.length then (segs (l.drop (k + 1))).all segB else true))) := hseg
            have hof := of9 40 w (by decide) HST.out (str_mk (a := #[97, 98, 99, 100, 101, 102, 103, 104, 105, 106, 107, 108, 109, 110, 111, 112, 113, 114, 115, 116, 117, 118, 119, 120, 121, 122, 65, 66, 67, 68, 69, 70, 71, 72, 73, 74, 75, 76, 77, 78, 79, 80, 81, 82, 83, 84, 85, 86, 87, 88, 89, 90, 48, 49, 50, 51, 52, 53, 54, 55, 56, 57, 46, 45, 95]) (l := abP) (by decide)) (by omega) (by decide)
            have q1 := str_lit_eq (a := #[46]) (l := [46]) (b := [46]) HST.out (by decide) (by decide)
            have q2 := str_lit_eq (a := #[46, 46]) (l := [46, 46]) (b := [46, 46]) HST.out (by decide) (by decide)
            clear hseg hW hSd
            go_wp2_with fail
            refine Calls.mono hof ?_
            rintro e w2 ⟨rfl, rfl⟩
            clear hof
            cases b1 : ofB W abP 40 with
            | false =>
              have HB : Hid (pathB l = false) := by show _ = _; rw [HSEG.out]; unfold segB; rw [b1]; rfl
              clear b1
              go_wp2
              go_ret
              exact ⟨by rw [HB.out]; rfl, rfl⟩
            | true =>
              by_cases b2 : W = [46]
              · have HB : Hid (pathB l = false) := by show _ = _; rw [HSEG.out, b2]; rfl
                rw [decide_eq_true b2] at q1
                clear b1 b2 q2
                go_wp2
                go_ret
                exact ⟨by rw [HB.out]; rfl, rfl⟩
              · rw [decide_eq_false b2] at q1
                by_cases b3 : W = [46, 46]
                · have HB : Hid (pathB l = false) := by show _ = _; rw [HSEG.out, b3]; rfl
                  rw [decide_eq_true b3] at q2
                  clear b1 b2 b3
                  go_wp2
                  go_ret
                  exact ⟨by rw [HB.out]; rfl, rfl⟩
                · rw [decide_eq_false b3] at q2
                  have HB : Hid (pathB l = (if k < l.length then (segs (l.drop (k + 1))).all segB else true)) := by
                    show _ = _
                    rw [HSEG.out]
                    unfold segB
                    rw [b1]
                    simp [b2, b3]
                  clear b1 b2 b3
                  go_wp2
                  go_round
                  case rel =>
                    refine ⟨k + 1, k + 1, by omega, by omega, by go_num, by go_num, fun j h1 h2 => by omega, ?_⟩
                    have := HN.out
                    by_cases hk : k < l.length
                    · exact .inl ⟨by omega, by rw [HB.out, if_pos hk]⟩
                    · exact .inr ⟨by omega, by rw [HB.out, if_neg hk]⟩
                  case measure => simp [intOf]; omega
          · have j3 : ¬ (d : Int) = 47 := by omega
            clear hSd hW hct
            go_wp2
            go_round
            case rel =>
              refine ⟨f, k + 1, hf1, by omega, rfl, by go_num, fun j h1 h2 => ?_, .inl ⟨by omega, HA.out⟩⟩
              by_cases hjk : j = k
              · rw [hjk, ← HC.out]; exact h47
              · exact HNO.out j h1 (by omega)
            case measure => simp [intOf]; omega
        · have j2 : ¬ (k : Int) < (n : Int) := by omega
          have hseg := path_seg hfk (by have := HN.out; omega) HNO.out (.inl (by have := HN.out; omega))
          rw [← HA.out, ← hW] at hseg
          have HSEG : Hid (pathB l = (segB W && (if k < l.length then (segs (l.drop (k + 1))).all segB else true))) := hseg
          have hof := of9 40 w (by decide) HST.out (str_mk (a := #[97, 98, 99, 100, 101, 102, 103, 104, 105, 106, 107, 108, 109, 110, 111, 112, 113, 114, 115, 116, 117, 118, 119, 120, 121, 122, 65, 66, 67, 68, 69, 70, 71, 72, 73, 74, 75, 76, 77, 78, 79, 80, 81, 82, 83, 84, 85, 86, 87, 88, 89, 90, 48, 49, 50, 51, 52, 53, 54, 55, 56, 57, 46, 45, 95]) (l := abP) (by decide)) (by omega) (by decide)
          have q1 := str_lit_eq (a := #[46]) (l := [46]) (b := [46]) HST.out (by decide) (by decide)
          have q2 := str_lit_eq (a := #[46, 46]) (l := [46, 46]) (b := [46, 46]) HST.out (by decide) (by decide)
          clear hseg hW hSd
          go_wp2_with fail
          refine Calls.mono hof ?_
          rintro e w2 ⟨rfl, rfl⟩
          clear hof
          cases b1 : ofB W abP 40 with
          | false =>
            have HB : Hid (pathB l = false) := by show _ = _; rw [HSEG.out]; unfold segB; rw [b1]; rfl
            clear b1
            go_wp2
            go_ret
            exact ⟨by rw [HB.out]; rfl, rfl⟩
          | true =>
            by_cases b2 : W = [46]
            · have HB : Hid (pathB l = false) := by show _ = _; rw [HSEG.out, b2]; rfl
              rw [decide_eq_true b2] at q1
              clear b1 b2 q2
              go_wp2
              go_ret
              exact ⟨by rw [HB.out]; rfl, rfl⟩
            · rw [decide_eq_false b2] at q1
              by_cases b3 : W = [46, 46]
              · have HB : Hid (pathB l = false) := by show _ = _; rw [HSEG.out, b3]; rfl
                rw [decide_eq_true b3] at q2
                clear b1 b2 b3
                go_wp2
                go_ret
                exact ⟨by rw [HB.out]; rfl, rfl⟩
              · rw [decide_eq_false b3] at q2
                have HB : Hid (pathB l = (if k < l.length then (segs (l.drop (k + 1))).all segB else true)) := by
                  show _ = _
                  rw [HSEG.out]
                  unfold segB
                  rw [b1]
                  simp [b2, b3]
                clear b1 b2 b3
                go_wp2
                go_round
                case rel =>
                  refine ⟨k + 1, k + 1, by omega, by omega, by go_num, by go_num, fun j h1 h2 => by omega, ?_⟩
                  have := HN.out
                  by_cases hk : k < l.length
                  · exact .inl ⟨by omega, by rw [HB.out, if_pos hk]⟩
                  · exact .inr ⟨by omega, by rw [HB.out, if_neg hk]⟩
                case measure => simp [intOf]; omega
      · have HB : Hid (pathB l = true) := by
          rcases hrest with h | h
          · omega
          · exact h.2
        have j1 : ¬ (k : Int) ≤ (n : Int) := by omega
        clear hrest hno
        go_wp2
        go_ret
        exact ⟨by rw [HB.out]; rfl, rfl⟩
  · have HB : Hid (pathB l = false) := by
      show _ = _
      unfold pathB
      rw [← ha]
      simp [c3]
    have i3 : ¬ (a : Int) = 47 := by omega
    clear h hsz hn ha c3
    go_enter Tryd.func14, Tryd.ntmps14
    go_wp2
    go_ret
    exact ⟨by rw [HB.out]; rfl, rfl⟩
end Go.Proofs.YtbidoiipebokoaaDoor
set_option linter.unusedVariables false
set_option linter.unusedSimpArgs false
namespace Go.Proofs.YtbidoiipebokoaaDoor
open Go.RowKit Go.Sort Go.BigFrame
set_option maxRecDepth 100000
set_option maxHeartbeats 4000000
theorem agent9 {s : ByteArray} {l : List Nat} (w : World) (h : Str s l) (hl : s.size ≤ 9223372036854775807) : Says 16 #[.string s] w (agentB l) := by
  have hsz := h.size
  have hp := path9 w h hl
  have HS : Hid (Str s l) := h
  have HN : Hid (s.size = l.length) := hsz
  clear h hsz
  unfold Says
  go_enter Tryd.func16, Tryd.ntmps16
  go_wp2_with fail
  refine Calls.mono hp ?_
  rintro e w2 ⟨rfl, rfl⟩
  clear hp
  cases hb : pathB l with
  | false =>
    have HB : Hid (agentB l = false) := by show _ = _; unfold agentB; rw [hb]; rfl
    clear hb
    go_wp2
    go_ret
    exact ⟨by rw [HB.out]; rfl, rfl⟩
  | true =>
    have HP : Hid (pathB l = true) := hb
    clear hb
    by_cases c1 : s.size < 8
    · have HB : Hid (agentB l = false) := by show _ = _; unfold agentB; simp [show ¬ 8 ≤ l.length by have := HN.out; omega]
      have i1 : (s.size : Int) < 8 := by omega
      go_wp2
      go_ret
      exact ⟨by rw [HB.out]; rfl, rfl⟩
    · have i1 : ¬ (s.size : Int) < 8 := by omega
      obtain ⟨S, hSd⟩ : ∃ S, S = s.extract 0 7 := ⟨_, rfl⟩
      obtain ⟨T, hTd⟩ : ∃ T, T = s.extract 7 s.size := ⟨_, rfl⟩
      have hct : ∀ (w : World), (Instr.slice 9 (.string s) none (some (.int .i64 7)) none).run Tryd.prog w = .ok (.string (s.extract 0 7)) w := fun w => cutN (s := s) (n := 7) (by omega) w
      have hct2 : ∀ (w : World), (Instr.slice 9 (.string s) (some (.int .i64 7)) none none).run Tryd.prog w = .ok (.string (s.extract 7 s.size)) w := fun w => cutM (s := s) (n := 7) (by omega) w
      have hS1 : Str S (l.take 7) := by rw [hSd]; exact HS.out.upto (by omega)
      have hS2 : Str T (l.drop 7) := by rw [hTd]; exact HS.out.from (by omega)
      have hT7 : T.size ≤ 9223372036854775807 := by rw [hS2.size]; simp; have := HN.out; omega
      rw [← hSd] at hct
      rw [← hTd] at hct2
      have q1 := str_lit_eq (a := #[47, 97, 103, 101, 110, 116, 47]) (l := preA) (b := [47, 97, 103, 101, 110, 116, 47]) hS1 (by decide) (by decide)
      have hin : Says 32 #[.int .u8 47, .string T] w2 (inB 47 (l.drop 7)) := in9 47 w2 (by decide) hS2 hT7
      clear hSd hTd hS1 hS2
      by_cases c2 : l.take 7 = preA
      · rw [decide_eq_true c2] at q1
        have HA : Hid (agentB l = !inB 47 (l.drop 7)) := by
          show _ = _
          unfold agentB
          rw [HP.out, c2]
          simp [show 8 ≤ l.length by have := HN.out; omega]
        clear c2
        go_wp2_with fail
        refine Calls.mono hin ?_
        rintro e w3 ⟨rfl, rfl⟩
        clear hin
        cases hb : inB 47 (l.drop 7)
        all_goals rw [hb] at HA
        all_goals have HB := HA
        all_goals clear hb HA
        all_goals go_wp2
        all_goals go_ret
        all_goals exact ⟨by rw [HB.out]; rfl, rfl⟩
      · rw [decide_eq_false c2] at q1
        have HB : Hid (agentB l = false) := by show _ = _; unfold agentB; simp [c2]
        clear c2
        go_wp2
        go_ret
        exact ⟨by rw [HB.out]; rfl, rfl⟩
theorem selB_at {l : List Nat} {k : Nat} (hk : k < l.length) (hn : ∀ j, j < k → l.getD j 0 ≠ 58) (hc : l.getD k 0 = 58) : selB l = (ofB (l.take k) abK 8 && (vis (l.drop (k + 1)) && (decide (1 ≤ (l.drop (k + 1)).length) && decide ((l.drop (k + 1)).length ≤ 16)))) := by
  obtain ⟨h1, h2⟩ := upTo_at hk hn hc
  unfold selB
  have hne : l.drop k ≠ [] := by simp; omega
  rw [h1, h2, List.drop_drop, decide_eq_true hne, Bool.true_and]
theorem selB_none {l : List Nat} (hn : ∀ j, j < l.length → l.getD j 0 ≠ 58) : selB l = false := by
  obtain ⟨h1, h2⟩ := upTo_end hn
  unfold selB
  rw [h2]
  simp
theorem sel9 {s : ByteArray} {l : List Nat} (w : World) (h : Str s l) (hl : s.size ≤ 9223372036854775807) : Says 18 #[.string s] w (selB l) := by
  have hsz := h.size
  obtain ⟨n, hn⟩ : ∃ n, n = s.size := ⟨_, rfl⟩
  have hts : s.size = n := hn.symm
  have HS : Hid (Str s l) := h
  have HN : Hid (n = l.length) := by show _ = _; omega
  have hln : n ≤ 9223372036854775807 := by omega
  clear hn hsz h hl
  unfold Says
  go_enter Tryd.func18, Tryd.ntmps18
  go_wp2_with fail
  go_loop [3] (fun av => ∃ k : Nat, k ≤ n ∧ av = .int .i64 k ∧ ∀ j, j < k → l.getD j 0 ≠ 58) (fun av => n - (intOf av).toNat)
  case atStart => exact ⟨0, by omega, rfl, fun j hj => by omega⟩
  case round =>
    obtain ⟨k, hk, rfl, hno⟩ := hrel
    have HNO : Hid (∀ j, j < k → l.getD j 0 ≠ 58) := hno
    clear hno
    by_cases hlt : k < n
    · have hks : k < s.size := by omega
      have hx := HS.out.at' k hks
      obtain ⟨d, hdd⟩ : ∃ d, d = l.getD k 0 := ⟨_, rfl⟩
      rw [← hdd] at hx
      have HC : Hid (d = l.getD k 0) := hdd
      have i1 : (k : Int) < (n : Int) := by omega
      clear hdd
      by_cases h58 : d = 58
      · have j3 : (d : Int) = 58 := by omega
        have i2 : ¬ (k : Int) = (n : Int) := by omega
        obtain ⟨S, hSd⟩ : ∃ S, S = s.extract 0 k := ⟨_, rfl⟩
        obtain ⟨T, hTd⟩ : ∃ T, T = s.extract (k + 1) s.size := ⟨_, rfl⟩
        obtain ⟨V, hV⟩ : ∃ V, V = l.drop (k + 1) := ⟨_, rfl⟩
        have hct := fun (w : World) => cutN (s := s) (n := k) (by omega) w
        have hct2 := fun (w : World) => cutM (s := s) (n := k + 1) (by omega) w
        have hS1 : Str S (l.take k) := by rw [hSd]; exact HS.out.upto (by omega)
        have HST : Hid (Str T V) := by show Str _ _; rw [hTd, hV]; exact HS.out.from (by omega)
        have hSz : S.size ≤ 9223372036854775807 := by rw [hS1.size]; simp; omega
        rw [← hSd] at hct
        rw [← hTd] at hct2
        have hct3 : ∀ (w : World), (Instr.slice 9 (.string s) (some (.int .i64 ((k : Int) + 1))) none none).run Tryd.prog w = .ok (.string T) w := fun w => by have := hct2 w; simpa using this
        have hof := of9 8 w (by decide) hS1 (str_mk (a := #[97, 98, 99, 100, 101, 102, 103, 104, 105, 106, 107, 108, 109, 110, 111, 112, 113, 114, 115, 116, 117, 118, 119, 120, 121, 122]) (l := abK) (by decide)) hSz (by decide)
        have HSEL : Hid (selB l = (ofB (l.take k) abK 8 && (vis V && (decide (1 ≤ V.length) && decide (V.length ≤ 16))))) := by show _ = _; rw [hV]; exact selB_at (by have := HN.out; omega) HNO.out (HC.out.symm.trans h58)
        obtain ⟨m, hm⟩ : ∃ m, m = T.size := ⟨_, rfl⟩
        have HM : Hid (m = V.length) := by show _ = _; rw [hm, HST.out.size]
        have hTs : T.size = m := hm.symm
        have hmb : m ≤ 9223372036854775807 := by have := HM.out; rw [hV] at this; simp at this; have := HN.out; omega
        clear hSd hTd hS1 hV hm hct2
        go_wp2_with fail
        refine Calls.mono hof ?_
        rintro e w2 ⟨rfl, rfl⟩
        clear hof hct hSz
        obtain ⟨c, hc⟩ : ∃ c, c = ofB (l.take k) abK 8 := ⟨_, rfl⟩
        rw [← hc] at HSEL
        rw [← hc]
        clear hc
        go_wp2_with fail
        clear hct3 hx
        go_loop [6] (fun iv => ∃ q : Nat, q ≤ m ∧ iv = .int .i64 q ∧ ∀ j, j < q → 33 ≤ V.getD j 0 ∧ V.getD j 0 ≤ 126) (fun iv => m - (intOf iv).toNat)
        case atStart => exact ⟨0, by omega, rfl, fun j hj => by omega⟩
        case round =>
          obtain ⟨q, hq, rfl, hall⟩ := hrel
          have HA : Hid (∀ j, j < q → 33 ≤ V.getD j 0 ∧ V.getD j 0 ≤ 126) := hall
          clear hall
          by_cases hqm : q < m
          · have hqs : q < T.size := by omega
            have hy := HST.out.at' q hqs
            obtain ⟨x, hxx⟩ : ∃ x, x = V.getD q 0 := ⟨_, rfl⟩
            rw [← hxx] at hy
            have HX : Hid (x = V.getD q 0) := hxx
            clear hxx
            have NOT : x < 33 ∨ 126 < x → Hid (selB l = false) := fun hx => by
              show _ = _
              rw [HSEL.out, vis_not (by rw [← HM.out]; exact hqm) (by rw [← HX.out]; exact hx)]
              simp
            by_cases x1 : x < 33
            · have y1 : (x : Int) < 33 := by omega
              have HB := NOT (.inl x1)
              clear NOT
              go_wp2
              go_ret
              exact ⟨by rw [HB.out]; rfl, rfl⟩
            · have y1 : ¬ (x : Int) < 33 := by omega
              by_cases x2 : 126 < x
              · have y2 : (126 : Int) < (x : Int) := by omega
                have HB := NOT (.inr x2)
                clear NOT
                go_wp2
                go_ret
                exact ⟨by rw [HB.out]; rfl, rfl⟩
              · have y2 : ¬ (126 : Int) < (x : Int) := by omega
                clear NOT
                go_wp2
                go_round
                case rel =>
                  refine ⟨q + 1, by omega, by go_num, fun j hj => ?_⟩
                  by_cases hjq : j = q
                  · rw [hjq, ← HX.out]; omega
                  · exact HA.out j (by omega)
                case measure => simp [intOf]; omega
          · obtain rfl : m = q := by omega
            have HSE2 : Hid (selB l = (c && (decide (1 ≤ m) && decide (m ≤ 16)))) := by
              show _ = _
              rw [HSEL.out, vis_all (fun j hj => HA.out j (by rw [HM.out]; exact hj)), ← HM.out]
              simp
            by_cases z1 : 1 ≤ m
            · have y1 : (1 : Int) ≤ (m : Int) := by omega
              by_cases z2 : m ≤ 16
              · have y2 : (m : Int) ≤ 16 := by omega
                have HB : Hid (selB l = c) := by show _ = _; rw [HSE2.out]; simp [z1, z2]
                cases c
                all_goals go_wp2
                all_goals go_ret
                all_goals exact ⟨by rw [HB.out]; rfl, rfl⟩
              · have y2 : ¬ (m : Int) ≤ 16 := by omega
                have HB : Hid (selB l = false) := by show _ = _; rw [HSE2.out]; simp [z2]
                cases c
                all_goals go_wp2
                all_goals go_ret
                all_goals exact ⟨by rw [HB.out]; rfl, rfl⟩
            · have y1 : ¬ (1 : Int) ≤ (m : Int) := by omega
              have HB : Hid (selB l = false) := by show _ = _; rw [HSE2.out]; simp [z1]
              cases c
              all_goals go_wp2
              all_goals go_ret
              all_goals exact ⟨by rw [HB.out]; rfl, rfl⟩
      · have j3 : ¬ (d : Int) = 58 := by omega
        go_wp2
        go_round
        case rel =>
          refine ⟨k + 1, by omega, by go_num, fun j hj => ?_⟩
          by_cases hjk : j = k
          · rw [hjk, ← HC.out]; exact h58
          · exact HNO.out j (by omega)
        case measure => simp [intOf]; omega
    · obtain rfl : n = k := by omega
      have HB : Hid (selB l = false) := selB_none (fun j hj => HNO.out j (by rw [HN.out]; exact hj))
      go_wp2
      go_ret
      exact ⟨by rw [HB.out]; rfl, rfl⟩
def parseV (l : List Nat) : Value := match parseL l with
  | some (d, p) => .tuple #[.string (strOf d), .string (strOf p), .bool true]
  | none => .tuple #[.string ⟨#[]⟩, .string ⟨#[]⟩, .bool false]
theorem parse_cut {l : List Nat} {k : Nat} (h9 : 9 ≤ k) (hk : k ≤ l.length) (hn : ∀ j, 9 ≤ j → j < k → l.getD j 0 ≠ 47) (he : k = l.length ∨ (k < l.length ∧ l.getD k 0 = 47)) : upTo 47 (l.drop 9) = (l.drop 9).take (k - 9) ∧ fromC 47 (l.drop 9) = l.drop k := by
  have g : ∀ i, (l.drop 9).getD i 0 = l.getD (9 + i) 0 := fun i => by simp
  rcases he with he | ⟨h1, h2⟩
  · subst he
    obtain ⟨a, b⟩ := upTo_end (c := 47) (l := l.drop 9) (fun j hj => by rw [g]; exact hn _ (by omega) (by simp at hj; omega))
    rw [a, b]
    exact ⟨(List.take_of_length_le (by simp)).symm, by simp⟩
  · obtain ⟨a, b⟩ := upTo_at (c := 47) (l := l.drop 9) (k := k - 9) (by simp; omega) (fun j hj => by rw [g]; exact hn _ (by omega) (by omega)) (by rw [g, show 9 + (k - 9) = k by omega]; exact h2)
    rw [a, b, List.drop_drop, show 9 + (k - 9) = k by omega]
    exact ⟨rfl, rfl⟩
theorem parseL_at {l : List Nat} {k : Nat} (h9 : 9 ≤ k) (hk : k ≤ l.length) (hp : l.take 9 = preI) (hn : ∀ j, 9 ≤ j → j < k → l.getD j 0 ≠ 47) (he : k = l.length ∨ (k < l.length ∧ l.getD k 0 = 47)) :
    parseL l = if domB ((l.drop 9).take (k - 9)) = true ∧ pathB (l.drop k) = true then some ((l.drop 9).take (k - 9), l.drop k) else none := by
  obtain ⟨a, b⟩ := parse_cut h9 hk hn he
  unfold parseL
  rw [a, b]
  simp [hp, show 9 ≤ l.length by omega]
theorem parse9 {s : ByteArray} {l : List Nat} (w : World) (h : Str s l) (hl : s.size ≤ 9223372036854775807) : Ret 21 #[.string s] w (Is (parseV l)) := by
  unfold Ret
  have hsz := h.size
  obtain ⟨n, hn⟩ : ∃ n, n = s.size := ⟨_, rfl⟩
  have hts : s.size = n := hn.symm
  have HS : Hid (Str s l) := h
  have HN : Hid (n = l.length) := by show _ = _; omega
  have hln : n ≤ 9223372036854775807 := by omega
  clear hn hsz h hl
  have NONE : parseL l = none → Hid (parseV l = .tuple #[.string ⟨#[]⟩, .string ⟨#[]⟩, .bool false]) := fun h => by show _ = _; unfold parseV; rw [h]
  by_cases c1 : n < 9
  · have HB := NONE (by unfold parseL; rw [if_neg]; have := HN.out; intro h; omega)
    have i1 : (n : Int) < 9 := by omega
    clear NONE
    go_enter Tryd.func21, Tryd.ntmps21
    go_wp2
    go_ret3
    exact ⟨_, rfl, Below.refl _ _, HB.out.symm⟩
  have i1 : ¬ (n : Int) < 9 := by omega
  obtain ⟨P, hPd⟩ : ∃ P, P = s.extract 0 9 := ⟨_, rfl⟩
  have hct : ∀ (w : World), (Instr.slice 9 (.string s) none (some (.int .i64 9)) none).run Tryd.prog w = .ok (.string (s.extract 0 9)) w := fun w => cutN (s := s) (n := 9) (by omega) w
  rw [← hPd] at hct
  have hS1 : Str P (l.take 9) := by rw [hPd]; exact HS.out.upto (by omega)
  have q1 := str_lit_eq (a := #[115, 112, 105, 102, 102, 101, 58, 47, 47]) (l := preI) (b := [115, 112, 105, 102, 102, 101, 58, 47, 47]) hS1 (by decide) (by decide)
  clear hPd hS1
  by_cases c2 : l.take 9 = preI
  · rw [decide_eq_true c2] at q1
    have HPRE : Hid (l.take 9 = preI) := c2
    have h9n : 9 ≤ n := by omega
    clear c2 NONE c1
    go_enter Tryd.func21, Tryd.ntmps21
    go_wp2_with fail
    clear hct q1
    go_loop [5] (fun av => ∃ k : Nat, 9 ≤ k ∧ k ≤ n ∧ av = .int .i64 k ∧ ∀ j, 9 ≤ j → j < k → l.getD j 0 ≠ 47) (fun av => n - (intOf av).toNat)
    case atStart => exact ⟨9, by omega, h9n, rfl, fun j h1 h2 => by omega⟩
    case round =>
      obtain ⟨k, hk9, hk, rfl, hno⟩ := hrel
      have HNO : Hid (∀ j, 9 ≤ j → j < k → l.getD j 0 ≠ 47) := hno
      clear hno
      by_cases hlt : k < n
      · have hks : k < s.size := by omega
        have hx := HS.out.at' k hks
        obtain ⟨d, hdd⟩ : ∃ d, d = l.getD k 0 := ⟨_, rfl⟩
        rw [← hdd] at hx
        have HC : Hid (d = l.getD k 0) := hdd
        have i2 : (k : Int) < (n : Int) := by omega
        clear hdd
        by_cases h47 : d = 47
        · have j3 : (d : Int) = 47 := by omega
          obtain ⟨S, hSd⟩ : ∃ S, S = s.extract 9 k := ⟨_, rfl⟩
          obtain ⟨T, hTd⟩ : ∃ T, T = s.extract k s.size := ⟨_, rfl⟩
          have hct : ∀ (w : World), (Instr.slice 9 (.string s) (some (.int .i64 9)) (some (.int .i64 (k : Int))) none).run Tryd.prog w = .ok (.string (s.extract 9 k)) w := fun w => cutI (s := s) (a := 9) (b := k) hk9 (by omega) w
          have hct2 := fun (w : World) => cutM (s := s) (n := k) (by omega) w
          have hS1 : Str S ((l.drop 9).take (k - 9)) := by rw [hSd]; exact HS.out.cut hk9 (by omega)
          have hS2 : Str T (l.drop k) := by rw [hTd]; exact HS.out.from (by omega)
          have hSz : S.size ≤ 9223372036854775807 := by rw [hS1.size]; simp; have := HN.out; omega
          have hTz : T.size ≤ 9223372036854775807 := by rw [hS2.size]; simp; have := HN.out; omega
          rw [← hSd] at hct
          rw [← hTd] at hct2
          have hdo := dom9 w hS1 hSz
          have hpa := path9 w hS2 hTz
          have HP : Hid (parseL l = if domB ((l.drop 9).take (k - 9)) = true ∧ pathB (l.drop k) = true then some ((l.drop 9).take (k - 9), l.drop k) else none) := parseL_at hk9 (by have := HN.out; omega) HPRE.out HNO.out (.inr ⟨by have := HN.out; omega, HC.out.symm.trans h47⟩)
          have HV : Hid (Str S ((l.drop 9).take (k - 9)) ∧ Str T (l.drop k)) := ⟨hS1, hS2⟩
          clear hSd hTd hS1 hS2
          go_wp2_with fail
          refine Calls.mono hdo ?_
          rintro e w2 ⟨rfl, rfl⟩
          clear hdo
          go_wp2_with fail
          refine Calls.mono hpa ?_
          rintro e w3 ⟨rfl, rfl⟩
          clear hpa
          cases b1 : domB ((l.drop 9).take (k - 9))
          · rw [b1] at HP
            have HB : Hid (parseV l = .tuple #[.string ⟨#[]⟩, .string ⟨#[]⟩, .bool false]) := by show _ = _; unfold parseV; rw [HP.out]; rfl
            clear b1 HP
            go_wp2
            go_ret3
            exact ⟨_, rfl, Below.refl _ _, HB.out.symm⟩
          · cases b2 : pathB (l.drop k)
            · rw [b1, b2] at HP
              have HB : Hid (parseV l = .tuple #[.string ⟨#[]⟩, .string ⟨#[]⟩, .bool false]) := by show _ = _; unfold parseV; rw [HP.out]; rfl
              clear b1 b2 HP
              go_wp2
              go_ret3
              exact ⟨_, rfl, Below.refl _ _, HB.out.symm⟩
            · rw [b1, b2] at HP
              have HB : Hid (parseV l = .tuple #[.string S, .string T, .bool true]) := by show _ = _; unfold parseV; rw [HP.out, HV.out.1.eq, HV.out.2.eq]; rfl
              clear b1 b2 HP HV
              go_wp2
              go_quiet (fail)
              go_wp2
              go_ret3
              exact ⟨_, rfl, below_drewN (Below.refl _ _) _, HB.out.symm⟩
        · have j3 : ¬ (d : Int) = 47 := by omega
          go_wp2
          go_round
          case rel =>
            refine ⟨k + 1, by omega, by omega, by go_num, fun j h1 h2 => ?_⟩
            by_cases hjk : j = k
            · rw [hjk, ← HC.out]; exact h47
            · exact HNO.out j h1 (by omega)
          case measure => simp [intOf]; omega
      · have i2 : ¬ (k : Int) < (n : Int) := by omega
        obtain ⟨S, hSd⟩ : ∃ S, S = s.extract 9 k := ⟨_, rfl⟩
        obtain ⟨T, hTd⟩ : ∃ T, T = s.extract k s.size := ⟨_, rfl⟩
        have hct : ∀ (w : World), (Instr.slice 9 (.string s) (some (.int .i64 9)) (some (.int .i64 (k : Int))) none).run Tryd.prog w = .ok (.string (s.extract 9 k)) w := fun w => cutI (s := s) (a := 9) (b := k) hk9 (by omega) w
        have hct2 := fun (w : World) => cutM (s := s) (n := k) (by omega) w
        have hS1 : Str S ((l.drop 9).take (k - 9)) := by rw [hSd]; exact HS.out.cut hk9 (by omega)
        have hS2 : Str T (l.drop k) := by rw [hTd]; exact HS.out.from (by omega)
        have hSz : S.size ≤ 9223372036854775807 := by rw [hS1.size]; simp; have := HN.out; omega
        have hTz : T.size ≤ 9223372036854775807 := by rw [hS2.size]; simp; have := HN.out; omega
        rw [← hSd] at hct
        rw [← hTd] at hct2
        have hdo := dom9 w hS1 hSz
        have hpa := path9 w hS2 hTz
        have HP : Hid (parseL l = if domB ((l.drop 9).take (k - 9)) = true ∧ pathB (l.drop k) = true then some ((l.drop 9).take (k - 9), l.drop k) else none) := parseL_at hk9 (by have := HN.out; omega) HPRE.out HNO.out (.inl (by have := HN.out; omega))
        have HV : Hid (Str S ((l.drop 9).take (k - 9)) ∧ Str T (l.drop k)) := ⟨hS1, hS2⟩
        clear hSd hTd hS1 hS2
        go_wp2_with fail
        refine Calls.mono hdo ?_
        rintro e w2 ⟨rfl, rfl⟩
        clear hdo
        go_wp2_with fail
        refine Calls.mono hpa ?_
        rintro e w3 ⟨rfl, rfl⟩
        clear hpa
        cases b1 : domB ((l.drop 9).take (k - 9))
        · rw [b1] at HP
          have HB : Hid (parseV l = .tuple #[.string ⟨#[]⟩, .string ⟨#[]⟩, .bool false]) := by show _ = _; unfold parseV; rw [HP.out]; rfl
          clear b1 HP
          go_wp2
          go_ret3
          exact ⟨_, rfl, Below.refl _ _, HB.out.symm⟩
        · cases b2 : pathB (l.drop k)
          · rw [b1, b2] at HP
            have HB : Hid (parseV l = .tuple #[.string ⟨#[]⟩, .string ⟨#[]⟩, .bool false]) := by show _ = _; unfold parseV; rw [HP.out]; rfl
            clear b1 b2 HP
            go_wp2
            go_ret3
            exact ⟨_, rfl, Below.refl _ _, HB.out.symm⟩
          · rw [b1, b2] at HP
            have HB : Hid (parseV l = .tuple #[.string S, .string T, .bool true]) := by show _ = _; unfold parseV; rw [HP.out, HV.out.1.eq, HV.out.2.eq]; rfl
            clear b1 b2 HP HV
            go_wp2
            go_quiet (fail)
            go_wp2
            go_ret3
            exact ⟨_, rfl, below_drewN (Below.refl _ _) _, HB.out.symm⟩
  · rw [decide_eq_false c2] at q1
    have HB := NONE (by unfold parseL; rw [if_neg]; exact fun h => c2 h.2.1)
    clear NONE c2
    go_enter Tryd.func21, Tryd.ntmps21
    go_wp2
    go_ret3
    exact ⟨_, rfl, Below.refl _ _, HB.out.symm⟩
end Go.Proofs.YtbidoiipebokoaaDoor
set_option linter.unusedVariables false
namespace Go.Proofs.YtbidoiipebokoaaDoor
open Go.RowKit Go.Sort Go.BigFrame
set_option maxRecDepth 100000
set_option maxHeartbeats 2000000
/-- What tells whether two are the same. -/
def SameR {α : Type} (a b : α) (v : Value) (_ : World) : Prop := ∃ c : Bool, v = .bool c ∧ (c = true ↔ a = b)
theorem SameR.stb {α : Type} (a b : α) : Stb (SameR a b) := fun _ _ _ _ h => h
theorem SameR.no {α : Type} {a b : α} {w : World} (h : a ≠ b) : SameR a b (.bool false) w := ⟨false, rfl, by simp [h]⟩
theorem SameR.yes {α : Type} {a b : α} {w : World} (h : a = b) : SameR a b (.bool true) w := ⟨true, rfl, by simp [h]⟩
theorem list_eq_of {α : Type} {d : α} {a b : List α} (hl : a.length = b.length) (h : ∀ i, i < a.length → a.getD i d = b.getD i d) : a = b := by
  apply List.ext_getElem hl
  intro i h1 h2
  have := h i h1
  simpa [h1, h2] using this
end Go.Proofs.YtbidoiipebokoaaDoor
set_option linter.unusedVariables false
namespace Go.Proofs.YtbidoiipebokoaaDoor
open Go.RowKit Go.Sort Go.BigFrame
set_option maxRecDepth 100000
set_option maxHeartbeats 2000000
theorem strOf_size (X : List Nat) : (strOf X).size = X.length := by
  rw [strOf_arr]
  show (X.map UInt8.ofNat).toArray.size = _
  simp
/-- Pieces with commas between. -/
def accW (f : Nat → List Nat) : Nat → List Nat
  | 0 => []
  | k + 1 => accW f k ++ (if k = 0 then [] else [44]) ++ f k
theorem accW_len (f : Nat → List Nat) (k : Nat) : (accW f (k + 1)).length = (accW f k).length + (if k = 0 then 0 else 1) + (f k).length := by
  show (accW f k ++ (if k = 0 then [] else [44]) ++ f k).length = _
  rw [List.length_append, List.length_append]
  split <;> simp
theorem accW_mono (f : Nat → List Nat) {i k : Nat} (h : i ≤ k) : (accW f i).length ≤ (accW f k).length := by
  induction h with
  | refl => exact Nat.le_refl _
  | step _ ih => rw [accW_len]; omega
/-- A value's text. -/
def writeJ : (n : Nat) → J n → List Nat
  | 0, _ => []
  | n + 1, j =>
    if JN.kind j = 1 then (if JN.num j = 1 then [116, 114, 117, 101] else [102, 97, 108, 115, 101])
    else if JN.kind j = 2 then digT (JN.num j)
    else if JN.kind j = 3 then quoT (JN.text j)
    else if JN.kind j = 4 then 91 :: (accW (fun i => ((JN.kids j).map (writeJ n)).getD i []) (JN.kids j).length ++ [93])
    else if JN.kind j = 5 then 123 :: (accW (fun i => quoT ((JN.names j).getD i []) ++ [58] ++ ((JN.kids j).map (writeJ n)).getD i []) (JN.kids j).length ++ [125])
    else [110, 117, 108, 108]
/-- What may be written: told to its end, names enough, a number that has its other one. -/
def WfJ : (n : Nat) → J n → Prop
  | 0, _ => False
  | n + 1, j => (JN.kind j = 2 → -9223372036854775808 < JN.num j) ∧ (JN.kind j = 5 → (JN.kids j).length ≤ (JN.names j).length) ∧ ∀ k ∈ JN.kids j, WfJ n k
theorem quoI_ge : ∀ (l : List Nat), l.length ≤ (quoI l).length
  | [] => Nat.le_refl _
  | c :: l => by
    show _ ≤ (quoC c ++ quoI l).length
    rw [List.length_append, List.length_cons]
    have := quoI_ge l
    have : 1 ≤ (quoC c).length := by
      unfold quoC
      split
      · simp
      · split <;> simp
    omega
theorem kind_ne {a : Int} {b : Int} (h : ¬ a = b) : (a == b) = false := by simpa using h
end Go.Proofs.YtbidoiipebokoaaDoor
set_option linter.unusedVariables false
namespace Go.Proofs.YtbidoiipebokoaaDoor
open Go.RowKit Go.Sort Go.BigFrame
set_option maxRecDepth 100000
set_option maxHeartbeats 4000000
/-- Every text is so short. -/
def TxtJ (B : Nat) : (n : Nat) → J n → Prop
  | 0, _ => True
  | n + 1, j => (JN.text j).length ≤ B ∧ (∀ x ∈ JN.names j, x.length ≤ B) ∧ ∀ k ∈ JN.kids j, TxtJ B n k
/-- Names of bytes to 126, and no two alike, so many of them. -/
def NamesOk (t : List Nat) (ns : List (List Nat)) (k : Nat) : Prop := lettersB t = true ∧ ∀ i, i < k → lettersB (ns.getD i []) = true ∧ ∀ l, l < i → ns.getD l [] ≠ ns.getD i []
/-- What is a value, so deep. -/
def IsJ : (n : Nat) → Nat → J n → Prop
  | 0, _, _ => False
  | n + 1, d, j => (0 ≤ JN.kind j ∧ JN.kind j ≤ 5 ∧ (d = 0 → JN.kind j ≤ 3)) ∧ (JN.kind j ≠ 3 → JN.text j = []) ∧ (JN.kind j ≠ 5 → (JN.names j).length = 0) ∧ (JN.kind j ≠ 5 → JN.kind j ≠ 4 → (JN.kids j).length = 0) ∧
    (JN.kind j = 2 → -1000000000000000 ≤ JN.num j ∧ JN.num j ≤ 1000000000000000) ∧ (JN.kind j = 1 → JN.num j = 0 ∨ JN.num j = 1) ∧
    (JN.kind j ≠ 2 → JN.kind j ≠ 1 → JN.num j = 0 ∧ (JN.kind j = 5 → (JN.names j).length = (JN.kids j).length) ∧ NamesOk (JN.text j) (JN.names j) (JN.names j).length ∧ ∀ k ∈ JN.kids j, IsJ n (d - 1) k)
/-- A truth that tells P. -/
def Tells (P : Prop) (v : Value) (_ : World) : Prop := ∃ c : Bool, v = .bool c ∧ (c = true ↔ P)
theorem Tells.no {P : Prop} {w : World} (h : ¬ P) : Tells P (.bool false) w := ⟨false, rfl, by simp [h]⟩
theorem Tells.yes {P : Prop} {w : World} (h : P) : Tells P (.bool true) w := ⟨true, rfl, by simp [h]⟩
theorem nonempty_str {s : ByteArray} {t : List Nat} (h : Str s t) : (s.toList == ([] : List UInt8)) = decide (t = []) := by
  have := str_eq_iff h (show Str (strOf []) [] from str_strOf (fun i => by simp))
  rwa [show (strOf []).toList = [] by kernel_rfl] at this
theorem all_at {K : Type} {P : K → Prop} {ks : List K} : (∀ k ∈ ks, P k) ↔ ∀ i (h : i < ks.length), P (ks[i]'h) := by
  constructor
  · intro h i hi; exact h _ (List.getElem_mem hi)
  · intro h k hk
    obtain ⟨i, hi, rfl⟩ := List.getElem_of_mem hk
    exact h i hi
theorem namesOk_succ (t : List Nat) (ns : List (List Nat)) (k : Nat) : ((NamesOk t ns k ∧ lettersB (ns.getD k []) = true) ∧ ∀ q, q < k → ns.getD q [] ≠ ns.getD k []) ↔ NamesOk t ns (k + 1) := by
  constructor
  · rintro ⟨⟨⟨h1, h2⟩, h3⟩, h4⟩
    refine ⟨h1, fun i hi => ?_⟩
    by_cases hik : i = k
    · subst hik; exact ⟨h3, h4⟩
    · exact h2 i (by omega)
  · rintro ⟨h1, h2⟩
    exact ⟨⟨⟨h1, fun i hi => h2 i (by omega)⟩, (h2 k (by omega)).1⟩, (h2 k (by omega)).2⟩
section
variable {ρ : Operand → Value} {o : Oper} {x y z : Operand} {w : World}
theorem dPickB {c q : Bool} {v1 v2 : Value} (ho : o.op = .pick x y z) (hx : ρ x = .bool c) (hy : c = true → ρ y = .bool q) (hz : ρ z = .bool false) : Does Tryd.prog o ρ w (fun v w' => Below w.heap.size w w' ∧ Is (.bool (c && q)) v w') := by
  cases c
  · exact Does.run _ (by unfold execOp; rw [ho]; simp [hx, hz]; rfl) rfl
  · exact Does.run _ (by unfold execOp; rw [ho]; simp [hx, hy rfl]; rfl) rfl
end
end Go.Proofs.YtbidoiipebokoaaDoor
set_option linter.unusedVariables false
namespace Go.Proofs.YtbidoiipebokoaaDoor
open Go.RowKit Go.Sort Go.BigFrame
set_option maxRecDepth 100000
set_option maxHeartbeats 4000000
end Go.Proofs.YtbidoiipebokoaaDoor
set_option linter.unusedVariables false
namespace Go.Proofs.YtbidoiipebokoaaDoor
open Go.RowKit Go.Sort Go.BigFrame
set_option maxRecDepth 100000
set_option maxHeartbeats 4000000
end Go.Proofs.YtbidoiipebokoaaDoor
set_option linter.unusedVariables false
namespace Go.Proofs.YtbidoiipebokoaaDoor
open Go.RowKit Go.Sort Go.BigFrame
set_option maxRecDepth 100000
set_option maxHeartbeats 2000000
/-- A list of strings whose block is one of these. -/
def SRowM (S : Nat → Prop) (ns : List (List Nat)) (v : Value) (w : World) : Prop := ∃ a cap, v = .slice a ns.length cap ∧ ns.length ≤ cap ∧ cap ≤ 9223372036854775807 ∧
  (0 < ns.length → ∃ b off, a = some ⟨b, off, none⟩ ∧ S b ∧ ∀ i, i < ns.length → ∃ s, w.cell? ⟨b, off + i, none⟩ = some (.string s) ∧ Str s (ns.getD i []))
def KRowM {K : Type} (S : Nat → Prop) (R : K → List Value → World → Prop) (ks : List K) (v : Value) (w : World) : Prop := ∃ a cap, v = .slice a ks.length cap ∧ ks.length ≤ cap ∧ cap ≤ 9223372036854775807 ∧
  (0 < ks.length → ∃ b off, a = some ⟨b, off, none⟩ ∧ S b ∧ ∀ i (h : i < ks.length), ∃ cs, At5 w b (off + i * 5) cs ∧ R (ks[i]'h) cs w)
/-- Five cells that are a value, all its blocks among these. -/
def JM (S : Nat → Prop) : (n : Nat) → J n → List Value → World → Prop
  | 0, _, _, _ => True
  | n + 1, j, cs, w => ∃ s nv kv, cs = [.int .i64 (JN.kind j), .int .i64 (JN.num j), .string s, nv, kv] ∧ Str s (JN.text j) ∧ SRowM S (JN.names j) nv w ∧ KRowM S (JM S n) (JN.kids j) kv w ∧
    (-9223372036854775808 ≤ JN.kind j ∧ JN.kind j ≤ 9223372036854775807) ∧ (-9223372036854775808 ≤ JN.num j ∧ JN.num j ≤ 9223372036854775807)
theorem SRowM.row {S : Nat → Prop} {ns : List (List Nat)} {v : Value} {w : World} (h : SRowM S ns v w) : SRow ns v w := by
  obtain ⟨a, cap, h1, h2, h3, h4⟩ := h
  exact ⟨a, cap, h1, h2, h3, fun hp => by obtain ⟨b, off, ha, _, hc⟩ := h4 hp; exact ⟨b, off, ha, hc⟩⟩
theorem JM.jc {S : Nat → Prop} : ∀ (n : Nat) (j : J n) (cs : List Value) (w : World), JM S n j cs w → JC n j cs w
  | 0, _, _, _, _ => trivial
  | n + 1, j, cs, w, ⟨s, nv, kv, h1, h2, h3, ⟨a, cap, k1, k2, k3, k4⟩, h5⟩ => ⟨s, nv, kv, h1, h2, h3.row, ⟨a, cap, k1, k2, k3, fun hp => by
      obtain ⟨b, off, ha, _, hc⟩ := k4 hp
      exact ⟨b, off, ha, fun i hi => by obtain ⟨cs, hs, hR⟩ := hc i hi; exact ⟨cs, hs, JM.jc n _ _ _ hR⟩⟩⟩, h5⟩
/-- It stays where those blocks stay. -/
theorem JM.move {S T : Nat → Prop} {w w' : World} (hST : ∀ b, b < w.heap.size → S b → T b ∧ w'.heap[b]? = w.heap[b]?) : ∀ (n : Nat) (j : J n) (cs : List Value), JM S n j cs w → JM T n j cs w'
  | 0, _, _, _ => trivial
  | n + 1, j, cs, ⟨s, nv, kv, h1, h2, ⟨a2, cap2, q1, q2, q3, q4⟩, ⟨a, cap, k1, k2, k3, k4⟩, h5⟩ => ⟨s, nv, kv, h1, h2, ⟨a2, cap2, q1, q2, q3, fun hp => by
      obtain ⟨b, off, ha, hb, hc⟩ := q4 hp
      have hbl : b < w.heap.size := by
        obtain ⟨s, hs, _⟩ := hc 0 hp
        exact cell_some_lt hs
      refine ⟨b, off, ha, (hST b hbl hb).1, fun i hi => ?_⟩
      obtain ⟨s, hs, hS⟩ := hc i hi
      exact ⟨s, (World.cell?_of_block (w := w) (a := ⟨b, off + i, none⟩) (hST b hbl hb).2).trans hs, hS⟩⟩, ⟨a, cap, k1, k2, k3, fun hp => by
      obtain ⟨b, off, ha, hb, hc⟩ := k4 hp
      have hbl : b < w.heap.size := by
        obtain ⟨cs, hs, _⟩ := hc 0 hp
        have h0 := hs.2 0 (by decide)
        rw [List.getElem?_eq_getElem (by rw [hs.1]; decide)] at h0
        exact cell_some_lt h0
      refine ⟨b, off, ha, (hST b hbl hb).1, fun i hi => ?_⟩
      obtain ⟨cs, hs, hR⟩ := hc i hi
      exact ⟨cs, ⟨hs.1, fun k hk => (World.cell?_of_block (w := w) (a := ⟨b, off + i * 5 + k, none⟩) (hST b hbl hb).2).trans (hs.2 k hk)⟩, JM.move hST n _ _ hR⟩⟩, h5⟩
/-- What is cut: texts of fifty, five names, five kids, so deep. -/
def cutJ : (n : Nat) → J n → J n
  | 0, _ => ()
  | n + 1, j => (⟨JN.kind j, JN.num j, (JN.text j).take 50, ((JN.names j).take 5).map (fun x => x.take 50), if n = 0 then [] else ((JN.kids j).take 5).map (cutJ n)⟩ : JN (J n))
def CutR (base : Nat) {n : Nat} (j : J n) (v : Value) (w : World) : Prop := ∃ cs, v = .agg cs.toArray ∧ cs.length = 5 ∧ JM (fun b => base ≤ b) n (cutJ n j) cs w
/-- The first names, cut. -/
def cutNs (ns : List (List Nat)) (k : Nat) : List Value := (ns.take k).map (fun x => Value.string (strOf (x.take 50)))
theorem cutNs_succ {ns : List (List Nat)} {k : Nat} (h : k < ns.length) : cutNs ns (k + 1) = cutNs ns k ++ [.string (strOf ((ns.getD k []).take 50))] := by
  unfold cutNs
  rw [List.take_succ_eq_append_getElem h, List.map_append]
  simp [h]
theorem Str.take50 {s : ByteArray} {bs : List Nat} (h : Str s bs) (h5 : 50 ≤ s.size) : s.extract 0 50 = strOf (bs.take 50) := by
  have : Str (s.extract 0 50) (bs.take 50) := by
    have hsz := h.size
    refine ⟨by simp; omega, fun i hi => ?_, dig_lt (fun x hx => mem_of_dig h.dig x (List.mem_of_mem_take hx))⟩
    have hi2 : i < 50 := by simp at hi; omega
    have h1 := h.at' i (by omega)
    rw [ByteArray.getElem_extract]
    simp only [Nat.zero_add]
    rw [h1]
    simp [show i < bs.length by omega, hi2]
  exact this.eq
theorem strOf_short {s : ByteArray} {bs : List Nat} (h : Str s bs) (h5 : s.size ≤ 50) : s = strOf (bs.take 50) := by
  rw [List.take_of_length_le (by rw [← h.size]; exact h5)]; exact h.eq
/-- An owned row of strings is a list of strings. -/
theorem srowM_own {w : World} {base k : Nat} {v : Value} {ns : List (List Nat)} (hd : ∀ x ∈ ns, Dig x) (hk : k ≤ ns.length) (h : w.ownsRow base 9 1 v k (cutNs ns k)) (S : Nat → Prop) (hS : ∀ b, v.ownBlock = some b → S b) : SRowM S ((ns.take k).map (fun x => x.take 50)) v w := by
  have hlen : ((ns.take k).map (fun x => x.take 50)).length = k := by simp; omega
  rcases h.2 with ⟨rfl, rfl⟩ | ⟨g, cap, cur, rfl, hb, hg, h1, h2, h3, h4⟩
  · exact ⟨none, 0, by simp, by simp, by omega, fun h => by simp at h⟩
  · refine ⟨some ⟨g, 0, none⟩, cap, by rw [hlen], by rw [hlen]; exact h1, by unfold maxLen at h2; omega, fun _ => ⟨g, 0, rfl, hS g rfl, fun i hi => ?_⟩⟩
    rw [hlen] at hi
    have hin : i < ns.length := by omega
    refine ⟨strOf ((ns[i]'hin).take 50), ?_, ?_⟩
    · have := h.cells (g := g) rfl i (.string (strOf ((ns[i]'hin).take 50))) (by unfold cutNs; simp [hi, hin])
      rwa [Addr.add_mid] at this
    · have e : ((ns.take k).map (fun x => x.take 50)).getD i [] = (ns[i]'hin).take 50 := by simp [hi, hin]
      rw [e]
      exact str_strOf (dig_lt fun x hx => mem_of_dig (hd _ (List.getElem_mem hin)) x (List.mem_of_mem_take hx))
/-- Fives in one row. -/
theorem fives_at : ∀ (css : List (List Value)) (i j : Nat), (∀ c ∈ css, c.length = 5) → (h : i < css.length) → j < 5 → css.flatten[i * 5 + j]? = (css[i]'h)[j]?
  | [], i, j, _, h, _ => absurd h (by simp)
  | c :: css, 0, j, h5, _, hj => by
    have h0 := h5 c (by simp)
    rw [List.flatten_cons, List.getElem?_append_left (by omega)]
    simp
  | c :: css, i + 1, j, h5, h, hj => by
    have h0 := h5 c (by simp)
    rw [List.flatten_cons, List.getElem?_append_right (by omega)]
    have := fives_at css i j (fun c hc => h5 c (by simp [hc])) (by simpa using h) hj
    rw [show (i + 1) * 5 + j - c.length = i * 5 + j by omega, this]
    simp
end Go.Proofs.YtbidoiipebokoaaDoor
set_option linter.unusedVariables false
set_option linter.unusedSimpArgs false
namespace Go.Proofs.YtbidoiipebokoaaDoor
open Go.RowKit Go.Sort Go.BigFrame
set_option maxRecDepth 100000
set_option maxHeartbeats 4000000
def hasB (x : List Nat) (ns : List (List Nat)) : Bool := ns.any (fun y => y == x)
def withinB (a b : List (List Nat)) : Bool := a.all (fun x => hasB x b)
theorem getD_at {ns : List (List Nat)} {k : Nat} (h : k < ns.length) : ns.getD k [] = ns[k] := by simp [h]
theorem has_at {x : List Nat} {ns : List (List Nat)} {k : Nat} (h : k < ns.length) (e : ns.getD k [] = x) : hasB x ns = true := by
  unfold hasB
  rw [List.any_eq_true]
  exact ⟨ns[k], List.getElem_mem h, by rw [← getD_at h, e]; simp⟩
theorem has_not {x : List Nat} {ns : List (List Nat)} (h : ∀ j, j < ns.length → ns.getD j [] ≠ x) : hasB x ns = false := by
  unfold hasB
  rw [List.any_eq_false]
  intro y hy
  obtain ⟨i, hi, rfl⟩ := List.getElem_of_mem hy
  have := h i hi
  rw [getD_at hi] at this
  simpa using this
theorem within_not {a b : List (List Nat)} {k : Nat} (h : k < a.length) (e : hasB (a.getD k []) b = false) : withinB a b = false := by
  unfold withinB
  rw [List.all_eq_false]
  exact ⟨a[k], List.getElem_mem h, by rw [← getD_at h, e]; simp⟩
theorem within_all {a b : List (List Nat)} (h : ∀ j, j < a.length → hasB (a.getD j []) b = true) : withinB a b = true := by
  unfold withinB
  rw [List.all_eq_true]
  intro y hy
  obtain ⟨i, hi, rfl⟩ := List.getElem_of_mem hy
  rw [← getD_at hi]
  exact h i hi
theorem has9 {ns : List (List Nat)} {v : Value} {s : ByteArray} {bs : List Nat} (w : World) (hv : SRow ns v w) (hs : Str s bs) : Says 42 #[v, .string s] w (hasB bs ns) := by
  obtain ⟨a, cap, rfl, hc, hcap, hrow⟩ := hv
  obtain ⟨n, hn⟩ : ∃ n, n = ns.length := ⟨_, rfl⟩
  rw [← hn] at hc hrow
  have HN : Hid (n = ns.length) := hn
  have HR : Hid _ := hrow
  have HS : Hid (Str s bs) := hs
  have hnb : n ≤ 9223372036854775807 := by omega
  rw [← hn]
  clear hn hrow hs hc
  unfold Says
  go_enter Tryd.func42, Tryd.ntmps42
  go_wp2_with fail
  go_loop [5] (fun i => ∃ k : Nat, k ≤ n ∧ i = .int .i64 k ∧ ∀ j, j < k → ns.getD j [] ≠ bs) (fun i => n - (intOf i).toNat)
  case atStart => exact ⟨0, by omega, rfl, fun j hj => by omega⟩
  case round =>
    obtain ⟨k, hk, rfl, hall⟩ := hrel
    have HA : Hid (∀ j, j < k → ns.getD j [] ≠ bs) := hall
    clear hall
    by_cases hlt : k < n
    · have hi : (k : Int) < (n : Int) := by omega
      obtain ⟨b, off, rfl, hcell⟩ := HR.out (by omega)
      obtain ⟨t, hct, hT⟩ := hcell k hlt
      have q := str_eq_iff hT HS.out
      clear hcell hT
      by_cases e : ns.getD k [] = bs
      · rw [decide_eq_true e] at q
        have HB : Hid (hasB bs ns = true) := has_at (by rw [← HN.out]; exact hlt) e
        clear e
        go_wp2
        go_ret
        exact ⟨by rw [HB.out]; rfl, rfl⟩
      · rw [decide_eq_false e] at q
        have HE : Hid (ns.getD k [] ≠ bs) := e
        clear e
        go_wp2
        go_round
        case rel =>
          refine ⟨k + 1, by omega, by go_num, fun j hj => ?_⟩
          by_cases hjk : j = k
          · rw [hjk]; exact HE.out
          · exact HA.out j (by omega)
        case measure => simp [intOf]; omega
    · obtain rfl : n = k := by omega
      have HB : Hid (hasB bs ns = false) := has_not (fun j hj => HA.out j (by rw [HN.out]; exact hj))
      go_wp2
      go_ret
      exact ⟨by rw [HB.out]; rfl, rfl⟩
theorem within9 {ns ms : List (List Nat)} {v u : Value} (w : World) (hv : SRow ns v w) (hu : SRow ms u w) : Says 27 #[v, u] w (withinB ns ms) := by
  obtain ⟨a, cap, rfl, hc, hcap, hrow⟩ := hv
  obtain ⟨n, hn⟩ : ∃ n, n = ns.length := ⟨_, rfl⟩
  rw [← hn] at hc hrow
  have HN : Hid (n = ns.length) := hn
  have HR : Hid _ := hrow
  have HU : Hid (SRow ms u w) := hu
  have hnb : n ≤ 9223372036854775807 := by omega
  rw [← hn]
  clear hn hrow hu hc
  unfold Says
  go_enter Tryd.func27, Tryd.ntmps27
  go_wp2_with fail
  go_loop [5] (fun i => ∃ k : Nat, k ≤ n ∧ i = .int .i64 k ∧ ∀ j, j < k → hasB (ns.getD j []) ms = true) (fun i => n - (intOf i).toNat)
  case atStart => exact ⟨0, by omega, rfl, fun j hj => by omega⟩
  case round =>
    obtain ⟨k, hk, rfl, hall⟩ := hrel
    have HA : Hid (∀ j, j < k → hasB (ns.getD j []) ms = true) := hall
    clear hall
    by_cases hlt : k < n
    · have hi : (k : Int) < (n : Int) := by omega
      obtain ⟨b, off, rfl, hcell⟩ := HR.out (by omega)
      obtain ⟨t, hct, hT⟩ := hcell k hlt
      have hh := has9 w HU.out hT
      clear hcell hT
      go_wp2_with fail
      refine Calls.mono hh ?_
      rintro e w2 ⟨rfl, rfl⟩
      clear hh
      cases hb : hasB (ns.getD k []) ms with
      | false =>
        have HB : Hid (withinB ns ms = false) := within_not (by rw [← HN.out]; exact hlt) hb
        clear hb
        go_wp2
        go_ret
        exact ⟨by rw [HB.out]; rfl, rfl⟩
      | true =>
        have HE : Hid (hasB (ns.getD k []) ms = true) := hb
        clear hb
        go_wp2
        go_round
        case rel =>
          refine ⟨k + 1, by omega, by go_num, fun j hj => ?_⟩
          by_cases hjk : j = k
          · rw [hjk]; exact HE.out
          · exact HA.out j (by omega)
        case measure => simp [intOf]; omega
    · obtain rfl : n = k := by omega
      have HB : Hid (withinB ns ms = true) := within_all (fun j hj => HA.out j (by rw [HN.out]; exact hj))
      go_wp2
      go_ret
      exact ⟨by rw [HB.out]; rfl, rfl⟩
theorem same9 {ns ms : List (List Nat)} {v u : Value} (w : World) (hv : SRow ns v w) (hu : SRow ms u w) : Ret 25 #[v, u] w (Is (.bool (decide (ns = ms)))) := by
  have HV : Hid (SRow ns v w) := hv
  have HU : Hid (SRow ms u w) := hu
  obtain ⟨a, cap, rfl, hc, hcap, _⟩ := hv
  obtain ⟨a2, cap2, rfl, hc2, hcap2, _⟩ := hu
  obtain ⟨n, hn⟩ : ∃ n, n = ns.length := ⟨_, rfl⟩
  obtain ⟨m, hm⟩ : ∃ m, m = ms.length := ⟨_, rfl⟩
  rw [← hn] at hc HV ⊢
  rw [← hm] at hc2 HU ⊢
  have HN : Hid (n = ns.length) := hn
  have HM : Hid (m = ms.length) := hm
  have hnb : n ≤ 9223372036854775807 := by omega
  have hmb : m ≤ 9223372036854775807 := by omega
  clear hn hm hc hc2
  unfold Ret
  by_cases hnm : n = m
  · subst hnm
    go_enter Tryd.func25, Tryd.ntmps25
    go_wp2_with fail
    go_loopw [5] (fun i wr => Below w.heap.size w wr ∧ ∃ k : Nat, k ≤ n ∧ i = .int .i64 k ∧ ∀ j, j < k → ns.getD j [] = ms.getD j []) (fun i _ => n - (intOf i).toNat)
    case atStart => exact ⟨Below.refl _ _, 0, by omega, rfl, fun j hj => by omega⟩
    case round =>
      obtain ⟨hB, k, hk, rfl, hall⟩ := hrel
      have HA : Hid (∀ j, j < k → ns.getD j [] = ms.getD j []) := hall
      have HB0 : Hid (Below w.heap.size w wr) := hB
      have hr1 := SRow.stb _ _ _ _ hB HV.out
      have hr2 := SRow.stb _ _ _ _ hB HU.out
      clear hall hB
      by_cases hlt : k < n
      · have hi : (k : Int) < (n : Int) := by omega
        obtain ⟨a', c', e1, _, _, hrow1⟩ := hr1
        obtain ⟨a'', c'', e2, _, _, hrow2⟩ := hr2
        injection e1 with e1 _ _
        injection e2 with e2 _ _
        subst e1
        subst e2
        obtain ⟨b, off, rfl, hcell⟩ := hrow1 (by rw [← HN.out]; omega)
        obtain ⟨b2, off2, rfl, hcell2⟩ := hrow2 (by rw [← HM.out]; omega)
        obtain ⟨t, hct, hT⟩ := hcell k (by rw [← HN.out]; exact hlt)
        obtain ⟨t2, hct2, hT2⟩ := hcell2 k (by rw [← HM.out]; exact hlt)
        have q := str_eq_iff hT hT2
        clear hcell hcell2 hrow1 hrow2 hT hT2
        by_cases e : ns.getD k [] = ms.getD k []
        · rw [decide_eq_true e] at q
          have HE : Hid (ns.getD k [] = ms.getD k []) := e
          clear e
          go_wp2
          go_quiet (fail)
          go_wp2
          refine ⟨⟨below_drewN HB0.out _, k + 1, by omega, by go_num, fun j hj => ?_⟩, by simp [intOf]; omega⟩
          by_cases hjk : j = k
          · rw [hjk]; exact HE.out
          · exact HA.out j (by omega)
        · rw [decide_eq_false e] at q
          have HB : Hid (decide (ns = ms) = false) := decide_eq_false (fun h => e (by rw [h]))
          clear e
          go_wp2
          go_quiet (fail)
          go_wp2
          go_ret
          exact ⟨_, rfl, below_drewN HB0.out _, by rw [HB.out]; rfl⟩
      · obtain rfl : n = k := by omega
        have HB : Hid (decide (ns = ms) = true) := decide_eq_true (List.ext_getElem (by rw [← HN.out, ← HM.out]) (fun i h1 h2 => by
          have := HA.out i (by rw [HN.out]; exact h1)
          rwa [getD_at h1, getD_at h2] at this))
        clear hr1 hr2
        go_wp2
        go_ret
        exact ⟨_, rfl, HB0.out, by rw [HB.out]; rfl⟩
  · have hi : ¬ (n : Int) = (m : Int) := by omega
    have HB : Hid (decide (ns = ms) = false) := decide_eq_false (fun h => hnm (by rw [HN.out, HM.out, h]))
    clear hnm
    go_enter Tryd.func25, Tryd.ntmps25
    go_wp2
    go_ret
    exact ⟨_, rfl, Below.refl _ _, by rw [HB.out]; rfl⟩
end Go.Proofs.YtbidoiipebokoaaDoor
set_option linter.unusedVariables false
set_option linter.unusedSimpArgs false
namespace Go.Proofs.YtbidoiipebokoaaDoor
open Go.RowKit Go.Sort Go.BigFrame
set_option maxRecDepth 100000
set_option maxHeartbeats 2000000
def strsV (l : List (List Nat)) : List Value := l.map (fun x => Value.string (strOf x))
theorem strsV_len (l : List (List Nat)) : (strsV l).length = l.length := by simp [strsV]
theorem strsV_app (l : List (List Nat)) (x : List Nat) : strsV (l ++ [x]) = strsV l ++ [.string (strOf x)] := by simp [strsV]
def slLen : Value → Nat
  | .slice _ n _ => n
  | _ => 0
theorem str9_info : ∃ i0, Tryd.prog.info? 9 = some i0 ∧ i0.zero = some (.string ⟨#[]⟩) ∧ i0.size = 1 ∧ i0.bytes = 16 := info_parts (by kernel_rfl)
theorem str9_one {s : ByteArray} : ∀ u ∈ [Value.string s], u.oneCell' = true := fun u hu => by
  obtain rfl : u = .string s := by simpa using hu
  rfl
theorem owned_on {w w' : World} {base e size n : Nat} {v : Value} {xs : List Value} (h : w.ownsRow base e size v n xs) (hb : Below w.heap.size w w') : w'.ownsRow base e size v n xs := by
  refine ⟨h.1, ?_⟩
  rcases h.2 with h1 | ⟨g, cap, cur, h1, h2, h3, h4⟩
  · exact .inl h1
  · exact .inr ⟨g, cap, cur, h1, h2, block_below hb (lt_of_heap h3) h3, h4⟩
/-- An owned row of texts is a list of texts. -/
theorem own_strs {w : World} {base : Nat} {v : Value} {out : List (List Nat)} (hd : ∀ x ∈ out, Dig x) (h : w.ownsRow base 9 1 v out.length (strsV out)) : SRowM (fun b => base ≤ b) out v w := by
  rcases h.2 with ⟨rfl, h0⟩ | ⟨g, cap, cur, rfl, hb, hg, h1, h2, h3, h4⟩
  · exact ⟨none, 0, by rw [h0], by omega, by decide, fun hp => by omega⟩
  · refine ⟨some ⟨g, 0, none⟩, cap, rfl, h1, by unfold maxLen at h2; omega, fun _ => ⟨g, 0, rfl, hb, fun i hi => ⟨strOf out[i], ?_, ?_⟩⟩⟩
    · have := h.cells (g := g) rfl i (.string (strOf out[i])) (by unfold strsV; simp [hi])
      rwa [Addr.add_mid] at this
    · rw [getD_at hi]
      exact str_strOf (hd _ (List.getElem_mem hi))
theorem own_slice9 {w : World} {base n : Nat} {v : Value} {xs : List Value} (h : w.ownsRow base 9 1 v n xs) : ∃ a cap, v = .slice a n cap ∧ n ≤ cap ∧ cap ≤ 9223372036854775807 := by
  rcases h.2 with ⟨rfl, h0⟩ | ⟨g, cap, cur, rfl, hb, hg, h1, h2, h3, h4⟩
  · exact ⟨none, 0, by rw [h0], by omega, by decide⟩
  · exact ⟨some ⟨g, 0, none⟩, cap, rfl, h1, by unfold maxLen at h2; omega⟩
theorem srow_dig9 {ns : List (List Nat)} {v : Value} {w : World} (h : SRow ns v w) : ∀ x ∈ ns, Dig x := fun x hx => by
  obtain ⟨i, hi, rfl⟩ := List.getElem_of_mem hx
  obtain ⟨a, cap, _, _, _, hrow⟩ := h
  obtain ⟨b, off, _, hc⟩ := hrow (by omega)
  obtain ⟨s, _, hS⟩ := hc i hi
  have := hS.dig
  rwa [getD_at hi] at this
theorem lessN : ∀ (x y : List Nat), (∀ a ∈ x, a < 256) → (∀ b ∈ y, b < 256) → Op.bytesLess (x.map UInt8.ofNat) (y.map UInt8.ofNat) = ltN x y
  | [], [], _, _ => rfl
  | _ :: _, [], _, _ => rfl
  | [], _ :: _, _, _ => rfl
  | a :: x, b :: y, hx, hy => by
    have ha := hx a (by simp)
    have hb := hy b (by simp)
    have ih := lessN x y (fun c hc => hx c (by simp [hc])) (fun c hc => hy c (by simp [hc]))
    have e1 : (UInt8.ofNat a < UInt8.ofNat b) ↔ a < b := by
      rw [UInt8.lt_iff_toNat_lt, UInt8.toNat_ofNat', UInt8.toNat_ofNat', Nat.mod_eq_of_lt (by omega), Nat.mod_eq_of_lt (by omega)]
    have e2 : (UInt8.ofNat a = UInt8.ofNat b) ↔ a = b := by
      rw [← UInt8.toNat_inj, UInt8.toNat_ofNat', UInt8.toNat_ofNat', Nat.mod_eq_of_lt (by omega), Nat.mod_eq_of_lt (by omega)]
    have e3 : decide (UInt8.ofNat a < UInt8.ofNat b) = decide (a < b) := by simp [e1]
    have e4 : (UInt8.ofNat a == UInt8.ofNat b) = (a == b) := by
      rw [Bool.eq_iff_iff]; simp [e2]
    show (decide (UInt8.ofNat a < UInt8.ofNat b) || (UInt8.ofNat a == UInt8.ofNat b && Op.bytesLess (x.map UInt8.ofNat) (y.map UInt8.ofNat))) = (decide (a < b) || (a == b && ltN x y))
    rw [e3, e4, ih]
theorem less_iff {s t : ByteArray} {x y : List Nat} (hs : Str s x) (ht : Str t y) : Op.bytesLess s.toList t.toList = ltN x y := by
  have key : ∀ {s : ByteArray} {x : List Nat}, Str s x → s.toList = x.map UInt8.ofNat := fun {s x} h => by
    rw [Lib.toList_data, h.eq]
    have h := strOf_data x ByteArray.empty
    unfold strOf
    rw [h]; simp
  rw [key hs, key ht]
  exact lessN x y (mem_of_dig hs.dig) (mem_of_dig ht.dig)
theorem gtr9 (a b : ByteArray) : binOp .gtr 9 (.string a) (.string b) = pure (.bool !(Op.bytesLess a.toList b.toList || a.toList == b.toList)) := by simp [binOp, Op.stringOp]
/-- A list of texts in a block of its own, which may be written to. -/
def OwnS (base : Nat) (out : List (List Nat)) (v : Value) (w : World) : Prop := ∃ a cap, v = .slice a out.length cap ∧ out.length ≤ cap ∧ cap ≤ 9223372036854775807 ∧
  (0 < out.length → ∃ g off cur, a = some ⟨g, off, none⟩ ∧ base ≤ g ∧ w.heap[g]? = some (.cells cur 9 (0, 0)) ∧ ∀ i, i < out.length → ∃ s, cur[off + i]? = some (.string s) ∧ Str s (out.getD i []))
theorem OwnS.rowM {base : Nat} {out : List (List Nat)} {v : Value} {w : World} (h : OwnS base out v w) : SRowM (fun b => base ≤ b) out v w := by
  obtain ⟨a, cap, h1, h2, h3, h4⟩ := h
  refine ⟨a, cap, h1, h2, h3, fun hp => ?_⟩
  obtain ⟨g, off, cur, k1, k2, k3, k4⟩ := h4 hp
  refine ⟨g, off, k1, k2, fun i hi => ?_⟩
  obtain ⟨s, k5, k6⟩ := k4 i hi
  exact ⟨s, (cell_of_row _ _ _ _ _ _ k3).trans k5, k6⟩
theorem own_ownS {w : World} {base : Nat} {v : Value} {out : List (List Nat)} (hd : ∀ x ∈ out, Dig x) (h : w.ownsRow base 9 1 v out.length (strsV out)) : OwnS base out v w := by
  rcases h.2 with ⟨rfl, h0⟩ | ⟨g, cap, cur, rfl, hb, hg, h1, h2, h3, h4⟩
  · exact ⟨none, 0, by rw [h0], by omega, by decide, fun hp => by omega⟩
  · refine ⟨some ⟨g, 0, none⟩, cap, rfl, h1, by unfold maxLen at h2; omega, fun _ => ⟨g, 0, cur, rfl, hb, hg, fun i hi => ⟨strOf out[i], ?_, ?_⟩⟩⟩
    · have e : (strsV out)[i]? = some (.string (strOf out[i])) := by unfold strsV; simp [hi]
      rw [← h4, List.getElem?_take_of_lt (by omega)] at e
      simpa using e
    · rw [getD_at hi]
      exact str_strOf (hd _ (List.getElem_mem hi))
def SetR (ns : List (List Nat)) (w : World) (e : Ending) (w' : World) : Prop :=
  ∃ v er, e = .returned (.tuple #[v, .int .i64 er]) ∧ Below w.heap.size w w' ∧ (match setR ns with | .ok out => er = 0 ∧ OwnS w.heap.size out v w' | .error e0 => er = e0 ∧ v = .slice none 0 0)
end Go.Proofs.YtbidoiipebokoaaDoor
set_option linter.unusedVariables false
set_option linter.unusedSimpArgs false
namespace Go.Proofs.YtbidoiipebokoaaDoor
open Go.RowKit Go.Sort Go.BigFrame
set_option maxRecDepth 100000
set_option maxHeartbeats 8000000
/-- Where the best so far stands, a round later. -/
theorem best_yes {l out : List (List Nat)} {i : Nat} {b : List Nat} (hi : i < l.length) (hne : l.getD i [] ≠ []) (h : BestR l out i b) (h1 : okB out (l.getD i []) = true) (h2 : b = [] ∨ ltN (l.getD i []) b = true) : BestR l out (i + 1) (l.getD i []) := by
  have := best_step hi hne h
  rwa [if_pos ⟨h1, h2⟩] at this
theorem best_no {l out : List (List Nat)} {i : Nat} {b : List Nat} (hi : i < l.length) (hne : l.getD i [] ≠ []) (h : BestR l out i b) (h1 : okB out (l.getD i []) = false ∨ (b ≠ [] ∧ ltN (l.getD i []) b = false)) : BestR l out (i + 1) b := by
  have := best_step hi hne h
  rwa [if_neg] at this
  rintro ⟨a, c⟩
  rcases h1 with h1 | ⟨h1, h2⟩
  · rw [h1] at a; cases a
  · rcases c with c | c
    · exact h1 c
    · rw [h2] at c; cases c
theorem set9 {ns : List (List Nat)} {v : Value} (w : World) (hv : SRow ns v w) (hlen : ∀ x ∈ ns, x.length ≤ 9223372036854775807) (hnn : ns.length ≤ 1000000) : Calls Tryd.prog 24 #[v] w (SetR ns w) := by
  have HV : Hid (SRow ns v w) := hv
  have HDN : Hid (∀ x ∈ ns, Dig x) := srow_dig9 hv
  obtain ⟨a, cap, rfl, hc, hcap, hrow⟩ := hv
  obtain ⟨n, hn⟩ : ∃ n, n = ns.length := ⟨_, rfl⟩
  rw [← hn] at hc hrow HV hnn
  have HN : Hid (n = ns.length) := hn
  have HR : Hid _ := hrow
  have HL : Hid (∀ x ∈ ns, x.length ≤ 9223372036854775807) := hlen
  obtain ⟨i0, hi0, hz0, hz1, hz2⟩ := str9_info
  have HI0 : Hid _ := (⟨hi0, hz0, hz1, hz2⟩ : _ ∧ _ ∧ _ ∧ _)
  rw [← hn]
  clear hn hrow hlen hc hi0 hz0 hz1 hz2
  go_enter Tryd.func24, Tryd.ntmps24
  go_wp2_with fail
  go_loop [4] (fun i => ∃ k : Nat, k ≤ n ∧ i = .int .i64 k ∧ ∀ j, j < k → selB (ns.getD j []) = true) (fun i => n - (intOf i).toNat)
  case atStart => exact ⟨0, by omega, rfl, fun j hj => by omega⟩
  case round =>
    obtain ⟨k, hk, rfl, hall⟩ := hrel
    have HA : Hid (∀ j, j < k → selB (ns.getD j []) = true) := hall
    clear hall
    by_cases hlt : k < n
    · have hi : (k : Int) < (n : Int) := by omega
      obtain ⟨b, off, rfl, hcell⟩ := HR.out (by omega)
      obtain ⟨t, hct, hT⟩ := hcell k hlt
      have hts : t.size ≤ 9223372036854775807 := by
        have hkl : k < ns.length := by rw [← HN.out]; exact hlt
        rw [hT.size, getD_at hkl]; exact HL.out _ (List.getElem_mem hkl)
      have hh := sel9 w hT hts
      clear hcell hT
      go_wp2_with fail
      refine Calls.mono hh ?_
      rintro e w2 ⟨rfl, rfl⟩
      clear hh
      cases hb : selB (ns.getD k []) with
      | false =>
        have HB : Hid (setR ns = .error 13) := by
          show _ = _
          unfold setR
          rw [if_neg]
          intro h
          have hkl : k < ns.length := by rw [← HN.out]; exact hlt
          have := List.all_eq_true.1 h ns[k] (List.getElem_mem hkl)
          rw [← getD_at hkl, hb] at this; cases this
        clear hb
        go_wp2
        go_ret2
        exact ⟨_, 13, rfl, Below.refl _ _, by rw [HB.out]; exact ⟨rfl, rfl⟩⟩
      | true =>
        have HE : Hid (selB (ns.getD k []) = true) := hb
        clear hb
        go_wp2
        go_round
        case rel =>
          refine ⟨k + 1, by omega, by go_num, fun j hj => ?_⟩
          by_cases hjk : j = k
          · rw [hjk]; exact HE.out
          · exact HA.out j (by omega)
        case measure => simp [intOf]; omega
    · obtain rfl : n = k := by omega
      have HALL : Hid (ns.all selB = true) := List.all_eq_true.2 (fun x hx => by
        obtain ⟨i, hi, rfl⟩ := List.getElem_of_mem hx
        rw [← getD_at hi]
        exact HA.out i (by rw [HN.out]; exact hi))
      clear HA hk
      go_wp2_with fail
      go_loopw [6] (fun ov wr => ∃ out : List (List Nat), OutR ns out ∧ Below w.heap.size w wr ∧ wr.ownsRow w.heap.size 9 1 ov out.length (strsV out)) (fun ov _ => n + 1 - slLen ov)
      case atStart => exact ⟨[], out_start ns, Below.refl _ _, World.ownsRow_nil _ _ _ _⟩
      case round =>
        obtain ⟨out, hout, hB, hown⟩ := hrel
        obtain ⟨w1, hw1⟩ : ∃ w1, w1 = wr := ⟨_, rfl⟩
        subst hw1
        obtain ⟨oa, oc, rfl, hoc, hoc2⟩ := own_slice9 hown
        obtain ⟨m, hm⟩ : ∃ m, m = out.length := ⟨_, rfl⟩
        rw [← hm] at hown hoc
        rw [← hm]
        have HM : Hid (m = out.length) := hm
        have hmn : m ≤ n := by rw [hm, HN.out]; have := hout.2.2.2; omega
        have HO : Hid (OutR ns out) := hout
        have HB1 : Hid (Below w.heap.size w w1) := hB
        have HOWN : Hid (w1.ownsRow w.heap.size 9 1 (.slice oa m oc) m (strsV out)) := hown
        clear hm hout hB hown
        go_wp2_with fail
        go_loopw [7, 8] (fun bv iv wr => Below w1.heap.size w1 wr ∧ ∃ k : Nat, k ≤ n ∧ iv = .int .i64 k ∧ ∃ (tb : ByteArray) (b : List Nat), bv = .string tb ∧ Str tb b ∧ BestR ns out k b) (fun bv iv _ => n - (intOf iv).toNat)
        case atStart => exact ⟨Below.refl _ _, 0, by omega, rfl, _, [], rfl, str_mk (a := #[]) (by decide), .inl ⟨rfl, fun j hj => by omega⟩⟩
        case round =>
          obtain ⟨hB, k, hk, rfl, tb, b, rfl, htb, hbr⟩ := hrel
          have HB2 : Hid (Below w1.heap.size w1 wr) := hB
          have HTB : Hid (Str tb b) := htb
          have HBR : Hid (BestR ns out k b) := hbr
          have qe := str_lit_eq (a := #[]) (l := []) (b := []) htb (by decide) (by decide)
          by_cases hlt : k < n
          · have hi : (k : Int) < (n : Int) := by omega
            have hs1 := HB1.out.size
            have hV2 := SRow.stb _ _ _ _ (HB1.out.trans (hB.mono hs1)) HV.out
            have ho2 := owned_on HOWN.out hB
            obtain ⟨a', c', e1, _, _, hrow2⟩ := hV2
            injection e1 with e1 e1n e1c
            subst e1
            clear e1n e1c
            obtain ⟨g, off, rfl, hcell⟩ := hrow2 (by rw [← HN.out]; omega)
            obtain ⟨t, hct, hT⟩ := hcell k (by rw [← HN.out]; exact hlt)
            have HT : Hid (Str t (ns.getD k [])) := hT
            have HNE : Hid (ns.getD k [] ≠ []) := selB_ne (by
              have hkl : k < ns.length := by rw [← HN.out]; exact hlt
              rw [getD_at hkl]; exact List.all_eq_true.1 HALL.out _ (List.getElem_mem hkl))
            have qlt := less_iff hT htb
            clear hcell hrow2 hT htb hbr hB
            by_cases hm0 : m = 0
            · have hi0 : (m : Int) = 0 := by omega
              have HOK : Hid (okB out (ns.getD k []) = true) := by show _ = _; unfold okB; simp [show out = [] from List.length_eq_zero_iff.1 (by rw [← HM.out]; exact hm0)]
              clear ho2 hm0
              by_cases e1 : b = []
              · rw [decide_eq_true e1] at qe
                have HBEST : Hid (BestR ns out (k + 1) (ns.getD k [])) := best_yes (by rw [← HN.out]; exact hlt) HNE.out HBR.out (HOK.out) (.inl e1)
                clear e1 qlt
                go_wp2
                go_quiet (fail)
                go_wp2
                exact ⟨⟨below_drewN HB2.out _, k + 1, by omega, by go_num, _, _, rfl, HT.out, HBEST.out⟩, by simp [intOf]; omega⟩
              · rw [decide_eq_false e1] at qe
                cases e2 : ltN (ns.getD k []) b with
                | true =>
                  rw [e2] at qlt
                  have HBEST : Hid (BestR ns out (k + 1) (ns.getD k [])) := best_yes (by rw [← HN.out]; exact hlt) HNE.out HBR.out (HOK.out) (.inr e2)
                  clear e1 e2
                  go_wp2
                  go_quiet (fail)
                  go_wp2
                  exact ⟨⟨below_drewN HB2.out _, k + 1, by omega, by go_num, _, _, rfl, HT.out, HBEST.out⟩, by simp [intOf]; omega⟩
                | false =>
                  rw [e2] at qlt
                  have HBEST : Hid (BestR ns out (k + 1) b) := best_no (by rw [← HN.out]; exact hlt) HNE.out HBR.out (.inr ⟨e1, e2⟩)
                  clear e1 e2
                  go_wp2
                  go_quiet (fail)
                  go_wp2
                  exact ⟨⟨below_drewN HB2.out _, k + 1, by omega, by go_num, _, _, rfl, HTB.out, HBEST.out⟩, by simp [intOf]; omega⟩
            · have hi0 : ((m : Int) == 0) = false := by simp; omega
              obtain ⟨q, hq⟩ : ∃ q, m = q + 1 := ⟨m - 1, by omega⟩
              have hq1 : (m : Int) - 1 = (q : Int) := by omega
              have hqm : q < m := by omega
              have HQ : Hid (m = q + 1) := hq
              clear hq
              have hql : q < out.length := by have := HM.out; omega
              rcases ho2.2 with ⟨_, h0⟩ | ⟨g2, cap2, cur2, ev, _⟩
              · omega
              injection ev with ev1 ev2 ev3
              subst ev1
              clear ev2 ev3
              have hcl := ho2.cells (g := g2) rfl q (.string (strOf out[q])) (by unfold strsV; simp [hql])
              rw [Addr.add_mid, Nat.zero_add] at hcl
              have HDO : Hid (Dig out[q]) := HDN.out _ (HO.out.2.1 _ (List.getElem_mem hql))
              obtain ⟨tl, htl⟩ : ∃ tl, tl = strOf out[q] := ⟨_, rfl⟩
              rw [← htl] at hcl
              have HTL : Hid (Str tl out[q]) := by show Str _ _; rw [htl]; exact str_strOf HDO.out
              have r1 := less_iff HT.out HTL.out
              have r2 := str_eq_iff HT.out HTL.out
              have hg := gtr9 t tl
              have HOKE : Hid (okB out (ns.getD k []) = ltN out[q] (ns.getD k [])) := by
                show _ = _
                unfold okB
                rw [show out.length - 1 = q by have := HM.out; have := HQ.out; omega, getD_at hql]
                simp [show out ≠ [] from fun e => by rw [e] at hql; simp at hql]
              clear ho2 htl hm0
              rcases ltN_tot (ns.getD k []) out[q] with z | z | z
              · -- it is less
                rw [z] at r1
                have HBEST : Hid (BestR ns out (k + 1) b) := best_no (by rw [← HN.out]; exact hlt) HNE.out HBR.out (.inl (by rw [HOKE.out]; exact ltN_asym z))
                clear z r2 qlt qe
                go_wp2
                go_quiet (fail)
                go_wp2
                exact ⟨⟨below_drewN HB2.out _, k + 1, by omega, by go_num, _, _, rfl, HTB.out, HBEST.out⟩, by simp [intOf]; omega⟩
              · -- it is the same
                rw [decide_eq_true z] at r2
                have HBEST : Hid (BestR ns out (k + 1) b) := best_no (by rw [← HN.out]; exact hlt) HNE.out HBR.out (.inl (by rw [HOKE.out, ← z]; exact ltN_irr _))
                clear z r1 qlt qe
                go_wp2
                go_quiet (fail)
                go_wp2
                exact ⟨⟨below_drewN HB2.out _, k + 1, by omega, by go_num, _, _, rfl, HTB.out, HBEST.out⟩, by simp [intOf]; omega⟩
              · -- it is greater
                rw [ltN_asym z] at r1
                rw [decide_eq_false (fun e => by rw [e, ltN_irr] at z; cases z)] at r2
                have HOK : Hid (okB out (ns.getD k []) = true) := HOKE.out.trans z
                clear z
                by_cases e1 : b = []
                · rw [decide_eq_true e1] at qe
                  have HBEST : Hid (BestR ns out (k + 1) (ns.getD k [])) := best_yes (by rw [← HN.out]; exact hlt) HNE.out HBR.out (HOK.out) (.inl e1)
                  clear e1 qlt
                  go_wp2
                  go_quiet (fail)
                  go_wp2
                  exact ⟨⟨below_drewN HB2.out _, k + 1, by omega, by go_num, _, _, rfl, HT.out, HBEST.out⟩, by simp [intOf]; omega⟩
                · rw [decide_eq_false e1] at qe
                  cases e2 : ltN (ns.getD k []) b with
                  | true =>
                    rw [e2] at qlt
                    have HBEST : Hid (BestR ns out (k + 1) (ns.getD k [])) := best_yes (by rw [← HN.out]; exact hlt) HNE.out HBR.out (HOK.out) (.inr e2)
                    clear e1 e2
                    go_wp2
                    go_quiet (fail)
                    go_wp2
                    exact ⟨⟨below_drewN HB2.out _, k + 1, by omega, by go_num, _, _, rfl, HT.out, HBEST.out⟩, by simp [intOf]; omega⟩
                  | false =>
                    rw [e2] at qlt
                    have HBEST : Hid (BestR ns out (k + 1) b) := best_no (by rw [← HN.out]; exact hlt) HNE.out HBR.out (.inr ⟨e1, e2⟩)
                    clear e1 e2
                    go_wp2
                    go_quiet (fail)
                    go_wp2
                    exact ⟨⟨below_drewN HB2.out _, k + 1, by omega, by go_num, _, _, rfl, HTB.out, HBEST.out⟩, by simp [intOf]; omega⟩
          · obtain rfl : n = k := by omega
            have hs1 := HB1.out.size
            have HB3 : Hid (Below w.heap.size w wr) := HB1.out.trans (hB.mono hs1)
            have HOW2 : Hid (wr.ownsRow w.heap.size 9 1 (.slice oa m oc) m (strsV out)) := owned_on HOWN.out hB
            clear htb hbr hB hs1
            by_cases e1 : b = []
            · rw [decide_eq_true e1] at qe
              have HEND : Hid (out = setL ns) := out_end HO.out (by have := HBR.out; rw [e1, HN.out] at this; exact this)
              clear e1
              by_cases h4 : 4 < m
              · have hi4 : (4 : Int) < (m : Int) := by omega
                have HB : Hid (setR ns = .error 4) := by
                  show _ = _
                  unfold setR
                  rw [if_pos HALL.out, if_neg (by rw [← HEND.out, ← HM.out]; omega)]
                clear h4
                go_wp2
                go_ret2
                exact ⟨_, 4, rfl, HB3.out, by rw [HB.out]; exact ⟨rfl, rfl⟩⟩
              · have hi4 : ¬ (4 : Int) < (m : Int) := by omega
                have HB : Hid (setR ns = .ok out) := by
                  show _ = _
                  unfold setR
                  rw [if_pos HALL.out, if_pos (by rw [← HEND.out, ← HM.out]; omega), ← HEND.out]
                clear h4
                go_wp2
                go_ret2
                refine ⟨_, 0, rfl, HB3.out, ?_⟩
                rw [HB.out]
                refine ⟨rfl, own_ownS (fun x hx => HDN.out x (HO.out.2.1 x hx)) ?_⟩
                rw [← HM.out]
                exact HOW2.out
            · rw [decide_eq_false e1] at qe
              have HSTEP : Hid (OutR ns (out ++ [b])) := out_step HO.out (by have := HBR.out; rw [HN.out] at this; exact this) e1
              have hmm : m + 1 ≤ n := by
                have := HSTEP.out.2.2.2
                rw [HN.out, HM.out]
                simp at this
                omega
              have hown2 := (HOW2.out).alloc (.cells #[.string tb] 9)
              have hm1 : m + 1 ≤ maxLen := by unfold maxLen; omega
              have hm2 : (m + 1) * 16 ≤ 140737488355328 := by omega
              have hm3 : w.heap.size ≤ (wr.alloc (.cells #[.string tb] 9)).heap.size := by have := HB3.out.size; simp; omega
              have HBA : Hid (Below w.heap.size w (wr.alloc (.cells #[.string tb] 9))) := HB3.out.alloc HB3.out.size _
              have HOA : Hid ((wr.alloc (.cells #[.string tb] 9)).ownsRow w.heap.size 9 1 (.slice oa m oc) m (strsV out)) := hown2
              obtain ⟨hi0, hz0, hz1, hz2⟩ := HI0.out
              clear e1 HOW2
              go_wp2_with (at_builtin; refine wpList_append_own _ rfl (.tmp 62) (.tmp 64) 33 rfl w.heap.size 9 i0 (.string ⟨#[]⟩) 1 16 Tryd.underlying33 hi0 hz0 hz1 hz2 rfl (by decide) (.slice oa m oc) m (strsV out) rfl hown2 ⟨wr.heap.size, 0, none⟩ 1 1 [.string tb] rfl rfl (news_one _ _ _) str9_one hm1 hm2 hm3 ?_; intro v4 w4 hown4 hgrow4 _)
              have hB4 : Below w.heap.size w w4 := HBA.out.grown hgrow4 hm3 (fun j hj => (HOA.out.lt j hj).1)
              have e4 : strsV out ++ [.string tb] = strsV (out ++ [b]) := by rw [strsV_app, HTB.out.eq]
              rw [e4] at hown4
              obtain ⟨oa4, oc4, rfl, _, _⟩ := own_slice9 hown4
              have HOW4 : Hid _ := hown4
              clear hown4 hgrow4 hown2 e4 hi0 hz0 hz1 hz2
              go_roundw
              case rel => exact ⟨out ++ [b], HSTEP.out, hB4, by rw [show (out ++ [b]).length = m + 1 by rw [HM.out]; simp]; exact HOW4.out⟩
              case measure => simp [slLen]; omega
end Go.Proofs.YtbidoiipebokoaaDoor
set_option linter.unusedVariables false
set_option linter.unusedSimpArgs false
namespace Go.Proofs.YtbidoiipebokoaaDoor
open Go.RowKit Go.Sort Go.BigFrame
set_option maxRecDepth 100000
set_option maxHeartbeats 4000000
theorem dom_len {d : List Nat} (h : domB d = true) : 1 ≤ d.length ∧ d.length ≤ 16 := by
  unfold domB ofB at h
  simp only [Bool.and_eq_true, decide_eq_true_eq] at h
  exact h.1.2
theorem dom_no {d : List Nat} (h : domB d = true) : 47 ∉ d := fun hm => by
  unfold domB ofB at h
  simp only [Bool.and_eq_true] at h
  have := List.all_eq_true.1 h.1.1 47 hm
  exact absurd this (by decide)
theorem path_len {p : List Nat} (h : pathB p = true) : 2 ≤ p.length ∧ p.length ≤ 40 ∧ p.getD 0 0 = 47 := by
  unfold pathB at h
  simp only [Bool.and_eq_true, decide_eq_true_eq, beq_iff_eq] at h
  exact ⟨h.1.1, h.1.2, h.2.1⟩
theorem parse_back {d p : List Nat} (hd : domB d = true) (hp : pathB p = true) : parseL (preI ++ d ++ p) = some (d, p) := by
  obtain ⟨h2, _, h0⟩ := path_len hp
  obtain ⟨r, rfl⟩ : ∃ r, p = 47 :: r := by
    cases p with
    | nil => simp at h2
    | cons x r => simp at h0; exact ⟨r, by rw [h0]⟩
  have e9 : (preI ++ d ++ 47 :: r).take 9 = preI := by rw [List.append_assoc]; exact List.take_left' rfl
  have e9d : (preI ++ d ++ 47 :: r).drop 9 = d ++ 47 :: r := by rw [List.append_assoc]; exact List.drop_left' rfl
  obtain ⟨a, b⟩ := upTo_app r (dom_no hd)
  unfold parseL
  rw [e9d, a, b, e9, if_pos ⟨by simp [preI], rfl, hd, hp⟩]
theorem agent_path {l : List Nat} (h : agentB l = true) : pathB l = true := by
  unfold agentB at h
  simp only [Bool.and_eq_true] at h
  exact h.1
theorem within_self (a : List (List Nat)) : withinB a a = true := within_all (fun j hj => has_at hj rfl)
theorem within_nil (b : List (List Nat)) : withinB [] b = true := rfl
theorem few9 {s : ByteArray} {bs : List Nat} (w : World) (h : Str s bs) (hl : s.size ≤ 9223372036854775807) : Calls Tryd.prog 10 #[.string s] w fun e w' => (∃ S, e = .returned (.string S) ∧ Str S (bs.take 80)) ∧ w' = w := by
  by_cases hc : 80 < s.size
  · have hi : (80 : Int) < (s.size : Int) := by omega
    have hct : ∀ (w : World), (Instr.slice 9 (.string s) none (some (.int .i64 80)) none).run Tryd.prog w = .ok (.string (s.extract 0 80)) w := fun w => cutN (s := s) (n := 80) (by omega) w
    have HS : Hid (Str (s.extract 0 80) (bs.take 80)) := h.upto (by omega)
    clear h
    go_enter Tryd.func10, Tryd.ntmps10
    go_wp2
    go_ret
    exact ⟨⟨_, rfl, HS.out⟩, rfl⟩
  · have hi : ¬ (80 : Int) < (s.size : Int) := by omega
    have HS : Hid (Str s (bs.take 80)) := by show Str _ _; rw [List.take_of_length_le (by rw [← h.size]; omega)]; exact h
    clear h
    go_enter Tryd.func10, Tryd.ntmps10
    go_wp2
    go_ret
    exact ⟨⟨_, rfl, HS.out⟩, rfl⟩
/-- What Parse tells. -/
def parseE (l : List Nat) : Value := match parseL l with
  | some (d, p) => .tuple #[.string (strOf d), .string (strOf p), .int .i64 0]
  | none => .tuple #[.string ⟨#[]⟩, .string ⟨#[]⟩, .int .i64 13]
/-- What Make tells. -/
def makeE (d p : List Nat) : Value := if domB d = true ∧ pathB p = true then .tuple #[.string (strOf (preI ++ d ++ p)), .int .i64 0] else .tuple #[.string ⟨#[]⟩, .int .i64 13]
/-- A row just laid is a list of texts. -/
theorem new_srow (w : World) {cs : Array Value} {ns : List (List Nat)} (hn : cs.size = ns.length) (hm : ns.length ≤ 1000) (hc : ∀ i, i < ns.length → ∃ s, cs[i]? = some (.string s) ∧ Str s (ns.getD i [])) : SRow ns (.slice (some ⟨w.heap.size, 0, none⟩) ns.length ns.length) (w.alloc (.cells cs 9)) :=
  ⟨_, _, rfl, Nat.le_refl _, by omega, fun _ => ⟨w.heap.size, 0, rfl, fun i hi => by
    obtain ⟨s, h1, h2⟩ := hc i hi
    refine ⟨s, ?_, h2⟩
    rw [Nat.zero_add, cell_of_row _ _ i _ _ _ (heap_alloc_new w _)]
    exact h1⟩⟩
end Go.Proofs.YtbidoiipebokoaaDoor
set_option linter.unusedVariables false
namespace Go.Proofs
open Go.Shelf
open Go.RowKit
def Tryd.lays137_ren : Go.Shelf.Ren := ⟨fun | 137 => 44 | 217 => 60 | 266 => 69 | n => n, fun | 9 => 9 | 5 => 5 | 3 => 3 | n => n, fun | n => n⟩
theorem Tryd.lays137 : Go.Proofs.Lays.n137 Tryd.prog Tryd.lays137_ren := {
  mixed := by kernel_rfl
  f137 := Tryd.func44.trans (congrArg some (by kernel_rfl))
  f217 := Tryd.func60.trans (congrArg some (by kernel_rfl))
  f266 := Tryd.func69.trans (congrArg some (by kernel_rfl))
  t3 := Tryd.underlying3
  a3 := Tryd.isAgg3
  z3 := Tryd.sizeOf3
  v3 := Tryd.zeroValue3
  t5 := Tryd.underlying5
  a5 := Tryd.isAgg5
  z5 := Tryd.sizeOf5
  v5 := Tryd.zeroValue5
  t9 := Tryd.underlying9
  a9 := Tryd.isAgg9
  z9 := Tryd.sizeOf9
  v9 := Tryd.zeroValue9 }
theorem Tryd.strings_IndexByte (s : ByteArray) (c : Int) (w : World) :
    Calls Tryd.prog 44 #[.string s, .int .u8 c] w fun e w' => e = .returned (.int .i64 (Lib.indexByte s.data.toList c.toNat.toUInt8)) ∧ w' = w := Any.strings_IndexByte Tryd.lays137 s c w
def Tryd.lays103_ren : Go.Shelf.Ren := ⟨fun | 103 => 36 | 210 => 54 | 206 => 52 | n => n, fun | 9 => 9 | 4 => 4 | 24 => 47 | 3 => 3 | n => n, fun | n => n⟩
theorem Tryd.lays103 : Go.Proofs.Lays.n103 Tryd.prog Tryd.lays103_ren := {
  mixed := by kernel_rfl
  f103 := Tryd.func36.trans (congrArg some (by kernel_rfl))
  f206 := Tryd.func52.trans (congrArg some (by kernel_rfl))
  f210 := Tryd.func54.trans (congrArg some (by kernel_rfl))
  t3 := Tryd.underlying3
  a3 := Tryd.isAgg3
  z3 := Tryd.sizeOf3
  v3 := Tryd.zeroValue3
  t4 := Tryd.underlying4
  a4 := Tryd.isAgg4
  z4 := Tryd.sizeOf4
  v4 := Tryd.zeroValue4
  t9 := Tryd.underlying9
  a9 := Tryd.isAgg9
  z9 := Tryd.sizeOf9
  v9 := Tryd.zeroValue9
  t24 := Tryd.underlying47
  a24 := Tryd.isAgg47
  z24 := Tryd.sizeOf47
  v24 := Tryd.zeroValue47 }
theorem Tryd.strings_CutPrefix (s p : ByteArray) (w : World) :
    Calls Tryd.prog 36 #[.string s, .string p] w fun e w' => e = .returned (.tuple #[.string ⟨(Lib.trimPrefix s.data.toList p.data.toList).toArray⟩, .bool (Lib.hasPrefix s.data.toList p.data.toList)]) ∧ w' = w := Any.strings_CutPrefix Tryd.lays103 s p w
def Tryd.lays99_ren : Go.Shelf.Ren := ⟨fun | 99 => 33 | 206 => 52 | n => n, fun | 9 => 9 | 4 => 4 | 3 => 3 | n => n, fun | n => n⟩
theorem Tryd.lays99 : Go.Proofs.Lays.n99 Tryd.prog Tryd.lays99_ren := {
  mixed := by kernel_rfl
  f99 := Tryd.func33.trans (congrArg some (by kernel_rfl))
  f206 := Tryd.func52.trans (congrArg some (by kernel_rfl))
  t3 := Tryd.underlying3
  a3 := Tryd.isAgg3
  z3 := Tryd.sizeOf3
  v3 := Tryd.zeroValue3
  t4 := Tryd.underlying4
  a4 := Tryd.isAgg4
  z4 := Tryd.sizeOf4
  v4 := Tryd.zeroValue4
  t9 := Tryd.underlying9
  a9 := Tryd.isAgg9
  z9 := Tryd.sizeOf9
  v9 := Tryd.zeroValue9 }
theorem Tryd.strings_HasPrefix (s p : ByteArray) (w : World) :
    Calls Tryd.prog 33 #[.string s, .string p] w fun e w' => e = .returned (.bool (Lib.hasPrefix s.data.toList p.data.toList)) ∧ w' = w := Any.strings_HasPrefix Tryd.lays99 s p w
def Tryd.lays160_ren : Go.Shelf.Ren := ⟨fun | 160 => 30 | 232 => 46 | 231 => 45 | 227 => 47 | 234 => 49 | 233 => 48 | 236 => 51 | 235 => 50 | 228 => 61 | 271 => 64 | 151 => 63 | 197 => 62 | 120 => 72 | 152 => 71 | 260 => 70 | 137 => 44 | 119 => 87 | 224 => 74 | 225 => 73 | 217 => 60 | 266 => 69 | n => n, fun | 9 => 9 | 4 => 4 | 3 => 3 | 5 => 5 | 117 => 62 | 116 => 61 | 0 => 0 | 124 => 65 | 21 => 21 | 105 => 67 | 46 => 74 | 119 => 89 | 139 => 92 | 138 => 91 | n => n, fun | 3 => 1 | 4 => 2 | n => n⟩
theorem Tryd.lays160 : Go.Proofs.Lays.n160 Tryd.prog Tryd.lays160_ren := {
  mixed := by kernel_rfl
  f119 := Tryd.func87.trans (congrArg some (by kernel_rfl))
  f120 := Tryd.func72.trans (congrArg some (by kernel_rfl))
  f137 := Tryd.func44.trans (congrArg some (by kernel_rfl))
  f151 := Tryd.func63.trans (congrArg some (by kernel_rfl))
  f152 := Tryd.func71.trans (congrArg some (by kernel_rfl))
  f160 := Tryd.func30.trans (congrArg some (by kernel_rfl))
  f197 := Tryd.func62.trans (congrArg some (by kernel_rfl))
  f217 := Tryd.func60.trans (congrArg some (by kernel_rfl))
  f224 := Tryd.func74.trans (congrArg some (by kernel_rfl))
  f225 := Tryd.func73.trans (congrArg some (by kernel_rfl))
  f227 := Tryd.func47.trans (congrArg some (by kernel_rfl))
  f228 := Tryd.func61.trans (congrArg some (by kernel_rfl))
  f231 := Tryd.func45.trans (congrArg some (by kernel_rfl))
  f232 := Tryd.func46.trans (congrArg some (by kernel_rfl))
  f233 := Tryd.func48.trans (congrArg some (by kernel_rfl))
  f234 := Tryd.func49.trans (congrArg some (by kernel_rfl))
  f235 := Tryd.func50.trans (congrArg some (by kernel_rfl))
  f236 := Tryd.func51.trans (congrArg some (by kernel_rfl))
  f260 := Tryd.func70.trans (congrArg some (by kernel_rfl))
  f266 := Tryd.func69.trans (congrArg some (by kernel_rfl))
  f271 := Tryd.func64.trans (congrArg some (by kernel_rfl))
  t0 := Tryd.underlying0
  a0 := Tryd.isAgg0
  z0 := Tryd.sizeOf0
  v0 := Tryd.zeroValue0
  t3 := Tryd.underlying3
  a3 := Tryd.isAgg3
  z3 := Tryd.sizeOf3
  v3 := Tryd.zeroValue3
  t4 := Tryd.underlying4
  a4 := Tryd.isAgg4
  z4 := Tryd.sizeOf4
  v4 := Tryd.zeroValue4
  t5 := Tryd.underlying5
  a5 := Tryd.isAgg5
  z5 := Tryd.sizeOf5
  v5 := Tryd.zeroValue5
  t9 := Tryd.underlying9
  a9 := Tryd.isAgg9
  z9 := Tryd.sizeOf9
  v9 := Tryd.zeroValue9
  t21 := Tryd.underlying21
  a21 := Tryd.isAgg21
  z21 := Tryd.sizeOf21
  v21 := Tryd.zeroValue21
  t46 := Tryd.underlying74
  a46 := Tryd.isAgg74
  z46 := Tryd.sizeOf74
  v46 := Tryd.zeroValue74
  t105 := Tryd.underlying67
  a105 := Tryd.isAgg67
  z105 := Tryd.sizeOf67
  v105 := Tryd.zeroValue67
  t116 := Tryd.underlying61
  a116 := Tryd.isAgg61
  z116 := Tryd.sizeOf61
  t117 := Tryd.underlying62
  a117 := Tryd.isAgg62
  z117 := Tryd.sizeOf62
  v117 := Tryd.zeroValue62
  t119 := Tryd.underlying89
  a119 := Tryd.isAgg89
  z119 := Tryd.sizeOf89
  t124 := Tryd.underlying65
  a124 := Tryd.isAgg65
  z124 := Tryd.sizeOf65
  v124 := Tryd.zeroValue65
  t138 := Tryd.underlying91
  a138 := Tryd.isAgg91
  z138 := Tryd.sizeOf91
  v138 := Tryd.zeroValue91
  t139 := Tryd.underlying92
  a139 := Tryd.isAgg92
  z139 := Tryd.sizeOf92
  v139 := Tryd.zeroValue92
  g3 := by kernel_rfl
  g4 := by kernel_rfl }
def Tryd.lays219_ren : Go.Shelf.Ren := ⟨fun | 219 => 65 | 217 => 60 | 225 => 73 | 224 => 74 | 267 => 75 | 266 => 69 | 314 => 88 | n => n, fun | 9 => 9 | 3 => 3 | 4 => 4 | 5 => 5 | 46 => 74 | 146 => 94 | 51 => 86 | n => n, fun | 1 => 0 | n => n⟩
theorem Tryd.lays219 : Go.Proofs.Lays.n219 Tryd.prog Tryd.lays219_ren := {
  mixed := by kernel_rfl
  f217 := Tryd.func60.trans (congrArg some (by kernel_rfl))
  f219 := Tryd.func65.trans (congrArg some (by kernel_rfl))
  f224 := Tryd.func74.trans (congrArg some (by kernel_rfl))
  f225 := Tryd.func73.trans (congrArg some (by kernel_rfl))
  f266 := Tryd.func69.trans (congrArg some (by kernel_rfl))
  f267 := Tryd.func75.trans (congrArg some (by kernel_rfl))
  f314 := Tryd.func88.trans (congrArg some (by kernel_rfl))
  t3 := Tryd.underlying3
  a3 := Tryd.isAgg3
  z3 := Tryd.sizeOf3
  v3 := Tryd.zeroValue3
  t4 := Tryd.underlying4
  a4 := Tryd.isAgg4
  z4 := Tryd.sizeOf4
  v4 := Tryd.zeroValue4
  t5 := Tryd.underlying5
  a5 := Tryd.isAgg5
  z5 := Tryd.sizeOf5
  v5 := Tryd.zeroValue5
  t9 := Tryd.underlying9
  a9 := Tryd.isAgg9
  z9 := Tryd.sizeOf9
  v9 := Tryd.zeroValue9
  t46 := Tryd.underlying74
  a46 := Tryd.isAgg74
  z46 := Tryd.sizeOf74
  v46 := Tryd.zeroValue74
  t51 := Tryd.underlying86
  a51 := Tryd.isAgg86
  z51 := Tryd.sizeOf86
  v51 := Tryd.zeroValue86
  t146 := Tryd.underlying94
  a146 := Tryd.isAgg94
  z146 := Tryd.sizeOf94
  v146 := Tryd.zeroValue94
  g1 := by kernel_rfl }
theorem Tryd.stringslite_Index_one (s : ByteArray) (c : UInt8) (w : World) :
    Calls Tryd.prog 65 #[.string s, .string ⟨#[c]⟩] w fun e w' => e = .returned (.int .i64 (Lib.indexByte s.data.toList c)) ∧ w' = w := Any.stringslite_Index_one Tryd.lays219 s c w
end Go.Proofs
set_option linter.unusedVariables false
set_option linter.unusedSimpArgs false
namespace Go.Proofs.YtbidoiipebokoaaDoor
open Go.RowKit Go.Sort Go.BigFrame
set_option maxRecDepth 100000
set_option maxHeartbeats 4000000
theorem strOf_data9 (l : List Nat) : (strOf l).data.toList = l.map UInt8.ofNat := by rw [strOf_arr]
theorem u8_beq {a b : Nat} (ha : a < 256) (hb : b < 256) : (UInt8.ofNat a == UInt8.ofNat b) = (a == b) := by
  rw [Bool.eq_iff_iff, beq_iff_eq, beq_iff_eq]
  constructor
  · intro h
    have := congrArg UInt8.toNat h
    simp at this; omega
  · intro h; rw [h]
theorem isPrefix9 : ∀ {p l : List Nat}, (∀ c ∈ p, c < 256) → (∀ c ∈ l, c < 256) → (p.map UInt8.ofNat).isPrefixOf (l.map UInt8.ofNat) = decide (l.take p.length = p)
  | [], l, _, _ => by simp
  | a :: p, [], _, _ => by simp
  | a :: p, b :: l, hp, hl => by
    have ih := isPrefix9 (p := p) (l := l) (fun c hc => hp c (by simp [hc])) (fun c hc => hl c (by simp [hc]))
    show (UInt8.ofNat a == UInt8.ofNat b && (p.map UInt8.ofNat).isPrefixOf (l.map UInt8.ofNat)) = _
    rw [u8_beq (hp a (by simp)) (hl b (by simp)), ih]
    by_cases h : a = b
    · subst h; simp
    · have h' : ¬ b = a := fun e => h e.symm
      simp [h, h']
theorem pre9 {s t : ByteArray} {l p : List Nat} (hs : Str s l) (ht : Str t p) : Lib.hasPrefix s.data.toList t.data.toList = decide (l.take p.length = p) := by
  rw [hs.eq, ht.eq, strOf_data9, strOf_data9]
  exact isPrefix9 (mem_of_dig ht.dig) (mem_of_dig hs.dig)
theorem trimPre9 {s t : ByteArray} {l p : List Nat} (hs : Str s l) (ht : Str t p) : Str ⟨(Lib.trimPrefix s.data.toList t.data.toList).toArray⟩ (if l.take p.length = p then l.drop p.length else l) := by
  have h1 := pre9 hs ht
  unfold Lib.trimPrefix
  rw [h1]
  by_cases h : l.take p.length = p
  · rw [if_pos h, if_pos (by simpa using h)]
    have e : t.data.toList.length = p.length := by rw [ht.eq, strOf_data9]; simp
    have hd : Dig (l.drop p.length) := hs.dig.drop _
    have := str_strOf hd
    have e2 : (⟨(s.data.toList.drop t.data.toList.length).toArray⟩ : ByteArray) = strOf (l.drop p.length) := by
      rw [e, strOf_arr, hs.eq, strOf_data9, List.map_drop]
    rw [e2]; exact this
  · rw [if_neg h, if_neg (by simpa using h)]
    rw [show (⟨s.data.toList.toArray⟩ : ByteArray) = s from rfl]
    exact hs
/-- Where a byte is, or that it is not there. -/
def idxL (c : Nat) (l : List Nat) : Int := if inB c l = true then ((upTo c l).length : Int) else -1
theorem idx_cons (c b : Nat) (l : List Nat) : idxL c (b :: l) = if b == c then 0 else if idxL c l == -1 then -1 else idxL c l + 1 := by
  unfold idxL inB upTo
  rw [List.any_cons, List.takeWhile_cons]
  by_cases h : b = c
  · subst h; simp
  · have h1 : (b == c) = false := by simpa using h
    have h2 : (b != c) = true := by simpa using h
    rw [h1, h2]
    simp only [Bool.false_or, Bool.false_eq_true, if_false, if_true, List.length_cons]
    by_cases h3 : l.any (fun x => x == c) = true
    · rw [if_pos h3, if_pos h3, if_neg (by simp)]
      simp
    · rw [if_neg h3, if_neg h3]
      rfl
theorem indexByte9 : ∀ {l : List Nat} {c : Nat}, c < 256 → (∀ x ∈ l, x < 256) → Lib.indexByte (l.map UInt8.ofNat) (UInt8.ofNat c) = idxL c l
  | [], c, _, _ => rfl
  | b :: l, c, hc, hl => by
    have ih := indexByte9 (l := l) hc (fun x hx => hl x (by simp [hx]))
    rw [List.map_cons]
    unfold Lib.indexByte
    rw [u8_beq (hl b (by simp)) hc, ih, idx_cons]
theorem index9 {s : ByteArray} {l : List Nat} {c : Nat} (w : World) (h : Str s l) (hc : c < 256) : Calls Tryd.prog 44 #[.string s, .int .u8 (c : Int)] w fun e w' => e = .returned (.int .i64 (idxL c l)) ∧ w' = w := by
  have h1 := Tryd.strings_IndexByte s (c : Int) w
  rw [show ((c : Int).toNat.toUInt8) = UInt8.ofNat c from rfl, h.eq, strOf_data9, indexByte9 hc (mem_of_dig h.dig), ← h.eq] at h1
  exact h1
theorem index9o {s t : ByteArray} {l : List Nat} {c : Nat} (w : World) (h : Str s l) (ht : t = ⟨#[UInt8.ofNat c]⟩) (hc : c < 256) : Calls Tryd.prog 65 #[.string s, .string t] w fun e w' => e = .returned (.int .i64 (idxL c l)) ∧ w' = w := by
  have h1 := Tryd.stringslite_Index_one s (UInt8.ofNat c) w
  rw [h.eq, strOf_data9, indexByte9 hc (mem_of_dig h.dig), ← h.eq] at h1
  rw [ht]; exact h1
theorem idx_ge {c : Nat} {l : List Nat} : (0 ≤ idxL c l) = (inB c l = true) := by
  unfold idxL
  by_cases h : inB c l = true
  · rw [if_pos h]
    exact propext ⟨fun _ => h, fun _ => by omega⟩
  · rw [if_neg h]
    exact propext ⟨fun h' => by omega, fun h' => absurd h' h⟩
/-- Trimmed of what stands in a text, at both ends. -/
def trimL (cs l : List Nat) : List Nat := ((l.reverse.dropWhile (fun c => inB c cs)).reverse).dropWhile (fun c => inB c cs)
theorem any9 {c : Nat} (hc : c < 256) : ∀ {cs : List Nat}, (∀ x ∈ cs, x < 256) → (cs.map UInt8.ofNat).contains (UInt8.ofNat c) = inB c cs
  | [], _ => rfl
  | b :: cs, h => by
    have ih := any9 hc (cs := cs) (fun x hx => h x (by simp [hx]))
    have hb := h b (by simp)
    have e : (UInt8.ofNat c == UInt8.ofNat b) = (b == c) := by rw [u8_beq hc hb, Bool.eq_iff_iff, beq_iff_eq, beq_iff_eq]; exact ⟨fun h => h.symm, fun h => h.symm⟩
    rw [List.map_cons, List.contains_cons, ih, e]
    unfold inB
    rw [List.any_cons]
theorem dropW9 {cs : List Nat} (hcs : ∀ x ∈ cs, x < 256) : ∀ {l : List Nat}, (∀ x ∈ l, x < 256) → (l.map UInt8.ofNat).dropWhile (fun b => (cs.map UInt8.ofNat).contains b) = (l.dropWhile (fun c => inB c cs)).map UInt8.ofNat
  | [], _ => rfl
  | b :: l, h => by
    have ih := dropW9 hcs (l := l) (fun x hx => h x (by simp [hx]))
    rw [List.map_cons, List.dropWhile_cons, List.dropWhile_cons, any9 (h b (by simp)) hcs]
    split
    · exact ih
    · rfl
theorem dropW_mem {p : Nat → Bool} : ∀ {l : List Nat} {x : Nat}, x ∈ l.dropWhile p → x ∈ l
  | [], _, h => by simp at h
  | b :: l, x, h => by
    rw [List.dropWhile_cons] at h
    split at h
    · exact List.mem_cons_of_mem _ (dropW_mem h)
    · exact h
theorem trim9 {cs l : List Nat} (hcs : ∀ x ∈ cs, x < 256) (hl : ∀ x ∈ l, x < 256) : Lib.trimS (l.map UInt8.ofNat) (cs.map UInt8.ofNat) = (trimL cs l).map UInt8.ofNat := by
  have h1 : ∀ x ∈ l.reverse, x < 256 := fun x hx => hl x (by simpa using hx)
  have e1 : Lib.trimRightS (l.map UInt8.ofNat) (cs.map UInt8.ofNat) = ((l.reverse.dropWhile (fun c => inB c cs)).reverse).map UInt8.ofNat := by
    unfold Lib.trimRightS
    rw [← List.map_reverse, dropW9 hcs h1, ← List.map_reverse]
  have h2 : ∀ x ∈ (l.reverse.dropWhile (fun c => inB c cs)).reverse, x < 256 := fun x hx => h1 x (dropW_mem (by simpa using hx))
  unfold Lib.trimS Lib.trimLeftS
  rw [e1, dropW9 hcs h2]
  rfl
theorem dropW_eq {p : Nat → Bool} : ∀ {l : List Nat}, l ≠ [] → ((l.dropWhile p = l) ↔ p (l.getD 0 0) = false)
  | [], h => absurd rfl h
  | b :: l, _ => by
    rw [List.dropWhile_cons]
    cases hb : p b
    · simp [hb]
    · simp only [hb, if_true, List.getD_cons_zero]
      constructor
      · intro h
        have := congrArg List.length h
        have h2 := (List.dropWhile_suffix p (l := l)).length_le
        simp at this; omega
      · intro h; cases h
theorem getD_rev {l : List Nat} (h : l ≠ []) : l.reverse.getD 0 0 = l.getD (l.length - 1) 0 := by
  have : 0 < l.length := by cases l with | nil => exact absurd rfl h | cons => simp
  simp [List.getD_eq_getElem?_getD, List.getElem?_reverse this]
theorem dropW_len {p : Nat → Bool} (l : List Nat) : (l.dropWhile p).length ≤ l.length := (List.dropWhile_suffix p (l := l)).length_le
theorem trim_same {cs l : List Nat} (h : l ≠ []) : (trimL cs l = l) ↔ (inB (l.getD 0 0) cs = false ∧ inB (l.getD (l.length - 1) 0) cs = false) := by
  have hr : l.reverse ≠ [] := by simpa using h
  have e1 := dropW_eq (p := fun c => inB c cs) hr
  rw [getD_rev h] at e1
  have e2 := dropW_eq (p := fun c => inB c cs) h
  unfold trimL
  constructor
  · intro hh
    have l1 := dropW_len (p := fun c => inB c cs) (l.reverse.dropWhile (fun c => inB c cs)).reverse
    have l2 := dropW_len (p := fun c => inB c cs) l.reverse
    have l3 := congrArg List.length hh
    have e3 : l.reverse.dropWhile (fun c => inB c cs) = l.reverse := List.IsSuffix.eq_of_length (List.dropWhile_suffix _) (by simp at l1 l2 l3 ⊢; omega)
    rw [e3, List.reverse_reverse] at hh
    exact ⟨e2.1 hh, e1.1 e3⟩
  · rintro ⟨h1, h2⟩
    rw [e1.2 h2, List.reverse_reverse]
    exact e2.2 h1
theorem trimP9 {s t : ByteArray} {l cs : List Nat} (w : World) (hs : Str s l) (hl : s.size ≤ 9223372036854775807) (ht : Str t cs) (h2 : t.size < 1000) (ha : ∀ (j : Nat) b, t.data.toList[j]? = some b → b.toNat < 128) :
    Calls Tryd.prog 30 #[.string s, .string t] w fun e w' => ∃ S, e = .returned (.string S) ∧ Str S (trimL cs l) ∧ Below w.heap.size w w' := by
  have h1 := Any.strings_Trim_laid Tryd.lays160 (by kernel_rfl) s t w hl (by omega) ha
  have hd : Dig (trimL cs l) := dig_lt (fun x hx => by
    unfold trimL at hx
    have := dropW_mem hx
    exact mem_of_dig hs.dig x (by have := dropW_mem (by simpa using this : x ∈ l.reverse.dropWhile _); simpa using this))
  refine Calls.mono h1 ?_
  rintro e w' ⟨rfl, hB⟩
  refine ⟨_, rfl, ?_, hB⟩
  rw [hs.eq, ht.eq, strOf_data9, strOf_data9, trim9 (mem_of_dig ht.dig) (mem_of_dig hs.dig), ← strOf_arr]
  exact str_strOf hd
end Go.Proofs.YtbidoiipebokoaaDoor
