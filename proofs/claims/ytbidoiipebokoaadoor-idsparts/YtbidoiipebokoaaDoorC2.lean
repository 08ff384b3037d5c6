/-
  Ids: the program's closures that tell which bytes may stand, and the call that asks them of a whole text. Ids: a text is cut at the first of a byte. Ids: the program's domains, segments and selectors. Ids: the program's segments, one by one. Ids: the program's paths. Ids: the program's paths, agents' paths, ids. Ids: the program's Parse and Make. Ids: the program's Within. Ids: what is sorted, and cut to each once, is the set. The library's contracts for slices.Sort and slices.Compact at texts, laid out of the library's own theorems (what the kit's own command prints). Ids: slices.Values, Collect, AppendSeq, Sorted at texts. Ids: the program's Set. Ids: the program's contracts. Ids: the document's examples. Ids: the laws IdsParts, IdsParses. Ids: lists of texts that came in.
-/
import Derived.Test.YtbidoiipebokoaaDoorC1
import Derived.BigQuiet
import Derived.RangeFuncNested
import Derived.RangeFuncBound
import Derived.RangeFuncCalls
import Derived.RangeFuncLeaves
import Derived.Shelf.Abstract
import Derived.Shelf.RegionOpen
import Derived.WalkKit
import Derived.OwnWalkIn
import Derived.TacticsInMore
import Derived.LoopNIn
import Derived.LoopIn
import Derived.Maps.OwnSet
import Derived.StringKeys
import Derived.Lib.SlicesCompact
import Derived.Shelf.Slices.CompactS
import Derived.Shelf.Sort.Plain
import Derived.Shelf.Slices.In.SortNone
import Derived.Test.YtbidoiipebokoaaDoorProg
import Derived.RangeFuncBox
import Derived.Maps.AppendAt
import Derived.Sort.OwnSorted
import Derived.ChangeArms
import Derived.OpenShut
set_option linter.unusedVariables false
set_option linter.unusedSimpArgs false
namespace Go.Proofs.YtbidoiipebokoaaDoor
open Go.RowKit Go.Sort Go.BigFrame
set_option maxRecDepth 100000
set_option maxHeartbeats 4000000
theorem cfA (args : Array Value) (w : World) : (callFunc 43 args).run Tryd.prog w = .ok (.enter 43 args) w := by simp [go_sem]
theorem cfB (args : Array Value) (w : World) : (callFunc 56 args).run Tryd.prog w = .ok (.enter 56 args) w := by simp [go_sem]
theorem amongF {t : ByteArray} {so : List Nat} {b c : Nat} (w : World) (ht : Str t so) (hc : c < 256) (hb : w.cell? ⟨b, 0, none⟩ = some (.string t)) :
    Calls Tryd.prog 43 #[.int .u8 (c : Int), .pointer (some ⟨b, 0, none⟩)] w fun e w' => e = .returned (.bool (inB c so)) ∧ w' = w := by
  have hi := index9 w ht hc
  obtain ⟨z, hz⟩ : ∃ z, z = idxL c so := ⟨_, rfl⟩
  have HZ : Hid ((0 ≤ z) = (inB c so = true)) := by show _ = _; rw [hz]; exact idx_ge
  rw [← hz] at hi
  clear hz ht
  go_enter Tryd.func43, Tryd.ntmps43
  go_wp2_with fail
  refine hi.mono ?_
  rintro e w1 ⟨rfl, rfl⟩
  clear hi
  go_wp2
  go_ret
  refine ⟨?_, rfl⟩
  cases hb : inB c so with
  | true => rw [hb] at HZ; have := HZ.out; simp at this; simp [this]
  | false => rw [hb] at HZ; have := HZ.out; simp at this; simp; omega
theorem betweenF {lo hi b1 b2 c : Nat} (w : World) (h1 : w.cell? ⟨b1, 0, none⟩ = some (.int .u8 (lo : Int))) (h2 : w.cell? ⟨b2, 0, none⟩ = some (.int .u8 (hi : Int))) :
    Calls Tryd.prog 56 #[.int .u8 (c : Int), .pointer (some ⟨b1, 0, none⟩), .pointer (some ⟨b2, 0, none⟩)] w fun e w' => e = .returned (.bool (decide (lo ≤ c) && decide (c ≤ hi))) ∧ w' = w := by
  by_cases c1 : lo ≤ c
  · by_cases c2 : c ≤ hi
    · have HB : Hid ((decide (lo ≤ c) && decide (c ≤ hi)) = true) := by show _ = _; simp [c1, c2]
      have i1 : (lo : Int) ≤ (c : Int) := by omega
      have i2 : (c : Int) ≤ (hi : Int) := by omega
      go_enter Tryd.func56, Tryd.ntmps56
      go_wp2
      go_ret
      first | exact ⟨rfl, rfl⟩ | exact ⟨by rw [HB.out]; rfl, rfl⟩
    · have HB : Hid ((decide (lo ≤ c) && decide (c ≤ hi)) = false) := by show _ = _; simp [c2]
      have i1 : (lo : Int) ≤ (c : Int) := by omega
      have i2 : ¬ (c : Int) ≤ (hi : Int) := by omega
      go_enter Tryd.func56, Tryd.ntmps56
      go_wp2
      go_ret
      first | exact ⟨rfl, rfl⟩ | exact ⟨by rw [HB.out]; rfl, rfl⟩
  · have HB : Hid ((decide (lo ≤ c) && decide (c ≤ hi)) = false) := by show _ = _; simp [c1]
    have i1 : ¬ (lo : Int) ≤ (c : Int) := by omega
    go_enter Tryd.func56, Tryd.ntmps56
    go_wp2
    go_ret
    first | exact ⟨rfl, rfl⟩ | exact ⟨by rw [HB.out]; rfl, rfl⟩
/-- 1 to most bytes, each of which may stand. -/
def fillB (p : Nat → Bool) (l : List Nat) (m : Nat) : Bool := (decide (1 ≤ l.length) && decide (l.length ≤ m)) && l.all p
theorem fill_not {p : Nat → Bool} {l : List Nat} {m k : Nat} (hk : k < l.length) (h : p (l.getD k 0) = false) : fillB p l m = false := by
  unfold fillB
  rw [Bool.and_eq_false_iff]
  right
  rw [List.all_eq_false]
  refine ⟨l[k], List.getElem_mem hk, ?_⟩
  rw [show l.getD k 0 = l[k] by simp [hk]] at h
  simp [h]
theorem fill_all {p : Nat → Bool} {l : List Nat} {m : Nat} (h1 : 1 ≤ l.length) (h2 : l.length ≤ m) (h : ∀ j, j < l.length → p (l.getD j 0) = true) : fillB p l m = true := by
  unfold fillB
  rw [List.all_eq_true.2 (fun x hx => by
    obtain ⟨i, hi, rfl⟩ := List.getElem_of_mem hx
    have := h i hi
    rwa [show l.getD i 0 = l[i] by simp [hi]] at this)]
  simp [h1, h2]
theorem str_nil {s : ByteArray} {l : List Nat} (h : Str s l) : (s.toList == ([] : List UInt8)) = decide (l = []) := str_lit_eq (a := #[]) h (by decide) (by decide)
theorem filledA {s : ByteArray} {l : List Nat} {p : Nat → Bool} {lbs : Addr} (m : Nat) (w : World) (h : Str s l) (hl : s.size ≤ 9223372036854775807) (hm : m ≤ 1000)
    (hf : ∀ c : Nat, c < 256 → Calls Tryd.prog 43 #[.int .u8 (c : Int), .pointer (some lbs)] w fun e w' => e = .returned (.bool (p c)) ∧ w' = w) :
    Says 28 #[.string s, .int .i64 (m : Int), .func (.func 43) #[] #[.pointer (some lbs)]] w (fillB p l m) := by
  obtain ⟨hsz, hat, hd⟩ := h
  have hnil := str_nil ⟨hsz, hat, hd⟩
  obtain ⟨n, hn⟩ : ∃ n, n = s.size := ⟨_, rfl⟩
  have hts : s.size = n := hn.symm
  have HN : Hid (n = l.length) := by show n = _; rw [hn, hsz]
  have hcf := cfA
  rw [← hn] at hl
  clear hsz hn
  unfold Says
  by_cases c0 : l = []
  · have HB : Hid (fillB p l m = false) := by show _ = _; rw [c0]; rfl
    rw [decide_eq_true c0] at hnil
    clear c0 hat hd hf hcf
    go_enter Tryd.func28, Tryd.ntmps28
    go_wp2
    go_ret
    first | exact ⟨rfl, rfl⟩ | exact ⟨by rw [HB.out]; rfl, rfl⟩
  rw [decide_eq_false c0] at hnil
  have hl1 : 1 ≤ n := by rw [HN.out]; cases l with | nil => exact absurd rfl c0 | cons => simp
  by_cases c1 : m < n
  · have HB : Hid (fillB p l m = false) := by
      show _ = _
      unfold fillB
      rw [show decide (l.length ≤ m) = false from decide_eq_false (by rw [← HN.out]; omega)]
      simp
    have i1 : (m : Int) < (n : Int) := by omega
    clear c0 hat hd hf hcf
    go_enter Tryd.func28, Tryd.ntmps28
    go_wp2
    go_ret
    first | exact ⟨rfl, rfl⟩ | exact ⟨by rw [HB.out]; rfl, rfl⟩
  have i1 : ¬ (m : Int) < (n : Int) := by omega
  clear c0
  go_enter Tryd.func28, Tryd.ntmps28
  go_wp2_with fail
  clear hnil
  go_loop [18] (fun i => ∃ k : Nat, k ≤ n ∧ i = .int .i64 k ∧ ∀ j, j < k → p (l.getD j 0) = true) (fun i => n - (intOf i).toNat)
  case atStart => exact ⟨0, by omega, rfl, fun j hj => by omega⟩
  case round =>
    obtain ⟨k, hk, rfl, hall⟩ := hrel
    by_cases hlt : k < n
    · have hks : k < s.size := by omega
      have hx := hat k hks
      obtain ⟨d, hdd⟩ : ∃ d, d = l.getD k 0 := ⟨_, rfl⟩
      rw [← hdd] at hx
      have HC : Hid (d = l.getD k 0) := hdd
      have hd2 : d < 256 := by rw [hdd]; exact hd k
      have HA : Hid (∀ j, j < k → p (l.getD j 0) = true) := hall
      have hin := hf d hd2
      clear hat hdd hall hd hf
      go_wp2_with fail
      refine Calls.mono hin ?_
      rintro e w2 ⟨rfl, rfl⟩
      cases hb : p d with
      | false =>
        have HB : Hid (fillB p l m = false) := fill_not (by rw [← HN.out]; exact hlt) (by rw [← HC.out]; exact hb)
        clear hb
        go_wp2
        go_ret
        first | exact ⟨rfl, rfl⟩ | exact ⟨by rw [HB.out]; rfl, rfl⟩
      | true =>
        have HB : Hid (p d = true) := hb
        clear hb
        go_wp2
        go_round
        case rel =>
          refine ⟨k + 1, by omega, by go_num, fun j hj => ?_⟩
          by_cases hjk : j = k
          · rw [hjk, ← HC.out]; exact HB.out
          · exact HA.out j (by omega)
        case measure => simp [intOf]; omega
    · obtain rfl : n = k := by omega
      have HB : Hid (fillB p l m = true) := fill_all (by rw [← HN.out]; exact hl1) (by rw [← HN.out]; omega) (fun j hj => hall j (by rw [HN.out]; exact hj))
      clear hall
      go_wp2
      go_ret
      first | exact ⟨rfl, rfl⟩ | exact ⟨by rw [HB.out]; rfl, rfl⟩
theorem filledB {s : ByteArray} {l : List Nat} {p : Nat → Bool} {lbs : Addr} {lbt : Addr} (m : Nat) (w : World) (h : Str s l) (hl : s.size ≤ 9223372036854775807) (hm : m ≤ 1000)
    (hf : ∀ c : Nat, c < 256 → Calls Tryd.prog 56 #[.int .u8 (c : Int), .pointer (some lbs), .pointer (some lbt)] w fun e w' => e = .returned (.bool (p c)) ∧ w' = w) :
    Says 28 #[.string s, .int .i64 (m : Int), .func (.func 56) #[] #[.pointer (some lbs), .pointer (some lbt)]] w (fillB p l m) := by
  obtain ⟨hsz, hat, hd⟩ := h
  have hnil := str_nil ⟨hsz, hat, hd⟩
  obtain ⟨n, hn⟩ : ∃ n, n = s.size := ⟨_, rfl⟩
  have hts : s.size = n := hn.symm
  have HN : Hid (n = l.length) := by show n = _; rw [hn, hsz]
  have hcf := cfB
  rw [← hn] at hl
  clear hsz hn
  unfold Says
  by_cases c0 : l = []
  · have HB : Hid (fillB p l m = false) := by show _ = _; rw [c0]; rfl
    rw [decide_eq_true c0] at hnil
    clear c0 hat hd hf hcf
    go_enter Tryd.func28, Tryd.ntmps28
    go_wp2
    go_ret
    first | exact ⟨rfl, rfl⟩ | exact ⟨by rw [HB.out]; rfl, rfl⟩
  rw [decide_eq_false c0] at hnil
  have hl1 : 1 ≤ n := by rw [HN.out]; cases l with | nil => exact absurd rfl c0 | cons => simp
  by_cases c1 : m < n
  · have HB : Hid (fillB p l m = false) := by
      show _ = _
      unfold fillB
      rw [show decide (l.length ≤ m) = false from decide_eq_false (by rw [← HN.out]; omega)]
      simp
    have i1 : (m : Int) < (n : Int) := by omega
    clear c0 hat hd hf hcf
    go_enter Tryd.func28, Tryd.ntmps28
    go_wp2
    go_ret
    first | exact ⟨rfl, rfl⟩ | exact ⟨by rw [HB.out]; rfl, rfl⟩
  have i1 : ¬ (m : Int) < (n : Int) := by omega
  clear c0
  go_enter Tryd.func28, Tryd.ntmps28
  go_wp2_with fail
  clear hnil
  go_loop [18] (fun i => ∃ k : Nat, k ≤ n ∧ i = .int .i64 k ∧ ∀ j, j < k → p (l.getD j 0) = true) (fun i => n - (intOf i).toNat)
  case atStart => exact ⟨0, by omega, rfl, fun j hj => by omega⟩
  case round =>
    obtain ⟨k, hk, rfl, hall⟩ := hrel
    by_cases hlt : k < n
    · have hks : k < s.size := by omega
      have hx := hat k hks
      obtain ⟨d, hdd⟩ : ∃ d, d = l.getD k 0 := ⟨_, rfl⟩
      rw [← hdd] at hx
      have HC : Hid (d = l.getD k 0) := hdd
      have hd2 : d < 256 := by rw [hdd]; exact hd k
      have HA : Hid (∀ j, j < k → p (l.getD j 0) = true) := hall
      have hin := hf d hd2
      clear hat hdd hall hd hf
      go_wp2_with fail
      refine Calls.mono hin ?_
      rintro e w2 ⟨rfl, rfl⟩
      cases hb : p d with
      | false =>
        have HB : Hid (fillB p l m = false) := fill_not (by rw [← HN.out]; exact hlt) (by rw [← HC.out]; exact hb)
        clear hb
        go_wp2
        go_ret
        first | exact ⟨rfl, rfl⟩ | exact ⟨by rw [HB.out]; rfl, rfl⟩
      | true =>
        have HB : Hid (p d = true) := hb
        clear hb
        go_wp2
        go_round
        case rel =>
          refine ⟨k + 1, by omega, by go_num, fun j hj => ?_⟩
          by_cases hjk : j = k
          · rw [hjk, ← HC.out]; exact HB.out
          · exact HA.out j (by omega)
        case measure => simp [intOf]; omega
    · obtain rfl : n = k := by omega
      have HB : Hid (fillB p l m = true) := fill_all (by rw [← HN.out]; exact hl1) (by rw [← HN.out]; omega) (fun j hj => hall j (by rw [HN.out]; exact hj))
      clear hall
      go_wp2
      go_ret
      first | exact ⟨rfl, rfl⟩ | exact ⟨by rw [HB.out]; rfl, rfl⟩
end Go.Proofs.YtbidoiipebokoaaDoor
set_option linter.unusedVariables false
set_option linter.unusedSimpArgs false
namespace Go.Proofs.YtbidoiipebokoaaDoor
open Go.RowKit Go.Sort Go.BigFrame
set_option maxRecDepth 100000
set_option maxHeartbeats 4000000
theorem upTo_len {c : Nat} : ∀ {l : List Nat}, inB c l = true → (upTo c l).length < l.length ∧ upTo c l = l.take (upTo c l).length ∧ (fromC c l).drop 1 = l.drop ((upTo c l).length + 1)
  | [], h => by cases h
  | x :: l, h => by
    by_cases hx : x = c
    · subst hx
      simp [upTo, fromC]
    · have hx' : (x != c) = true := by simpa using hx
      have h' : inB c l = true := by
        rw [inB_iff] at h ⊢
        rcases List.mem_cons.1 h with h | h
        · exact absurd h.symm hx
        · exact h
      obtain ⟨h1, h2, h3⟩ := upTo_len h'
      have e1 : upTo c (x :: l) = x :: upTo c l := by unfold upTo; rw [List.takeWhile_cons, if_pos hx']
      have e2 : fromC c (x :: l) = fromC c l := by unfold fromC; rw [List.dropWhile_cons, if_pos hx']
      rw [e1, e2]
      refine ⟨by simp; exact h1, ?_, ?_⟩
      · rw [List.length_cons, List.take_succ_cons, ← h2]
      · rw [h3, List.length_cons, List.drop_succ_cons]
theorem upTo_no {c : Nat} {l : List Nat} (h : inB c l = false) : upTo c l = l ∧ fromC c l = [] := upTo_none (fun hm => by rw [inB_iff.2 hm] at h; cases h)
/-- What Cut tells. -/
def CutR9 (c : Nat) (l : List Nat) (w : World) (e : Ending) (w' : World) : Prop := ∃ S T, e = .returned (.tuple #[.string S, .string T, .bool (inB c l)]) ∧ Str S (upTo c l) ∧ Str T ((fromC c l).drop 1) ∧ ∃ n, w' = w.drewN n
theorem cut9l {s t : ByteArray} {l : List Nat} {c : Nat} (w : World) (h : Str s l) (hl : s.size ≤ 9223372036854775807) (ht : t = ⟨#[UInt8.ofNat c]⟩) (hc : c < 256) : Calls Tryd.prog 55 #[.string s, .string t] w (CutR9 c l w) := by
  have hi := index9o w h ht hc
  have ht1 : t.size = 1 := by rw [ht]; rfl
  have hsz := h.size
  have HS : Hid (Str s l) := h
  cases hb : inB c l with
  | false =>
    obtain ⟨h1, h2⟩ := upTo_no hb
    have HB : Hid (CutR9 c l w (.returned (.tuple #[.string s, .string ⟨#[]⟩, .bool false])) w) := by
      refine ⟨s, ⟨#[]⟩, by rw [hb], by rw [h1]; exact h, ?_, 0, rfl⟩
      rw [h2]; exact str_mk (a := #[]) rfl
    have hz : idxL c l = -1 := by unfold idxL; rw [hb]; rfl
    rw [hz] at hi
    clear hz h1 h2 hb h hsz ht
    go_enter Tryd.func55, Tryd.ntmps55
    go_wp2_with fail
    refine hi.mono ?_
    rintro e w1 ⟨rfl, rfl⟩
    clear hi
    go_wp2
    go_ret3
    exact HB.out
  | true =>
    obtain ⟨h1, h2, h3⟩ := upTo_len hb
    obtain ⟨k, hk⟩ : ∃ k, k = (upTo c l).length := ⟨_, rfl⟩
    have hz : idxL c l = (k : Int) := by unfold idxL; rw [hb, hk]; rfl
    rw [← hk] at h1 h2 h3
    rw [hz] at hi
    obtain ⟨S, hS⟩ : ∃ S, S = s.extract 0 k := ⟨_, rfl⟩
    obtain ⟨T, hT⟩ : ∃ T, T = s.extract (k + 1) s.size := ⟨_, rfl⟩
    have hct := fun (w : World) => cutN (s := s) (n := k) (by omega) w
    have hct2 := fun (w : World) => cutM (s := s) (n := k + 1) (by omega) w
    rw [← hS] at hct
    rw [← hT] at hct2
    rw [show ((k + 1 : Nat) : Int) = (k : Int) + 1 by omega] at hct2
    have HB : Hid (∀ n, CutR9 c l w (.returned (.tuple #[.string S, .string T, .bool true])) (w.drewN n)) := fun n => by
      refine ⟨S, T, by rw [hb], ?_, ?_, n, rfl⟩
      · rw [h2, hS]; exact h.upto (by omega)
      · rw [h3, hT]; exact h.from (by omega)
    have hkb : k < 9223372036854775807 := by omega
    clear hS hT hz h1 h2 h3 hb h hsz ht hk
    go_enter Tryd.func55, Tryd.ntmps55
    go_wp2_with fail
    refine hi.mono ?_
    rintro e w1 ⟨rfl, rfl⟩
    clear hi
    go_wp2
    go_quiet (fail)
    go_wp2
    go_ret3
    exact HB.out _
theorem cut9 {s t : ByteArray} {l : List Nat} {c : Nat} (w : World) (h : Str s l) (hl : s.size ≤ 9223372036854775807) (ht : t = ⟨#[UInt8.ofNat c]⟩) (hc : c < 256) : Calls Tryd.prog 37 #[.string s, .string t] w (CutR9 c l w) := by
  have hi := cut9l w h hl ht hc
  clear h hl ht hc
  go_enter Tryd.func37, Tryd.ntmps37
  go_wp2_with fail
  refine hi.mono ?_
  rintro e w1 ⟨S, T, rfl, h1, h2, h3⟩
  clear hi
  have H : Hid (Str S (upTo c l) ∧ Str T ((fromC c l).drop 1) ∧ ∃ n, w1 = w.drewN n) := ⟨h1, h2, h3⟩
  clear h1 h2 h3
  obtain ⟨b, hb⟩ : ∃ b, b = inB c l := ⟨_, rfl⟩
  have HB : Hid (b = inB c l) := hb
  rw [← hb]
  clear hb
  go_wp2
  go_ret3
  refine ⟨S, T, ?_, H.out⟩
  rw [← HB.out]
  rfl
end Go.Proofs.YtbidoiipebokoaaDoor
set_option linter.unusedVariables false
set_option linter.unusedSimpArgs false
namespace Go.Proofs.YtbidoiipebokoaaDoor
open Go.RowKit Go.Sort Go.BigFrame
set_option maxRecDepth 100000
set_option maxHeartbeats 4000000
theorem among29 (t : ByteArray) (w : World) : Calls Tryd.prog 29 #[.string t] w fun e w' => e = .returned (.func (.func 43) #[] #[.pointer (some ⟨w.heap.size, 0, none⟩)]) ∧ w' = w.alloc (.cells #[.string t] 9) := by
  go_enter Tryd.func29, Tryd.ntmps29
  go_wp2
  go_ret
  exact ⟨rfl, rfl⟩
theorem between38 (a b : Int) (w : World) : Calls Tryd.prog 38 #[.int .u8 a, .int .u8 b] w fun e w' => e = .returned (.func (.func 56) #[] #[.pointer (some ⟨w.heap.size, 0, none⟩), .pointer (some ⟨w.heap.size + 1, 0, none⟩)]) ∧ w' = (w.alloc (.cells #[.int .u8 a] 5)).alloc (.cells #[.int .u8 b] 5) := by
  go_enter Tryd.func38, Tryd.ntmps38
  go_wp2
  go_ret
  refine ⟨?_, rfl⟩
  simp
theorem ofB_fill (l so : List Nat) (m : Nat) : ofB l so m = fillB (fun c => inB c so) l m := by unfold ofB fillB; rw [Bool.and_comm]
theorem cell_new9 (w : World) (v : Value) (t : TypeId) : (w.alloc (.cells #[v] t)).cell? ⟨w.heap.size, 0, none⟩ = some v := by
  rw [cell_of_row _ _ 0 _ _ _ (heap_alloc_new w _)]; rfl
theorem domP {s : ByteArray} {bs : List Nat} (w : World) (h : Str s bs) (hl : s.size ≤ 9223372036854775807) : Ret 11 #[.string s] w (Is (.bool (domB bs))) := by
  obtain ⟨t, ht⟩ : ∃ t : ByteArray, t = ⟨#[97, 98, 99, 100, 101, 102, 103, 104, 105, 106, 107, 108, 109, 110, 111, 112, 113, 114, 115, 116, 117, 118, 119, 120, 121, 122, 48, 49, 50, 51, 52, 53, 54, 55, 56, 57, 46, 45]⟩ := ⟨_, rfl⟩
  have hT : Str t abD := by rw [ht]; exact str_mk (by decide)
  have ha := among29 t w
  obtain ⟨w1, hw1⟩ : ∃ w1, w1 = w.alloc (.cells #[.string t] 9) := ⟨_, rfl⟩
  have hcell : w1.cell? ⟨w.heap.size, 0, none⟩ = some (.string t) := by rw [hw1]; exact cell_new9 w _ _
  have hB1 : Below w.heap.size w w1 := by rw [hw1]; exact below1 _ _
  have hfil := filledA (lbs := ⟨w.heap.size, 0, none⟩) (p := fun c => inB c abD) 16 w1 h hl (by decide) (fun c hc => amongF w1 hT hc hcell)
  have htrim := trimP9 (t := ⟨#[46, 45]⟩) w1 h hl (str_mk (l := [46, 45]) (by decide)) (by decide) (ascii_of_all (by decide))
  rw [← hw1] at ha
  rw [← ofB_fill] at hfil
  obtain ⟨b, hb⟩ : ∃ b, b = ofB bs abD 16 := ⟨_, rfl⟩
  rw [← hb] at hfil
  have HS : Hid (Str s bs) := h
  have HB1 : Hid (Below w.heap.size w w1) := hB1
  have hsz1 := hB1.size
  rw [ht] at ha
  clear hT hw1 hcell hB1 ht h
  unfold Ret
  unfold Says at hfil
  go_enter Tryd.func11, Tryd.ntmps11
  go_wp2_with fail
  refine ha.mono ?_
  rintro e w2 ⟨rfl, rfl⟩
  clear ha
  go_wp2_with fail
  refine hfil.mono ?_
  rintro e w3 ⟨rfl, rfl⟩
  clear hfil
  cases b with
  | false =>
    have HB : Hid (domB bs = false) := by show _ = _; unfold domB; rw [← hb]; rfl
    clear hb htrim
    go_wp2
    go_ret
    exact ⟨_, rfl, HB1.out, by rw [HB.out]; rfl⟩
  | true =>
    have hlen : bs ≠ [] := fun h0 => by rw [h0] at hb; cases hb
    have hsame := trim_same (cs := [46, 45]) hlen
    have HD : Hid (domB bs = (!inB (bs.getD 0 0) [46, 45] && !inB (bs.getD (bs.length - 1) 0) [46, 45])) := by show _ = _; unfold domB; rw [← hb]; rfl
    clear hb hlen
    go_wp2_with fail
    refine htrim.mono ?_
    rintro e w4 ⟨S, rfl, hS, hB4⟩
    clear htrim
    have q := str_eq_iff hS HS.out
    have HB4 : Hid _ := hB4
    have HQ : Hid _ := hsame
    have hBb : ∀ x, x = decide (trimL [46, 45] bs = bs) → x = domB bs := fun x hx => by
      rw [hx, HD.out, Bool.eq_iff_iff]
      simp only [decide_eq_true_eq, Bool.and_eq_true, Bool.not_eq_true']
      exact HQ.out
    by_cases hc : trimL [46, 45] bs = bs
    · have HB : Hid (true = domB bs) := hBb true (decide_eq_true hc).symm
      rw [decide_eq_true hc] at q
      clear hBb hS hB4 hc hsame
      go_wp2
      go_ret
      exact ⟨_, rfl, HB1.out.trans (HB4.out.mono HB1.out.size), by rw [← HB.out]; rfl⟩
    · have HB : Hid (false = domB bs) := hBb false (decide_eq_false hc).symm
      rw [decide_eq_false hc] at q
      clear hBb hS hB4 hc hsame
      go_wp2
      go_ret
      exact ⟨_, rfl, HB1.out.trans (HB4.out.mono HB1.out.size), by rw [← HB.out]; rfl⟩
def abS : List Nat := abK ++ abU ++ abN ++ [46, 95, 45]
theorem inB_S (c : Nat) : inB c abS = inB c abP := by
  rw [Bool.eq_iff_iff, inB_iff, inB_iff]
  unfold abS abP
  simp only [List.mem_append, List.mem_cons, List.not_mem_nil, or_false]
  constructor
  · rintro (h | h | h | h)
    · exact .inl h
    · exact .inr (.inl h)
    · exact .inr (.inr (.inr h))
    · exact .inr (.inr (.inl h))
  · rintro (h | h | h | h)
    · exact .inl h
    · exact .inr (.inl h)
    · exact .inr (.inr (.inr h))
    · exact .inr (.inr (.inl h))
theorem segP {s : ByteArray} {bs : List Nat} (w : World) (h : Str s bs) (hl : s.size ≤ 9223372036854775807) : Ret 35 #[.string s] w (Is (.bool (segB bs))) := by
  obtain ⟨t, ht⟩ : ∃ t : ByteArray, t = ⟨#[97, 98, 99, 100, 101, 102, 103, 104, 105, 106, 107, 108, 109, 110, 111, 112, 113, 114, 115, 116, 117, 118, 119, 120, 121, 122, 65, 66, 67, 68, 69, 70, 71, 72, 73, 74, 75, 76, 77, 78, 79, 80, 81, 82, 83, 84, 85, 86, 87, 88, 89, 90, 48, 49, 50, 51, 52, 53, 54, 55, 56, 57, 46, 95, 45]⟩ := ⟨_, rfl⟩
  have hT : Str t abS := by rw [ht]; exact str_mk (by decide)
  have ha := among29 t w
  obtain ⟨w1, hw1⟩ : ∃ w1, w1 = w.alloc (.cells #[.string t] 9) := ⟨_, rfl⟩
  have hcell : w1.cell? ⟨w.heap.size, 0, none⟩ = some (.string t) := by rw [hw1]; exact cell_new9 w _ _
  have hB1 : Below w.heap.size w w1 := by rw [hw1]; exact below1 _ _
  have hfil := filledA (lbs := ⟨w.heap.size, 0, none⟩) (p := fun c => inB c abP) 40 w1 h hl (by decide) (fun c hc => by rw [← inB_S]; exact amongF w1 hT hc hcell)
  rw [← hw1] at ha
  rw [← ofB_fill] at hfil
  obtain ⟨b, hb⟩ : ∃ b, b = ofB bs abP 40 := ⟨_, rfl⟩
  rw [← hb] at hfil
  have q1 := str_lit_eq (a := #[46]) (l := [46]) (b := [46]) h (by decide) (by decide)
  have q2 := str_lit_eq (a := #[46, 46]) (l := [46, 46]) (b := [46, 46]) h (by decide) (by decide)
  have HB1 : Hid (Below w.heap.size w w1) := hB1
  have hsz1 := hB1.size
  rw [ht] at ha
  clear hT hw1 hcell hB1 ht h
  unfold Ret
  unfold Says at hfil
  go_enter Tryd.func35, Tryd.ntmps35
  go_wp2_with fail
  refine ha.mono ?_
  rintro e w2 ⟨rfl, rfl⟩
  clear ha
  go_wp2_with fail
  refine hfil.mono ?_
  rintro e w3 ⟨rfl, rfl⟩
  clear hfil
  cases b with
  | false =>
    have HB : Hid (segB bs = false) := by show _ = _; unfold segB; rw [← hb]; rfl
    clear hb q1 q2
    go_wp2
    go_ret
    exact ⟨_, rfl, HB1.out, by rw [HB.out]; rfl⟩
  | true =>
    by_cases c1 : bs = [46]
    · have HB : Hid (segB bs = false) := by show _ = _; rw [c1]; rfl
      rw [decide_eq_true c1] at q1
      clear hb q2 c1
      go_wp2
      go_ret
      exact ⟨_, rfl, HB1.out, by rw [HB.out]; rfl⟩
    · rw [decide_eq_false c1] at q1
      by_cases c2 : bs = [46, 46]
      · have HB : Hid (segB bs = false) := by show _ = _; rw [c2]; rfl
        rw [decide_eq_true c2] at q2
        clear hb c1 c2
        go_wp2
        go_ret
        exact ⟨_, rfl, HB1.out, by rw [HB.out]; rfl⟩
      · rw [decide_eq_false c2] at q2
        have HB : Hid (segB bs = true) := by show _ = _; unfold segB; rw [← hb]; simp [c1, c2]
        clear hb c1 c2
        go_wp2
        go_ret
        exact ⟨_, rfl, HB1.out, by rw [HB.out]; rfl⟩
theorem selB_fill (l : List Nat) : selB l = (fillB (fun c => inB c abK) (upTo 58 l) 8 && fillB (fun c => decide (33 ≤ c) && decide (c ≤ 126)) ((fromC 58 l).drop 1) 16) := by
  unfold selB
  rw [← ofB_fill]
  by_cases h : fromC 58 l = []
  · rw [h]
    simp [fillB]
  · rw [decide_eq_true h, Bool.true_and]
    unfold fillB vis
    rw [Bool.and_comm (List.all _ _)]
theorem selP {s : ByteArray} {bs : List Nat} (w : World) (h : Str s bs) (hl : s.size ≤ 9223372036854775807) : Ret 17 #[.string s] w (Is (.bool (selB bs))) := by
  have hcut := cut9 (t := ⟨#[58]⟩) (c := 58) w h hl (by decide) (by decide)
  have HH : Hid (Str s bs) := h
  clear h
  unfold Ret
  go_enter Tryd.func17, Tryd.ntmps17
  go_wp2_with fail
  refine hcut.mono ?_
  rintro e w0 ⟨S, T, rfl, hS, hT, n0, hw0⟩
  clear hcut
  have hB0 : Below w.heap.size w w0 := by rw [hw0]; exact below_drewN (Below.refl _ _) _
  have hSl : S.size ≤ 9223372036854775807 := by
    rw [hS.size]
    have : (upTo 58 bs).length ≤ bs.length := (List.takeWhile_prefix _).length_le
    rw [HH.out.size] at hl; omega
  have hTl : T.size ≤ 9223372036854775807 := by
    rw [hT.size]
    have : (fromC 58 bs).length ≤ bs.length := (List.dropWhile_suffix _).length_le
    rw [HH.out.size] at hl; simp; omega
  obtain ⟨t, ht⟩ : ∃ t : ByteArray, t = ⟨#[97, 98, 99, 100, 101, 102, 103, 104, 105, 106, 107, 108, 109, 110, 111, 112, 113, 114, 115, 116, 117, 118, 119, 120, 121, 122]⟩ := ⟨_, rfl⟩
  have hTt : Str t abK := by rw [ht]; exact str_mk (by decide)
  have ha := among29 t w0
  obtain ⟨w1, hw1⟩ : ∃ w1, w1 = w0.alloc (.cells #[.string t] 9) := ⟨_, rfl⟩
  have hcell : w1.cell? ⟨w0.heap.size, 0, none⟩ = some (.string t) := by rw [hw1]; exact cell_new9 w0 _ _
  have hB1 : Below w0.heap.size w0 w1 := by rw [hw1]; exact below1 _ _
  have hfil := filledA (lbs := ⟨w0.heap.size, 0, none⟩) (p := fun c => inB c abK) 8 w1 hS hSl (by decide) (fun c hc => amongF w1 hTt hc hcell)
  rw [← hw1] at ha
  obtain ⟨b, hb⟩ : ∃ b, b = fillB (fun c => inB c abK) (upTo 58 bs) 8 := ⟨_, rfl⟩
  rw [← hb] at hfil
  have hbw := between38 33 126 w1
  obtain ⟨w2, hw2⟩ : ∃ w2, w2 = (w1.alloc (.cells #[.int .u8 33] 5)).alloc (.cells #[.int .u8 126] 5) := ⟨_, rfl⟩
  have hc1 : w2.cell? ⟨w1.heap.size, 0, none⟩ = some (.int .u8 ((33 : Nat) : Int)) := by
    rw [hw2]
    exact ((below1 (w1.alloc (.cells #[.int .u8 33] 5)) _).cell (p := ⟨w1.heap.size, 0, none⟩) (by simp)).trans (cell_new9 w1 _ _)
  have hc2 : w2.cell? ⟨w1.heap.size + 1, 0, none⟩ = some (.int .u8 ((126 : Nat) : Int)) := by
    rw [hw2]
    have := cell_new9 (w1.alloc (.cells #[.int .u8 33] 5)) (.int .u8 126) 5
    rwa [World.size_alloc] at this
  have hB2 : Below w1.heap.size w1 w2 := by rw [hw2]; exact (below1 _ _).trans ((below1 _ _).mono (by simp))
  have hfil2 := filledB (lbs := ⟨w1.heap.size, 0, none⟩) (lbt := ⟨w1.heap.size + 1, 0, none⟩) (p := fun c => decide (33 ≤ c) && decide (c ≤ 126)) 16 w2 hT hTl (by decide) (fun c hc => betweenF w2 hc1 hc2)
  rw [← hw2] at hbw
  obtain ⟨b2, hb2⟩ : ∃ b2, b2 = fillB (fun c => decide (33 ≤ c) && decide (c ≤ 126)) ((fromC 58 bs).drop 1) 16 := ⟨_, rfl⟩
  rw [← hb2] at hfil2
  have HB : Hid (selB bs = (b && b2)) := by show _ = _; rw [selB_fill, hb, hb2]
  have HB1 : Hid (Below w.heap.size w w1) := hB0.trans (hB1.mono hB0.size)
  have HB2 : Hid (Below w.heap.size w w2) := HB1.out.trans (hB2.mono HB1.out.size)
  rw [ht] at ha
  clear hw0 hB0 hw1 hw2 hb hb2 hc1 hc2 hcell hB1 hB2 hS hT hTt ht
  unfold Says at hfil hfil2
  go_wp2_with fail
  refine ha.mono ?_
  rintro e w3 ⟨rfl, rfl⟩
  clear ha
  go_wp2_with fail
  refine hfil.mono ?_
  rintro e w4 ⟨rfl, rfl⟩
  clear hfil
  cases b with
  | false =>
    have HX : Hid (selB bs = false) := HB.out
    clear HB hfil2 hbw
    go_wp2
    go_ret
    exact ⟨_, rfl, HB1.out, by rw [HX.out]; rfl⟩
  | true =>
    go_wp2_with fail
    refine hbw.mono ?_
    rintro e w5 ⟨rfl, rfl⟩
    clear hbw
    go_wp2_with fail
    refine hfil2.mono ?_
    rintro e w6 ⟨rfl, rfl⟩
    clear hfil2
    have HX : Hid (selB bs = b2) := HB.out.trans (Bool.true_and _)
    clear HB
    go_wp2
    go_ret
    exact ⟨_, rfl, HB2.out, by rw [HX.out]; rfl⟩
end Go.Proofs.YtbidoiipebokoaaDoor
set_option linter.unusedVariables false
set_option linter.unusedSimpArgs false
namespace Go.Proofs.YtbidoiipebokoaaDoor
open Go.RowKit Go.Sort Go.BigFrame Go.Shelf
attribute [local go_sem] Oper.semAt_some
set_option maxRecDepth 100000
set_option maxHeartbeats 4000000
abbrev Seg := { l : List Nat // Dig l ∧ l.length ≤ 1000 }
/-- What stands behind each stroke. -/
def afterL (l : List Nat) : List (List Nat) := if inB 47 l = true then segs ((fromC 47 l).drop 1) else []
theorem segs_cut (r : List Nat) : segs r = upTo 47 r :: afterL r := by
  unfold afterL
  cases h : inB 47 r with
  | false =>
    obtain ⟨h1, h2⟩ := upTo_no h
    rw [if_neg (by simp), h1]
    exact segs_none (fun hm => by rw [inB_iff.2 hm] at h; cases h)
  | true =>
    rw [if_pos rfl]
    have e : upTo 47 r ++ fromC 47 r = r := List.takeWhile_append_dropWhile
    obtain ⟨h1, h2, h3⟩ := upTo_len h
    have hne : fromC 47 r ≠ [] := fun h0 => by rw [h0, List.append_nil] at e; rw [e] at h1; omega
    obtain ⟨x, t, hx⟩ : ∃ x t, fromC 47 r = x :: t := by
      cases hf : fromC 47 r with
      | nil => exact absurd hf hne
      | cons x t => exact ⟨x, t, rfl⟩
    have hx47 : x = 47 := by
      have := List.head?_dropWhile_not (fun x => x != 47) r
      unfold fromC at hx
      rw [hx] at this
      simpa using this
    have hno : 47 ∉ upTo 47 r := fun hm => by
      have := List.all_takeWhile (p := fun x => x != 47) (l := r)
      have := List.all_eq_true.1 this 47 hm
      simp at this
    conv => lhs; rw [← e, hx, hx47]
    rw [segs_app _ hno, hx]
    rfl
theorem grown9 (w : World) (n : Nat) (row : Option Nat) : w.grownBy (w.drewN n) row := ⟨rfl, rfl, rfl, Nat.le_refl _, fun _ _ _ => rfl⟩
def sizeOfV : Value → Nat
  | .string s => s.size
  | _ => 0
def boolNat : Value → Nat
  | .bool true => 1
  | _ => 0
theorem upTo_le (c : Nat) (l : List Nat) : (upTo c l).length ≤ l.length := (List.takeWhile_prefix _).length_le
theorem fromC_le (c : Nat) (l : List Nat) : ((fromC c l).drop 1).length ≤ l.length := by
  have : (fromC c l).length ≤ l.length := (List.dropWhile_suffix _).length_le
  simp; omega
theorem segIt (l Bs n₀ : Nat) {s : ByteArray} {ls : List Nat} (hs : Str s ls) (hz : s.size ≤ 1000) (J Jx : List Seg → World → Prop) (W : World) (hJ : AbidesFrom W.heap.size J)
    (hY : ∀ pre x W1, J pre W1 → pre.length < (afterL ls).length → YieldAt Fence.wide 4 Tryd.prog l #[.string (strOf x.1)] W1 fun e W' =>
      (e = .returned (.bool true) ∧ J (pre ++ [x]) W' ∧ Below n₀ W1 W') ∨ (e = .returned (.bool false) ∧ Jx (pre ++ [x]) W'))
    (hBs : W.cell? ⟨Bs, 0, none⟩ = some (.string s)) (h0 : J [] W) :
    CallsIn Fence.wide 5 Tryd.prog 53 #[.func (.yield l) #[] #[], .pointer (some ⟨Bs, 0, none⟩)] W fun e W' => (∃ v, e = .returned v) ∧
      ((∃ xs, xs.map Subtype.val = afterL ls ∧ J xs W') ∨ (∃ pre, (∃ t, pre.map Subtype.val ++ t = afterL ls) ∧ Jx pre W')) := by
  have hcut := callsIn_wide (n := 4) |>.2 (cut9 (t := ⟨#[47]⟩) (c := 47) W hs (by omega) (by decide) (by decide))
  refine callsIn_of_wp Tryd.func53 rfl trivial ?_ rfl
  simp only [Tryd.ntmps53, List.size_toArray, List.length_cons, List.length_nil, Nat.reduceAdd, Nat.reduceSub, Array.replicate_succ, Array.replicate_zero, List.push_toArray, List.append_toArray, List.nil_append, List.cons_append]
  gi_wp2_with (refine ⟨trivial, ?_⟩; gi_at_call 37; refine hcut.mono ?_; rintro e W1 ⟨S, T, rfl, hS, hT, n1, rfl⟩)
  have hTl : T.size ≤ 1000 := by
    rw [hT.size]
    have := fromC_le 47 ls
    rw [hs.size] at hz; omega
  obtain ⟨r0, hr0⟩ : ∃ r, r = (fromC 47 ls).drop 1 := ⟨_, rfl⟩
  obtain ⟨b0, hb0⟩ : ∃ b, b = inB 47 ls := ⟨_, rfl⟩
  have hall : afterL ls = if b0 = true then segs r0 else [] := by unfold afterL; rw [hb0, hr0]
  rw [← hr0] at hT
  rw [← hb0]
  have hJ0 : J [] (W.drewN n1) := hJ [] W _ none h0 (grown9 _ _ _) (fun r e => by cases e)
  clear hb0 hr0 hS hs hz hcut
  gi_wp2
  gi_loopw [4, 5] (fun rv mv wr => ∃ (R : ByteArray) (r : List Nat) (b : Bool) (pre : List Seg), rv = .string R ∧ Str R r ∧ R.size ≤ 1000 ∧ mv = .bool b ∧ pre.map Subtype.val ++ (if b = true then segs r else []) = afterL ls ∧ J pre wr ∧ W.heap.size ≤ wr.heap.size)
    (fun rv mv wr => sizeOfV rv + boolNat mv)
  case atStart => exact ⟨T, r0, b0, [], rfl, hT, hTl, rfl, by rw [hall]; rfl, hJ0, Nat.le_refl _⟩
  case round =>
    obtain ⟨R, r, b, pre, rfl, hR, hRl, rfl, hpre, hJp, hsz⟩ := hrel
    cases b with
    | false =>
      gi_wp2
      go_end0
      exact ⟨⟨_, rfl⟩, .inl ⟨pre, by simpa using hpre, hJp⟩⟩
    | true =>
      rw [if_pos rfl, segs_cut r] at hpre
      have hcut := callsIn_wide (n := 4) |>.2 (cut9 (t := ⟨#[47]⟩) (c := 47) wr hR (by omega) (by decide) (by decide))
      have HP : Hid (pre.map Subtype.val ++ upTo 47 r :: afterL r = afterL ls) := hpre
      have hlen : pre.length < (afterL ls).length := by rw [← hpre]; simp
      clear hpre
      gi_wp2_with (refine ⟨trivial, ?_⟩; gi_at_call 37; refine hcut.mono ?_; rintro e W1 ⟨S1, T1, rfl, hS1, hT1, n2, rfl⟩)
      have hJ1 : J pre (wr.drewN n2) := hJ pre wr _ none hJp (grown9 _ _ _) (fun r e => by cases e)
      have hS1e := hS1.eq
      have hxl : (upTo 47 r).length ≤ 1000 := by have := upTo_le 47 r; rw [hR.size] at hRl; omega
      obtain ⟨fn, tmps, assign, body, hy, hRd⟩ := hY pre ⟨upTo 47 r, hS1.dig, hxl⟩ (wr.drewN n2) hJ1 hlen
      have hT1l : T1.size ≤ 1000 := by rw [hT1.size]; have := fromC_le 47 r; rw [hR.size] at hRl; omega
      have hms : T1.size + (if inB 47 r = true then 1 else 0) < R.size + 1 := by
        cases hbb : inB 47 r with
        | false => rw [hT1.size, (upTo_no hbb).2]; simp
        | true =>
          obtain ⟨q1, q2, q3⟩ := upTo_len hbb
          rw [hT1.size, hR.size, q3]
          simp
          omega
      obtain ⟨b1, hb1⟩ : ∃ b1, b1 = inB 47 r := ⟨_, rfl⟩
      have HB1 : Hid (afterL r = if b1 = true then segs ((fromC 47 r).drop 1) else []) := by show _ = _; rw [hb1]; rfl
      dsimp only at hy
      rw [← hS1e] at hy
      rw [← hb1] at hms ⊢
      clear hb1 hcut hS1e
      gi_wp2
      rw [hy, Oper.uponIn_round]
      refine ⟨fun _ => by decide, ?_⟩
      refine hRd.mono ?_
      rintro e W3 (⟨rfl, hJ3, hk3⟩ | ⟨rfl, hJx3⟩)
      · gi_wp2
        go_roundw
        case rel => exact ⟨T1, _, b1, pre ++ [⟨upTo 47 r, hS1.dig, hxl⟩], rfl, hT1, hT1l, rfl, by rw [← HB1.out, List.map_append]; simpa using HP.out, hJ3, Nat.le_trans hsz hk3.size⟩
        case measure =>
          show T1.size + boolNat (.bool b1) < R.size + 1
          cases b1 <;> simpa [boolNat] using hms
      · gi_wp2
        refine bodyPost_ret (results_none rfl _ _ _) rfl ?_
        exact ⟨⟨_, rfl⟩, .inr ⟨pre ++ [⟨upTo 47 r, hS1.dig, hxl⟩], ⟨afterL r, by rw [List.map_append]; simpa using HP.out⟩, hJx3⟩⟩
theorem segStops (Bs n₀ : Nat) {s : ByteArray} {ls : List Nat} (hs : Str s ls) (hz : s.size ≤ 1000) (w : World) (hB : Bs < w.heap.size) (hBs : w.cell? ⟨Bs, 0, none⟩ = some (.string s)) :
    SeqStopsK Fence.wide 5 Tryd.prog 53 #[.pointer (some ⟨Bs, 0, none⟩)] (fun x : Seg => #[.string (strOf x.1)]) (Below n₀) (fun xs => xs.map Subtype.val = afterL ls) (fun pre => ∃ t, pre.map Subtype.val ++ t = afterL ls) (afterL ls).length w :=
  fun l J Jx W hW hJ hJx hY h0 => segIt l Bs n₀ hs hz J Jx W hJ hY ((hW.cell (p := ⟨Bs, 0, none⟩) hB).trans hBs) h0
theorem segs34 (s : ByteArray) (w : World) : Calls Tryd.prog 34 #[.string s] w fun e w' => e = .returned (.func (.func 53) #[] #[.pointer (some ⟨w.heap.size, 0, none⟩)]) ∧ w' = w.alloc (.cells #[.string s] 9) := by
  go_enter Tryd.func34, Tryd.ntmps34
  go_wp2
  go_ret
  exact ⟨rfl, rfl⟩
end Go.Proofs.YtbidoiipebokoaaDoor
set_option linter.unusedVariables false
set_option linter.unusedSimpArgs false
namespace Go.Proofs.YtbidoiipebokoaaDoor
open Go.RowKit Go.Sort Go.BigFrame Go.Shelf
attribute [local go_sem] Oper.semAt_some
set_option maxRecDepth 100000
set_option maxHeartbeats 4000000
theorem hasP9 {s t : ByteArray} {l p : List Nat} (w : World) (hs : Str s l) (ht : Str t p) : Calls Tryd.prog 33 #[.string s, .string t] w fun e w' => e = .returned (.bool (decide (l.take p.length = p))) ∧ w' = w := by
  have h := Tryd.strings_HasPrefix s t w
  rw [pre9 hs ht] at h
  exact h
theorem keeps_below {W W' : World} (h : Below W.heap.size W W') : KeepsOthers W W' := ⟨h.size, fun k o ho _ => (h.block k (lt_of_heap ho)).trans ho⟩
theorem blk_kept {W W' : World} {row : Option Nat} {g : Nat} {cs : Array Value} {t : TypeId} {fr : Nat × Nat} (h : W.heap[g]? = some (.cells cs t fr)) (hg : W.grownBy W' row) (hr : ∀ r, row = some r → ∃ o : Obj, W.heap[r]? = some o ∧ o.isCells = false) : W'.heap[g]? = some (.cells cs t fr) :=
  (grownBy_keeps_cells hg hr h rfl).trans h
theorem cell_one9 {W : World} {g : Nat} {v : Value} {t : TypeId} {fr : Nat × Nat} (h : W.heap[g]? = some (.cells #[v] t fr)) : W.cell? ⟨g, 0, none⟩ = some v := by
  rw [cell_of_row _ _ 0 _ _ _ h]; rfl
theorem hid9 {p : Prop} (h : p) : Hid p := h
theorem path_long {l : List Nat} (h : 40 < l.length) : pathB l = false := by unfold pathB; simp [show ¬ l.length ≤ 40 by omega]
theorem path_pre {l : List Nat} (h : l.take 1 ≠ [47]) : pathB l = false := by
  unfold pathB
  cases l with
  | nil => rfl
  | cons x l =>
    have : ¬ x = 47 := fun e => h (by simp [e])
    simp [this]
theorem path_segs {l : List Nat} (h : l.take 1 = [47]) (hl : l.length ≤ 40) : pathB l = (afterL l).all segB := by
  cases l with
  | nil => cases h
  | cons x l =>
    have hx : x = 47 := by simpa using h
    subst hx
    have e : afterL (47 :: l) = segs l := by
      unfold afterL
      rw [if_pos (inB_iff.2 (by simp))]
      rfl
    rw [e]
    unfold pathB
    cases l with
    | nil => rfl
    | cons y l => simp at hl; simp; omega
theorem pathQ {s : ByteArray} {ls : List Nat} (w : World) (h : Str s ls) (h1 : ls.take 1 = [47]) (h40 : ls.length ≤ 40) :
    CallsIn Fence.wide 6 Tryd.prog 13 #[.string s] w fun e w' => e = .returned (.bool ((afterL ls).all segB)) ∧ Below w.heap.size w w' := by
  have hsz := h.size
  have i1 : decide ((40 : Int) < (s.size : Int)) = false := decide_eq_false (by omega)
  have HZ : Hid (s.size = ls.length) := hsz
  have hz40 : s.size ≤ 40 := by omega
  obtain ⟨w1, hw1⟩ : ∃ w1, w1 = w.alloc (.cells #[.bool false] 4) := ⟨_, rfl⟩
  have hpf := hasP9 (t := ⟨#[47]⟩) (p := [47]) w1 h (str_mk (by decide))
  rw [show ([47] : List Nat).length = 1 from rfl, decide_eq_true h1] at hpf
  have hpf' := callsIn_wide (n := 5) |>.2 hpf
  have hsg' := callsIn_wide (n := 5) |>.2 (segs34 s w1)
  obtain ⟨w2, hw2⟩ : ∃ w2, w2 = w1.alloc (.cells #[.string s] 9) := ⟨_, rfl⟩
  rw [← hw2] at hsg'
  have hs1 : w1.heap.size = w.heap.size + 1 := by rw [hw1]; simp
  have hs2 : w2.heap.size = w1.heap.size + 1 := by rw [hw2]; simp
  have hc1 : w2.cell? ⟨w1.heap.size, 0, none⟩ = some (.string s) := by rw [hw2]; exact cell_new9 w1 _ _
  have hB2 : Below w.heap.size w w2 := by rw [hw2, hw1]; exact (below1 _ _).trans ((below1 _ _).mono (by simp))
  have hr1 : w1.heap[w.heap.size]? = some (.cells #[.bool false] 4 (0, 0)) := by rw [hw1]; exact heap_alloc_new _ _
  have hr2 : w2.heap[w.heap.size]? = some (.cells #[.bool false] 4 (0, 0)) := by rw [hw2]; exact block_below (below1 _ _) (lt_of_heap hr1) hr1
  have HW1 : Hid (w1 = w.alloc (.cells #[.bool false] 4)) := hw1
  have HS : Hid (Str s ls) := h
  clear hpf hw2 h hr1 hsz h40
  refine callsIn_of_wp_marks Tryd.func13 rfl trivial ?_ rfl
  simp only [Tryd.ntmps13, List.size_toArray, List.length_cons, List.length_nil, Nat.reduceAdd, Nat.reduceSub, Array.replicate_succ, Array.replicate_zero, List.push_toArray, List.append_toArray, List.nil_append, List.cons_append]
  rw [hw1] at hpf' hsg'
  gi_wp2_with (first
    | (refine ⟨trivial, ?_⟩; gi_at_call 33; refine hpf'.mono ?_; rintro e wx ⟨rfl, rfl⟩)
    | (refine ⟨trivial, ?_⟩; gi_at_call 34; refine hsg'.mono ?_; rintro e wx ⟨rfl, rfl⟩))
  clear hpf' hsg'
  rw [hs1] at hc1
  refine wpIn_rangeFunc_ownF rfl (by decide) (gf := 53) (lb := #[.pointer (some ⟨w.heap.size + 1, 0, none⟩)]) rfl trivial (enters_of Tryd.func53 (by kernel_rfl) rfl)
    (segStops (w.heap.size + 1) w.heap.size HS.out (by omega) wx (by omega) hc1) belowK_t (belowK_b (by omega)) (Below.refl _ _) (fun _ => rfl)
    (fun (pre : List Seg) W => (W.heap[w.heap.size]? = some (.cells #[.bool false] 4 (0, 0)) ∧ ∀ x ∈ pre, segB x.1 = true) ∧ Below w.heap.size w W)
    (fun c pre W => (c = .ret ∧ W.heap[w.heap.size]? = some (.cells #[.bool false] 4 (0, 0)) ∧ ∃ x ∈ pre, segB x.1 = false) ∧ Below w.heap.size w W)
    (OwnFrom.and (Go.Own.from (fun s A B row hs hg hr => ⟨blk_kept hs.1 hg hr, hs.2⟩) _) (ownFrom_below (Nat.le_refl _) (by omega)))
    (fun c => OwnFrom.and (Go.Own.from (fun s A B row hs hg hr => ⟨hs.1, blk_kept hs.2.1 hg hr, hs.2.2⟩) _) (ownFrom_below (Nat.le_refl _) (by omega)))
    ⟨⟨hr2, by simp⟩, hB2⟩
    (fun x => { tmps := #[.string s, undef, .pointer (some ⟨w.heap.size, 0, none⟩), .string (strOf x.1), .string s, .int .i64 s.size, .bool false, .bool false, .string s, .bool true, .bool false, .bool false, .string s, .func (.func 53) #[] #[.pointer (some ⟨w.heap.size + 1, 0, none⟩)], .string (strOf x.1), undef, undef, undef], defers := [] }) ?assign ?body ?done ?stop
  case assign =>
    intro l x W K hK
    gi_wp2
    exact hK
  case body =>
    rintro l pre x W ⟨⟨hr, hall⟩, hB⟩ _
    have hsg := segP W (str_strOf x.2.1) (by have := (str_strOf x.2.1).size; have := x.2.2; omega)
    unfold Ret at hsg
    have hsg' := callsIn_wide (n := 3) |>.2 hsg
    obtain ⟨b, hb⟩ : ∃ b, b = segB x.1 := ⟨_, rfl⟩
    rw [← hb] at hsg'
    have HBX : Hid (b = segB x.1) := hb
    obtain ⟨sx, hsx⟩ : ∃ sx, sx = strOf x.1 := ⟨_, rfl⟩
    rw [← hsx] at hsg' ⊢
    clear hsg hsx hb
    cases b with
    | true =>
      gi_wp2_with (refine ⟨trivial, ?_⟩; gi_at_call 35; refine (CallsIn.inRound l hsg').mono ?_; clear hsg'; rintro e W1 ⟨_, rfl, hB1, rfl⟩; have hr1 := block_below hB1 (lt_of_heap hr) hr; have hcl := cell_one9 hr1; have hfz := free_ints hr1 0; have HBW := hid9 hB1; have HR1 := hid9 hr1; clear hr1 hr hB1)
      have hBw : Below w.heap.size w W1 := hB.trans (HBW.out.mono (by have := hB.size; omega))
      exact ⟨keeps_below HBW.out, HBW.out.mono (by have := hB.size; omega), ⟨HR1.out, fun y hy => (List.mem_append.1 hy).elim (hall y) (fun e => by simp at e; rw [e]; exact HBX.out.symm)⟩, hBw⟩
    | false =>
      gi_wp2_with (refine ⟨trivial, ?_⟩; gi_at_call 35; refine (CallsIn.inRound l hsg').mono ?_; clear hsg'; rintro e W1 ⟨_, rfl, hB1, rfl⟩; have hr1 := block_below hB1 (lt_of_heap hr) hr; have hcl := cell_one9 hr1; have hfz := free_ints hr1 0; have HBW := hid9 hB1; have HR1 := hid9 hr1; clear hr1 hr hB1)
      have hBw : Below w.heap.size w W1 := hB.trans (HBW.out.mono (by have := hB.size; omega))
      have hst : (W1.setCell ⟨w.heap.size, 0, none⟩ (.bool false)).heap[w.heap.size]? = some (.cells #[.bool false] 4 (0, 0)) := heap_setCell_same _ _ _ _ _ _ HR1.out
      exact ⟨(keeps_below HBW.out).trans (KeepsOthers.setCell _ _ _), ⟨rfl, hst, x, by simp, HBX.out.symm⟩, hBw.setCell (p := ⟨w.heap.size, 0, none⟩) (Nat.le_refl _) _⟩
  case done =>
    rintro D ys W hD hys ⟨⟨hr, hall⟩, hB⟩ hK
    have hcl : W.cell? ⟨w.heap.size, 0, none⟩ = some (.bool false) := by rw [cell_of_row _ _ 0 _ _ _ hr]; rfl
    have hfz : W.frozen? ⟨w.heap.size, 0, none⟩ = false := free_ints hr 0
    have hK' := (KeepsOthers.setCell W ⟨w.heap.size, 0, none⟩ (.bool true)).same D _ hK rfl
    have hst : (W.setCell ⟨w.heap.size, 0, none⟩ (.bool true)).heap[w.heap.size]? = some (.cells #[.bool true] 4 (0, 0)) := heap_setCell_same _ _ _ _ _ _ hr
    have HR : Hid _ := hr
    have HST : Hid _ := hst
    have HK : Hid _ := hK'
    have HALL : Hid ((afterL ls).all segB = true) := by
      show _ = _
      rw [← hys, List.all_map]
      exact List.all_eq_true.2 (fun y hy => hall y hy)
    clear hr hst hK' hall hys
    gi_wp2
    refine ⟨by simp, .inl ⟨_, _, rfl, run_takeDeferred HK.out, ?_⟩⟩
    have hst2 := blk_kept HST.out (grownBy_putObj' _ D (.deferred none)) (fun r e => by cases e; exact ⟨_, HK.out, rfl⟩)
    have hc5 : (((W.setCell ⟨w.heap.size, 0, none⟩ (.bool true)).putObj D (.deferred none))).cell? ⟨w.heap.size, 0, none⟩ = some (.bool true) := by rw [cell_of_row _ _ 0 _ _ _ hst2]; rfl
    refine ⟨.bool true, ?_, by rw [HALL.out], (hB.setCell (p := ⟨w.heap.size, 0, none⟩) (Nat.le_refl _) _).trans (belowK_b (w := w) (Nat.le_refl _) _ D _ _ (by have := hB2.size; omega) HK.out rfl rfl)⟩
    simp [results, Tryd.f13, go_sem, hc5]
  case stop =>
    rintro D c pre W hD ⟨t, ht⟩ ⟨⟨rfl, hr, x, hx, hxb⟩, hB⟩ hK
    have HALL : Hid ((afterL ls).all segB = false) := by
      show _ = _
      rw [← ht, List.all_append, List.all_map]
      rw [List.all_eq_false.2 ⟨x, hx, by simp [hxb]⟩]
      rfl
    have HR : Hid _ := hr
    clear hr hx hxb ht
    gi_wp2
    refine ⟨by simp, .inl ⟨_, _, rfl, run_takeDeferred hK, ?_⟩⟩
    have hst2 := blk_kept HR.out (grownBy_putObj' _ D (.deferred none)) (fun r e => by cases e; exact ⟨_, hK, rfl⟩)
    have hc5 : (W.putObj D (.deferred none)).cell? ⟨w.heap.size, 0, none⟩ = some (.bool false) := by rw [cell_of_row _ _ 0 _ _ _ hst2]; rfl
    refine ⟨.bool false, ?_, by rw [HALL.out], hB.trans (belowK_b (w := w) (Nat.le_refl _) W D _ _ (by have := hB2.size; omega) hK rfl rfl)⟩
    simp [results, Tryd.f13, go_sem, hc5]
end Go.Proofs.YtbidoiipebokoaaDoor
set_option linter.unusedVariables false
set_option linter.unusedSimpArgs false
namespace Go.Proofs.YtbidoiipebokoaaDoor
open Go.RowKit Go.Sort Go.BigFrame
set_option maxRecDepth 100000
set_option maxHeartbeats 4000000
theorem pathP {s : ByteArray} {bs : List Nat} (w : World) (h : Str s bs) (hl : s.size ≤ 9223372036854775807) : Ret 13 #[.string s] w (Is (.bool (pathB bs))) := by
  have hsz := h.size
  by_cases c1 : 40 < s.size
  · have HB : Hid (pathB bs = false) := path_long (by omega)
    have i1 : (40 : Int) < (s.size : Int) := by omega
    clear hsz h
    unfold Ret
    go_enter Tryd.func13, Tryd.ntmps13
    go_wp2
    have hc5 : (w.alloc (.cells #[.bool false] 4)).cell? ⟨w.heap.size, 0, none⟩ = some (.bool false) := cell_one9 (heap_alloc_new w _)
    refine bodyPost_ret (v := .bool false) (by simp [results, Tryd.f13, go_sem, hc5]) rfl ?_
    exact ⟨_, rfl, below1 _ _, by rw [HB.out]; rfl⟩
  by_cases c2 : bs.take 1 = [47]
  · have hq := callsIn_wide.1 (pathQ w h c2 (by omega))
    rw [← path_segs c2 (by omega)] at hq
    exact hq.mono fun e w' ⟨h1, h2⟩ => ⟨_, h1, h2, rfl⟩
  · have HB : Hid (pathB bs = false) := path_pre c2
    have hpf := hasP9 (t := ⟨#[47]⟩) (p := [47]) (w.alloc (.cells #[.bool false] 4)) h (str_mk (by decide))
    rw [show ([47] : List Nat).length = 1 from rfl, decide_eq_false c2] at hpf
    have i1 : ¬ (40 : Int) < (s.size : Int) := by omega
    clear hsz h
    unfold Ret
    go_enter Tryd.func13, Tryd.ntmps13
    go_wp2_with fail
    refine hpf.mono ?_
    rintro e w1 ⟨rfl, rfl⟩
    go_wp2
    have hc5 : (w.alloc (.cells #[.bool false] 4)).cell? ⟨w.heap.size, 0, none⟩ = some (.bool false) := cell_one9 (heap_alloc_new w _)
    refine bodyPost_ret (v := .bool false) (by simp [results, Tryd.f13, go_sem, hc5]) rfl ?_
    exact ⟨_, rfl, below1 _ _, by rw [HB.out]; rfl⟩
theorem cutP9 {s t : ByteArray} {l p : List Nat} (w : World) (hs : Str s l) (ht : Str t p) : Calls Tryd.prog 36 #[.string s, .string t] w fun e w' => ∃ S, e = .returned (.tuple #[.string S, .bool (decide (l.take p.length = p))]) ∧ Str S (if l.take p.length = p then l.drop p.length else l) ∧ w' = w := by
  have h := Tryd.strings_CutPrefix s t w
  rw [pre9 hs ht] at h
  exact h.mono fun e w' ⟨h1, h2⟩ => ⟨_, h1, trimPre9 hs ht, h2⟩
theorem agent_segs {l : List Nat} (h : l.take 7 = preA) (hp : pathB l = true) : agentB l = segB (l.drop 7) := by
  unfold agentB
  rw [hp, h, Bool.true_and, show (preA == preA) = true from by decide, Bool.true_and]
  have hlen : 7 ≤ l.length := by have := congrArg List.length h; simp [preA] at this; omega
  have he : l = preA ++ l.drop 7 := by rw [← h, List.take_append_drop]
  have h47 : l = 47 :: ([97, 103, 101, 110, 116] ++ 47 :: l.drop 7) := he
  have hs : (segs (l.drop 1)).all segB = true := by
    unfold pathB at hp
    simp only [Bool.and_eq_true] at hp
    exact hp.2.2
  have hd1 : l.drop 1 = [97, 103, 101, 110, 116] ++ 47 :: l.drop 7 := congrArg (List.drop 1) h47
  rw [hd1, segs_app _ (by decide), List.all_cons, Bool.and_eq_true] at hs
  have hl40 : l.length ≤ 40 := by
    unfold pathB at hp
    simp only [Bool.and_eq_true, decide_eq_true_eq] at hp
    exact hp.1.2
  cases hin : inB 47 (l.drop 7) with
  | false =>
    have hno : 47 ∉ l.drop 7 := fun hm => by rw [inB_iff.2 hm] at hin; cases hin
    rw [segs_none hno] at hs
    have h1 : segB (l.drop 7) = true := by simpa using hs.2
    rw [h1]
    have h8 : 8 ≤ l.length := by
      unfold segB ofB at h1
      simp only [Bool.and_eq_true, decide_eq_true_eq] at h1
      have := h1.1.2.1
      simp at this; omega
    simp [h8]
  | true =>
    have h1 : segB (l.drop 7) = false := by
      unfold segB ofB
      rw [show (l.drop 7).all (fun c => inB c abP) = false from List.all_eq_false.2 ⟨47, inB_iff.1 hin, by decide⟩]
      simp
    rw [h1]; simp
theorem agent_pre {l : List Nat} (h : l.take 7 ≠ preA) : agentB l = false := by
  unfold agentB
  simp [h]
theorem agentP {s : ByteArray} {bs : List Nat} (w : World) (h : Str s bs) (hl : s.size ≤ 9223372036854775807) : Ret 15 #[.string s] w (Is (.bool (agentB bs))) := by
  have hcp := cutP9 (t := ⟨#[47, 97, 103, 101, 110, 116, 47]⟩) (p := preA) w h (str_mk (by decide))
  rw [show preA.length = 7 from rfl] at hcp
  have HH : Hid (Str s bs) := h
  unfold Ret
  by_cases c1 : bs.take 7 = preA
  · rw [decide_eq_true c1, if_pos c1] at hcp
    have hp := pathP w h hl
    unfold Ret at hp
    cases hb : pathB bs with
    | false =>
      have HB : Hid (agentB bs = false) := by show _ = _; unfold agentB; rw [hb]; rfl
      rw [hb] at hp
      clear hb c1 h
      go_enter Tryd.func15, Tryd.ntmps15
      go_wp2_with fail
      refine hcp.mono ?_
      rintro e w1 ⟨S, rfl, hS, rfl⟩
      clear hcp hS
      go_wp2_with fail
      refine hp.mono ?_
      rintro e w2 ⟨_, rfl, hB2, rfl⟩
      clear hp
      go_wp2
      go_ret
      exact ⟨_, rfl, hB2, by rw [HB.out]; rfl⟩
    | true =>
      have HB : Hid (agentB bs = segB (bs.drop 7)) := agent_segs c1 hb
      rw [hb] at hp
      obtain ⟨b, hbb⟩ : ∃ b, b = segB (bs.drop 7) := ⟨_, rfl⟩
      have HBB : Hid (b = segB (bs.drop 7)) := hbb
      clear hb c1 h hbb
      go_enter Tryd.func15, Tryd.ntmps15
      go_wp2_with fail
      refine hcp.mono ?_
      rintro e w1 ⟨S, rfl, hS, rfl⟩
      clear hcp
      have hSl : S.size ≤ 9223372036854775807 := by rw [hS.size]; simp; rw [HH.out.size] at hl; omega
      go_wp2_with fail
      refine hp.mono ?_
      rintro e w2 ⟨_, rfl, hB2, rfl⟩
      clear hp
      have hsg := segP w2 hS hSl
      unfold Ret at hsg
      rw [← HBB.out] at hsg
      clear hS
      go_wp2_with fail
      refine hsg.mono ?_
      rintro e w3 ⟨_, rfl, hB3, rfl⟩
      clear hsg
      have HB2 : Hid (Below w1.heap.size w1 w3) := hB2.trans (hB3.mono hB2.size)
      clear hB2 hB3
      go_wp2
      go_ret
      exact ⟨_, rfl, HB2.out, by rw [HB.out, ← HBB.out]; rfl⟩
  · rw [decide_eq_false c1] at hcp
    have HB : Hid (agentB bs = false) := agent_pre c1
    clear c1 h
    go_enter Tryd.func15, Tryd.ntmps15
    go_wp2_with fail
    refine hcp.mono ?_
    rintro e w1 ⟨S, rfl, hS, rfl⟩
    clear hcp hS
    go_wp2
    go_ret
    exact ⟨_, rfl, Below.refl _ _, by rw [HB.out]; rfl⟩
end Go.Proofs.YtbidoiipebokoaaDoor
set_option linter.unusedVariables false
set_option linter.unusedSimpArgs false
namespace Go.Proofs.YtbidoiipebokoaaDoor
open Go.RowKit Go.Sort Go.BigFrame
set_option maxRecDepth 100000
set_option maxHeartbeats 4000000
theorem drop_upTo (c : Nat) (l : List Nat) : l.drop (upTo c l).length = fromC c l := by
  have e : upTo c l ++ fromC c l = l := List.takeWhile_append_dropWhile
  conv => lhs; arg 2; rw [← e]
  simp
theorem parseE_no {l : List Nat} (h : parseL l = none) : parseE l = .tuple #[.string ⟨#[]⟩, .string ⟨#[]⟩, .int .i64 13] := by unfold parseE; rw [h]
theorem parseP {s : ByteArray} {bs : List Nat} (w : World) (h : Str s bs) (hl : s.size ≤ 9223372036854775807) : Ret 20 #[.string s] w (Is (parseE bs)) := by
  have hcp := cutP9 (t := ⟨#[115, 112, 105, 102, 102, 101, 58, 47, 47]⟩) (p := preI) w h (str_mk (by decide))
  rw [show preI.length = 9 from rfl] at hcp
  have HH : Hid (Str s bs) := h
  have HHL : Hid (s.size ≤ 9223372036854775807) := hl
  unfold Ret
  by_cases c1 : bs.take 9 = preI
  · rw [decide_eq_true c1, if_pos c1] at hcp
    have h9 : 9 ≤ bs.length := by have := congrArg List.length c1; simp [preI] at this; omega
    obtain ⟨r, hr⟩ : ∃ r, r = bs.drop 9 := ⟨_, rfl⟩
    have HP : Hid (parseL bs = if domB (upTo 47 r) = true ∧ pathB (fromC 47 r) = true then some (upTo 47 r, fromC 47 r) else none) := by
      show _ = _
      unfold parseL
      rw [← hr]
      simp [c1, h9]
    have hrl : r.length ≤ s.size := by rw [hr, h.size]; simp
    rw [← hr] at hcp
    clear hr c1 h9 h
    go_enter Tryd.func20, Tryd.ntmps20
    go_wp2_with fail
    refine hcp.mono ?_
    rintro e w1 ⟨R, rfl, hR, rfl⟩
    clear hcp
    have hRl : R.size ≤ 9223372036854775807 := by rw [hR.size]; have := HHL.out; omega
    have hcut := cut9 (t := ⟨#[47]⟩) (c := 47) w1 hR hRl (by decide) (by decide)
    have HR : Hid (Str R r) := hR
    clear hR
    go_wp2_with fail
    refine hcut.mono ?_
    rintro e w2 ⟨S, T, rfl, hS, hT, n2, hw2⟩
    clear hcut hT
    have hSR : S.size ≤ R.size := by rw [hS.size, HR.out.size]; exact upTo_le 47 r
    have hct := fun (w : World) => cutM (s := R) (n := S.size) hSR w
    obtain ⟨P, hP⟩ : ∃ P, P = R.extract S.size R.size := ⟨_, rfl⟩
    rw [← hP] at hct
    have hPs : Str P (fromC 47 r) := by rw [hP, ← drop_upTo, ← hS.size]; exact HR.out.from hSR
    have hPl : P.size ≤ 9223372036854775807 := by
      rw [hPs.size]
      have : (fromC 47 r).length ≤ r.length := (List.dropWhile_suffix _).length_le
      have := HR.out.size
      omega
    have hSl : S.size ≤ 9223372036854775807 := by omega
    have HB2 : Hid (Below w1.heap.size w1 w2) := by show Below _ _ _; rw [hw2]; exact below_drewN (Below.refl _ _) _
    have hd := domP w2 hS hSl
    unfold Ret at hd
    obtain ⟨b1, hb1⟩ : ∃ b, b = domB (upTo 47 r) := ⟨_, rfl⟩
    obtain ⟨b2, hb2⟩ : ∃ b, b = pathB (fromC 47 r) := ⟨_, rfl⟩
    rw [← hb1] at hd
    have HV : Hid (parseE bs = if b1 = true ∧ b2 = true then .tuple #[.string S, .string P, .int .i64 0] else .tuple #[.string ⟨#[]⟩, .string ⟨#[]⟩, .int .i64 13]) := by
      show _ = _
      unfold parseE
      rw [HP.out, ← hb1, ← hb2, hS.eq, hPs.eq]
      by_cases hc : b1 = true ∧ b2 = true
      · rw [if_pos hc, if_pos hc]
      · rw [if_neg hc, if_neg hc]
    have HB : Hid (b2 = pathB (fromC 47 r)) := hb2
    have HPS : Hid (Str P (fromC 47 r)) := hPs
    clear hb1 hb2 hPs hS hP hw2
    cases b1 with
    | false =>
      have HX : Hid (parseE bs = .tuple #[.string ⟨#[]⟩, .string ⟨#[]⟩, .int .i64 13]) := HV.out
      clear HV
      go_wp2_with fail
      refine hd.mono ?_
      rintro e w3 ⟨_, rfl, hB3, rfl⟩
      clear hd
      have HB3 : Hid (Below w1.heap.size w1 w3) := HB2.out.trans (hB3.mono HB2.out.size)
      clear hB3
      go_wp2
      go_ret3
      exact ⟨_, rfl, HB3.out, HX.out.symm⟩
    | true =>
      go_wp2_with fail
      refine hd.mono ?_
      rintro e w3 ⟨_, rfl, hB3, rfl⟩
      clear hd
      have hp := pathP w3 HPS.out hPl
      unfold Ret at hp
      rw [← HB.out] at hp
      have HB3 : Hid (Below w1.heap.size w1 w3) := HB2.out.trans (hB3.mono HB2.out.size)
      clear hB3
      cases b2 with
      | false =>
        have HX : Hid (parseE bs = .tuple #[.string ⟨#[]⟩, .string ⟨#[]⟩, .int .i64 13]) := HV.out
        clear HV
        go_wp2_with fail
        refine hp.mono ?_
        rintro e w4 ⟨_, rfl, hB4, rfl⟩
        clear hp
        have HB4 : Hid (Below w1.heap.size w1 w4) := HB3.out.trans (hB4.mono HB3.out.size)
        clear hB4
        go_wp2
        go_ret3
        exact ⟨_, rfl, HB4.out, HX.out.symm⟩
      | true =>
        have HX : Hid (parseE bs = .tuple #[.string S, .string P, .int .i64 0]) := HV.out
        clear HV
        go_wp2_with fail
        refine hp.mono ?_
        rintro e w4 ⟨_, rfl, hB4, rfl⟩
        clear hp
        have HB4 : Hid (Below w1.heap.size w1 w4) := HB3.out.trans (hB4.mono HB3.out.size)
        clear hB4
        go_wp2
        go_ret3
        exact ⟨_, rfl, HB4.out, HX.out.symm⟩
  · rw [decide_eq_false c1, if_neg c1] at hcp
    have HX : Hid (parseE bs = .tuple #[.string ⟨#[]⟩, .string ⟨#[]⟩, .int .i64 13]) := parseE_no (by unfold parseL; rw [if_neg]; exact fun h => c1 h.2.1)
    clear c1 h
    go_enter Tryd.func20, Tryd.ntmps20
    go_wp2_with fail
    refine hcp.mono ?_
    rintro e w1 ⟨R, rfl, hR, rfl⟩
    clear hcp
    have hRl : R.size ≤ 9223372036854775807 := by rw [hR.size, ← HH.out.size]; exact HHL.out
    have hcut := cut9 (t := ⟨#[47]⟩) (c := 47) w1 hR hRl (by decide) (by decide)
    have HR : Hid (Str R bs) := hR
    clear hR
    go_wp2_with fail
    refine hcut.mono ?_
    rintro e w2 ⟨S, T, rfl, hS, hT, n2, hw2⟩
    clear hcut hT
    have hSR : S.size ≤ R.size := by rw [hS.size, HR.out.size]; exact upTo_le 47 bs
    have hct := fun (w : World) => cutM (s := R) (n := S.size) hSR w
    have HB2 : Hid (Below w1.heap.size w1 w2) := by show Below _ _ _; rw [hw2]; exact below_drewN (Below.refl _ _) _
    clear hS hw2
    go_wp2
    go_ret3
    exact ⟨_, rfl, HB2.out, HX.out.symm⟩
theorem makeP {s t : ByteArray} {d p : List Nat} (w : World) (h : Str s d) (h2 : Str t p) (hl : s.size ≤ 1000) (hl2 : t.size ≤ 1000) : Ret 22 #[.string s, .string t] w (Is (makeE d p)) := by
  have h1 := domP w h (by omega)
  have hz1 : ¬ 9223372036854775807 < 9 + s.size := by omega
  have hz2 : ¬ 9223372036854775807 < 9 + s.size + t.size := by omega
  have HC : Hid ((⟨#[115, 112, 105, 102, 102, 101, 58, 47, 47]⟩ : ByteArray) ++ s ++ t = strOf (preI ++ d ++ p)) := (((str_mk (a := #[115, 112, 105, 102, 102, 101, 58, 47, 47]) (l := preI) (by decide)).app h).app h2).eq
  have H2 : Hid (Str t p) := h2
  clear h h2
  unfold Ret at h1 ⊢
  cases b1 : domB d
  · have HB : Hid (makeE d p = .tuple #[.string ⟨#[]⟩, .int .i64 13]) := by show _ = _; unfold makeE; rw [b1]; rfl
    rw [b1] at h1
    clear b1
    go_enter Tryd.func22, Tryd.ntmps22
    go_wp2_with fail
    refine h1.mono ?_
    rintro e w2 ⟨_, rfl, hB, rfl⟩
    clear h1
    go_wp2
    go_ret2
    exact ⟨_, rfl, hB, HB.out.symm⟩
  · rw [b1] at h1
    have HB1 : Hid (domB d = true) := b1
    clear b1
    go_enter Tryd.func22, Tryd.ntmps22
    go_wp2_with fail
    refine h1.mono ?_
    rintro e w2 ⟨_, rfl, hB, rfl⟩
    clear h1
    have h3 := pathP w2 H2.out (by omega)
    unfold Ret at h3
    go_wp2_with fail
    refine h3.mono ?_
    rintro e w3 ⟨_, rfl, hB3, rfl⟩
    clear h3
    have HBB : Hid (Below w.heap.size w w3) := hB.trans (hB3.mono hB.size)
    clear hB hB3
    cases b2 : pathB p
    · have HB : Hid (makeE d p = .tuple #[.string ⟨#[]⟩, .int .i64 13]) := by show _ = _; unfold makeE; rw [b2]; simp
      clear b2
      go_wp2
      go_ret2
      exact ⟨_, rfl, HBB.out, HB.out.symm⟩
    · have HB : Hid (makeE d p = .tuple #[.string (strOf (preI ++ d ++ p)), .int .i64 0]) := by show _ = _; unfold makeE; rw [HB1.out, b2]; rfl
      clear b2
      go_wp2
      go_ret2
      exact ⟨_, rfl, HBB.out, by rw [HB.out, ← HC.out]; rfl⟩
end Go.Proofs.YtbidoiipebokoaaDoor
set_option linter.unusedVariables false
set_option linter.unusedSimpArgs false
namespace Go.Proofs.YtbidoiipebokoaaDoor
open Go.RowKit Go.Sort Go.BigFrame
set_option maxRecDepth 100000
set_option maxHeartbeats 4000000
/-- Texts that a machine may hold. -/
def Fit9 (ns : List (List Nat)) : Prop := ∀ x ∈ ns, x.length ≤ 9223372036854775807
theorem Fit9.nil : Fit9 [] := fun x hx => by cases hx
theorem Fit9.take {ns : List (List Nat)} (h : Fit9 ns) (k : Nat) : Fit9 (ns.take k) := fun x hx => h x (List.mem_of_mem_take hx)
/-- A text as a key. -/
def key9 (x : List Nat) : Lit := .string (strOf x).data.toList
theorem key9_inj {x y : List Nat} (hx : Dig x) (hy : Dig y) (h : key9 x = key9 y) : x = y := by
  have h : (strOf x).data.toList = (strOf y).data.toList := by injection h
  have e := str_eq_iff (str_strOf hx) (str_strOf hy)
  rw [Lib.toList_data, Lib.toList_data, h] at e
  simpa using e.symm
/-- The set holds the first names and no others. -/
def Hold9 (D : DataW Unit) (ns : List (List Nat)) : Prop := Maps.IsMap D ∧ ∀ x, Dig x → Maps.has D (key9 x) = decide (x ∈ ns)
theorem hold_nil : Hold9 (.map []) [] := ⟨⟨_, rfl⟩, fun x _ => rfl⟩
theorem hold_put {D : DataW Unit} {ns : List (List Nat)} {k : Nat} (h : Hold9 D (ns.take k)) (hk : k < ns.length) (hd : Dig (ns.getD k [])) : Hold9 (D.put (key9 (ns.getD k [])) (.agg [])) (ns.take (k + 1)) := by
  refine ⟨h.1.put _ _, fun x hx => ?_⟩
  rw [List.take_succ_eq_append_getElem hk]
  have e : ns.getD k [] = ns[k] := by simp [hk]
  rw [e] at hd ⊢
  by_cases hxy : x = ns[k]
  · subst hxy
    rw [Maps.has_put_same h.1 (k := key9 ns[k]) (by unfold key9; trivial)]
    exact (decide_eq_true (List.mem_append.2 (.inr (List.mem_singleton.2 rfl)))).symm
  · rw [Maps.has_put_other (fun e => hxy (key9_inj hx hd e)), h.2 x hx]
    exact decide_eq_decide.2 ⟨fun h => List.mem_append.2 (.inl h), fun h => (List.mem_append.1 h).elim id (fun h => absurd (List.mem_singleton.1 h) hxy)⟩
theorem has_dec (x : List Nat) (ns : List (List Nat)) : decide (x ∈ ns) = hasB x ns := by
  rw [Bool.eq_iff_iff]
  unfold hasB
  simp
theorem lawS9 : Go.Maps.Keyed Tryd.prog 9 := Go.Maps.string_keyed Tryd.underlying9
theorem withinP {ns ms : List (List Nat)} {v u : Value} (w : World) (hv : SRow ns v w) (hu : SRow ms u w) (f1 : Fit9 ns) (f2 : Fit9 ms) : Ret 26 #[v, u] w (Is (.bool (withinB ns ms))) := by
  have hdn := srow_dig9 hv
  have hdm := srow_dig9 hu
  obtain ⟨a, cap, rfl, hc, hcap, hrow⟩ := hv
  obtain ⟨a2, cap2, rfl, hc2, hcap2, hrow2⟩ := hu
  obtain ⟨n, hn⟩ : ∃ n, n = ns.length := ⟨_, rfl⟩
  obtain ⟨m, hm⟩ : ∃ m, m = ms.length := ⟨_, rfl⟩
  rw [← hn] at hc hrow ⊢
  rw [← hm] at hc2 hrow2 ⊢
  have HN : Hid (n = ns.length) := hn
  have HM : Hid (m = ms.length) := hm
  have HR : Hid _ := hrow
  have HR2 : Hid _ := hrow2
  have hnb : n ≤ 9223372036854775807 := by omega
  have hmb : m ≤ 9223372036854775807 := by omega
  have hmm := @run_makeMap Tryd.prog
  clear hn hm hrow hrow2 hc hc2
  unfold Ret
  go_enter Tryd.func26, Tryd.ntmps26
  go_wp2
  go_loopw [15] (fun i wr => ∃ (k : Nat) (D : DataW Unit), k ≤ m ∧ i = .int .i64 k ∧ wr.ownsMap Tryd.prog 9 (unitElem (H := Unit)) w.heap.size k D ∧ Hold9 D (ms.take k) ∧ Below w.heap.size w wr) (fun i _ => m - (intOf i).toNat)
  case atStart => exact ⟨0, _, by omega, rfl, World.ownsMap_made _ _ _ _, hold_nil, (Below.refl _ _).alloc (Nat.le_refl _) _⟩
  case round =>
    obtain ⟨k, D, hk, rfl, hown, hH, hB⟩ := hrel
    by_cases hlt : k < m
    · obtain ⟨b, off, rfl, hcc⟩ := HR2.out (by omega)
      obtain ⟨s, hs1, hs2⟩ := hcc k hlt
      have hkn : k < ms.length := by rw [← HM.out]; exact hlt
      have hx : (ms.getD k []).length ≤ 9223372036854775807 := by
        have e : ms.getD k [] = ms[k] := by simp [hkn]
        rw [e]; exact f2 _ (List.getElem_mem hkn)
      have hcell : wr.cell? ⟨b, off + k, none⟩ = some (.string s) := (hB.cell (p := ⟨b, off + k, none⟩) (block_lt_of_cell hs1)).trans hs1
      have hkey : keyOf Tryd.prog 9 (.string s) = some (key9 (ms.getD k [])) := by
        have e := hs2.eq
        have := Go.WideMaps.keyOf_string_mk (P := Tryd.prog) (k := 9) Tryd.underlying9 (s := s) (by rw [hs2.size]; unfold maxLen; omega)
        rw [this, e]; rfl
      have HS2 : Hid _ := hs2
      clear hcc hs2 hs1
      go_wp2_with (first
        | (at_mapUpdate; refine wpList_mapUpdate_own _ rfl _ _ _ 54 rfl 9 55 lawS9 Tryd.underlying54 (unitElem (H := Unit)) w.heap.size k _ rfl hown (by unfold maxLen; omega) _ _ _ rfl rfl hkey _ [] unitElem_mk ?_; intro w1 hown1 hgrow1)
        | go_in)
      go_roundw
      case rel => exact ⟨k + 1, _, by omega, by go_num, hown1, hold_put hH hkn HS2.out.dig, hB.grown hgrow1 hB.size (fun j hj => by cases hj; exact Nat.le_refl _)⟩
      case measure => simp [intOf]; omega
    · obtain rfl : k = m := by omega
      have hall : Hold9 D ms := by
        have := hH
        rwa [List.take_of_length_le (by rw [← HM.out]; omega)] at this
      clear hH
      go_wp2
      go_loopw [25] (fun i wz => ∃ j : Nat, j ≤ n ∧ i = .int .i64 j ∧ wz.ownsMap Tryd.prog 9 (unitElem (H := Unit)) w.heap.size k D ∧ (∀ q, q < j → hasB (ns.getD q []) ms = true) ∧ Below w.heap.size w wz) (fun i _ => n - (intOf i).toNat)
      case atStart => exact ⟨0, by omega, rfl, hown, fun q hq => by omega, hB⟩
      case round =>
        obtain ⟨j, hj, rfl, hownz, hyes, hBz⟩ := hrel
        have HY : Hid _ := hyes
        clear hyes
        by_cases hlt2 : j < n
        · obtain ⟨b, off, rfl, hcc⟩ := HR.out (by omega)
          obtain ⟨s, hs1, hs2⟩ := hcc j hlt2
          have hjn : j < ns.length := by rw [← HN.out]; exact hlt2
          have hx : (ns.getD j []).length ≤ 9223372036854775807 := by
            have e : ns.getD j [] = ns[j] := by simp [hjn]
            rw [e]; exact f1 _ (List.getElem_mem hjn)
          have hcell := (hBz.cell (p := ⟨b, off + j, none⟩) (block_lt_of_cell hs1)).trans hs1
          have hkey : keyOf Tryd.prog 9 (.string s) = some (key9 (ns.getD j [])) := by
            have e := hs2.eq
            have := Go.WideMaps.keyOf_string_mk (P := Tryd.prog) (k := 9) Tryd.underlying9 (s := s) (by rw [hs2.size]; unfold maxLen; omega)
            rw [this, e]; rfl
          have hhas := hall.2 (ns.getD j []) hs2.dig
          rw [has_dec] at hhas
          obtain ⟨bb, hbb⟩ : ∃ bb, bb = hasB (ns.getD j []) ms := ⟨_, rfl⟩
          rw [← hbb] at hhas
          have HBB : Hid (bb = hasB (ns.getD j []) ms) := hbb
          clear hcc hs2 hs1 hbb hown
          cases bb with
          | true =>
            go_wp2_with (first
              | (at_lookup; refine wpList_lookup_own_unit _ rfl _ _ 54 rfl 9 55 lawS9 Tryd.underlying54 (Tryd.zeroValue55 _) w.heap.size k D rfl hownz _ _ rfl hkey ?_; rw [hhas])
              | go_in)
            go_roundw
            case rel =>
              refine ⟨j + 1, by omega, by go_num, hownz.kept (World.grownBy_alloc wr _ none) (by simp), fun q hq => ?_, hBz.alloc hBz.size _⟩
              by_cases hqj : q = j
              · rw [hqj]; exact HBB.out.symm
              · exact HY.out q (by omega)
            case measure => simp [intOf]; omega
          | false =>
            have HW : Hid (withinB ns ms = false) := within_not hjn HBB.out.symm
            go_wp2_with (first
              | (at_lookup; refine wpList_lookup_own_unit _ rfl _ _ 54 rfl 9 55 lawS9 Tryd.underlying54 (Tryd.zeroValue55 _) w.heap.size k D rfl hownz _ _ rfl hkey ?_; rw [hhas])
              | go_in)
            go_ret
            exact ⟨_, rfl, hBz.alloc hBz.size _, by rw [HW.out]; rfl⟩
        · obtain rfl : n = j := by omega
          have HW : Hid (withinB ns ms = true) := within_all (fun q hq => HY.out q (by rw [HN.out]; exact hq))
          go_wp2
          go_ret
          exact ⟨_, rfl, hBz, by rw [HW.out]; rfl⟩
end Go.Proofs.YtbidoiipebokoaaDoor
set_option linter.unusedVariables false
set_option linter.unusedSimpArgs false
namespace Go.Proofs.YtbidoiipebokoaaDoor
open Go.RowKit Go.Lib
abbrev nats (x : List UInt8) : List Nat := x.map UInt8.toNat
abbrev bytesU (x : List Nat) : List UInt8 := x.map UInt8.ofNat
theorem nats_bytes {x : List Nat} (h : Dig x) : nats (bytesU x) = x := by
  unfold nats bytesU
  rw [List.map_map]
  conv => rhs; rw [← List.map_id x]
  apply List.map_congr_left
  intro c hc
  have := mem_of_dig h c hc
  show (UInt8.ofNat c).toNat = c
  rw [UInt8.toNat_ofNat', Nat.mod_eq_of_lt (by omega)]
theorem bytes_nats (x : List UInt8) : bytesU (nats x) = x := by
  unfold nats bytesU
  rw [List.map_map]
  conv => rhs; rw [← List.map_id x]
  apply List.map_congr_left
  intro c hc
  simp
theorem lt_ltN : ∀ (x y : List UInt8), (x < y) ↔ ltN (nats x) (nats y) = true
  | x, [] => by
    constructor
    · intro h; exact absurd h (List.not_lt_nil _)
    · intro h; cases x <;> simp [ltN] at h
  | [], b :: y => by simp [ltN]
  | a :: x, b :: y => by
    have ih := lt_ltN x y
    rw [List.cons_lt_cons_iff, ih]
    simp only [nats, List.map_cons, ltN, Bool.or_eq_true, Bool.and_eq_true, decide_eq_true_eq, beq_iff_eq]
    rw [UInt8.lt_iff_toNat_lt, UInt8.toNat_inj]
theorem le_ltN (x y : List UInt8) : decide (x ≤ y) = !ltN (nats y) (nats x) := by
  have h : (x ≤ y) ↔ ¬ (y < x) := Iff.rfl
  rw [Bool.eq_iff_iff, decide_eq_true_eq, h, lt_ltN]
  simp
theorem ms_sorted (ss : List (List UInt8)) : (ss.mergeSort fun x y => decide (x ≤ y)).Pairwise (fun x y => ltN (nats y) (nats x) = false) := by
  have h := List.pairwise_mergeSort (le := fun x y : List UInt8 => decide (x ≤ y)) (fun a b c h1 h2 => by
    rw [le_ltN] at h1 h2 ⊢
    simp only [Bool.not_eq_true'] at h1 h2 ⊢
    cases h3 : ltN (nats c) (nats a) with
    | false => rfl
    | true =>
      rcases ltN_tot (nats a) (nats b) with h4 | h4 | h4
      · have := ltN_tr h3 h4; rw [h2] at this; cases this
      · rw [h4] at h3; rw [h2] at h3; cases h3
      · rw [h1] at h4; cases h4) (fun a b => by
    rw [le_ltN, le_ltN]
    cases h : ltN (nats b) (nats a) with
    | false => rfl
    | true => rw [ltN_asym h]; rfl) ss
  exact h.imp (fun h => by rw [le_ltN] at h; simpa using h)
/-- Of what is sorted each once: rising, and the same ones. -/
theorem compact_rise {zs : List (List UInt8)} (hs : zs.Pairwise (fun x y => ltN (nats y) (nats x) = false)) : ∀ m, m ≤ zs.length →
    (compactUpTo zs.toArray m).Pairwise (fun x y => ltN (nats x) (nats y) = true) ∧ (∀ x, x ∈ compactUpTo zs.toArray m ↔ x ∈ zs.take m) ∧ (∀ x ∈ compactUpTo zs.toArray m, ∀ (hm : 0 < m), ltN (nats (zs.toArray[m - 1]!)) (nats x) = false)
  | 0, _ => by simp [compactUpTo]
  | m + 1, hm => by
    obtain ⟨h1, h2, h3⟩ := compact_rise hs m (by omega)
    have hz : zs.toArray[m]! = zs[m] := by simp [getElem!_pos, show m < zs.length by omega]
    have hsnoc : zs.take (m + 1) = zs.take m ++ [zs[m]] := by rw [List.take_succ_eq_append_getElem]
    rw [compactUpTo_succ, hsnoc]
    have hle : 0 < m → ltN (nats zs[m]) (nats (zs.toArray[m - 1]!)) = false := fun h0 => by
      have e : zs.toArray[m - 1]! = zs[m - 1] := by simp [getElem!_pos, show m - 1 < zs.length by omega]
      rw [e]
      exact List.pairwise_iff_getElem.1 hs (m - 1) m (by omega) (by omega) (by omega)
    cases hk : keeps zs.toArray m with
    | true =>
      rw [if_pos rfl, hz]
      have hlt : ∀ x ∈ compactUpTo zs.toArray m, ltN (nats x) (nats zs[m]) = true := fun x hx => by
        have h0 : 0 < m := by
          cases m with
          | zero => simp [compactUpTo] at hx
          | succ => omega
        have hne : zs[m] ≠ zs.toArray[m - 1]! := fun e => by
          have := keeps_neg h0 (by rw [hz]; exact e)
          rw [hk] at this; cases this
        have a1 := h3 x hx h0
        have a2 := hle h0
        have hne' : nats zs[m] ≠ nats (zs.toArray[m - 1]!) := fun e => hne (by rw [← bytes_nats zs[m], e, bytes_nats])
        rcases ltN_tot (nats (zs.toArray[m - 1]!)) (nats zs[m]) with b | b | b
        · rcases ltN_tot (nats x) (nats (zs.toArray[m - 1]!)) with c | c | c
          · exact ltN_tr c b
          · rw [c]; exact b
          · rw [a1] at c; cases c
        · exact absurd b.symm hne'
        · rw [a2] at b; cases b
      refine ⟨List.pairwise_append.2 ⟨h1, List.pairwise_singleton _ _, fun x hx y hy => ?_⟩, fun x => ?_, fun x hx _ => ?_⟩
      · rw [List.mem_singleton.1 hy]; exact hlt x hx
      · simp only [List.mem_append, h2]
      · rw [Nat.add_sub_cancel, hz]
        rcases List.mem_append.1 hx with hx | hx
        · exact ltN_asym (hlt x hx)
        · rw [List.mem_singleton.1 hx]; exact ltN_irr _
    | false =>
      have h0 : 0 < m := by
        cases m with
        | zero => simp [keeps] at hk
        | succ => omega
      have he : zs[m] = zs.toArray[m - 1]! := by
        by_cases h : zs[m] = zs.toArray[m - 1]!
        · exact h
        · have := keeps_pos (d := zs.toArray) (m := m) (by rw [hz]; exact h)
          rw [hk] at this; cases this
      have e : zs.toArray[m - 1]! = zs[m - 1] := by simp [getElem!_pos, show m - 1 < zs.length by omega]
      rw [if_neg (by simp), List.append_nil]
      refine ⟨h1, fun x => ?_, fun x hx _ => ?_⟩
      · rw [h2, List.mem_append, List.mem_singleton]
        constructor
        · exact fun h => .inl h
        · rintro (h | h)
          · exact h
          · rw [h, he, e, List.mem_take_iff_getElem]
            exact ⟨m - 1, by omega, rfl⟩
      · rw [Nat.add_sub_cancel, hz, he]
        exact h3 x hx h0
theorem compact_set {ns : List (List Nat)} (hd : ∀ x ∈ ns, Dig x) : Lib.compact ((ns.map bytesU).mergeSort fun x y => decide (x ≤ y)) = (setL ns).map bytesU := by
  obtain ⟨zs, hz⟩ : ∃ zs, zs = (ns.map bytesU).mergeSort fun x y => decide (x ≤ y) := ⟨_, rfl⟩
  have hs : zs.Pairwise (fun x y => ltN (nats y) (nats x) = false) := by rw [hz]; exact ms_sorted _
  obtain ⟨h1, h2, _⟩ := compact_rise hs zs.length (Nat.le_refl _)
  rw [← hz]
  show compactUpTo zs.toArray zs.length = _
  rw [List.take_length] at h2
  have hset : (compactUpTo zs.toArray zs.length).map nats = setL ns := by
    refine setL_of (List.pairwise_map.2 h1) (fun x => ?_)
    rw [List.mem_map]
    constructor
    · rintro ⟨y, hy, rfl⟩
      have := (h2 y).1 hy
      rw [hz, List.mem_mergeSort, List.mem_map] at this
      obtain ⟨u, hu, rfl⟩ := this
      rw [nats_bytes (hd u hu)]; exact hu
    · intro hx
      refine ⟨bytesU x, (h2 _).2 ?_, nats_bytes (hd x hx)⟩
      rw [hz, List.mem_mergeSort, List.mem_map]
      exact ⟨x, hx, rfl⟩
  rw [← hset, List.map_map]
  conv => lhs; rw [← List.map_id (compactUpTo _ _)]
  apply List.map_congr_left
  intro x _
  exact (bytes_nats x).symm
end Go.Proofs.YtbidoiipebokoaaDoor
set_option linter.unusedVariables false
namespace Go.Proofs
open Go.Shelf
open Go.RowKit Go.Lib Go.Sort
def Tryd.lays194_ren : Go.Shelf.Ren := ⟨fun | 194 => 39 | n => n, fun | 31 => 33 | 9 => 9 | 3 => 3 | 4 => 4 | 0 => 0 | n => n, fun | n => n⟩
theorem Tryd.lays194 : Go.Proofs.Lays.n194 Tryd.prog Tryd.lays194_ren := {
  mixed := by kernel_rfl
  f194 := Tryd.func39.trans (congrArg some (by kernel_rfl))
  t0 := Tryd.underlying0
  a0 := Tryd.isAgg0
  z0 := Tryd.sizeOf0
  v0 := Tryd.zeroValue0
  t3 := Tryd.underlying3
  a3 := Tryd.isAgg3
  z3 := Tryd.sizeOf3
  v3 := Tryd.zeroValue3
  t4 := Tryd.underlying4
  a4 := Tryd.isAgg4
  z4 := Tryd.sizeOf4
  v4 := Tryd.zeroValue4
  t9 := Tryd.underlying9
  a9 := Tryd.isAgg9
  z9 := Tryd.sizeOf9
  v9 := Tryd.zeroValue9
  t31 := Tryd.underlying33
  a31 := Tryd.isAgg33
  z31 := Tryd.sizeOf33
  v31 := Tryd.zeroValue33 }
theorem Tryd.slices_Compact_string (blk off cap : Nat) (zs : List (List UInt8)) (w : World) (hH : Holds encStr w blk off zs.toArray) (hsz : zs.length ≤ 9223372036854775807) (hcap : zs.length ≤ cap) :
    Calls Tryd.prog 39 #[.slice (some ⟨blk, off, none⟩) zs.length cap] w fun e w' => e = .returned (.slice (some ⟨blk, off, none⟩) (Lib.compact zs).length cap) ∧ ∃ q, w' = putRow encStr (Sort.ahead w q) blk off (Lib.compact zs ++ List.replicate (zs.length - (Lib.compact zs).length) []).toArray := Any.slices_Compact_string Tryd.lays194 blk off cap zs w hH hsz hcap
theorem Tryd.slices_Compact_string_empty (a : Option Addr) (cap : Nat) (w : World) :
    Calls Tryd.prog 39 #[.slice a 0 cap] w fun e w' => e = .returned (.slice a 0 cap) ∧ w' = w := Any.slices_Compact_string_empty Tryd.lays194 a cap w
def Tryd.lays190_ren : Go.Shelf.Ren := ⟨fun | 190 => 58 | 125 => 68 | 258 => 67 | 128 => 85 | 129 => 86 | 302 => 76 | 303 => 77 | 304 => 78 | 305 => 79 | 306 => 80 | 307 => 81 | 308 => 82 | 309 => 83 | 310 => 84 | 333 => 89 | 329 => 90 | 330 => 91 | 334 => 92 | 335 => 93 | 336 => 94 | 344 => 95 | n => n, fun | 31 => 33 | 9 => 9 | 3 => 3 | 46 => 74 | 0 => 0 | 51 => 86 | 53 => 88 | 4 => 4 | 183 => 79 | 182 => 78 | 131 => 83 | 5 => 5 | 218 => 96 | 222 => 100 | 228 => 102 | 229 => 103 | n => n, fun | n => n⟩
theorem Tryd.lays190 : Go.Proofs.Lays.n190 Tryd.prog Tryd.lays190_ren := {
  mixed := by kernel_rfl
  f125 := Tryd.func68.trans (congrArg some (by kernel_rfl))
  f128 := Tryd.func85.trans (congrArg some (by kernel_rfl))
  f129 := Tryd.func86.trans (congrArg some (by kernel_rfl))
  f190 := Tryd.func58.trans (congrArg some (by kernel_rfl))
  f258 := Tryd.func67.trans (congrArg some (by kernel_rfl))
  f302 := Tryd.func76.trans (congrArg some (by kernel_rfl))
  f303 := Tryd.func77.trans (congrArg some (by kernel_rfl))
  f304 := Tryd.func78.trans (congrArg some (by kernel_rfl))
  f305 := Tryd.func79.trans (congrArg some (by kernel_rfl))
  f306 := Tryd.func80.trans (congrArg some (by kernel_rfl))
  f307 := Tryd.func81.trans (congrArg some (by kernel_rfl))
  f308 := Tryd.func82.trans (congrArg some (by kernel_rfl))
  f309 := Tryd.func83.trans (congrArg some (by kernel_rfl))
  f310 := Tryd.func84.trans (congrArg some (by kernel_rfl))
  f329 := Tryd.func90.trans (congrArg some (by kernel_rfl))
  f330 := Tryd.func91.trans (congrArg some (by kernel_rfl))
  f333 := Tryd.func89.trans (congrArg some (by kernel_rfl))
  f334 := Tryd.func92.trans (congrArg some (by kernel_rfl))
  f335 := Tryd.func93.trans (congrArg some (by kernel_rfl))
  f336 := Tryd.func94.trans (congrArg some (by kernel_rfl))
  f344 := Tryd.func95.trans (congrArg some (by kernel_rfl))
  t0 := Tryd.underlying0
  a0 := Tryd.isAgg0
  z0 := Tryd.sizeOf0
  v0 := Tryd.zeroValue0
  t3 := Tryd.underlying3
  a3 := Tryd.isAgg3
  z3 := Tryd.sizeOf3
  v3 := Tryd.zeroValue3
  t4 := Tryd.underlying4
  a4 := Tryd.isAgg4
  z4 := Tryd.sizeOf4
  v4 := Tryd.zeroValue4
  t5 := Tryd.underlying5
  a5 := Tryd.isAgg5
  z5 := Tryd.sizeOf5
  v5 := Tryd.zeroValue5
  t9 := Tryd.underlying9
  a9 := Tryd.isAgg9
  z9 := Tryd.sizeOf9
  v9 := Tryd.zeroValue9
  t31 := Tryd.underlying33
  a31 := Tryd.isAgg33
  z31 := Tryd.sizeOf33
  v31 := Tryd.zeroValue33
  t46 := Tryd.underlying74
  a46 := Tryd.isAgg74
  z46 := Tryd.sizeOf74
  v46 := Tryd.zeroValue74
  t51 := Tryd.underlying86
  a51 := Tryd.isAgg86
  z51 := Tryd.sizeOf86
  v51 := Tryd.zeroValue86
  t53 := Tryd.underlying88
  a53 := Tryd.isAgg88
  z53 := Tryd.sizeOf88
  v53 := Tryd.zeroValue88
  t131 := Tryd.underlying83
  a131 := Tryd.isAgg83
  z131 := Tryd.sizeOf83
  v131 := Tryd.zeroValue83
  t182 := Tryd.underlying78
  a182 := Tryd.isAgg78
  z182 := Tryd.sizeOf78
  v182 := Tryd.zeroValue78
  t183 := Tryd.underlying79
  a183 := Tryd.isAgg79
  z183 := Tryd.sizeOf79
  v183 := Tryd.zeroValue79
  t218 := Tryd.underlying96
  a218 := Tryd.isAgg96
  z218 := Tryd.sizeOf96
  v218 := Tryd.zeroValue96
  t222 := Tryd.underlying100
  a222 := Tryd.isAgg100
  z222 := Tryd.sizeOf100
  v222 := Tryd.zeroValue100
  t228 := Tryd.underlying102
  a228 := Tryd.isAgg102
  z228 := Tryd.sizeOf102
  v228 := Tryd.zeroValue102
  t229 := Tryd.underlying103
  a229 := Tryd.isAgg103
  z229 := Tryd.sizeOf103
  v229 := Tryd.zeroValue103 }
theorem Tryd.slices_Sort_string (blk off cap : Nat) (ss : List (List UInt8)) (w : World) (hH : Holds encStr w blk off ss.toArray) (hblk : blk < w.heap.size) (hsz : ss.length < 4611686018427387904) :
    Calls Tryd.prog 58 #[.slice (some ⟨blk, off, none⟩) ss.length cap] w fun e w' =>
      e = .returned (.tuple #[]) ∧ ∃ n os, w' = grow (putRow encStr (Sort.ahead w n) blk off (ss.mergeSort fun x y => decide (x ≤ y)).toArray) os := Any.slices_Sort_string Tryd.lays190 blk off cap ss w hH hblk hsz
theorem Tryd.slices_Sort_string_none (p : Option Addr) (cap : Nat) (w : World) :
    Calls Tryd.prog 58 #[.slice p 0 cap] w fun e w' => e = .returned (.tuple #[]) ∧ w' = w := Any.slices_Sort_string_none Tryd.lays190 p cap w
end Go.Proofs
set_option linter.unusedVariables false
set_option linter.unusedSimpArgs false
namespace Go.Proofs.YtbidoiipebokoaaDoor
open Go.RowKit Go.Sort Go.BigFrame Go.Shelf
attribute [local go_sem] Oper.semAt_some
set_option maxRecDepth 100000
set_option maxHeartbeats 4000000
theorem vals41 (a : Option Addr) (n cap : Nat) (w : World) : Calls Tryd.prog 41 #[.slice a n cap] w fun e w' => e = .returned (.func (.func 59) #[] #[.pointer (some ⟨w.heap.size, 0, none⟩)]) ∧ w' = w.alloc (.cells #[.slice a n cap] 33) := by
  go_enter Tryd.func41, Tryd.ntmps41
  go_wp2
  go_ret
  exact ⟨rfl, rfl⟩
/-- Texts in a block below. -/
def SRowB (n₀ : Nat) (ns : List (List Nat)) (v : Value) (w : World) : Prop := ∃ a cap, v = .slice a ns.length cap ∧ (0 < ns.length → ∃ b off, a = some ⟨b, off, none⟩ ∧ b < n₀ ∧ ∀ i, i < ns.length → w.cell? ⟨b, off + i, none⟩ = some (.string (strOf (ns.getD i []))))
theorem SRowB.below {n₀ : Nat} {ns : List (List Nat)} {v : Value} {w w' : World} (h : SRowB n₀ ns v w) (hb : Below n₀ w w') : SRowB n₀ ns v w' := by
  obtain ⟨a, cap, h1, h2⟩ := h
  exact ⟨a, cap, h1, fun hp => by
    obtain ⟨b, off, h3, h4, h5⟩ := h2 hp
    exact ⟨b, off, h3, h4, fun i hi => (hb.cell (p := ⟨b, off + i, none⟩) h4).trans (h5 i hi)⟩⟩
theorem SRow.B {ns : List (List Nat)} {v : Value} {w : World} (h : SRow ns v w) : SRowB w.heap.size ns v w := by
  obtain ⟨a, cap, h1, h2, h3, h4⟩ := h
  exact ⟨a, cap, h1, fun hp => by
    obtain ⟨b, off, h5, h6⟩ := h4 hp
    obtain ⟨s, h7, _⟩ := h6 0 hp
    exact ⟨b, off, h5, block_lt_of_cell h7, fun i hi => by
      obtain ⟨s, k1, k2⟩ := h6 i hi
      rw [k1, k2.eq]⟩⟩
theorem valsIt (l Bs n₀ : Nat) {ns : List (List Nat)} {sv : Value} (hN : ns.length ≤ 1000000) (J Jx : List (List Nat) → World → Prop) (W : World)
    (hY : ∀ pre x W1, J pre W1 → pre.length < ns.length → YieldAt Fence.wide 4 Tryd.prog l #[.string (strOf x)] W1 fun e W' =>
      (e = .returned (.bool true) ∧ J (pre ++ [x]) W' ∧ Below n₀ W1 W') ∨ (e = .returned (.bool false) ∧ Jx (pre ++ [x]) W'))
    (hBs : W.cell? ⟨Bs, 0, none⟩ = some sv) (hI : SRowB n₀ ns sv W) (h0 : J [] W) :
    CallsIn Fence.wide 5 Tryd.prog 59 #[.func (.yield l) #[] #[], .pointer (some ⟨Bs, 0, none⟩)] W fun e W' => (∃ v, e = .returned v) ∧
      ((∃ xs, xs = ns ∧ J xs W') ∨ (∃ pre, (∃ t, pre ++ t = ns) ∧ Jx pre W')) := by
  obtain ⟨a, cap, rfl, hc⟩ := hI
  obtain ⟨N, hn⟩ : ∃ N, N = ns.length := ⟨_, rfl⟩
  rw [← hn] at hN hBs hc hY
  have HN : Hid (N = ns.length) := hn
  clear hn
  refine callsIn_of_wp Tryd.func59 rfl trivial ?_ rfl
  simp only [Tryd.ntmps59, List.size_toArray, List.length_cons, List.length_nil, Nat.reduceAdd, Nat.reduceSub, Array.replicate_succ, Array.replicate_zero, List.push_toArray, List.append_toArray, List.nil_append, List.cons_append]
  gi_wp2
  gi_loopw [7] (fun i wr => ∃ k : Nat, k ≤ N ∧ i = .int .i64 k ∧ J (ns.take k) wr ∧ Below n₀ W wr) (fun i _ => N - (intOf i).toNat)
  case atStart => exact ⟨0, Nat.zero_le _, rfl, h0, Below.refl _ _⟩
  case round =>
    obtain ⟨k, hk, rfl, hJs, hnx⟩ := hrel
    by_cases hlt : k < N
    · obtain ⟨b, off, rfl, hb, hcc⟩ := hc (by omega)
      have hkn : k < ns.length := by rw [← HN.out]; exact hlt
      have hcx' := (hnx.cell (p := ⟨b, off + k, none⟩) hb).trans (hcc k hlt)
      obtain ⟨x, hx⟩ : ∃ x, x = ns.getD k [] := ⟨_, rfl⟩
      have HTK : Hid (ns.take (k + 1) = ns.take k ++ [x]) := by
        show _ = _
        rw [List.take_succ_eq_append_getElem hkn, hx]
        simp [hkn]
      rw [← hx] at hcx'
      obtain ⟨fn, tmps, assign, body, hy, hR⟩ := hY (ns.take k) x wr hJs (by rw [List.length_take, ← HN.out]; omega)
      obtain ⟨sx, hsx⟩ : ∃ sx, sx = strOf x := ⟨_, rfl⟩
      rw [← hsx] at hcx' hy
      have HW : Hid (Below n₀ W wr) := hnx
      clear hsx hx hcc hnx
      gi_wp2
      refine hR.mono ?_
      rintro e W3 (⟨rfl, hJ3, hk3⟩ | ⟨rfl, hJx3⟩)
      · gi_wp2
        go_roundw
        case rel => exact ⟨k + 1, by omega, by go_num, by rw [HTK.out]; exact hJ3, HW.out.trans hk3⟩
        case measure => simp [intOf]; omega
      · gi_wp2
        refine bodyPost_ret (results_none rfl _ _ _) rfl ?_
        exact ⟨⟨_, rfl⟩, .inr ⟨ns.take k ++ [x], ⟨ns.drop (k + 1), by rw [← HTK.out]; exact List.take_append_drop _ _⟩, hJx3⟩⟩
    · obtain rfl : k = N := by omega
      have hJ' : J ns wr := by rwa [List.take_of_length_le (by rw [← HN.out]; omega)] at hJs
      gi_wp2
      go_end0
      exact ⟨⟨_, rfl⟩, .inl ⟨_, rfl, hJ'⟩⟩
theorem valsStops (Bs n₀ : Nat) {ns : List (List Nat)} {sv : Value} (hN : ns.length ≤ 1000000) (w : World) (hB : Bs < w.heap.size) (hn₀ : n₀ ≤ w.heap.size) (hBs : w.cell? ⟨Bs, 0, none⟩ = some sv) (hI : SRowB n₀ ns sv w) :
    SeqStopsK Fence.wide 5 Tryd.prog 59 #[.pointer (some ⟨Bs, 0, none⟩)] (fun x : List Nat => #[.string (strOf x)]) (Below n₀) (fun xs => xs = ns) (fun pre => ∃ t, pre ++ t = ns) ns.length w :=
  fun l J Jx W hW hJ hJx hY h0 => valsIt l Bs n₀ hN J Jx W hY ((hW.cell (p := ⟨Bs, 0, none⟩) hB).trans hBs) (hI.below (hW.mono hn₀)) h0
theorem appSeq66 (Bs : Nat) {ns : List (List Nat)} {sv : Value} (hN : ns.length ≤ 1000000) (w : World) (hB : Bs < w.heap.size) (hBs : w.cell? ⟨Bs, 0, none⟩ = some sv) (hI : SRowB w.heap.size ns sv w) :
    CallsIn Fence.wide 6 Tryd.prog 66 #[.slice none 0 0, .func (.func 59) #[] #[.pointer (some ⟨Bs, 0, none⟩)]] w fun e w' => ∃ v, e = .returned v ∧ w'.ownsRow w.heap.size 9 1 v ns.length (strsV ns) ∧ Below w.heap.size w w' := by
  obtain ⟨i0, hi, hz0, hz1, hz2⟩ := str9_info
  refine callsIn_of_wp_marks Tryd.func66 rfl trivial ?_ rfl
  simp only [Tryd.ntmps66, List.size_toArray, List.length_cons, List.length_nil, Nat.reduceAdd, Nat.reduceSub, Array.replicate_succ, Array.replicate_zero, List.push_toArray, List.append_toArray, List.nil_append, List.cons_append]
  gi_wp2
  have bO := Boxed.new w 33 (.slice none 0 0)
  have hB0 : Below w.heap.size w (w.alloc (.cells #[.slice none 0 0] 33)) := below1 _ _
  refine wpIn_rangeFunc_ownG rfl (by decide) (gf := 59) (lb := #[.pointer (some ⟨Bs, 0, none⟩)]) rfl trivial (enters_of Tryd.func59 (by kernel_rfl) rfl)
    (valsStops Bs w.heap.size hN _ (by simp; omega) (by simp) ((hB0.cell (p := ⟨Bs, 0, none⟩) hB).trans hBs) (hI.below hB0)) belowK_t (belowK_b (by simp)) (Below.refl _ _) (fun _ => rfl)
    (fun pre W => (∃ v, Boxed W w.heap.size 33 v ∧ W.ownsRow w.heap.size 9 1 v pre.length (strsV pre) ∧ True) ∧ Below w.heap.size w W)
    (fun _ _ _ => False)
    (OwnFrom.and (Go.Own.from (holdsRow_own w.heap.size w.heap.size 33 9 1 (fun pre => pre.length) (fun pre => strsV pre) (fun pre v => True)) _) (ownFrom_below (Nat.le_refl _) (by simp)))
    (fun _ _ _ _ _ hs _ _ => hs)
    ⟨⟨_, bO, World.ownsRow_nil _ _ _ _, trivial⟩, hB0⟩
    (fun x => { tmps := #[.slice none 0 0, .func (.func 59) #[] #[.pointer (some ⟨Bs, 0, none⟩)], .pointer (some ⟨w.heap.size, 0, none⟩), undef, .slice none 0 0, .string (strOf x), .func (.func 59) #[] #[.pointer (some ⟨Bs, 0, none⟩)], .string (strOf x), undef, undef, undef, undef, undef], defers := [] }) ?assign ?body ?done ?stop
  case assign =>
    intro l x W K hK
    gi_wp2
    exact hK
  case body =>
    rintro l pre x W ⟨⟨v, hv, hrow, _⟩, hB⟩ hlt
    have hc := hv.cell
    obtain ⟨sx, hsx⟩ : ∃ sx, sx = strOf x := ⟨_, rfl⟩
    have HSX : Hid (strsV (pre ++ [x]) = strsV pre ++ [.string sx]) := by show _ = _; rw [strsV_app, hsx]
    rw [← hsx]
    clear hsx
    gi_wp2_with (gi_at_builtin; refine wpListIn_append_own _ rfl _ _ 33 rfl w.heap.size 9 i0 (.string ⟨#[]⟩) 1 16 Tryd.underlying33 hi hz0 hz1 hz2 rfl (by decide) _ _ _ rfl (hrow.alloc _) ⟨W.heap.size, 0, none⟩ 1 1 [.string sx] rfl rfl (cell_one_new _ _ _) str9_one (by unfold maxLen; omega) (by omega) (by have := hB.size; simp; omega) ?_; intro v' w1 hown' hgrow _; obtain ⟨g', cap', rfl⟩ := ownsRow_succ hown'; obtain ⟨hv1, hv2, hr2, hk2, hb2⟩ := hv.appended (by decide) hrow hB.size (Nat.le_refl _) hown' hgrow; have hc1 := hv1.cell; have hf1 := hv1.frozen)
    exact ⟨hk2.from _, hb2, ⟨_, hv2, by rw [HSX.out]; simpa using hr2, trivial⟩, hB.trans hb2⟩
  case done =>
    rintro D ys W hD rfl ⟨⟨v, hv, hrow, _⟩, hB⟩ hK
    have hc := hv.cell
    gi_wp2
    refine ⟨by simp, .inl ⟨_, _, rfl, run_takeDeferred hK, ?_⟩⟩
    exact ⟨_, results_tmp rfl _ _ _, v, rfl, ownsRow_putObj hrow _ hK rfl, hB.trans (belowK_b (w := w) (Nat.le_refl _) W D _ _ (by simp at hD; omega) hK rfl rfl)⟩
  case stop =>
    rintro D c pre W _ _ h _
    exact h.elim
end Go.Proofs.YtbidoiipebokoaaDoor
set_option linter.unusedVariables false
set_option linter.unusedSimpArgs false
namespace Go.Proofs.YtbidoiipebokoaaDoor
open Go.RowKit Go.Sort Go.BigFrame
set_option maxRecDepth 100000
set_option maxHeartbeats 4000000
theorem strsV_enc (ns : List (List Nat)) : strsV ns = (ns.map bytesU).map encStr := by
  unfold strsV
  rw [List.map_map]
  apply List.map_congr_left
  intro x _
  show Value.string (strOf x) = Value.string ⟨(bytesU x).toArray⟩
  rw [strOf_arr]
theorem coll57 (Bs : Nat) {ns : List (List Nat)} {sv : Value} (hN : ns.length ≤ 1000000) (w : World) (hB : Bs < w.heap.size) (hBs : w.cell? ⟨Bs, 0, none⟩ = some sv) (hI : SRowB w.heap.size ns sv w) :
    Calls Tryd.prog 57 #[.func (.func 59) #[] #[.pointer (some ⟨Bs, 0, none⟩)]] w fun e w' => ∃ v, e = .returned v ∧ w'.ownsRow w.heap.size 9 1 v ns.length (strsV ns) ∧ Below w.heap.size w w' := by
  have h1 := callsIn_wide.1 (appSeq66 Bs hN w hB hBs hI)
  have HN : Hid (ns.length ≤ 1000000) := hN
  clear hI hBs hN
  go_enter Tryd.func57, Tryd.ntmps57
  go_wp2_with fail
  refine h1.mono ?_
  rintro e w1 ⟨v, rfl, hrow, hB1⟩
  clear h1
  go_wp2
  go_ret
  exact ⟨_, rfl, hrow, hB1⟩
theorem srt40 (Bs : Nat) {ns : List (List Nat)} {sv : Value} (hN : ns.length ≤ 1000000) (w : World) (hB : Bs < w.heap.size) (hBs : w.cell? ⟨Bs, 0, none⟩ = some sv) (hI : SRowB w.heap.size ns sv w) :
    Calls Tryd.prog 40 #[.func (.func 59) #[] #[.pointer (some ⟨Bs, 0, none⟩)]] w fun e w' => ∃ v, e = .returned v ∧
      w'.ownsRow w.heap.size 9 1 v ns.length (((ns.map bytesU).mergeSort fun x y => decide (x ≤ y)).map encStr) ∧ Below w.heap.size w w' := by
  have h1 := coll57 Bs hN w hB hBs hI
  rw [strsV_enc] at h1
  have HN : Hid (ns.length ≤ 1000000) := hN
  obtain ⟨ss, hss⟩ : ∃ ss, ss = ns.map bytesU := ⟨_, rfl⟩
  have hl : ss.length = ns.length := by rw [hss]; simp
  rw [← hss] at h1 ⊢
  obtain ⟨N, hNn⟩ : ∃ N, N = ns.length := ⟨_, rfl⟩
  rw [← hNn] at h1 hl HN ⊢
  clear hI hBs hN hss hNn
  go_enter Tryd.func40, Tryd.ntmps40
  go_wp2_with fail
  refine h1.mono ?_
  rintro e w1 ⟨v, rfl, hrow, hB1⟩
  clear h1
  have HROW : Hid _ := hrow
  rcases hrow.2 with ⟨rfl, hz⟩ | ⟨g, cap, cur, rfl, hbase, hgb, r1, r2, r3, r4⟩
  · have hs0 : ss = [] := List.eq_nil_of_length_eq_zero (by omega)
    have hS := Tryd.slices_Sort_string_none none 0 w1
    have HR2 : Hid (w1.ownsRow w.heap.size 9 1 (.slice none 0 0) N ((ss.mergeSort fun x y => decide (x ≤ y)).map encStr)) := by
      show World.ownsRow _ _ _ _ _ _ _
      have := HROW.out
      rw [hs0] at this ⊢
      rw [List.mergeSort_nil]
      exact this
    clear hrow HROW hs0 hl
    go_wp2_with fail
    refine hS.mono ?_
    rintro e w2 ⟨rfl, rfl⟩
    go_wp2
    go_ret
    exact ⟨_, rfl, HR2.out, hB1⟩
  · have hH : Holds encStr w1 g 0 ss.toArray := holds_of_block hgb (by rw [hl]; simpa using r4)
    have hgl := lt_of_heap hgb
    have hS := Tryd.slices_Sort_string g 0 cap ss w1 hH hgl (by have := HN.out; omega)
    rw [hl] at hS
    have HGB : Hid _ := hgb
    have HR : Hid (N ≤ cap ∧ cap ≤ maxLen ∧ cur.size = cap * 1) := ⟨r1, r2, r3⟩
    clear hH hgb r1 r2 r3 r4 hrow HROW
    go_wp2_with fail
    refine hS.mono ?_
    rintro e w2 ⟨rfl, n, os, hw2⟩
    have HW2 : Hid _ := hw2
    clear hS hw2
    go_wp2
    go_ret
    obtain ⟨r1, r2, r3⟩ := HR.out
    have hows : w2.ownsRow w.heap.size 9 1 (.slice (some ⟨g, 0, none⟩) N cap) N ((ss.mergeSort fun x y => decide (x ≤ y)).map encStr) := by
      have := ownsRow_sorted (n := n) (os := os) (ss := ss) (ts := ss.mergeSort fun x y => decide (x ≤ y)) (by simp) hbase HGB.out (by rw [hl]; exact r1) r2 r3
      rw [hl, ← HW2.out] at this
      exact this
    refine ⟨_, rfl, hows, ?_⟩
    rw [HW2.out]
    exact hB1.grown (grownBy_sorted _) hB1.size (fun j hj => by cases hj; exact hbase)
theorem putCells_at {ts : List (List UInt8)} {cur : Array Value} (h : ts.length ≤ cur.size) {i : Nat} (hi : i < ts.length) : (putCells encStr 0 ts.toArray cur)[i]? = some (encStr ts[i]) := by
  have this : ((putCells encStr 0 ts.toArray cur).toList.take ts.length)[i]? = (ts.map encStr)[i]? := by rw [take_putCells cur ts h]
  rw [List.getElem?_take_of_lt hi, Array.getElem?_toList] at this
  rw [this]
  simp [hi]
theorem cmp39 {base : Nat} {zs : List (List UInt8)} {out : List (List Nat)} {v : Value} (w : World) (hb : base ≤ w.heap.size) (hrow : w.ownsRow base 9 1 v zs.length (zs.map encStr)) (hN : zs.length ≤ 1000000) (hout : Lib.compact zs = out.map bytesU) (hd : ∀ x ∈ out, Dig x) (hlen : out.length ≤ zs.length) :
    Calls Tryd.prog 39 #[v] w fun e w' => ∃ v', e = .returned v' ∧ Below base w w' ∧ OwnS base out v' w' := by
  rcases hrow.2 with ⟨rfl, hz⟩ | ⟨g, cap, cur, rfl, hbase, hgb, r1, r2, r3, r4⟩
  · rw [hz] at hlen
    have ho : out = [] := List.eq_nil_of_length_eq_zero (by omega)
    have hS := Tryd.slices_Compact_string_empty none 0 w
    refine hS.mono ?_
    rintro e w2 ⟨rfl, rfl⟩
    exact ⟨_, rfl, Below.refl _ _, none, 0, by rw [ho]; rfl, by rw [ho]; simp, by decide, fun hp => by rw [ho] at hp; simp at hp⟩
  · have hH : Holds encStr w g 0 zs.toArray := holds_of_block hgb (by simpa using r4)
    have hS := Tryd.slices_Compact_string g 0 cap zs w hH (by omega) r1
    rw [hout, List.length_map] at hS
    refine hS.mono ?_
    rintro e w2 ⟨rfl, q, hw2⟩
    obtain ⟨ts, hts⟩ : ∃ ts, ts = out.map bytesU ++ List.replicate (zs.length - out.length) [] := ⟨_, rfl⟩
    rw [← hts] at hw2
    have htl : ts.length = zs.length := by rw [hts]; simp; omega
    have hw2' : w2 = grow (putRow encStr (Sort.ahead w q) g 0 ts.toArray) #[] := by rw [grow_empty]; exact hw2
    have hg2 : w2.heap[g]? = some (.cells (putCells encStr 0 ts.toArray cur) 9 (0, 0)) := by rw [hw2']; exact heap_sorted _ hgb
    refine ⟨_, rfl, ?_, some ⟨g, 0, none⟩, cap, rfl, by omega, by unfold maxLen at r2; omega, fun hp => ⟨g, 0, _, rfl, hbase, hg2, fun i hi => ⟨strOf out[i], ?_, ?_⟩⟩⟩
    · rw [hw2']
      exact (Below.refl base w).grown (grownBy_sorted _) hb (fun j hj => by cases hj; exact hbase)
    · rw [Nat.zero_add, putCells_at (by omega) (by omega)]
      have e : ts[i] = bytesU out[i] := by
        simp only [hts]
        rw [List.getElem_append_left (by simpa using hi)]
        simp
      rw [e]
      show some (Value.string ⟨(bytesU out[i]).toArray⟩) = _
      rw [strOf_arr]
    · rw [getD_at hi]
      exact str_strOf (hd _ (List.getElem_mem hi))
theorem setP {ns : List (List Nat)} {v : Value} (w : World) (hv : SRow ns v w) (hlen : ∀ x ∈ ns, x.length ≤ 9223372036854775807) (hnn : ns.length ≤ 8) : Calls Tryd.prog 23 #[v] w (SetR ns w) := by
  have hdig := srow_dig9 hv
  have HV : Hid (SRow ns v w) := hv
  obtain ⟨a, cap, rfl, hc, hcap, hrow⟩ := hv
  obtain ⟨N, hn⟩ : ∃ N, N = ns.length := ⟨_, rfl⟩
  have HN : Hid (N = ns.length) := hn
  rw [← hn] at hnn hrow HV hc ⊢
  clear hn hc
  go_enter Tryd.func23, Tryd.ntmps23
  go_wp2_with fail
  go_loopw [9] (fun i wr => ∃ k : Nat, k ≤ N ∧ i = .int .i64 k ∧ (∀ j, j < k → selB (ns.getD j []) = true) ∧ Below w.heap.size w wr) (fun i _ => N - (intOf i).toNat)
  case atStart => exact ⟨0, by omega, rfl, fun j hj => by omega, Below.refl _ _⟩
  case round =>
    obtain ⟨k, hk, rfl, hall, hB⟩ := hrel
    have HA : Hid (∀ j, j < k → selB (ns.getD j []) = true) := hall
    clear hall
    by_cases hlt : k < N
    · obtain ⟨b, off, rfl, hcc⟩ := hrow (by omega)
      obtain ⟨s, hs1, hs2⟩ := hcc k hlt
      have hkn : k < ns.length := by rw [← HN.out]; exact hlt
      have hx : s.size ≤ 9223372036854775807 := by
        rw [hs2.size, getD_at hkn]; exact hlen _ (List.getElem_mem hkn)
      have hcell := (hB.cell (p := ⟨b, off + k, none⟩) (block_lt_of_cell hs1)).trans hs1
      have hsel := selP wr hs2 hx
      unfold Ret at hsel
      obtain ⟨bb, hbb⟩ : ∃ bb, bb = selB (ns.getD k []) := ⟨_, rfl⟩
      rw [← hbb] at hsel
      have HBB : Hid (bb = selB (ns.getD k [])) := hbb
      clear hcc hs1 hs2 hbb hrow
      cases bb with
      | true =>
        go_wp2_with fail
        refine hsel.mono ?_
        rintro e w2 ⟨_, rfl, hB2, rfl⟩
        clear hsel
        go_wp2
        go_roundw
        case rel =>
          refine ⟨k + 1, by omega, by go_num, fun j hj => ?_, hB.trans (hB2.mono hB.size)⟩
          by_cases hjk : j = k
          · rw [hjk]; exact HBB.out.symm
          · exact HA.out j (by omega)
        case measure => simp [intOf]; omega
      | false =>
        have HR : Hid (setR ns = .error 13) := by
          show _ = _
          unfold setR
          rw [if_neg]
          intro h
          have := List.all_eq_true.1 h (ns[k]) (List.getElem_mem hkn)
          rw [← getD_at hkn, ← HBB.out] at this
          cases this
        go_wp2_with fail
        refine hsel.mono ?_
        rintro e w2 ⟨_, rfl, hB2, rfl⟩
        clear hsel
        go_wp2
        go_ret2
        refine ⟨_, _, rfl, hB.trans (hB2.mono hB.size), ?_⟩
        rw [HR.out]
        exact ⟨rfl, rfl⟩
    · obtain rfl : k = N := by omega
      have hallB : ns.all selB = true := List.all_eq_true.2 (fun x hx => by
        obtain ⟨i, hi, rfl⟩ := List.getElem_of_mem hx
        rw [← getD_at hi]
        exact HA.out i (by rw [HN.out]; exact hi))
      have HR : Hid (setR ns = if (setL ns).length ≤ 4 then .ok (setL ns) else .error 4) := by
        show _ = _
        unfold setR
        rw [if_pos hallB]
      have hvals := vals41 a k cap wr
      obtain ⟨w1, hw1⟩ : ∃ w1, w1 = wr.alloc (.cells #[.slice a k cap] 33) := ⟨_, rfl⟩
      rw [← hw1] at hvals
      have hB1 : Below wr.heap.size wr w1 := by rw [hw1]; exact below1 _ _
      have hcl : w1.cell? ⟨wr.heap.size, 0, none⟩ = some (.slice a k cap) := by rw [hw1]; exact cell_new9 wr _ _
      have hs1 : w1.heap.size = wr.heap.size + 1 := by rw [hw1]; simp
      have hBw1 : Below w.heap.size w w1 := hB.trans (hB1.mono hB.size)
      have hSR : SRowB w1.heap.size ns (.slice a k cap) w1 := (SRow.stb _ _ _ _ hBw1 HV.out).B
      have hsrt := srt40 wr.heap.size (by rw [← HN.out]; omega) w1 (by omega) hcl hSR
      have HB1 : Hid (Below w.heap.size w w1) := hBw1
      obtain ⟨zs, hzs⟩ : ∃ zs, zs = (ns.map bytesU).mergeSort fun x y => decide (x ≤ y) := ⟨_, rfl⟩
      have hzl : zs.length = k := by rw [hzs, List.length_mergeSort, List.length_map, ← HN.out]
      have HC : Hid (Lib.compact zs = (setL ns).map bytesU) := by show _ = _; rw [hzs]; exact compact_set hdig
      have hsl : (setL ns).length ≤ zs.length := by rw [hzl, HN.out]; exact setL_len ns
      have hsd : ∀ x ∈ setL ns, Dig x := fun x hx => hdig x ((mem_setL x ns).1 hx)
      rw [← hzs, ← HN.out, ← hzl] at hsrt
      have HZL : Hid (zs.length = k) := hzl
      clear hrow hallB hw1 hB1 hcl hSR hzs hzl hBw1
      go_wp2_with fail
      refine hvals.mono ?_
      rintro e w2 ⟨rfl, rfl⟩
      clear hvals
      go_wp2_with fail
      refine hsrt.mono ?_
      rintro e w3 ⟨v3, rfl, hrow3, hB3⟩
      clear hsrt
      have hcmp := cmp39 w3 hB3.size hrow3 (by rw [HZL.out]; omega) HC.out hsd hsl
      have HB3 : Hid _ := hB3
      clear hrow3 hB3
      go_wp2_with fail
      refine hcmp.mono ?_
      rintro e w4 ⟨v4, rfl, hB4, hown⟩
      clear hcmp
      have HO : Hid _ := hown
      have hBall : Below w.heap.size w w4 := HB1.out.trans ((HB3.out.trans hB4).mono HB1.out.size)
      have HBA : Hid _ := hBall
      have HOO : Hid (OwnS w.heap.size (setL ns) v4 w4) := by
        obtain ⟨x1, x2, x3, x4, x5, x6⟩ := HO.out
        refine ⟨x1, x2, x3, x4, x5, fun hp => ?_⟩
        obtain ⟨y1, y2, y3, y4, y5, y6, y7⟩ := x6 hp
        exact ⟨y1, y2, y3, y4, by have := HB1.out.size; omega, y6, y7⟩
      obtain ⟨x1, x2, rfl, _⟩ := hown
      obtain ⟨M, hM⟩ : ∃ M, M = (setL ns).length := ⟨_, rfl⟩
      rw [← hM] at HR HOO ⊢
      have hM8 : M ≤ 8 := by rw [hM]; have := setL_len ns; rw [← HN.out] at this; omega
      clear hM hBall hB4 HO hsl hsd
      by_cases c4 : 4 < M
      · have i4 : (4 : Int) < (M : Int) := by omega
        have HR4 : Hid (setR ns = .error 4) := by show _ = _; rw [HR.out, if_neg (by omega)]
        go_wp2
        go_ret2
        refine ⟨_, _, rfl, HBA.out, ?_⟩
        rw [HR4.out]
        exact ⟨rfl, rfl⟩
      · have i4 : ¬ (4 : Int) < (M : Int) := by omega
        have HR4 : Hid (setR ns = .ok (setL ns)) := by show _ = _; rw [HR.out, if_pos (by omega)]
        go_wp2
        go_ret2
        refine ⟨_, _, rfl, HBA.out, ?_⟩
        rw [HR4.out]
        exact ⟨rfl, HOO.out⟩
end Go.Proofs.YtbidoiipebokoaaDoor
namespace Go.Proofs.YtbidoiipebokoaaDoor
end Go.Proofs.YtbidoiipebokoaaDoor
set_option linter.unusedVariables false
set_option linter.unusedSimpArgs false
namespace Go.Proofs.YtbidoiipebokoaaDoor
open Go.RowKit Go.Sort Go.BigFrame
set_option maxRecDepth 100000
set_option maxHeartbeats 4000000
theorem livesI (W : World) : Ret 19 #[] W (Is (.bool true)) := by
  have HW : Hid (Below W.heap.size W W) := Below.refl _ _
  have h1 := parseP W (str_mk (a := #[115, 112, 105, 102, 102, 101, 58, 47, 47, 97, 46, 111, 114, 103, 47, 100, 98]) (l := [115, 112, 105, 102, 102, 101, 58, 47, 47, 97, 46, 111, 114, 103, 47, 100, 98]) (by decide)) (by decide)
  obtain ⟨D, hD⟩ : ∃ D, D = strOf [97, 46, 111, 114, 103] := ⟨_, rfl⟩
  obtain ⟨P, hP⟩ : ∃ P, P = strOf [47, 100, 98] := ⟨_, rfl⟩
  rw [show parseE [115, 112, 105, 102, 102, 101, 58, 47, 47, 97, 46, 111, 114, 103, 47, 100, 98] = .tuple #[.string (strOf [97, 46, 111, 114, 103]), .string (strOf [47, 100, 98]), .int .i64 0] by kernel_rfl, ← hD, ← hP] at h1
  have q1 := str_lit_eq (a := #[97, 46, 111, 114, 103]) (l := [97, 46, 111, 114, 103]) (b := [97, 46, 111, 114, 103]) (show Str D [97, 46, 111, 114, 103] by rw [hD]; exact str_strOf (dig_lt (by decide))) (by decide) (by decide)
  have q2 := str_lit_eq (a := #[47, 100, 98]) (l := [47, 100, 98]) (b := [47, 100, 98]) (show Str P [47, 100, 98] by rw [hP]; exact str_strOf (dig_lt (by decide))) (by decide) (by decide)
  rw [decide_eq_true rfl] at q1 q2
  clear hD hP
  unfold Ret
  go_enter Tryd.func19, Tryd.ntmps19
  go_wp2_with fail
  refine Calls.mono (h1) ?_
  rintro e w1 ⟨_, rfl, hB, rfl⟩
  have hs := HW.out.size
  have Hw1 : Hid (Below W.heap.size W w1) := HW.out.trans (hB.mono hs)
  clear hB hs
  clear h1
  have hS := new_srow w1 (cs := #[.string ⟨#[117, 105, 100, 58, 50]⟩, .string ⟨#[117, 105, 100, 58, 49]⟩, .string ⟨#[117, 105, 100, 58, 50]⟩]) (ns := [[117, 105, 100, 58, 50], [117, 105, 100, 58, 49], [117, 105, 100, 58, 50]]) rfl (by decide) (fun i hi => by
    match i, hi with
    | 0, _ => exact ⟨_, rfl, str_mk (by decide)⟩
    | 1, _ => exact ⟨_, rfl, str_mk (by decide)⟩
    | 2, _ => exact ⟨_, rfl, str_mk (by decide)⟩)
  have h2 := setP _ hS (by decide) (by decide)
  have HA : Hid (Below W.heap.size W (w1.alloc (.cells #[.string ⟨#[117, 105, 100, 58, 50]⟩, .string ⟨#[117, 105, 100, 58, 49]⟩, .string ⟨#[117, 105, 100, 58, 50]⟩] 9))) := Hw1.out.alloc Hw1.out.size _
  clear hS
  go_wp2_with fail
  refine Calls.mono h2 ?_
  rintro e w2 ⟨v, er, rfl, hB, hR⟩
  rw [show setR [[117, 105, 100, 58, 50], [117, 105, 100, 58, 49], [117, 105, 100, 58, 50]] = .ok [[117, 105, 100, 58, 49], [117, 105, 100, 58, 50]] by kernel_rfl] at hR
  obtain ⟨rfl, hM⟩ := hR
  have hs := HA.out.size
  have Hw2 : Hid (Below W.heap.size W w2) := HA.out.trans (hB.mono hs)
  have hr := SRow.stb _ _ _ _ (below1 w2 (.cells #[.string ⟨#[117, 105, 100, 58, 49]⟩, .string ⟨#[117, 105, 100, 58, 50]⟩] 9)) hM.rowM.row
  have hS := new_srow w2 (cs := #[.string ⟨#[117, 105, 100, 58, 49]⟩, .string ⟨#[117, 105, 100, 58, 50]⟩]) (ns := [[117, 105, 100, 58, 49], [117, 105, 100, 58, 50]]) rfl (by decide) (fun i hi => by
    match i, hi with
    | 0, _ => exact ⟨_, rfl, str_mk (by decide)⟩
    | 1, _ => exact ⟨_, rfl, str_mk (by decide)⟩)
  have h3 := same9 _ hr hS
  rw [decide_eq_true rfl] at h3
  have HA2 : Hid (Below W.heap.size W (w2.alloc (.cells #[.string ⟨#[117, 105, 100, 58, 49]⟩, .string ⟨#[117, 105, 100, 58, 50]⟩] 9))) := Hw2.out.alloc Hw2.out.size _
  clear h2 HA hB hs hr hS hM
  go_wp2_with fail
  refine Calls.mono h3 ?_
  rintro e w3 ⟨_, rfl, hB, rfl⟩
  have hs := HA2.out.size
  have Hw3 : Hid (Below W.heap.size W w3) := HA2.out.trans (hB.mono hs)
  have h4 := pathP w3 (str_mk (a := #[47, 97, 47, 46, 46, 47, 98]) (l := [47, 97, 47, 46, 46, 47, 98]) (by decide)) (by decide)
  rw [show pathB [47, 97, 47, 46, 46, 47, 98] = false by kernel_rfl] at h4
  clear h3 HA2 hB hs
  go_wp2_with fail
  refine Calls.mono (h4) ?_
  rintro e w4 ⟨_, rfl, hB, rfl⟩
  have hs := Hw3.out.size
  have Hw4 : Hid (Below W.heap.size W w4) := Hw3.out.trans (hB.mono hs)
  clear hB hs
  go_wp2
  go_ret
  exact ⟨_, rfl, Hw4.out, rfl⟩
end Go.Proofs.YtbidoiipebokoaaDoor
set_option linter.unusedVariables false
set_option linter.unusedSimpArgs false
namespace Go.Proofs.YtbidoiipebokoaaDoor
open Go.RowKit Go.Sort Go.BigFrame
set_option maxRecDepth 100000
set_option maxHeartbeats 4000000
theorem idsParts (W : World) {s : ByteArray} {bs : List Nat} (h : Str s bs) (hl : s.size ≤ 9223372036854775807) : Ret 3 #[.string s] W (Is (.bool true)) := by
  have HW : Hid (Below W.heap.size W W) := Below.refl _ _
  have HS0 : Hid (Str s bs) := h
  clear h
  unfold Ret
  go_enter Tryd.func3, Tryd.ntmps3
  go_wp2_with fail
  refine Calls.mono (few9 W HS0.out hl) ?_
  rintro e wx ⟨⟨S, rfl, hS⟩, hwx⟩
  rw [hwx]
  clear hwx
  have hzS : S.size ≤ 80 := by rw [hS.size]; simp; omega
  obtain ⟨lS, hlS⟩ : ∃ x, x = bs.take 80 := ⟨_, rfl⟩
  rw [← hlS] at hS
  have HS : Hid (Str S lS) := hS
  clear hS hlS
  obtain ⟨b0, hb0⟩ : ∃ b, b = domB lS := ⟨_, rfl⟩
  have hp0 := domP W HS.out (by omega)
  rw [← hb0] at hp0
  have HB0 : Hid (b0 = domB lS) := hb0
  clear hb0
  go_wp2_with fail
  refine Calls.mono (hp0) ?_
  rintro e w1 ⟨_, rfl, hB, rfl⟩
  have hs := HW.out.size
  have Hw1 : Hid (Below W.heap.size W w1) := HW.out.trans (hB.mono hs)
  clear hB hs
  have hr0 := dom9 w1 HS.out (by omega)
  rw [← HB0.out] at hr0
  have hq0 : (b0 == b0) = true := by simp
  go_wp2_with fail
  refine Calls.mono (hr0) ?_
  rintro e wx ⟨rfl, hwx⟩
  rw [hwx]
  clear hwx
  clear hp0 hr0 HB0
  obtain ⟨b1, hb1⟩ : ∃ b, b = pathB lS := ⟨_, rfl⟩
  have hp1 := pathP w1 HS.out (by omega)
  rw [← hb1] at hp1
  have HB1 : Hid (b1 = pathB lS) := hb1
  clear hb1
  go_wp2_with fail
  refine Calls.mono (hp1) ?_
  rintro e w2 ⟨_, rfl, hB, rfl⟩
  have hs := Hw1.out.size
  have Hw2 : Hid (Below W.heap.size W w2) := Hw1.out.trans (hB.mono hs)
  clear hB hs
  have hr1 := path9 w2 HS.out (by omega)
  rw [← HB1.out] at hr1
  have hq1 : (b1 == b1) = true := by simp
  go_wp2_with fail
  refine Calls.mono (hr1) ?_
  rintro e wx ⟨rfl, hwx⟩
  rw [hwx]
  clear hwx
  clear hp1 hr1 HB1
  obtain ⟨b2, hb2⟩ : ∃ b, b = agentB lS := ⟨_, rfl⟩
  have hp2 := agentP w2 HS.out (by omega)
  rw [← hb2] at hp2
  have HB2 : Hid (b2 = agentB lS) := hb2
  clear hb2
  go_wp2_with fail
  refine Calls.mono (hp2) ?_
  rintro e w3 ⟨_, rfl, hB, rfl⟩
  have hs := Hw2.out.size
  have Hw3 : Hid (Below W.heap.size W w3) := Hw2.out.trans (hB.mono hs)
  clear hB hs
  have hr2 := agent9 w3 HS.out (by omega)
  rw [← HB2.out] at hr2
  have hq2 : (b2 == b2) = true := by simp
  go_wp2_with fail
  refine Calls.mono (hr2) ?_
  rintro e wx ⟨rfl, hwx⟩
  rw [hwx]
  clear hwx
  clear hp2 hr2 HB2
  obtain ⟨b3, hb3⟩ : ∃ b, b = selB lS := ⟨_, rfl⟩
  have hp3 := selP w3 HS.out (by omega)
  rw [← hb3] at hp3
  have HB3 : Hid (b3 = selB lS) := hb3
  clear hb3
  go_wp2_with fail
  refine Calls.mono (hp3) ?_
  rintro e w4 ⟨_, rfl, hB, rfl⟩
  have hs := Hw3.out.size
  have Hw4 : Hid (Below W.heap.size W w4) := Hw3.out.trans (hB.mono hs)
  clear hB hs
  have hr3 := sel9 w4 HS.out (by omega)
  rw [← HB3.out] at hr3
  have hq3 : (b3 == b3) = true := by simp
  go_wp2_with fail
  refine Calls.mono (hr3) ?_
  rintro e wx ⟨rfl, hwx⟩
  rw [hwx]
  clear hwx
  clear hp3 hr3 HB3
  go_wp2_with fail
  refine Calls.mono (livesI w4 ) ?_
  rintro e wz ⟨_, rfl, hB, rfl⟩
  have hs := Hw4.out.size
  have Hwz : Hid (Below W.heap.size W wz) := Hw4.out.trans (hB.mono hs)
  clear hB hs
  go_wp2
  go_ret
  exact ⟨_, rfl, Hwz.out, rfl⟩
theorem idsParses (W : World) {s : ByteArray} {bs : List Nat} (h : Str s bs) (hl : s.size ≤ 9223372036854775807) : Ret 4 #[.string s] W (Is (.bool true)) := by
  have HW : Hid (Below W.heap.size W W) := Below.refl _ _
  have HS0 : Hid (Str s bs) := h
  clear h
  unfold Ret
  go_enter Tryd.func4, Tryd.ntmps4
  go_wp2_with fail
  refine Calls.mono (few9 W HS0.out hl) ?_
  rintro e wx ⟨⟨S, rfl, hS⟩, hwx⟩
  rw [hwx]
  clear hwx
  have hzS : S.size ≤ 80 := by rw [hS.size]; simp; omega
  obtain ⟨lS, hlS⟩ : ∃ x, x = bs.take 80 := ⟨_, rfl⟩
  rw [← hlS] at hS
  have HS : Hid (Str S lS) := hS
  clear hS hlS
  cases hx : parseL lS with
  | none =>
    have h1 := parseP W HS.out (by omega)
    rw [show parseE lS = .tuple #[.string ⟨#[]⟩, .string ⟨#[]⟩, .int .i64 13] by unfold parseE; rw [hx]] at h1
    go_wp2_with fail
    refine Calls.mono (h1) ?_
    rintro e w1 ⟨_, rfl, hB, rfl⟩
    have hs := HW.out.size
    have Hw1 : Hid (Below W.heap.size W w1) := HW.out.trans (hB.mono hs)
    clear hB hs
    have h2 := parse9 w1 HS.out (by omega)
    rw [show parseV lS = .tuple #[.string ⟨#[]⟩, .string ⟨#[]⟩, .bool false] by unfold parseV; rw [hx]] at h2
    clear h1
    go_wp2_with fail
    refine Calls.mono (h2) ?_
    rintro e w2 ⟨_, rfl, hB, rfl⟩
    have hs := Hw1.out.size
    have Hw2 : Hid (Below W.heap.size W w2) := Hw1.out.trans (hB.mono hs)
    clear hB hs
    clear h2 hx
    go_wp2_with fail
    refine Calls.mono (livesI w2 ) ?_
    rintro e wz ⟨_, rfl, hB, rfl⟩
    have hs := Hw2.out.size
    have Hwz : Hid (Below W.heap.size W wz) := Hw2.out.trans (hB.mono hs)
    clear hB hs
    go_wp2
    go_ret
    exact ⟨_, rfl, Hwz.out, rfl⟩
  | some q =>
    obtain ⟨d, p⟩ := q
    obtain ⟨D, hD⟩ : ∃ D, D = strOf d := ⟨_, rfl⟩
    obtain ⟨P, hP⟩ : ∃ P, P = strOf p := ⟨_, rfl⟩
    have h1 := parseP W HS.out (by omega)
    rw [show parseE lS = .tuple #[.string D, .string P, .int .i64 0] by unfold parseE; rw [hx, hD, hP]] at h1
    have HX : Hid (parseL lS = some (d, p)) := hx
    have HD : Hid (D = strOf d) := hD
    have HP : Hid (P = strOf p) := hP
    clear hx hD hP
    go_wp2_with fail
    refine Calls.mono (h1) ?_
    rintro e w1 ⟨_, rfl, hB, rfl⟩
    have hs := HW.out.size
    have Hw1 : Hid (Below W.heap.size W w1) := HW.out.trans (hB.mono hs)
    clear hB hs
    have h2 := parse9 w1 HS.out (by omega)
    rw [show parseV lS = .tuple #[.string D, .string P, .bool true] by unfold parseV; rw [HX.out, HD.out, HP.out]] at h2
    have q1 : (D.toList == D.toList) = true := by simp
    have q2 : (P.toList == P.toList) = true := by simp
    clear h1
    go_wp2_with fail
    refine Calls.mono (h2) ?_
    rintro e w2 ⟨_, rfl, hB, rfl⟩
    have hs := Hw1.out.size
    have Hw2 : Hid (Below W.heap.size W w2) := Hw1.out.trans (hB.mono hs)
    clear hB hs
    clear h2 HX HD HP
    go_wp2_with fail
    refine Calls.mono (livesI w2 ) ?_
    rintro e wz ⟨_, rfl, hB, rfl⟩
    have hs := Hw2.out.size
    have Hwz : Hid (Below W.heap.size W wz) := Hw2.out.trans (hB.mono hs)
    clear hB hs
    go_wp2
    go_ret
    exact ⟨_, rfl, Hwz.out, rfl⟩
end Go.Proofs.YtbidoiipebokoaaDoor
set_option linter.unusedVariables false
set_option linter.unusedSimpArgs false
namespace Go.Proofs.YtbidoiipebokoaaDoor
open Go.RowKit Go.Sort Go.BigFrame
set_option maxRecDepth 100000
set_option maxHeartbeats 2000000
section
variable {H : Type} {enc : TypeId × Value → H} {w : World} {base : Nat} {spare : Nat → Bool} {held : Bool}
theorem cells9 : Tryd.prog.cellsOf 9 = 1 := by kernel_rfl
theorem srow_in {fuel : Nat} {cs : List Value} {x : DataW H × List MemPlace} (h : DataW.trod enc Tryd.prog w base spare held fuel 33 cs = some x) : ∃ v ns, cs = [v] ∧ SRow ns v w ∧ ∀ y ∈ ns, y.length ≤ 9223372036854775807 := by
  rcases DataW.trod_slice Tryd.underlying33 h with ⟨hcs, _⟩ | ⟨a, len, cap, elems, rest, m, _, hcs, _, _, hl, hm, he, hel, _⟩
  · exact ⟨_, [], hcs, ⟨none, 0, rfl, Nat.le_refl _, by decide, fun h => absurd h (by simp)⟩, fun y hy => by cases hy⟩
  · have key : ∀ i, i < len → ∃ s : ByteArray, w.cell? (a.add i) = some (.string s) ∧ s.size ≤ maxLen := fun i hi => by
      have h1 := hel i hi
      rw [List.getElem?_eq_getElem (by omega)] at h1
      obtain ⟨l, h2, h3⟩ := Option.bind_eq_some_iff.1 h1
      obtain ⟨h4, h5⟩ := cells_get h2
      obtain ⟨s, h6, _, h8⟩ := DataW.trod_string Tryd.underlying9 h3
      rw [h6] at h5
      have h7 := h5 0 (by rw [cells9]; decide)
      rw [cells9, Nat.mul_one] at h7
      exact ⟨s, by simpa [Addr.add] using h7, h8⟩
    by_cases hp : 0 < len
    · obtain ⟨s0, hs0, _⟩ := key 0 hp
      obtain ⟨b, off, rfl⟩ := addr_plain hs0
      have hex : ∃ f : Nat → ByteArray, ∀ i, i < len → w.cell? ⟨b, off + i, none⟩ = some (.string (f i)) ∧ (f i).size ≤ maxLen := by
        refine ⟨fun i => match w.cell? ⟨b, off + i, none⟩ with | some (.string s) => s | _ => ByteArray.empty, fun i hi => ?_⟩
        obtain ⟨s, hs, hz⟩ := key i hi
        rw [Addr.add_mid] at hs
        simp only [hs]
        exact ⟨trivial, hz⟩
      obtain ⟨f, hf⟩ := hex
      refine ⟨_, (List.range len).map fun i => (f i).data.toList.map UInt8.toNat, hcs, ⟨some ⟨b, off, none⟩, cap, by simp, by simpa using hl, by unfold maxLen at hm; omega, fun _ => ⟨b, off, rfl, fun i hi => ?_⟩⟩, fun y hy => ?_⟩
      · have hi' : i < len := by simpa using hi
        refine ⟨f i, (hf i hi').1, ?_⟩
        rw [show ((List.range len).map fun i => (f i).data.toList.map UInt8.toNat).getD i [] = (f i).data.toList.map UInt8.toNat by simp [hi']]
        exact str_of _
      · obtain ⟨i, hi, rfl⟩ := List.mem_map.1 hy
        have := (hf i (by simpa using hi)).2
        unfold maxLen at this
        rw [List.length_map]
        have e : (f i).data.toList.length = (f i).size := rfl
        omega
    · obtain rfl : len = 0 := by omega
      exact ⟨_, [], hcs, ⟨some a, cap, rfl, Nat.zero_le _, by unfold maxLen at hm; omega, fun h => absurd h (by simp)⟩, fun y hy => by cases hy⟩
theorem srow_arg {a : Option Addr} {len cap : Nat} {d : DataW H} {ps : List MemPlace} (h : DataW.Trod enc Tryd.prog w base spare held 33 (.slice a len cap) d ps) : ∃ ns, SRow ns (.slice a len cap) w ∧ ∀ y ∈ ns, y.length ≤ 9223372036854775807 := by
  obtain ⟨m, hm⟩ := h
  obtain ⟨v, ns, e, h1, h2⟩ := srow_in hm
  have e : [Value.slice a len cap] = [v] := e
  injection e with e _
  subst e
  exact ⟨ns, h1, h2⟩
end
end Go.Proofs.YtbidoiipebokoaaDoor
