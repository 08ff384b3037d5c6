/-
  The walk of the reference's block, at words of 32 bits. The walk of the reference's Primes, at 80. The roots that the reference reckons are the program's two tables. append(nil, data...), the data wherever they lie (nil too). What the reference hashes is the message filled up, block after block. The walk of the reference's block, at words of 64 bits. The walk of the reference's Sum, at words of 32 bits. The walk of the reference's Sum, at words of 64 bits. The walk of the reference's Of, at words of 32 bits.
-/
import Derived.Test.YtabgihjffjlfiaaGreatDoorC9
import Derived.Deep.RegionHeld3
import Derived.Deep.AppendLies
import Derived.Deep.DrawnRows
import Derived.Test.YtabgihjffjlfiaaGreatDoorC7
import Derived.Handy
import Derived.Test.YtabgihjffjlfiaaGreatDoorC1
set_option linter.unusedVariables false
namespace Go.Proofs.YtabgihjffjlfiaaGreatDoor
namespace SR
open Go.RowKit Go.Sort Go.BigFrame
set_option maxRecDepth 100000
set_option maxHeartbeats 2000000
attribute [local go_sem ↓] Go.wp_at_zero Go.wp_at_succ
def uv (l : List Nat) : List Value := l.map fun (x : Nat) => Value.int .u64 (x : Int)
theorem one_word {n : Int} : ∀ u ∈ [Value.int .u64 n], u.oneCell' = true := fun u hu => by rw [List.mem_singleton.1 hu]; rfl
structure Row3 (w : World) (g a b c : Nat) : Prop where
  a : w.cell? ⟨g, 0, none⟩ = some (.int .i64 (a : Int))
  b : w.cell? ⟨g, 1, none⟩ = some (.int .i64 (b : Int))
  c : w.cell? ⟨g, 2, none⟩ = some (.int .i64 (c : Int))
theorem Row3.below {w w' : World} {g a b c : Nat} (h : Row3 w g a b c) (hb : Below w.heap.size w w') : Row3 w' g a b c :=
  ⟨(hb.cell (p := ⟨g, 0, none⟩) (block_lt_of_cell (a := ⟨g, 0, none⟩) h.a)).trans h.a, (hb.cell (p := ⟨g, 1, none⟩) (block_lt_of_cell (a := ⟨g, 1, none⟩) h.b)).trans h.b, (hb.cell (p := ⟨g, 2, none⟩) (block_lt_of_cell (a := ⟨g, 2, none⟩) h.c)).trans h.c⟩
theorem own_form {w : World} {base n : Nat} {v : Value} {xs : List Value} (h : w.ownsRow base 55 1 v n xs) (hn : 0 < n) : ∃ g cap, v = .slice (some ⟨g, 0, none⟩) n cap ∧ base ≤ g ∧ n ≤ cap := by
  rcases h.2 with ⟨_, h0⟩ | ⟨g, cap, cur, hv, hb, hg, hnc, _⟩
  · omega
  · exact ⟨g, cap, hv, hb, hnc⟩
theorem own_word {w : World} {g B n cap : Nat} {l : List Nat} (h : w.ownsRow B 55 1 (.slice (some ⟨g, 0, none⟩) n cap) n (uv l)) (j : Nat) (hj : j < n) (x : Nat) (hx : l[j]? = some x) : w.cell? ⟨g, j, none⟩ = some (.int .u64 (x : Int)) := by
  rw [h.cellAt j (by omega)]; simp [uv, hx]
theorem own_on {w w1 : World} {g B n cap : Nat} {xs : List Value} (h : w.ownsRow B 55 1 (.slice (some ⟨g, 0, none⟩) n cap) n xs) (hb : Below w.heap.size w w1) : w1.ownsRow B 55 1 (.slice (some ⟨g, 0, none⟩) n cap) n xs :=
  h.kept (row := none) ⟨hb.os, hb.tape, hb.output, hb.size, fun k hk _ => hb.block k hk⟩ (.inr (by simp [Value.ownBlock]))
def Words (w : World) (g n : Nat) (l : List Nat) : Prop := ∀ j, j < n → w.cell? ⟨g, j, none⟩ = some (.int .u64 ((l.getD j 0 : Nat) : Int))
theorem Words.on {w w1 : World} {g n : Nat} {l : List Nat} (h : Words w g n l) (hb : Below w.heap.size w w1) : Words w1 g n l :=
  fun j hj => (hb.cell (p := ⟨g, j, none⟩) (block_lt_of_cell (a := ⟨g, j, none⟩) (h j hj))).trans (h j hj)
theorem words_of {w : World} {g B n cap : Nat} {l : List Nat} (h : w.ownsRow B 55 1 (.slice (some ⟨g, 0, none⟩) n cap) n (uv (l.take n))) (hl : n ≤ l.length) : Words w g n l :=
  fun j hj => own_word h j hj _ (by simp [hj, show j < l.length by omega])
theorem words_of8 {w : World} {g B cap : Nat} {l : List Nat} (h : w.ownsRow B 55 1 (.slice (some ⟨g, 0, none⟩) 8 cap) 8 (uv l)) (hl : l.length = 8) : Words w g 8 (ofL l).list := by
  have e : (ofL l).list = l := by
    match l, hl with
    | [a, b, c, d, e, f, g, h], _ => rfl
  rw [e]
  exact fun j hj => own_word h j hj _ (by simp [show j < l.length by omega])
theorem news_words {w : World} {g : Nat} (st : List Nat) (hst : st.length = 8) (h : ∀ i, i < 8 → w.cell? ⟨g, i, none⟩ = some (.int .u64 ((st.getD i 0 : Nat) : Int))) : ∀ (j : Nat) u, (uv st)[j]? = some u → w.cell? ((⟨g, 0, none⟩ : Addr).add j) = some u := by
  intro j u hj
  have hj' : j < 8 := by
    by_cases h : j < 8
    · exact h
    · rw [List.getElem?_eq_none (by simp [uv, hst]; omega)] at hj; cases hj
  rw [Addr.add_mid, Nat.zero_add, h j hj', ← hj]
  simp [uv, show j < st.length by omega]
theorem uv_one {l : List Nat} : ∀ u ∈ uv l, u.oneCell' = true := fun u hu => by
  obtain ⟨x, _, rfl⟩ := List.mem_map.1 hu; rfl
theorem ofL_lt (st : List Nat) (M : Nat) (h : ∀ j, st.getD j 0 < M) : (ofL st).lt M := ⟨h _, h _, h _, h _, h _, h _, h _, h _⟩
theorem words_alloc (w : World) (l : List Nat) (hl : l.length = 8) : Words (w.alloc (.cells (ints .u64 l) 55)) w.heap.size 8 l := fun j hj => cell_ints (heap_alloc_new _ _) j (by omega)
theorem zip8 (st : List Nat) (hst : st.length = 8) (a b c d e f g h M : Nat) (k : Nat) (hk : k < 8) : (List.zipWith (fun x y => (x + y) % M) st (⟨a, b, c, d, e, f, g, h⟩ : S8).list).getD k 0 = (st.getD k 0 + [a, b, c, d, e, f, g, h].getD k 0) % M := by
  match st, hst with
  | [s0, s1, s2, s3, s4, s5, s6, s7], _ =>
    have h8 : k = 0 ∨ k = 1 ∨ k = 2 ∨ k = 3 ∨ k = 4 ∨ k = 5 ∨ k = 6 ∨ k = 7 := by omega
    rcases h8 with rfl | rfl | rfl | rfl | rfl | rfl | rfl | rfl <;> rfl
theorem list8_lt {a b c d e f g h M : Nat} (ha : a < M) (hb : b < M) (hc : c < M) (hd : d < M) (he : e < M) (hf : f < M) (hg : g < M) (hh : h < M) (k : Nat) : [a, b, c, d, e, f, g, h].getD k 0 < M := by
  by_cases hk : k < 8
  · have h8 : k = 0 ∨ k = 1 ∨ k = 2 ∨ k = 3 ∨ k = 4 ∨ k = 5 ∨ k = 6 ∨ k = 7 := by omega
    rcases h8 with rfl | rfl | rfl | rfl | rfl | rfl | rfl | rfl <;> simpa
  · rw [List.getD_eq_getElem?_getD, List.getElem?_eq_none (by simp; omega)]; simp; omega
theorem ones64 (e : Nat) (he : e < 18446744073709551616) : bits .xor .u64 18446744073709551615 (e : Int) = ((2 ^ 64 - 1 - e : Nat) : Int) := by
  have h := u64_xor_nat 18446744073709551615 e (by decide) (by omega)
  have h2 : 18446744073709551615 ^^^ e = 2 ^ 64 - 1 - e := ones_xor 64 e he
  rw [h2] at h
  exact h
def RelB (w : World) (H : Array Value) (wr : World) : Prop := Below w.heap.size w wr ∧ wr.heap[w.heap.size]? = some (.cells H 102 (0, 0))
theorem RelB.on {w wr w1 : World} {H : Array Value} (h : RelB w H wr) (hb : Below wr.heap.size wr w1) : RelB w H w1 := ⟨h.1.trans (hb.mono h.1.size), block_below hb (lt_of_heap h.2) h.2⟩
theorem RelB.onB {w wr w1 : World} {H : Array Value} {B : Nat} (h : RelB w H wr) (hB : w.heap.size < B) (hb : Below B wr w1) : RelB w H w1 := ⟨h.1.trans (hb.mono (Nat.le_of_lt hB)), (hb.block _ hB).trans h.2⟩
theorem Words.onB {w w1 : World} {g n B : Nat} {l : List Nat} (h : Words w g n l) (hg : g < B) (hb : Below B w w1) : Words w1 g n l :=
  fun j hj => (hb.cell (p := ⟨g, j, none⟩) hg).trans (h j hj)
theorem own_onV {w w1 : World} {B n : Nat} {v : Value} {xs : List Value} (h : w.ownsRow B 55 1 v n xs) (hb : Below w.heap.size w w1) : w1.ownsRow B 55 1 v n xs := by
  refine h.kept (row := none) ⟨hb.os, hb.tape, hb.output, hb.size, fun k hk _ => hb.block k hk⟩ ?_
  cases h : v.ownBlock with
  | none => exact .inl rfl
  | some x => exact .inr (by simp)
theorem RelB.grown {w wr w1 : World} {H : Array Value} {row : Option Nat} (h : RelB w H wr) (o : Obj) (hg : (wr.alloc o).grownBy w1 row) (hr : ∀ k, row = some k → w.heap.size < k) : RelB w H w1 :=
  ⟨(h.1.alloc h.1.size _).grown hg (Nat.le_trans h.1.size (by simp)) (fun k hk => Nat.le_of_lt (hr k hk)),
    (hg.block _ (by have := lt_of_heap h.2; simp; omega) (fun e => by have := hr _ e.symm; omega)).trans ((heap_alloc_old _ _ (lt_of_heap h.2)).trans h.2)⟩

end SR
end Go.Proofs.YtabgihjffjlfiaaGreatDoor
set_option linter.unusedVariables false
namespace Go.Proofs.YtabgihjffjlfiaaGreatDoor
namespace SR
open Go.RowKit Go.Sort Go.BigFrame
set_option maxRecDepth 100000
set_option maxHeartbeats 600000
def iv (l : List Nat) : List Value := l.map fun (x : Nat) => Value.int .i64 (x : Int)
theorem one_int {n : Int} : ∀ u ∈ [Value.int .i64 n], u.oneCell' = true := fun u hu => by rw [List.mem_singleton.1 hu]; rfl
theorem own_slice {w : World} {base t n : Nat} {v : Value} {xs : List Value} (h : w.ownsRow base t 1 v n xs) : ∃ a cap, v = .slice a n cap := by
  rcases h.2 with ⟨h1, h0⟩ | ⟨g, cap, cur, hv, _⟩
  · exact ⟨none, 0, by rw [h1, h0]⟩
  · exact ⟨_, _, hv⟩
theorem own_formT {w : World} {base t n : Nat} {v : Value} {xs : List Value} (h : w.ownsRow base t 1 v n xs) (hn : 0 < n) : ∃ g cap, v = .slice (some ⟨g, 0, none⟩) n cap ∧ base ≤ g ∧ n ≤ cap := by
  rcases h.2 with ⟨_, h0⟩ | ⟨g, cap, cur, hv, hb, hg, hnc, _⟩
  · omega
  · exact ⟨g, cap, hv, hb, hnc⟩
theorem all_take {l : List Nat} {f : Nat → Bool} (j : Nat) (h : j < l.length) : (l.take (j + 1)).all f = ((l.take j).all f && f (l.getD j 0)) := by
  rw [take_snoc' h, List.all_append]; simp
theorem primes80 (w : World) :
    Calls Tryz.prog 104 #[.int .i64 80] w fun e w' => ∃ v, e = .returned v ∧ Below w.heap.size w w' ∧ w'.ownsRow w.heap.size 3 1 v 80 (iv PT) := by
  have h3i : (Tryz.prog.info? 3).map (fun i => (i.zero, i.size, i.bytes)) = some (some (.int .i64 0), 1, 8) := by kernel_rfl
  obtain ⟨i0, hi, hz0, hz1, hz2⟩ := info_parts h3i
  go_enter Tryz.func104, Tryz.ntmps104
  go_wp2_with fail
  go_loopw [4, 3] (fun v4 v3 wr => ∃ m n : Nat, 2 ≤ m ∧ m ≤ 410 ∧ v4 = .int .i64 (m : Int) ∧ Below w.heap.size w wr ∧ n = (pf m).length ∧ ∃ a cap, v3 = .slice a n cap ∧ wr.ownsRow w.heap.size 3 1 (.slice a n cap) n (iv (pf m))) (fun i _ _ => 410 - (intOf i).toNat)
  case atStart => exact ⟨2, 0, by omega, by omega, rfl, Below.refl _ _, rfl, none, 0, rfl, World.ownsRow_nil _ _ _ _⟩
  case round =>
    obtain ⟨m, n, h2, hm, rfl, hB, hn, a, cap, rfl, hown⟩ := hrel
    have HN : Hid (n = (pf m).length) := hn
    clear hn
    by_cases hlt : m < 410
    · obtain ⟨his, hnx, hlen, hone⟩ := pf_of m hlt h2
      have hn80 : n < 80 := by rw [HN.out]; exact hlen
      have HIS : Hid ((pf m).all (fun p => !(Nat.beq (m % p) 0)) = PT.contains m) := his
      have HNX : Hid (pf (m + 1) = pf m ++ (if PT.contains m then [m] else [])) := hnx
      have HON : Hid (∀ p ∈ pf m, 1 < p) := hone
      clear his hnx hlen hone
      go_wp2_with fail
      go_loop [6, 5] (fun i ok => ∃ j : Nat, j ≤ n ∧ i = .int .i64 (j : Int) ∧ ok = .bool (((pf m).take j).all (fun p => !(Nat.beq (m % p) 0)))) (fun i _ => n - (intOf i).toNat)
      case atStart => exact ⟨0, by omega, rfl, rfl⟩
      case round =>
        obtain ⟨j, hj, rfl, rfl⟩ := hrel
        by_cases hlt2 : j < n
        · obtain ⟨g, cap', he, _, _⟩ := own_formT hown (by omega)
          cases he
          obtain ⟨p, hp⟩ : ∃ p, p = (pf m).getD j 0 := ⟨_, rfl⟩
          have hjl : j < (pf m).length := by rw [← HN.out]; exact hlt2
          have hp1 : 1 < p := by rw [hp, List.getD_eq_getElem?_getD, List.getElem?_eq_getElem hjl]; exact HON.out _ (List.getElem_mem hjl)
          have hpm : p < 512 := by
            rw [hp, List.getD_eq_getElem?_getD, List.getElem?_eq_getElem hjl]; exact PT_lt _ ((List.mem_filter.1 (List.getElem_mem hjl)).1)
          have kx : wr.cell? ⟨g, j, none⟩ = some (.int .i64 (p : Int)) := by
            rw [hown.cellAt j (by omega)]; simp [iv, hp, hjl]
          have hst := all_take (f := fun p => !(Nat.beq (m % p) 0)) j hjl
          rw [← hp] at hst
          have HS : Hid (((pf m).take (j + 1)).all (fun p => !(Nat.beq (m % p) 0)) = (((pf m).take j).all (fun p => !(Nat.beq (m % p) 0)) && !(Nat.beq (m % p) 0))) := hst
          clear hst hp hjl
          obtain ⟨ok, hok⟩ : ∃ x, x = ((pf m).take j).all (fun p => !(Nat.beq (m % p) 0)) := ⟨_, rfl⟩
          rw [← hok] at HS ⊢
          clear hok
          by_cases hz : m % p = 0
          · have HE : Hid ((ok && !(Nat.beq (m % p) 0)) = false) := by show (ok && !(Nat.beq (m % p) 0)) = false; rw [hz]; simp
            go_wp2_with fail
            go_round
            case rel => exact ⟨j + 1, by omega, by go_num, by rw [HS.out, HE.out]⟩
            case measure => simp [intOf]; omega
          · have HE : Hid ((ok && !(Nat.beq (m % p) 0)) = ok) := by
              show (ok && !(Nat.beq (m % p) 0)) = ok
              rw [show Nat.beq (m % p) 0 = false from Bool.eq_false_iff.2 (fun e => hz (Nat.eq_of_beq_eq_true e))]; simp
            go_wp2_with fail
            go_round
            case rel => exact ⟨j + 1, by omega, by go_num, by rw [HS.out, HE.out]⟩
            case measure => simp [intOf]; omega
        · obtain rfl : j = n := by omega
          have hend : ((pf m).take j).all (fun p => !(Nat.beq (m % p) 0)) = PT.contains m := by rw [← HIS.out, HN.out, List.take_length]
          rw [hend]
          clear hend
          by_cases hc : PT.contains m = true
          · rw [hc]
            have hnx := HNX.out
            rw [if_pos hc] at hnx
            have HX : Hid (pf (m + 1) = pf m ++ [m]) := hnx
            clear hnx hc
            have hsz := hB.size
            go_wp2_with (at_builtin; refine wpList_append_own _ rfl (.tmp 27) (.tmp 29) 43 rfl w.heap.size 3 i0 (.int .i64 0) 1 8 Tryz.underlying43 hi hz0 hz1 hz2 rfl (by decide) _ _ _ rfl (hown.alloc _) ⟨wr.heap.size, 0, none⟩ 1 1 [.int .i64 (m : Int)] rfl rfl (Hnews_one _ _ _) one_int (by unfold maxLen; omega) (by omega) (by simp; omega) ?_; intro v' w1 hown' hgrow _)
            have hlt1 := hown.lt
            have HE : Hid (iv (pf m) ++ [.int .i64 (m : Int)] = iv (pf (m + 1))) := by
              show iv (pf m) ++ [.int .i64 (m : Int)] = iv (pf (m + 1))
              rw [HX.out]; simp [iv]
            rw [HE.out] at hown'
            have hBn := (hB.alloc hB.size _).grown hgrow (by simp; omega) (fun k hk => (hlt1 k hk).1)
            obtain ⟨a', cap', rfl⟩ := own_slice hown'
            have HN1 : Hid (j + 1 = (pf (m + 1)).length) := by show j + 1 = (pf (m + 1)).length; rw [HX.out, List.length_append, HN.out]; rfl
            go_roundw
            case rel => first | exact ⟨m + 1, j + 1, by omega, by omega, by go_num, hBn, HN1.out, _, _, rfl, hown'⟩ | ((repeat apply Exists.intro); exact ⟨⟨m + 1, j + 1, by omega, by omega, by go_num, hBn, HN1.out, _, _, rfl, hown'⟩, rfl⟩)
            case measure => simp [intOf]; omega
          · have hcf : PT.contains m = false := Bool.eq_false_iff.2 hc
            rw [hcf]
            have hnx := HNX.out
            rw [if_neg hc, List.append_nil] at hnx
            rw [← hnx] at hown
            have HN1 : Hid (j = (pf (m + 1)).length) := by show j = (pf (m + 1)).length; rw [hnx]; exact HN.out
            clear hnx hcf hc
            go_wp2_with fail
            go_roundw
            case rel => first | exact ⟨m + 1, j, by omega, by omega, by go_num, hB, HN1.out, _, _, rfl, hown⟩ | ((repeat apply Exists.intro); exact ⟨⟨m + 1, j, by omega, by omega, by go_num, hB, HN1.out, _, _, rfl, hown⟩, rfl⟩)
            case measure => simp [intOf]; omega
    · obtain rfl : m = 410 := by omega
      obtain rfl : n = 80 := by rw [HN.out, pf_end]; exact PT_len
      rw [pf_end] at hown
      go_wp2_with fail
      go_ret
      exact ⟨_, rfl, hB, hown⟩
end SR
end Go.Proofs.YtabgihjffjlfiaaGreatDoor
set_option linter.unusedVariables false
namespace Go.Proofs.YtabgihjffjlfiaaGreatDoor
namespace SR
open Go.RowKit Go.Sort Go.BigFrame
set_option maxRecDepth 100000
set_option maxHeartbeats 600000
def Q3 : List Nat := [1, 1, 1, 1, 2, 2, 2, 2, 2, 3, 3, 3, 3, 3, 3, 3, 3, 3, 4, 4, 4, 4, 4, 4, 4, 4, 4, 4, 4, 4, 5, 5, 5, 5, 5, 5, 5, 5, 5, 5, 5, 5, 5, 5, 5, 5, 5, 6, 6, 6, 6, 6, 6, 6, 6, 6, 6, 6, 6, 6, 6, 6, 6, 6, 6, 6, 6, 6, 7, 7, 7, 7, 7, 7, 7, 7, 7, 7, 7, 7]
def Q2 : List Nat := [1, 1, 2, 2, 3, 3, 4, 4]
def rc (k : Nat) (q t : List Nat) (i : Nat) : Bool := Nat.ble ((q.getD i 0 * 18446744073709551616 + t.getD i 0) ^ k) (PT.getD i 0 * 2 ^ (64 * k)) && Nat.blt (PT.getD i 0 * 2 ^ (64 * k)) ((q.getD i 0 * 18446744073709551616 + t.getD i 0 + 1) ^ k)
theorem rc3 : (List.range 80).all (rc 3 Q3 KS) = true := by kernel_rfl
theorem rc2 : (List.range 8).all (rc 2 Q2 HS) = true := by kernel_rfl
theorem rc_of {k n : Nat} {q t : List Nat} (h : (List.range n).all (rc k q t) = true) (i : Nat) (hi : i < n) : (q.getD i 0 * 18446744073709551616 + t.getD i 0) ^ k ≤ PT.getD i 0 * 2 ^ (64 * k) ∧ PT.getD i 0 * 2 ^ (64 * k) < (q.getD i 0 * 18446744073709551616 + t.getD i 0 + 1) ^ k := by
  have := List.all_eq_true.1 h i (List.mem_range.2 hi)
  unfold rc at this
  rw [Bool.and_eq_true] at this
  exact ⟨Nat.le_of_ble_eq_true this.1, Nat.blt_eq.mp this.2⟩
theorem PT_getD (i : Nat) : PT.getD i 0 < 512 := by
  rw [List.getD_eq_getElem?_getD]
  cases h : PT[i]? with
  | none => decide
  | some x => exact PT_lt x (List.mem_of_getElem? h)
theorem root3_at (i : Nat) (hi : i < 80) (w : World) : Calls Tryz.prog 106 #[.int .i64 ((PT.getD i 0 : Nat) : Int), .int .i64 3] w fun e w' => e = .returned (.int .u64 ((KS.getD i 0 : Nat) : Int)) ∧ Below w.heap.size w w' :=
  (root3 (PT.getD i 0) w (PT_getD i)).mono fun e w' ⟨X, he, h1, h2, hb⟩ => by
    obtain ⟨r1, r2⟩ := rc_of rc3 i hi
    have hX := root_one 3 _ _ _ (by decide) h1 h2 r1 r2
    have hk := KS_lt i
    exact ⟨by rw [he, hX, show (Q3.getD i 0 * 18446744073709551616 + KS.getD i 0) % 18446744073709551616 = KS.getD i 0 by omega], hb⟩
theorem root2_at (i : Nat) (hi : i < 8) (w : World) : Calls Tryz.prog 106 #[.int .i64 ((PT.getD i 0 : Nat) : Int), .int .i64 2] w fun e w' => e = .returned (.int .u64 ((HS.getD i 0 : Nat) : Int)) ∧ Below w.heap.size w w' :=
  (root2 (PT.getD i 0) w (PT_getD i)).mono fun e w' ⟨X, he, h1, h2, hb⟩ => by
    obtain ⟨r1, r2⟩ := rc_of rc2 i hi
    have hX := root_one 2 _ _ _ (by decide) h1 h2 r1 r2
    have hk := HS_lt i
    exact ⟨by rw [he, hX, show (Q2.getD i 0 * 18446744073709551616 + HS.getD i 0) % 18446744073709551616 = HS.getD i 0 by omega], hb⟩
end SR
end Go.Proofs.YtabgihjffjlfiaaGreatDoor
set_option linter.unusedVariables false
namespace Go.Proofs.YtabgihjffjlfiaaGreatDoor
namespace SR
open Go.RowKit Go.Sort Go.BigFrame
theorem bv_one {l : List Nat} : ∀ u ∈ Hbv l, u.oneCell' = true := fun u hu => by
  obtain ⟨x, _, rfl⟩ := List.mem_map.1 hu; rfl
theorem news_view {w : World} {p : Addr} {bs : List Nat} (h : View w (some p) bs) : ∀ (j : Nat) u, (Hbv bs)[j]? = some u → w.cell? (p.add j) = some u := by
  intro j u hj
  have hj' : j < bs.length := by
    by_cases h : j < bs.length
    · exact h
    · rw [List.getElem?_eq_none (by simp [Hbv]; omega)] at hj; cases hj
  obtain ⟨b, off, e, hc⟩ := h (by omega)
  injection e with e
  rw [e, Addr.add_mid, hc j hj', ← hj]
  simp [Hbv, hj']
theorem wpList_append_data (w : World) {ops : Array Oper} {rest : List Oper} {o : Oper} {a : Act} {Q : Exit → Act → World → Prop} (hgd : o.guard = none) (s x : Operand)
    (ho : o.op = .call { callee := .builtin .append, args := #[s, x], argTypes := #[22, 22] }) (hs : a.eval s = .slice none 0 0) (ad : Option Addr) (len cap : Nat) (bs : List Nat) (hx : a.eval x = .slice ad len cap)
    (hlen : bs.length = len) (hv : View w ad bs) (base : Nat) (hbase : base ≤ w.heap.size) (hb : len ≤ 100000000000000)
    (h : ∀ v' w', w'.ownsRow base 5 1 v' len (Hbv bs) → w.grownBy w' none → wpList Tryz.prog ops Q rest (a.put o.dst v') w') : wpList Tryz.prog ops Q (o :: rest) a w := by
  have h5i : (Tryz.prog.info? 5).map (fun i => (i.zero, i.size, i.bytes)) = some (some (.int .u8 0), 1, 1) := by kernel_rfl
  obtain ⟨i0, hi, hz0, hz1, hz2⟩ := info_parts h5i
  cases ad with
  | some p =>
    refine wpList_append_own w hgd s x 22 ho base 5 i0 (.int .u8 0) 1 1 Tryz.underlying22 hi hz0 hz1 hz2 rfl (by decide) (.slice none 0 0) 0 [] hs (World.ownsRow_nil _ _ _ _) p len cap (Hbv bs) hx (by simp [Hbv, hlen]) (news_view hv) bv_one (by unfold maxLen; omega) (by omega) hbase ?_
    intro v' w' h1 h2 _
    refine h v' w' ?_ h2
    rw [Nat.zero_add, List.nil_append] at h1
    exact h1
  | none =>
    have hb0 : bs = [] := by
      by_cases hp : 0 < bs.length
      · obtain ⟨b, off, e, _⟩ := hv hp; cases e
      · exact List.eq_nil_of_length_eq_zero (by omega)
    subst hb0
    obtain rfl : len = 0 := hlen.symm
    have hr : (Builtin.append_ #[22, 22] o.type #[.slice none 0 0, .slice none 0 cap]).run Tryz.prog w = .ok (.slice none 0 0) w := by kernel_rfl
    refine wpList_plain hgd fun K hK => ?_
    unfold Oper.wp execOp
    simp only [ho, resolve, invoke, builtin, Sem.run_bind, Sem.run_pure, Result.andThen_ok, List.map_toArray, List.map_cons, List.map_nil, hs, hx, hr]
    exact hK _ _ (h _ _ (World.ownsRow_nil _ _ _ _) ⟨rfl, rfl, rfl, Nat.le_refl _, fun _ _ _ => rfl⟩)
end SR
end Go.Proofs.YtabgihjffjlfiaaGreatDoor
set_option linter.unusedVariables false
namespace Go.Proofs.YtabgihjffjlfiaaGreatDoor
namespace SR
/-- The last n bytes of a number, the highest first. -/
def be (x : Nat) : Nat → List Nat
  | 0 => []
  | n + 1 => be (x / 256) n ++ [x % 256]
theorem be_len (n : Nat) : ∀ x, (be x n).length = n := by
  induction n with
  | zero => intro x; rfl
  | succ n ih => intro x; simp [be, ih]
/-- The same, from the front. -/
theorem be_front (n : Nat) : ∀ x, be x (n + 1) = (x >>> (8 * n)) % 256 :: be x n := by
  induction n with
  | zero => intro x; simp [be]
  | succ n ih =>
    intro x
    show be (x / 256) (n + 1) ++ [x % 256] = _
    rw [ih (x / 256), show be x (n + 1) = be (x / 256) n ++ [x % 256] from rfl, List.cons_append]
    congr 2
    rw [Nat.shiftRight_eq_div_pow, Nat.shiftRight_eq_div_pow, Nat.div_div_eq_div_mul, show 2 ^ (8 * (n + 1)) = 256 * 2 ^ (8 * n) by rw [Nat.mul_add, Nat.pow_add]; omega]
theorem be_zero (n : Nat) : be 0 n = List.replicate n 0 := by
  induction n with
  | zero => rfl
  | succ n ih => show be (0 / 256) n ++ [0 % 256] = _; rw [show 0 / 256 = 0 from rfl, ih, List.replicate_succ']
theorem be_more (m n : Nat) : ∀ x, x < 256 ^ n → be x (m + n) = List.replicate m 0 ++ be x n := by
  induction n with
  | zero => intro x hx; obtain rfl : x = 0 := by simpa using hx
            rw [Nat.add_zero, be_zero]; simp [be]
  | succ n ih =>
    intro x hx
    show be (x / 256) (m + n) ++ [x % 256] = _
    rw [ih (x / 256) (by rw [Nat.pow_succ] at hx; omega), List.append_assoc]; rfl
theorem take_set' (l : List Nat) (t v : Nat) (h : t < l.length) : (l.take (t + 1)).set t v = l.take t ++ [v] := by
  rw [← List.take_set, take_set h]
theorem tailN_be (size bits : Nat) (base : List Nat) (hb : base.length = size) : ∀ i, i ≤ size → tailN size bits base i = base.take (size - i) ++ be bits i
  | 0, _ => by simp [tailN, be, ← hb]
  | i + 1, hi => by
    rw [tailN, tailN_be size bits base hb i (by omega), be_front]
    rw [List.set_append_left _ _ (by simp; omega)]
    rw [show size - i = (size - 1 - i) + 1 by omega, take_set' _ _ _ (by omega), show size - (i + 1) = size - 1 - i by omega, List.append_assoc]
    rfl
theorem padB_eq (size : Nat) (rest : List Nat) (h : rest.length < size) : padB size rest = rest ++ 128 :: List.replicate (size - rest.length - 1) 0 := by
  unfold padB
  rw [List.set_append_right _ _ (Nat.le_refl _), Nat.sub_self, show size - rest.length = (size - rest.length - 1) + 1 by omega, List.replicate_succ, List.set_cons_zero]
  simp
/-- How many noughts stand behind the 128. -/
def zeros (s : Sh) (L : Nat) : Nat := (2 * s.W - (L + 1 + s.W / 4) % (2 * s.W)) % (2 * s.W)
/-- The message, filled up. -/
def padd (s : Sh) (bs : List Nat) : List Nat := bs ++ 128 :: List.replicate (zeros s bs.length) 0 ++ be (8 * bs.length) (s.W / 4)
theorem lastB_eq (s : Sh) (rest : List Nat) (L : Nat) (h8 : 8 ≤ s.W / 4) (hr : rest.length < 2 * s.W) (hL : 8 * L < 256 ^ 8) :
    lastB s rest L = rest ++ 128 :: List.replicate ((if 2 * s.W < rest.length + 1 + s.W / 4 then 4 * s.W else 2 * s.W) - rest.length - 1 - s.W / 4) 0 ++ be (8 * L) (s.W / 4) := by
  unfold lastB
  obtain ⟨size, hs⟩ : ∃ x, x = if 2 * s.W < rest.length + 1 + s.W / 4 then 4 * s.W else 2 * s.W := ⟨_, rfl⟩
  rw [← hs]
  have hsz : rest.length + 1 + s.W / 4 ≤ size := by rw [hs]; split <;> omega
  show tailN size (L * 8) (padB size rest) 8 = _
  rw [tailN_be _ _ _ (padB_len _ _ (by omega)) 8 (by omega), padB_eq size rest (by omega), Nat.mul_comm L 8]
  obtain ⟨t, ht⟩ : ∃ t, s.W / 4 = t + 8 := ⟨s.W / 4 - 8, by omega⟩
  rw [ht] at hsz ⊢
  rw [be_more t 8 (8 * L) hL, List.take_append, List.take_of_length_le (by omega), show size - 8 - rest.length = (size - 9 - rest.length) + 1 by omega, List.take_succ_cons, List.take_replicate]
  rw [show min (size - 9 - rest.length) (size - rest.length - 1) = (size - rest.length - 1 - (t + 8)) + t by omega, ← List.replicate_append_replicate]
  simp only [List.append_assoc, List.cons_append]
theorem blks_append (s : Sh) (ks st x y : List Nat) (kx : Nat) (hx : x.length = 2 * s.W * kx) : ∀ ky, blks s ks st (x ++ y) (kx + ky) = blks s ks (blks s ks st x kx) y ky
  | 0 => by
    have : ∀ k, k ≤ kx → blks s ks st (x ++ y) k = blks s ks st x k := by
      intro k
      induction k with
      | zero => intro _; rfl
      | succ k ih =>
        intro hk
        rw [blks, blks, ih (by omega)]
        congr 1
        have h1 : 2 * s.W * k + 2 * s.W ≤ x.length := by
          rw [hx]; have := Nat.mul_le_mul_left (2 * s.W) hk; rw [Nat.mul_succ] at this; exact this
        rw [List.drop_append_of_le_length (by omega), List.take_append_of_le_length (by rw [List.length_drop]; omega)]
    exact this kx (Nat.le_refl _)
  | ky + 1 => by
    rw [show kx + (ky + 1) = (kx + ky) + 1 from rfl, blks, blks, blks_append s ks st x y kx hx ky]
    congr 1
    rw [Nat.mul_add, ← hx, List.drop_append, List.drop_of_length_le (by omega)]
    simp
theorem padd_split (s : Sh) (bs : List Nat) (hW : 32 ≤ s.W) (hL : 8 * bs.length < 256 ^ 8) :
    padd s bs = bs.take (bs.length - bs.length % (2 * s.W)) ++ lastB s (bs.drop (bs.length - bs.length % (2 * s.W))) bs.length := by
  obtain ⟨W2, hW2⟩ : ∃ x, x = 2 * s.W := ⟨_, rfl⟩
  have hm : bs.length % (2 * s.W) < 2 * s.W := Nat.mod_lt _ (by omega)
  have hle := Nat.mod_le bs.length (2 * s.W)
  have hrl : (bs.drop (bs.length - bs.length % (2 * s.W))).length = bs.length % (2 * s.W) := by rw [List.length_drop]; omega
  rw [lastB_eq s _ _ (by omega) (by rw [hrl]; exact hm) hL, hrl]
  unfold padd
  have hz : zeros s bs.length = (if 2 * s.W < bs.length % (2 * s.W) + 1 + s.W / 4 then 4 * s.W else 2 * s.W) - bs.length % (2 * s.W) - 1 - s.W / 4 := by
    unfold zeros
    have hq := Nat.div_add_mod bs.length (2 * s.W)
    obtain ⟨r, hr⟩ : ∃ r, r = bs.length % (2 * s.W) := ⟨_, rfl⟩
    have e : (bs.length + 1 + s.W / 4) % (2 * s.W) = (r + 1 + s.W / 4) % (2 * s.W) := by
      rw [hr, Nat.add_assoc, Nat.add_assoc, Nat.mod_add_mod]
    rw [e, ← hr]
    rw [← hr] at hm
    split
    · rename_i h
      rw [Nat.mod_eq_sub_mod (a := r + 1 + s.W / 4) (by omega), Nat.mod_eq_of_lt (a := r + 1 + s.W / 4 - 2 * s.W) (by omega), Nat.mod_eq_of_lt (by omega)]
      omega
    · rename_i h
      by_cases he : r + 1 + s.W / 4 = 2 * s.W
      · rw [he, Nat.mod_self, Nat.sub_zero, Nat.mod_self]; omega
      · rw [Nat.mod_eq_of_lt (a := r + 1 + s.W / 4) (by omega), Nat.mod_eq_of_lt (by omega)]; omega
  rw [hz, ← List.append_assoc, ← List.append_assoc, List.take_append_drop]
/-- The reference's digest. -/
def digR (s : Sh) (kk hf bs : List Nat) : List Nat := stB s.W (blks s kk hf (padd s bs) ((padd s bs).length / (2 * s.W))) 8
theorem padd_len (s : Sh) (bs : List Nat) (hW : 32 ≤ s.W) (hL : 8 * bs.length < 256 ^ 8) :
    (padd s bs).length = 2 * s.W * ((bs.length - bs.length % (2 * s.W)) / (2 * s.W)) + (lastB s (bs.drop (bs.length - bs.length % (2 * s.W))) bs.length).length := by
  have hle := Nat.mod_le bs.length (2 * s.W)
  have hq := Nat.div_add_mod bs.length (2 * s.W)
  rw [padd_split s bs hW hL, List.length_append, List.length_take, Nat.min_eq_left (by omega)]
  congr 1
  rw [show bs.length - bs.length % (2 * s.W) = 2 * s.W * (bs.length / (2 * s.W)) by omega, Nat.mul_div_cancel_left _ (by omega)]
theorem digR_dig (s : Sh) (hs ks bs : List Nat) (hW : 32 ≤ s.W) (hL : 8 * bs.length < 256 ^ 8) : digR s ks (initN s.W hs 8) bs = dig s hs ks bs := by
  unfold digR dig
  have hle := Nat.mod_le bs.length (2 * s.W)
  have hm : bs.length % (2 * s.W) < 2 * s.W := Nat.mod_lt _ (by omega)
  have hq := Nat.div_add_mod bs.length (2 * s.W)
  have hwh : bs.length - bs.length % (2 * s.W) = 2 * s.W * ((bs.length - bs.length % (2 * s.W)) / (2 * s.W)) := by
    rw [show bs.length - bs.length % (2 * s.W) = 2 * s.W * (bs.length / (2 * s.W)) by omega, Nat.mul_div_cancel_left _ (by omega)]
  rw [padd_len s bs hW hL, Nat.mul_add_div (by omega), padd_split s bs hW hL]
  show stB s.W (blks s ks _ _ _) 8 = stB s.W (blks s ks (blks s ks _ _ _) _ _) 8
  rw [blks_append]
  rw [List.length_take, Nat.min_eq_left (by omega)]
  exact hwh
end SR
end Go.Proofs.YtabgihjffjlfiaaGreatDoor
set_option linter.unusedVariables false
namespace Go.Proofs.YtabgihjffjlfiaaGreatDoor
namespace SR
open Go.RowKit Go.Sort Go.BigFrame
set_option maxRecDepth 100000
set_option maxHeartbeats 2000000
attribute [local go_sem ↓] Go.wp_at_zero Go.wp_at_succ

theorem block64 (gA cA gB cB gC cC gD cD gK cK : Nat) (vF : Value) (gs cs : Nat) (st : List Nat) (gb ob cb : Nat) (bs kk : List Nat) (w : World)
    (hst : st.length = 8) (hsl : ∀ j, st.getD j 0 < 18446744073709551616) (hcs : ∀ i, i < 8 → w.cell? ⟨gs, i, none⟩ = some (.int .u64 ((st.getD i 0 : Nat) : Int)))
    (hbl : bs.length = 128) (hb256 : ∀ j, bs.getD j 0 < 256) (hcb : 128 ≤ cb) (hc : BytesAt w gb ob bs)
    (kA : Row3 w gA 28 34 39) (kB : Row3 w gB 14 18 41) (kC : Row3 w gC 1 8 7) (kD : Row3 w gD 19 61 6)
    (hkk : ∀ i, i < 80 → w.cell? ⟨gK, i, none⟩ = some (.int .u64 ((kk.getD i 0 : Nat) : Int))) (hkb : ∀ j, kk.getD j 0 < 18446744073709551616) :
    Calls Tryz.prog 107 #[.agg #[.int .i64 64, .int .i64 80, .slice (some ⟨gA, 0, none⟩) 3 cA, .slice (some ⟨gB, 0, none⟩) 3 cB, .slice (some ⟨gC, 0, none⟩) 3 cC, .slice (some ⟨gD, 0, none⟩) 3 cD, .slice (some ⟨gK, 0, none⟩) 80 cK, vF], .slice (some ⟨gs, 0, none⟩) 8 cs, .slice (some ⟨gb, ob, none⟩) 128 cb] w fun e w' => ∃ v, e = .returned v ∧ ∃ base, w.heap.size ≤ base ∧ Below w.heap.size w w' ∧ w'.ownsRow base 55 1 v 8 (uv (List.zipWith (fun x y => (x + y) % 2 ^ 64) st (Rr sh64 kk (spr sh64 bs) (ofL st) 80).list)) := by
  have hlen : Hid (bs.length = 128) := hbl
  have hgbB : gb < w.heap.size := block_lt_of_cell (hc 0 (by omega))
  clear hbl
  have h39i : (Tryz.prog.info? 55).map (fun i => (i.zero, i.size, i.bytes)) = some (some (.int .u64 0), 1, 8) := by kernel_rfl
  obtain ⟨i0, hi, hz0, hz1, hz2⟩ := info_parts h39i
  obtain ⟨PW, hPW⟩ : ∃ x, x = P1 sh64 bs 128 := ⟨_, rfl⟩
  have hPl : PW.length = 80 := by rw [hPW]; exact P1_len _ _ _
  have hPw : ∀ t, t < 16 → PW.getD t 0 = wv 8 bs t 8 := fun t ht => by
    rw [hPW, P1_wv sh64 8 (by decide) rfl bs hb256 128 (by decide) t (by omega), show min (128 - t * 8) 8 = 8 by omega]
  have hPb : ∀ j, PW.getD j 0 < 18446744073709551616 := by rw [hPW]; exact P1_lt sh64 (by decide) bs hb256 _
  have HPW : Hid (PW = P1 sh64 bs 128) := hPW
  have HPl : Hid (PW.length = 80) := hPl
  clear hPW hPl
  obtain ⟨ql, hql⟩ : ∃ x, x = List.zipWith (fun x y => (x + y) % 2 ^ 64) st (Rr sh64 kk (spr sh64 bs) (ofL st) 80).list := ⟨_, rfl⟩
  have hqll : ql.length = 8 := by rw [hql, List.length_zipWith, hst]; rfl
  rw [← hql]
  have HQL : Hid (ql.length = 8) := hqll
  have HQD : Hid (ql = List.zipWith (fun x y => (x + y) % 2 ^ 64) st (Rr sh64 kk (spr sh64 bs) (ofL st) 80).list) := hql
  clear hql hqll
  have hR0 : RelB w #[.int .i64 64, .int .i64 80, .slice (some ⟨gA, 0, none⟩) 3 cA, .slice (some ⟨gB, 0, none⟩) 3 cB, .slice (some ⟨gC, 0, none⟩) 3 cC, .slice (some ⟨gD, 0, none⟩) 3 cD, .slice (some ⟨gK, 0, none⟩) 80 cK, vF] (w.alloc (.cells #[.int .i64 64, .int .i64 80, .slice (some ⟨gA, 0, none⟩) 3 cA, .slice (some ⟨gB, 0, none⟩) 3 cB, .slice (some ⟨gC, 0, none⟩) 3 cC, .slice (some ⟨gD, 0, none⟩) 3 cD, .slice (some ⟨gK, 0, none⟩) 80 cK, vF] 102)) := ⟨below1 _ _, heap_alloc_new _ _⟩
  go_enter Tryz.func107, Tryz.ntmps107
  go_wp2_with fail
  go_loopw [8, 7] (fun i v7 wr => ∃ t : Nat, t ≤ 16 ∧ i = .int .i64 (t : Int) ∧ RelB w #[.int .i64 64, .int .i64 80, .slice (some ⟨gA, 0, none⟩) 3 cA, .slice (some ⟨gB, 0, none⟩) 3 cB, .slice (some ⟨gC, 0, none⟩) 3 cC, .slice (some ⟨gD, 0, none⟩) 3 cD, .slice (some ⟨gK, 0, none⟩) 80 cK, vF] wr ∧ wr.ownsRow (w.heap.size + 1) 55 1 v7 t (uv (PW.take t))) (fun i _ _ => 16 - (intOf i).toNat)
  case atStart => exact ⟨0, by omega, rfl, hR0, World.ownsRow_nil _ _ _ _⟩
  case round =>
    obtain ⟨t, ht, rfl, hR, hown⟩ := hrel
    clear hR0
    have c0 := row_at hR.2 0 (.int .i64 64) rfl
    by_cases hlt : t < 16
    · go_wp2_with fail
      go_loop [10, 9] (fun i v => ∃ k : Nat, k ≤ 8 ∧ i = .int .i64 (k : Int) ∧ v = .int .u64 ((wv 8 bs t k : Nat) : Int)) (fun i _ => 8 - (intOf i).toNat)
      case atStart => exact ⟨0, by omega, rfl, rfl⟩
      case round =>
        obtain ⟨k, hk, rfl, rfl⟩ := hrel
        by_cases hlt2 : k < 8
        · have hwl : wv 8 bs t k < 72057594037927936 := Nat.lt_of_lt_of_le (wv_lt 8 bs hb256 t k) (Nat.pow_le_pow_right (show 0 < 256 by decide) (show k ≤ 7 by omega))
          have hbb := hb256 (t * 8 + k)
          have HW : Hid (wv 8 bs t (k + 1) = wv 8 bs t k * 256 + bs.getD (t * 8 + k) 0) := rfl
          obtain ⟨y, hy⟩ : ∃ y, y = wv 8 bs t k := ⟨_, rfl⟩
          obtain ⟨Hbv, hbv⟩ : ∃ y, y = bs.getD (t * 8 + k) 0 := ⟨_, rfl⟩
          have c1 : wr.cell? ⟨gb, ob + (t * 64 / 8 + k), none⟩ = some (.int .u8 (Hbv : Int)) := by
            rw [hbv, show t * 64 / 8 + k = t * 8 + k by omega]
            exact (hR.1.cell (p := ⟨gb, _, none⟩) hgbB).trans (hc _ (by rw [hlen.out]; omega))
          rw [← hy, ← hbv] at HW
          rw [← hy] at hwl ⊢
          rw [← hbv] at hbb
          clear hy hbv
          go_wp2_with fail
          go_round
          case rel => exact ⟨k + 1, by omega, by go_num, by rw [HW.out]; go_num⟩
          case measure => simp [intOf]; omega
        · obtain rfl : k = 8 := by omega
          obtain ⟨y, hy⟩ : ∃ y, y = wv 8 bs t 8 := ⟨_, rfl⟩
          rw [← hy]
          have HY : Hid (PW.getD t 0 = y) := by rw [hy]; exact hPw t hlt
          clear hy
          have hsz := hR.1.size
          have hwB : w.heap.size + 1 ≤ wr.heap.size := lt_of_heap hR.2
          go_wp2_with (at_builtin; refine wpList_append_own _ rfl (.tmp 47) (.tmp 49) 100 rfl (w.heap.size + 1) 55 i0 (.int .u64 0) 1 8 Tryz.underlying100 hi hz0 hz1 hz2 rfl (by decide) _ _ _ rfl (hown.alloc _) ⟨wr.heap.size, 0, none⟩ 1 1 [.int .u64 (y : Int)] rfl rfl (Hnews_one _ _ _) one_word (by unfold maxLen; omega) (by omega) (by simp; omega) ?_; intro v' w1 hown' hgrow _)
          have hlt1 := hown.lt
          have HE : Hid (uv (PW.take t) ++ [.int .u64 (y : Int)] = uv (PW.take (t + 1))) := by
            show uv (PW.take t) ++ [.int .u64 (y : Int)] = uv (PW.take (t + 1))
            rw [take_snoc' (by rw [HPl.out]; omega), HY.out]; simp [uv]
          rw [HE.out] at hown'
          have hRn := hR.grown _ hgrow (fun k hk => by have := (hlt1 k hk).1; omega)
          clear hown hgrow hR c0 hlt1
          go_roundw
          case rel => first | exact ⟨t + 1, by omega, by go_num, hRn, hown'⟩ | ((repeat apply Exists.intro); exact ⟨⟨t + 1, by omega, by go_num, hRn, hown'⟩, rfl⟩)
          case measure => simp [intOf]; omega
    · obtain rfl : t = 16 := by omega
      obtain ⟨g, cap, rfl, hgb, hgc⟩ := own_form hown (by omega)
      go_wp2_with fail
      go_loopw [11, 7] (fun i v7 wr => ∃ t : Nat, 16 ≤ t ∧ t ≤ 80 ∧ i = .int .i64 (t : Int) ∧ RelB w #[.int .i64 64, .int .i64 80, .slice (some ⟨gA, 0, none⟩) 3 cA, .slice (some ⟨gB, 0, none⟩) 3 cB, .slice (some ⟨gC, 0, none⟩) 3 cC, .slice (some ⟨gD, 0, none⟩) 3 cD, .slice (some ⟨gK, 0, none⟩) 80 cK, vF] wr ∧ ∃ g cap : Nat, v7 = .slice (some ⟨g, 0, none⟩) t cap ∧ wr.ownsRow (w.heap.size + 1) 55 1 (.slice (some ⟨g, 0, none⟩) t cap) t (uv ((P2 sh64 PW (t - 16)).take t))) (fun i _ _ => 80 - (intOf i).toNat)
      case atStart => exact ⟨16, by omega, by omega, rfl, hR, g, cap, rfl, hown⟩
      case round =>
        obtain ⟨t, ht16, ht, rfl, hR, g, cap, rfl, hown⟩ := hrel
        clear c0 hgb hgc
        have c1 := row_at hR.2 1 (.int .i64 80) rfl
        by_cases hlt : t < 80
        · obtain ⟨ws, hws⟩ : ∃ x, x = P2 sh64 PW (t - 16) := ⟨_, rfl⟩
          rw [← hws] at hown
          have hwl : ws.length = 80 := by rw [hws]; exact P2_len _ _ HPl.out _
          have hwt : ∀ j, ws.getD j 0 < 18446744073709551616 := by rw [hws]; exact P2_lt sh64 _ hPb _
          have HS : Hid (P2 sh64 PW (t + 1 - 16) = put2 sh64 ws t) := by
            rw [hws, show t + 1 - 16 = (t - 16) + 1 by omega]; show put2 _ _ (16 + (t - 16)) = _; rw [show 16 + (t - 16) = t by omega]
          obtain ⟨x2, hx2⟩ : ∃ x, x = ws.getD (t - 2) 0 := ⟨_, rfl⟩
          obtain ⟨x15, hx15⟩ : ∃ x, x = ws.getD (t - 15) 0 := ⟨_, rfl⟩
          obtain ⟨x16, hx16⟩ : ∃ x, x = ws.getD (t - 16) 0 := ⟨_, rfl⟩
          obtain ⟨x7, hx7⟩ : ∃ x, x = ws.getD (t - 7) 0 := ⟨_, rfl⟩
          obtain ⟨s1, hs1⟩ : ∃ x, x = ts 64 x15 1 8 7 := ⟨_, rfl⟩
          obtain ⟨s2, hs2⟩ : ∃ x, x = ts 64 x2 19 61 6 := ⟨_, rfl⟩
          have HT : Hid (put2 sh64 ws t = ws.set t ((x16 + s1 + x7 + s2) % 2 ^ 64)) := by rw [hs1, hs2, hx2, hx15, hx16, hx7]; rfl
          have l2 : x2 < 18446744073709551616 := by rw [hx2]; exact hwt _
          have l15 : x15 < 18446744073709551616 := by rw [hx15]; exact hwt _
          have l16 : x16 < 18446744073709551616 := by rw [hx16]; exact hwt _
          have l7 : x7 < 18446744073709551616 := by rw [hx7]; exact hwt _
          have b1 : s1 < 18446744073709551616 := by rw [hs1]; exact ts_lt (W := 64) l15
          have b2 : s2 < 18446744073709551616 := by rw [hs2]; exact ts_lt (W := 64) l2
          have d2 := own_word hown (t - 2) (by omega) x2 (by rw [hx2]; simp [show t - 2 < t by omega, hwl, show t - 2 < 80 by omega])
          have d15 := own_word hown (t - 15) (by omega) x15 (by rw [hx15]; simp [show t - 15 < t by omega, hwl, show t - 15 < 80 by omega])
          have d16 := own_word hown (t - 16) (by omega) x16 (by rw [hx16]; simp [show t - 16 < t by omega, hwl, show t - 16 < 80 by omega])
          have d7 := own_word hown (t - 7) (by omega) x7 (by rw [hx7]; simp [show t - 7 < t by omega, hwl, show t - 7 < 80 by omega])
          have HWL : Hid (ws.length = 80) := hwl
          have HS1 : Hid (s1 = ts 64 x15 1 8 7) := hs1
          have HS2 : Hid (s2 = ts 64 x2 19 61 6) := hs2
          clear hws hwl hwt hx2 hx15 hx16 hx7 hs1 hs2
          go_wp2_with fail
          clear c1
          obtain ⟨vv, hvv⟩ : ∃ x, x = (x16 + s1 + x7 + s2) % 18446744073709551616 := ⟨_, rfl⟩
          have hsum : IntKind.u64.wrap (IntKind.u64.wrap (IntKind.u64.wrap ((x16 : Int) + (s1 : Int)) + (x7 : Int)) + (s2 : Int)) = (vv : Int) := by rw [hvv]; simp only [IntKind.wrap_u64]; omega
          have bvv : vv < 18446744073709551616 := by rw [hvv]; omega
          have HNW : Hid (vv = (x16 + s1 + x7 + s2) % 2 ^ 64) := by show _ = _; rw [hvv]
          clear hvv
          have rC := (kC.below hR.1)
          have rD := (kD.below hR.1)
          have q2 := cell_regrown d2
          have q15 := cell_regrown d15
          have q16 := cell_regrown d16
          have q7' := cell_regrown d7
          have q0 := cell_regrown (row_at hR.2 0 (.int .i64 64) rfl)
          have q1 := cell_regrown (row_at hR.2 1 (.int .i64 80) rfl)
          have q2 := cell_regrown (row_at hR.2 2 (.slice (some ⟨gA, 0, none⟩) 3 cA) rfl)
          have q3 := cell_regrown (row_at hR.2 3 (.slice (some ⟨gB, 0, none⟩) 3 cB) rfl)
          have q4 := cell_regrown (row_at hR.2 4 (.slice (some ⟨gC, 0, none⟩) 3 cC) rfl)
          have q5 := cell_regrown (row_at hR.2 5 (.slice (some ⟨gD, 0, none⟩) 3 cD) rfl)
          have q6 := cell_regrown (row_at hR.2 6 (.slice (some ⟨gK, 0, none⟩) 80 cK) rfl)
          have q7 := cell_regrown (row_at hR.2 7 vF rfl)
          have cQ1 : ∀ d os, Calls Tryz.prog 117 #[.agg #[.int .i64 64, .int .i64 80, .slice (some ⟨gA, 0, none⟩) 3 cA, .slice (some ⟨gB, 0, none⟩) 3 cB, .slice (some ⟨gC, 0, none⟩) 3 cC, .slice (some ⟨gD, 0, none⟩) 3 cD, .slice (some ⟨gK, 0, none⟩) 80 cK, vF], .int .u64 (x15 : Int), .slice (some ⟨gC, 0, none⟩) 3 cC, .bool true] (grow (redrawn wr d) os) fun e w'' => e = .returned (.int .u64 (s1 : Int)) ∧ ∃ p : Regrown, w'' = grow (redrawn wr p.d) p.os := fun d os => by
            have r := rC.below (below_regrown wr d os)
            rw [HS1.out]; exact Calls.regrown_of (mixed64s _ _ _ _ _ _ x15 gC cC _ _ _ _ l15 (by decide) (by decide) (by decide) r.a r.b r.c)
          have cQ2 : ∀ d os, Calls Tryz.prog 117 #[.agg #[.int .i64 64, .int .i64 80, .slice (some ⟨gA, 0, none⟩) 3 cA, .slice (some ⟨gB, 0, none⟩) 3 cB, .slice (some ⟨gC, 0, none⟩) 3 cC, .slice (some ⟨gD, 0, none⟩) 3 cD, .slice (some ⟨gK, 0, none⟩) 80 cK, vF], .int .u64 (x2 : Int), .slice (some ⟨gD, 0, none⟩) 3 cD, .bool true] (grow (redrawn wr d) os) fun e w'' => e = .returned (.int .u64 (s2 : Int)) ∧ ∃ p : Regrown, w'' = grow (redrawn wr p.d) p.os := fun d os => by
            have r := rD.below (below_regrown wr d os)
            rw [HS2.out]; exact Calls.regrown_of (mixed64s _ _ _ _ _ _ x2 gD cD _ _ _ _ l2 (by decide) (by decide) (by decide) r.a r.b r.c)
          refine wp_region_quiet_below (by kernel_rfl) (by kernel_rfl) ?_
          iterate 13 (go_big_quiet_step (fail))
          go_big_quiet_step (exact cQ1 _ _)
          iterate 15 (go_big_quiet_step (fail))
          go_big_quiet_step (exact cQ2 _ _)
          repeat (go_big_quiet_step (fail))
          refine wpQuiet_nil ?_
          intro w1 hw'
          have hb1 : Below wr.heap.size wr w1 := by obtain ⟨p, rfl⟩ := hw'; exact below_regrown _ _ _
          have hR1 := hR.on hb1
          have hown1 := own_on hown hb1
          clear hw' q0 q1 q2 q3 q4 q5 q6 q7 q15 q16 q7' d2 d15 d16 d7 rC rD cQ1 cQ2 hb1 hR hown
          have q0 := row_at hR1.2 0 (.int .i64 64) rfl
          have q1 := row_at hR1.2 1 (.int .i64 80) rfl
          have q2 := row_at hR1.2 2 (.slice (some ⟨gA, 0, none⟩) 3 cA) rfl
          have q3 := row_at hR1.2 3 (.slice (some ⟨gB, 0, none⟩) 3 cB) rfl
          have q4 := row_at hR1.2 4 (.slice (some ⟨gC, 0, none⟩) 3 cC) rfl
          have q5 := row_at hR1.2 5 (.slice (some ⟨gD, 0, none⟩) 3 cD) rfl
          have q6 := row_at hR1.2 6 (.slice (some ⟨gK, 0, none⟩) 80 cK) rfl
          have q7 := row_at hR1.2 7 vF rfl
          obtain ⟨nw, hnw⟩ : ∃ x, x = (x16 + s1 + x7 + s2) % 2 ^ 64 := ⟨_, rfl⟩
          have hlow : Calls Tryz.prog 118 #[.agg #[.int .i64 64, .int .i64 80, .slice (some ⟨gA, 0, none⟩) 3 cA, .slice (some ⟨gB, 0, none⟩) 3 cB, .slice (some ⟨gC, 0, none⟩) 3 cC, .slice (some ⟨gD, 0, none⟩) 3 cD, .slice (some ⟨gK, 0, none⟩) 80 cK, vF], .int .u64 (vv : Int)] w1 fun e w' => e = .returned (.int .u64 (nw : Int)) ∧ Below w1.heap.size w1 w' := by
            rw [hnw, ← HNW.out]; exact lowH64 (.slice (some ⟨gA, 0, none⟩) 3 cA) (.slice (some ⟨gB, 0, none⟩) 3 cB) (.slice (some ⟨gC, 0, none⟩) 3 cC) (.slice (some ⟨gD, 0, none⟩) 3 cD) (.slice (some ⟨gK, 0, none⟩) 80 cK) vF vv w1 bvv
          rw [← hnw] at HT
          clear hnw HNW hsum
          go_wp2_with fail
          refine hlow.mono ?_
          rintro e w2 ⟨rfl, hb2⟩
          have hR2 := hR1.on hb2
          have hown2 := own_on hown1 hb2
          have hwB : w.heap.size + 1 ≤ w2.heap.size := lt_of_heap hR2.2
          clear hlow hb2 hR1 hown1 q0 q1 q2 q3 q4 q5 q6 q7
          go_wp2_with (at_builtin; refine wpList_append_own _ rfl (.tmp 88) (.tmp 92) 100 rfl (w.heap.size + 1) 55 i0 (.int .u64 0) 1 8 Tryz.underlying100 hi hz0 hz1 hz2 rfl (by decide) _ _ _ rfl (hown2.alloc _) ⟨w2.heap.size, 0, none⟩ 1 1 [.int .u64 (nw : Int)] rfl rfl (Hnews_one _ _ _) one_word (by unfold maxLen; omega) (by omega) (by simp; omega) ?_; intro v' w3 hown' hgrow _)
          have hlt1 := hown2.lt
          have HE : Hid (uv (ws.take t) ++ [.int .u64 (nw : Int)] = uv ((P2 sh64 PW (t + 1 - 16)).take (t + 1))) := by
            show uv (ws.take t) ++ [.int .u64 (nw : Int)] = uv ((P2 sh64 PW (t + 1 - 16)).take (t + 1))
            rw [HS.out, HT.out, take_set (by rw [HWL.out]; omega)]; simp [uv]
          rw [HE.out] at hown'
          have hRn := hR2.grown _ hgrow (fun k hk => by have := (hlt1 k hk).1; omega)
          obtain ⟨g', cap', rfl, _, _⟩ := own_form hown' (by omega)
          clear hown2 hgrow hR2 hlt1
          go_roundw
          case rel => first | exact ⟨t + 1, by omega, by omega, by go_num, hRn, g', cap', rfl, hown'⟩ | ((repeat apply Exists.intro); exact ⟨⟨t + 1, by omega, by omega, by go_num, hRn, g', cap', rfl, hown'⟩, rfl⟩)
          case measure => simp [intOf]; omega
        · obtain rfl : t = 80 := by omega
          have hSP : P2 sh64 PW (80 - 16) = spr sh64 bs := by rw [HPW.out]; rfl
          rw [hSP] at hown
          clear hSP
          have hrs : ∀ i, i < 8 → wr.cell? ⟨gs, i, none⟩ = some (.int .u64 ((st.getD i 0 : Nat) : Int)) := fun i hi => (hR.1.cell (p := ⟨gs, i, none⟩) (block_lt_of_cell (a := ⟨gs, 0, none⟩) (hcs 0 (by omega)))).trans (hcs i hi)
          have hnews := news_words st hst hrs
          have hwB : w.heap.size + 1 ≤ wr.heap.size := lt_of_heap hR.2
          have huvl : (uv st).length = 8 * 1 := by simp [uv, hst]
          have hrs' : Hid (∀ i, i < 8 → wr.cell? ⟨gs, i, none⟩ = some (.int .u64 ((st.getD i 0 : Nat) : Int))) := hrs
          clear hrs
          go_wp2_with (at_builtin; refine wpList_append_own _ rfl (.tmp 94) (.tmp 95) 100 rfl (w.heap.size + 1) 55 i0 (.int .u64 0) 1 8 Tryz.underlying100 hi hz0 hz1 hz2 rfl (by decide) (.slice none 0 0) 0 [] rfl (World.ownsRow_nil _ _ _ _) ⟨gs, 0, none⟩ 8 cs (uv st) rfl huvl hnews uv_one (by unfold maxLen; omega) (by omega) hwB ?_; intro v' w1 hown' hgrow _)
          clear c1 hnews
          simp only [List.nil_append, Nat.zero_add] at hown'
          obtain ⟨gr, cr, rfl, hgr, hcr⟩ := own_form hown' (by omega)
          have hR1 : RelB w #[.int .i64 64, .int .i64 80, .slice (some ⟨gA, 0, none⟩) 3 cA, .slice (some ⟨gB, 0, none⟩) 3 cB, .slice (some ⟨gC, 0, none⟩) 3 cC, .slice (some ⟨gD, 0, none⟩) 3 cD, .slice (some ⟨gK, 0, none⟩) 80 cK, vF] w1 := ⟨hR.1.grown hgrow hR.1.size (by intro k hk; cases hk), (hgrow.block _ (lt_of_heap hR.2) (by simp [Value.ownBlock])).trans hR.2⟩
          have hwd1 : Words w1 g 80 (spr sh64 bs) := words_of (hown.kept hgrow (.inr (by simp [Value.ownBlock]))) (by rw [spr_len]; omega)
          have hrr1 : Words w1 gr 8 (ofL st).list := by
            have := words_of8 hown' hst
            exact this
          clear hgrow hown' hR hown huvl
          go_loopw [14, 13] (fun i v13 wr => ∃ t : Nat, t ≤ 80 ∧ i = .int .i64 (t : Int) ∧ RelB w #[.int .i64 64, .int .i64 80, .slice (some ⟨gA, 0, none⟩) 3 cA, .slice (some ⟨gB, 0, none⟩) 3 cB, .slice (some ⟨gC, 0, none⟩) 3 cC, .slice (some ⟨gD, 0, none⟩) 3 cD, .slice (some ⟨gK, 0, none⟩) 80 cK, vF] wr ∧ Words wr g 80 (spr sh64 bs) ∧ ∃ gr cr : Nat, ∃ q : S8, v13 = .slice (some ⟨gr, 0, none⟩) 8 cr ∧ q = Rr sh64 kk (spr sh64 bs) (ofL st) t ∧ Words wr gr 8 q.list) (fun i _ _ => 80 - (intOf i).toNat)
          case atStart => exact ⟨0, by omega, rfl, hR1, hwd1, gr, cr, _, rfl, rfl, hrr1⟩
          case round =>
            clear hR1 hwd1 hrr1 hgr hcr
            obtain ⟨t, ht, rfl, hR, hwd, gr, cr, ⟨r0, r1, r2, r3, r4, r5, r6, r7⟩, rfl, hq, hrr⟩ := hrel
            have HQ : Hid ((⟨r0, r1, r2, r3, r4, r5, r6, r7⟩ : S8) = Rr sh64 kk (spr sh64 bs) (ofL st) t) := hq
            clear hq
            have c1 := row_at hR.2 1 (.int .i64 80) rfl
            by_cases hlt : t < 80
            · obtain ⟨b0, b1, b2, b3, b4, b5, b6, b7⟩ : S8.lt ⟨r0, r1, r2, r3, r4, r5, r6, r7⟩ 18446744073709551616 := by rw [HQ.out]; exact Rr_lt sh64 _ _ _ (ofL_lt st 18446744073709551616 hsl) t
              obtain ⟨kt, hkt⟩ : ∃ x, x = kk.getD t 0 := ⟨_, rfl⟩
              obtain ⟨wt, hwt⟩ : ∃ x, x = (spr sh64 bs).getD t 0 := ⟨_, rfl⟩
              obtain ⟨sB, hsB⟩ : ∃ x, x = tn 64 r4 14 18 41 := ⟨_, rfl⟩
              obtain ⟨sA, hsA⟩ : ∃ x, x = tn 64 r0 28 34 39 := ⟨_, rfl⟩
              obtain ⟨ch, hch⟩ : ∃ x, x = (r4 &&& r5) ^^^ ((2 ^ 64 - 1 - r4) &&& r6) := ⟨_, rfl⟩
              obtain ⟨mj, hmj⟩ : ∃ x, x = (r0 &&& r1) ^^^ (r0 &&& r2) ^^^ (r1 &&& r2) := ⟨_, rfl⟩
              obtain ⟨xx, hxx⟩ : ∃ x, x = (r7 + sB + ch + kt + wt) % 2 ^ 64 := ⟨_, rfl⟩
              obtain ⟨yy, hyy⟩ : ∃ x, x = (sA + mj) % 2 ^ 64 := ⟨_, rfl⟩
              have HB : Hid (Rr sh64 kk (spr sh64 bs) (ofL st) (t + 1) = ⟨(xx + yy) % 2 ^ 64, r0, r1, r2, (r3 + xx) % 2 ^ 64, r4, r5, r6⟩) := by
                show Rr sh64 kk (spr sh64 bs) (ofL st) (t + 1) = _
                rw [Rr, ← HQ.out, hyy, hxx, hsA, hsB, hch, hmj, hkt, hwt]; rfl
              have hbk : kt < 18446744073709551616 := by rw [hkt]; exact hkb t
              have hbw : wt < 18446744073709551616 := by rw [hwt]; exact spr_lt sh64 (by decide) bs hb256 t
              have hbB : sB < 18446744073709551616 := by rw [hsB]; exact tn_lt (W := 64) b4
              have hbA : sA < 18446744073709551616 := by rw [hsA]; exact tn_lt (W := 64) b0
              have hbc : ch < 18446744073709551616 := by rw [hch]; exact Nat.xor_lt_two_pow (n := 64) (Nat.and_lt_two_pow _ b5) (Nat.and_lt_two_pow _ b6)
              have hbm : mj < 18446744073709551616 := by rw [hmj]; exact Nat.xor_lt_two_pow (n := 64) (Nat.xor_lt_two_pow (Nat.and_lt_two_pow _ b1) (Nat.and_lt_two_pow _ b2)) (Nat.and_lt_two_pow _ b2)
              have hbx : xx < 18446744073709551616 := by rw [hxx]; exact Nat.mod_lt _ (by decide)
              have hby : yy < 18446744073709551616 := by rw [hyy]; exact Nat.mod_lt _ (by decide)
              have HX : Hid (xx = (r7 + sB + ch + kt + wt) % 2 ^ 64) := hxx
              have HY : Hid (yy = (sA + mj) % 2 ^ 64) := hyy
              have HSB : Hid (sB = tn 64 r4 14 18 41) := hsB
              have HSA : Hid (sA = tn 64 r0 28 34 39) := hsA
              have HCH : Hid (ch = (r4 &&& r5) ^^^ ((2 ^ 64 - 1 - r4) &&& r6)) := hch
              have HMJ : Hid (mj = (r0 &&& r1) ^^^ (r0 &&& r2) ^^^ (r1 &&& r2)) := hmj
              have dK : wr.cell? ⟨gK, t, none⟩ = some (.int .u64 (kt : Int)) := by rw [hkt]; exact (hR.1.cell (p := ⟨gK, t, none⟩) (block_lt_of_cell (a := ⟨gK, 0, none⟩) (hkk 0 (by omega)))).trans (hkk t hlt)
              have dW : wr.cell? ⟨g, t, none⟩ = some (.int .u64 (wt : Int)) := by rw [hwt]; exact hwd t hlt
              clear hkt hwt hsA hsB hch hmj hxx hyy
              have e4 : _ = some (Value.int .u64 (r4 : Int)) := hrr 4 (by omega)
              have e0 : _ = some (Value.int .u64 (r0 : Int)) := hrr 0 (by omega)
              have q0 := row_at hR.2 0 (.int .i64 64) rfl
              have q1 := row_at hR.2 1 (.int .i64 80) rfl
              have q2 := row_at hR.2 2 (.slice (some ⟨gA, 0, none⟩) 3 cA) rfl
              have q3 := row_at hR.2 3 (.slice (some ⟨gB, 0, none⟩) 3 cB) rfl
              have q4 := row_at hR.2 4 (.slice (some ⟨gC, 0, none⟩) 3 cC) rfl
              have q5 := row_at hR.2 5 (.slice (some ⟨gD, 0, none⟩) 3 cD) rfl
              have q6 := row_at hR.2 6 (.slice (some ⟨gK, 0, none⟩) 80 cK) rfl
              have q7 := row_at hR.2 7 vF rfl
              have hon : Calls Tryz.prog 118 #[.agg #[.int .i64 64, .int .i64 80, .slice (some ⟨gA, 0, none⟩) 3 cA, .slice (some ⟨gB, 0, none⟩) 3 cB, .slice (some ⟨gC, 0, none⟩) 3 cC, .slice (some ⟨gD, 0, none⟩) 3 cD, .slice (some ⟨gK, 0, none⟩) 80 cK, vF], .int .u64 18446744073709551615] wr fun e w' => e = .returned (.int .u64 18446744073709551615) ∧ Below wr.heap.size wr w' := lowH64 (.slice (some ⟨gA, 0, none⟩) 3 cA) (.slice (some ⟨gB, 0, none⟩) 3 cB) (.slice (some ⟨gC, 0, none⟩) 3 cC) (.slice (some ⟨gD, 0, none⟩) 3 cD) (.slice (some ⟨gK, 0, none⟩) 80 cK) vF 18446744073709551615 wr (by omega)
              go_wp2_with fail
              refine hon.mono ?_
              rintro e w1 ⟨rfl, hb1⟩
              have hR1 := hR.on hb1
              have hrr1 := hrr.on hb1
              have hwd1 := hwd.on hb1
              have cK1 := (hb1.cell (p := ⟨gK, t, none⟩) (block_lt_of_cell (a := ⟨gK, t, none⟩) dK)).trans dK
              have cW1 := (hb1.cell (p := ⟨g, t, none⟩) (block_lt_of_cell (a := ⟨g, t, none⟩) dW)).trans dW
              clear hon hb1 hR hrr hwd dK dW e0 e4 q0 q1 q2 q3 q4 q5 q6 q7 c1
              go_wp2_with fail
              obtain ⟨a1, ha1⟩ : ∃ x, x = r4 &&& r5 := ⟨_, rfl⟩
              obtain ⟨a2, ha2⟩ : ∃ x, x = 2 ^ 64 - 1 - r4 := ⟨_, rfl⟩
              obtain ⟨a3, ha3⟩ : ∃ x, x = a2 &&& r6 := ⟨_, rfl⟩
              have ba1 : a1 < 18446744073709551616 := by rw [ha1]; exact Nat.and_lt_two_pow (n := 64) _ b5
              have ba2 : a2 < 18446744073709551616 := by rw [ha2]; omega
              have ba3 : a3 < 18446744073709551616 := by rw [ha3]; exact Nat.and_lt_two_pow (n := 64) _ b6
              have z1 : bits .and .u64 (r4 : Int) (r5 : Int) = (a1 : Int) := by rw [ha1]; exact u64_and_nat _ _ (by omega) (by omega)
              have z2 : bits .xor .u64 18446744073709551615 (r4 : Int) = (a2 : Int) := by rw [ha2]; exact ones64 r4 b4
              have z3 : bits .and .u64 (a2 : Int) (r6 : Int) = (a3 : Int) := by rw [ha3]; exact u64_and_nat _ _ (by omega) (by omega)
              have z4 : bits .xor .u64 (a1 : Int) (a3 : Int) = (ch : Int) := by rw [HCH.out, ← ha2, ← ha1, ← ha3]; exact u64_xor_nat _ _ (by omega) (by omega)
              clear ha1 ha2 ha3
              obtain ⟨v5, hv5⟩ : ∃ x, x = (r7 + sB + ch + kt + wt) % 18446744073709551616 := ⟨_, rfl⟩
              have hs5 : IntKind.u64.wrap (IntKind.u64.wrap (IntKind.u64.wrap (IntKind.u64.wrap ((r7 : Int) + (sB : Int)) + (ch : Int)) + (kt : Int)) + (wt : Int)) = (v5 : Int) := by rw [hv5]; simp only [IntKind.wrap_u64]; omega
              have bv5 : v5 < 18446744073709551616 := by rw [hv5]; omega
              have hlx : Hid (v5 = xx) := by show _ = _; rw [HX.out, hv5]
              clear hv5
              have q0 := cell_regrown (row_at hR1.2 0 (.int .i64 64) rfl)
              have q1 := cell_regrown (row_at hR1.2 1 (.int .i64 80) rfl)
              have q2 := cell_regrown (row_at hR1.2 2 (.slice (some ⟨gA, 0, none⟩) 3 cA) rfl)
              have q3 := cell_regrown (row_at hR1.2 3 (.slice (some ⟨gB, 0, none⟩) 3 cB) rfl)
              have q4 := cell_regrown (row_at hR1.2 4 (.slice (some ⟨gC, 0, none⟩) 3 cC) rfl)
              have q5 := cell_regrown (row_at hR1.2 5 (.slice (some ⟨gD, 0, none⟩) 3 cD) rfl)
              have q6 := cell_regrown (row_at hR1.2 6 (.slice (some ⟨gK, 0, none⟩) 80 cK) rfl)
              have q7 := cell_regrown (row_at hR1.2 7 vF rfl)
              have e5 := cell_regrown (show (_ : World).cell? ⟨gr, 5, none⟩ = some (.int .u64 (r5 : Int)) from hrr1 5 (by omega))
              have e6 := cell_regrown (show (_ : World).cell? ⟨gr, 6, none⟩ = some (.int .u64 (r6 : Int)) from hrr1 6 (by omega))
              have e7 := cell_regrown (show (_ : World).cell? ⟨gr, 7, none⟩ = some (.int .u64 (r7 : Int)) from hrr1 7 (by omega))
              have k1 := cell_regrown cK1
              have k2 := cell_regrown cW1
              have rB := kB.below hR1.1
              have cQ1 : ∀ d os, Calls Tryz.prog 117 #[.agg #[.int .i64 64, .int .i64 80, .slice (some ⟨gA, 0, none⟩) 3 cA, .slice (some ⟨gB, 0, none⟩) 3 cB, .slice (some ⟨gC, 0, none⟩) 3 cC, .slice (some ⟨gD, 0, none⟩) 3 cD, .slice (some ⟨gK, 0, none⟩) 80 cK, vF], .int .u64 (r4 : Int), .slice (some ⟨gB, 0, none⟩) 3 cB, .bool false] (grow (redrawn w1 d) os) fun e w'' => e = .returned (.int .u64 (sB : Int)) ∧ ∃ p : Regrown, w'' = grow (redrawn w1 p.d) p.os := fun d os => by
                have r := rB.below (below_regrown w1 d os)
                rw [HSB.out]; exact Calls.regrown_of (mixed64n _ _ _ _ _ _ r4 gB cB _ _ _ _ b4 (by decide) (by decide) (by decide) r.a r.b r.c)
              have cQ2 : ∀ d os, Calls Tryz.prog 118 #[.agg #[.int .i64 64, .int .i64 80, .slice (some ⟨gA, 0, none⟩) 3 cA, .slice (some ⟨gB, 0, none⟩) 3 cB, .slice (some ⟨gC, 0, none⟩) 3 cC, .slice (some ⟨gD, 0, none⟩) 3 cD, .slice (some ⟨gK, 0, none⟩) 80 cK, vF], .int .u64 (v5 : Int)] (grow (redrawn w1 d) os) fun e w'' => e = .returned (.int .u64 (xx : Int)) ∧ ∃ p : Regrown, w'' = grow (redrawn w1 p.d) p.os := fun d os => by
                rw [← hlx.out]; exact Calls.regrown_of (lowH64 _ _ _ _ _ _ v5 _ bv5)
              refine wp_region_quiet_below (by kernel_rfl) (by kernel_rfl) ?_
              iterate 8 (go_big_quiet_step (fail))
              go_big_quiet_step (exact cQ1 _ _)
              iterate 26 (go_big_quiet_step (fail))
              go_big_quiet_step (exact cQ2 _ _)
              repeat (go_big_quiet_step (fail))
              refine wpQuiet_nil ?_
              intro w2 hw'
              have hb2 : Below w1.heap.size w1 w2 := by obtain ⟨p, rfl⟩ := hw'; exact below_regrown _ _ _
              have hR2 := hR1.on hb2
              have hrr2 := hrr1.on hb2
              have hwd2 := hwd1.on hb2
              clear hw' hb2 hR1 hrr1 hwd1 cK1 cW1 q0 q1 q2 q3 q4 q5 q6 q7 e5 e6 e7 k1 k2 rB cQ1 cQ2 z1 z2 z3 z4 hs5 ba1 ba2 ba3 hlx bv5
              go_wp2_with fail
              obtain ⟨a1, ha1⟩ : ∃ x, x = r0 &&& r1 := ⟨_, rfl⟩
              obtain ⟨a2, ha2⟩ : ∃ x, x = r0 &&& r2 := ⟨_, rfl⟩
              obtain ⟨a3, ha3⟩ : ∃ x, x = a1 ^^^ a2 := ⟨_, rfl⟩
              obtain ⟨a4, ha4⟩ : ∃ x, x = r1 &&& r2 := ⟨_, rfl⟩
              have ba1 : a1 < 18446744073709551616 := by rw [ha1]; exact Nat.and_lt_two_pow (n := 64) _ b1
              have ba2 : a2 < 18446744073709551616 := by rw [ha2]; exact Nat.and_lt_two_pow (n := 64) _ b2
              have ba3 : a3 < 18446744073709551616 := by rw [ha3]; exact Nat.xor_lt_two_pow (n := 64) ba1 ba2
              have ba4 : a4 < 18446744073709551616 := by rw [ha4]; exact Nat.and_lt_two_pow (n := 64) _ b2
              have z1 : bits .and .u64 (r0 : Int) (r1 : Int) = (a1 : Int) := by rw [ha1]; exact u64_and_nat _ _ (by omega) (by omega)
              have z2 : bits .and .u64 (r0 : Int) (r2 : Int) = (a2 : Int) := by rw [ha2]; exact u64_and_nat _ _ (by omega) (by omega)
              have z3 : bits .xor .u64 (a1 : Int) (a2 : Int) = (a3 : Int) := by rw [ha3]; exact u64_xor_nat _ _ (by omega) (by omega)
              have z4 : bits .and .u64 (r1 : Int) (r2 : Int) = (a4 : Int) := by rw [ha4]; exact u64_and_nat _ _ (by omega) (by omega)
              have z5 : bits .xor .u64 (a3 : Int) (a4 : Int) = (mj : Int) := by rw [HMJ.out, ← ha1, ← ha2, ← ha3, ← ha4]; exact u64_xor_nat _ _ (by omega) (by omega)
              clear ha1 ha2 ha3 ha4
              obtain ⟨v2, hv2⟩ : ∃ x, x = (sA + mj) % 18446744073709551616 := ⟨_, rfl⟩
              have hs2 : IntKind.u64.wrap ((sA : Int) + (mj : Int)) = (v2 : Int) := by rw [hv2]; simp only [IntKind.wrap_u64]; omega
              have bv2 : v2 < 18446744073709551616 := by rw [hv2]; omega
              have hlx : Hid (v2 = yy) := by show _ = _; rw [HY.out, hv2]
              clear hv2
              have q0 := cell_regrown (row_at hR2.2 0 (.int .i64 64) rfl)
              have q1 := cell_regrown (row_at hR2.2 1 (.int .i64 80) rfl)
              have q2 := cell_regrown (row_at hR2.2 2 (.slice (some ⟨gA, 0, none⟩) 3 cA) rfl)
              have q3 := cell_regrown (row_at hR2.2 3 (.slice (some ⟨gB, 0, none⟩) 3 cB) rfl)
              have q4 := cell_regrown (row_at hR2.2 4 (.slice (some ⟨gC, 0, none⟩) 3 cC) rfl)
              have q5 := cell_regrown (row_at hR2.2 5 (.slice (some ⟨gD, 0, none⟩) 3 cD) rfl)
              have q6 := cell_regrown (row_at hR2.2 6 (.slice (some ⟨gK, 0, none⟩) 80 cK) rfl)
              have q7 := cell_regrown (row_at hR2.2 7 vF rfl)
              have e1 := cell_regrown (show (_ : World).cell? ⟨gr, 1, none⟩ = some (.int .u64 (r1 : Int)) from hrr2 1 (by omega))
              have e2 := cell_regrown (show (_ : World).cell? ⟨gr, 2, none⟩ = some (.int .u64 (r2 : Int)) from hrr2 2 (by omega))
              have rA := kA.below hR2.1
              have cQ1 : ∀ d os, Calls Tryz.prog 117 #[.agg #[.int .i64 64, .int .i64 80, .slice (some ⟨gA, 0, none⟩) 3 cA, .slice (some ⟨gB, 0, none⟩) 3 cB, .slice (some ⟨gC, 0, none⟩) 3 cC, .slice (some ⟨gD, 0, none⟩) 3 cD, .slice (some ⟨gK, 0, none⟩) 80 cK, vF], .int .u64 (r0 : Int), .slice (some ⟨gA, 0, none⟩) 3 cA, .bool false] (grow (redrawn w2 d) os) fun e w'' => e = .returned (.int .u64 (sA : Int)) ∧ ∃ p : Regrown, w'' = grow (redrawn w2 p.d) p.os := fun d os => by
                have r := rA.below (below_regrown w2 d os)
                rw [HSA.out]; exact Calls.regrown_of (mixed64n _ _ _ _ _ _ r0 gA cA _ _ _ _ b0 (by decide) (by decide) (by decide) r.a r.b r.c)
              have cQ2 : ∀ d os, Calls Tryz.prog 118 #[.agg #[.int .i64 64, .int .i64 80, .slice (some ⟨gA, 0, none⟩) 3 cA, .slice (some ⟨gB, 0, none⟩) 3 cB, .slice (some ⟨gC, 0, none⟩) 3 cC, .slice (some ⟨gD, 0, none⟩) 3 cD, .slice (some ⟨gK, 0, none⟩) 80 cK, vF], .int .u64 (v2 : Int)] (grow (redrawn w2 d) os) fun e w'' => e = .returned (.int .u64 (yy : Int)) ∧ ∃ p : Regrown, w'' = grow (redrawn w2 p.d) p.os := fun d os => by
                rw [← hlx.out]; exact Calls.regrown_of (lowH64 _ _ _ _ _ _ v2 _ bv2)
              refine wp_region_quiet_below (by kernel_rfl) (by kernel_rfl) ?_
              iterate 5 (go_big_quiet_step (fail))
              go_big_quiet_step (exact cQ1 _ _)
              iterate 20 (go_big_quiet_step (fail))
              go_big_quiet_step (exact cQ2 _ _)
              repeat (go_big_quiet_step (fail))
              refine wpQuiet_nil ?_
              intro w3 hw'
              have hb3 : Below w2.heap.size w2 w3 := by obtain ⟨p, rfl⟩ := hw'; exact below_regrown _ _ _
              have hR3 := hR2.on hb3
              have hrr3 := hrr2.on hb3
              have hwd3 := hwd2.on hb3
              clear hw' hb3 hR2 hrr2 hwd2 q0 q1 q2 q3 q4 q5 q6 q7 e1 e2 rA cQ1 cQ2 z1 z2 z3 z4 z5 hs2 ba1 ba2 ba3 ba4 hlx bv2
              obtain ⟨nx, hnx⟩ : ∃ x, x = (xx + yy) % 18446744073709551616 := ⟨_, rfl⟩
              obtain ⟨ne, hne⟩ : ∃ x, x = (r3 + xx) % 18446744073709551616 := ⟨_, rfl⟩
              have hsx : IntKind.u64.wrap ((xx : Int) + (yy : Int)) = (nx : Int) := by rw [hnx]; simp only [IntKind.wrap_u64]; omega
              have hse : IntKind.u64.wrap ((r3 : Int) + (xx : Int)) = (ne : Int) := by rw [hne]; simp only [IntKind.wrap_u64]; omega
              have bnx : nx < 18446744073709551616 := by rw [hnx]; omega
              have bne : ne < 18446744073709551616 := by rw [hne]; omega
              have hwx : IntKind.u64.wrap (nx : Int) = (nx : Int) := by rw [IntKind.wrap_u64]; omega
              have hwe : IntKind.u64.wrap (ne : Int) = (ne : Int) := by rw [IntKind.wrap_u64]; omega
              have HNX : Hid (nx = (xx + yy) % 2 ^ 64) := by show _ = _; rw [hnx]
              have HNE : Hid (ne = (r3 + xx) % 2 ^ 64) := by show _ = _; rw [hne]
              clear hnx hne
              have hall : ∀ w', Below w3.heap.size w3 w' → Below w3.heap.size w3 w' ∧ w'.cell? ⟨w.heap.size, 0, none⟩ = some (.int .i64 64) ∧ w'.cell? ⟨w.heap.size, 1, none⟩ = some (.int .i64 80) ∧ w'.cell? ⟨w.heap.size, 2, none⟩ = some (.slice (some ⟨gA, 0, none⟩) 3 cA) ∧ w'.cell? ⟨w.heap.size, 3, none⟩ = some (.slice (some ⟨gB, 0, none⟩) 3 cB) ∧ w'.cell? ⟨w.heap.size, 4, none⟩ = some (.slice (some ⟨gC, 0, none⟩) 3 cC) ∧ w'.cell? ⟨w.heap.size, 5, none⟩ = some (.slice (some ⟨gD, 0, none⟩) 3 cD) ∧ w'.cell? ⟨w.heap.size, 6, none⟩ = some (.slice (some ⟨gK, 0, none⟩) 80 cK) ∧ w'.cell? ⟨w.heap.size, 7, none⟩ = some vF ∧ w'.cell? ⟨gr, 1, none⟩ = some (.int .u64 (r1 : Int)) ∧ w'.cell? ⟨gr, 2, none⟩ = some (.int .u64 (r2 : Int)) ∧ w'.cell? ⟨gr, 3, none⟩ = some (.int .u64 (r3 : Int)) ∧ w'.cell? ⟨gr, 5, none⟩ = some (.int .u64 (r5 : Int)) ∧ w'.cell? ⟨gr, 6, none⟩ = some (.int .u64 (r6 : Int)) := fun w' hb =>
                have hRx := hR3.on hb
                have hrx := hrr3.on hb
                ⟨hb, row_at hRx.2 0 _ rfl, row_at hRx.2 1 _ rfl, row_at hRx.2 2 _ rfl, row_at hRx.2 3 _ rfl, row_at hRx.2 4 _ rfl, row_at hRx.2 5 _ rfl, row_at hRx.2 6 _ rfl, row_at hRx.2 7 _ rfl, hrx 1 (by omega), hrx 2 (by omega), hrx 3 (by omega), hrx 5 (by omega), hrx 6 (by omega)⟩
              go_wp2_with fail
              go_region_held3 (fun w' => Below w3.heap.size w3 w' ∧ w'.cell? ⟨w.heap.size, 0, none⟩ = some (.int .i64 64) ∧ w'.cell? ⟨w.heap.size, 1, none⟩ = some (.int .i64 80) ∧ w'.cell? ⟨w.heap.size, 2, none⟩ = some (.slice (some ⟨gA, 0, none⟩) 3 cA) ∧ w'.cell? ⟨w.heap.size, 3, none⟩ = some (.slice (some ⟨gB, 0, none⟩) 3 cB) ∧ w'.cell? ⟨w.heap.size, 4, none⟩ = some (.slice (some ⟨gC, 0, none⟩) 3 cC) ∧ w'.cell? ⟨w.heap.size, 5, none⟩ = some (.slice (some ⟨gD, 0, none⟩) 3 cD) ∧ w'.cell? ⟨w.heap.size, 6, none⟩ = some (.slice (some ⟨gK, 0, none⟩) 80 cK) ∧ w'.cell? ⟨w.heap.size, 7, none⟩ = some vF ∧ w'.cell? ⟨gr, 1, none⟩ = some (.int .u64 (r1 : Int)) ∧ w'.cell? ⟨gr, 2, none⟩ = some (.int .u64 (r2 : Int)) ∧ w'.cell? ⟨gr, 3, none⟩ = some (.int .u64 (r3 : Int)) ∧ w'.cell? ⟨gr, 5, none⟩ = some (.int .u64 (r5 : Int)) ∧ w'.cell? ⟨gr, 6, none⟩ = some (.int .u64 (r6 : Int)))
                (first | exact hall _ hc1 | exact hall _ (hc1.alloc hc1.size _) | exact hall _ (Below.refl _ _).drew)
                (first | (go_at_call 118; refine (lowH64 _ _ _ _ _ _ _ _ ?_).mono ?_; assumption; rintro e w' ⟨rfl, hbq⟩; have hc1 : Below w3.heap.size w3 w' := by first | exact ((Below.refl _ _).drew.trans hbq) | exact hc1.trans (hbq.mono hc1.size)))
              go_wp2_with fail
              have hRn := hR3.on (hc1.alloc hc1.size (.cells (ints .u64 [nx, r0, r1, r2, ne, r4, r5, r6]) 55))
              have hwn := hwd3.on (hc1.alloc hc1.size (.cells (ints .u64 [nx, r0, r1, r2, ne, r4, r5, r6]) 55))
              have hrn := words_alloc w' [nx, r0, r1, r2, ne, r4, r5, r6] rfl
              have HBn : Hid ((⟨nx, r0, r1, r2, ne, r4, r5, r6⟩ : S8) = Rr sh64 kk (spr sh64 bs) (ofL st) (t + 1)) := by
                show _ = _
                rw [HB.out, HNX.out, HNE.out]
              go_roundw
              case rel => first | exact ⟨t + 1, by omega, by go_num, hRn, hwn, w'.heap.size, 8, ⟨_, _, _, _, _, _, _, _⟩, rfl, HBn.out, hrn⟩ | ((repeat apply Exists.intro); exact ⟨⟨t + 1, by omega, by go_num, hRn, hwn, w'.heap.size, 8, ⟨_, _, _, _, _, _, _, _⟩, rfl, HBn.out, hrn⟩, rfl⟩)
              case measure => simp [intOf]; omega
            · obtain rfl : t = 80 := by omega
              go_wp2_with fail
              clear c1 hwd
              have hqle : ∀ k, k < 8 → ql.getD k 0 = (st.getD k 0 + [r0, r1, r2, r3, r4, r5, r6, r7].getD k 0) % 2 ^ 64 := fun k hk => by
                rw [HQD.out, ← HQ.out]; exact zip8 st hst _ _ _ _ _ _ _ _ _ k hk
              have HQE : Hid (∀ k, k < 8 → ql.getD k 0 = (st.getD k 0 + [r0, r1, r2, r3, r4, r5, r6, r7].getD k 0) % 2 ^ 64) := hqle
              clear hqle
              obtain ⟨b0, b1, b2, b3, b4, b5, b6, b7⟩ : S8.lt ⟨r0, r1, r2, r3, r4, r5, r6, r7⟩ 18446744073709551616 := by rw [HQ.out]; exact Rr_lt sh64 _ _ _ (ofL_lt st 18446744073709551616 hsl) 80
              obtain ⟨BB, hBB⟩ : ∃ x, x = wr.heap.size := ⟨_, rfl⟩
              have hgrB : gr < BB := by rw [hBB]; exact block_lt_of_cell (hrr 0 (by omega))
              have hwBB : w.heap.size < BB := by rw [hBB]; exact lt_of_heap hR.2
              have hgsB : gs < BB := Nat.lt_trans (block_lt_of_cell (a := ⟨gs, 0, none⟩) (hcs 0 (by omega))) hwBB
              have hBsz : BB ≤ wr.heap.size := Nat.le_of_eq hBB
              clear hBB
              go_loopw [21, 20] (fun i v20 wr => ∃ k : Nat, k ≤ 8 ∧ i = .int .i64 (k : Int) ∧ RelB w #[.int .i64 64, .int .i64 80, .slice (some ⟨gA, 0, none⟩) 3 cA, .slice (some ⟨gB, 0, none⟩) 3 cB, .slice (some ⟨gC, 0, none⟩) 3 cC, .slice (some ⟨gD, 0, none⟩) 3 cD, .slice (some ⟨gK, 0, none⟩) 80 cK, vF] wr ∧ Words wr gr 8 [r0, r1, r2, r3, r4, r5, r6, r7] ∧ BB ≤ wr.heap.size ∧ wr.ownsRow BB 55 1 v20 k (uv (ql.take k))) (fun i _ _ => 8 - (intOf i).toNat)
              case atStart => exact ⟨0, by omega, rfl, hR, hrr, hBsz, World.ownsRow_nil _ _ _ _⟩
              case round =>
                clear hR hrr hBsz
                obtain ⟨k, hk, rfl, hR, hrr, hBsz, hown⟩ := hrel
                by_cases hlt : k < 8
                · obtain ⟨rk, hrk⟩ : ∃ x, x = [r0, r1, r2, r3, r4, r5, r6, r7].getD k 0 := ⟨_, rfl⟩
                  obtain ⟨sk, hsk⟩ : ∃ x, x = st.getD k 0 := ⟨_, rfl⟩
                  have brk : rk < 18446744073709551616 := by rw [hrk]; exact list8_lt b0 b1 b2 b3 b4 b5 b6 b7 k
                  have bsk : sk < 18446744073709551616 := by rw [hsk]; exact hsl k
                  have d1 : wr.cell? ⟨gr, k, none⟩ = some (.int .u64 (rk : Int)) := by rw [hrk]; exact hrr k hlt
                  have d2 : wr.cell? ⟨gs, k, none⟩ = some (.int .u64 (sk : Int)) := by rw [hsk]; exact (hR.1.cell (p := ⟨gs, k, none⟩) (block_lt_of_cell (a := ⟨gs, 0, none⟩) (hcs 0 (by omega)))).trans (hcs k hlt)
                  obtain ⟨nx, hnx⟩ : ∃ x, x = (rk + sk) % 18446744073709551616 := ⟨_, rfl⟩
                  have hsx : IntKind.u64.wrap ((rk : Int) + (sk : Int)) = (nx : Int) := by rw [hnx]; simp only [IntKind.wrap_u64]; omega
                  have bnx : nx < 18446744073709551616 := by rw [hnx]; omega
                  have hwx : IntKind.u64.wrap (nx : Int) = (nx : Int) := by rw [IntKind.wrap_u64]; omega
                  have HNX : Hid (nx = ql.getD k 0) := by show _ = _; rw [HQE.out k hlt, hnx, hrk, hsk, Nat.add_comm (st.getD k 0)]
                  clear hnx hrk hsk
                  have HE : Hid (uv (ql.take k) ++ [.int .u64 ((nx : Nat) : Int)] = uv (ql.take (k + 1))) := by
                    show uv (ql.take k) ++ [.int .u64 ((nx : Nat) : Int)] = uv (ql.take (k + 1))
                    rw [take_snoc' (by rw [HQL.out]; omega), HNX.out]; simp [uv]
                  have hall : ∀ w', Below BB wr w' → Below BB wr w' ∧ w'.cell? ⟨w.heap.size, 0, none⟩ = some (.int .i64 64) ∧ w'.cell? ⟨w.heap.size, 1, none⟩ = some (.int .i64 80) ∧ w'.cell? ⟨w.heap.size, 2, none⟩ = some (.slice (some ⟨gA, 0, none⟩) 3 cA) ∧ w'.cell? ⟨w.heap.size, 3, none⟩ = some (.slice (some ⟨gB, 0, none⟩) 3 cB) ∧ w'.cell? ⟨w.heap.size, 4, none⟩ = some (.slice (some ⟨gC, 0, none⟩) 3 cC) ∧ w'.cell? ⟨w.heap.size, 5, none⟩ = some (.slice (some ⟨gD, 0, none⟩) 3 cD) ∧ w'.cell? ⟨w.heap.size, 6, none⟩ = some (.slice (some ⟨gK, 0, none⟩) 80 cK) ∧ w'.cell? ⟨w.heap.size, 7, none⟩ = some vF ∧ w'.cell? ⟨gr, k, none⟩ = some (.int .u64 (rk : Int)) ∧ w'.cell? ⟨gs, k, none⟩ = some (.int .u64 (sk : Int)) := fun w' hb =>
                    have hRx := hR.onB hwBB hb
                    ⟨hb, row_at hRx.2 0 _ rfl, row_at hRx.2 1 _ rfl, row_at hRx.2 2 _ rfl, row_at hRx.2 3 _ rfl, row_at hRx.2 4 _ rfl, row_at hRx.2 5 _ rfl, row_at hRx.2 6 _ rfl, row_at hRx.2 7 _ rfl, (hb.cell (p := ⟨gr, k, none⟩) hgrB).trans d1, (hb.cell (p := ⟨gs, k, none⟩) hgsB).trans d2⟩
                  have hlt1 := hown.lt
                  go_wp2_with fail
                  go_region_held3 (fun w' => Below BB wr w' ∧ w'.cell? ⟨w.heap.size, 0, none⟩ = some (.int .i64 64) ∧ w'.cell? ⟨w.heap.size, 1, none⟩ = some (.int .i64 80) ∧ w'.cell? ⟨w.heap.size, 2, none⟩ = some (.slice (some ⟨gA, 0, none⟩) 3 cA) ∧ w'.cell? ⟨w.heap.size, 3, none⟩ = some (.slice (some ⟨gB, 0, none⟩) 3 cB) ∧ w'.cell? ⟨w.heap.size, 4, none⟩ = some (.slice (some ⟨gC, 0, none⟩) 3 cC) ∧ w'.cell? ⟨w.heap.size, 5, none⟩ = some (.slice (some ⟨gD, 0, none⟩) 3 cD) ∧ w'.cell? ⟨w.heap.size, 6, none⟩ = some (.slice (some ⟨gK, 0, none⟩) 80 cK) ∧ w'.cell? ⟨w.heap.size, 7, none⟩ = some vF ∧ w'.cell? ⟨gr, k, none⟩ = some (.int .u64 (rk : Int)) ∧ w'.cell? ⟨gs, k, none⟩ = some (.int .u64 (sk : Int)))
                    (first | exact hall _ hca | exact hall _ (hc1.alloc hcB _) | exact hall _ hc1 | exact hall _ (Below.refl _ _).drew)
                    (first
                      | (go_at_call 118; refine (lowH64 _ _ _ _ _ _ _ _ ?_).mono ?_; assumption; rintro e w' ⟨rfl, hbq⟩; have hcq : Below wr.heap.size wr w' := ((Below.refl _ _).drew.trans hbq); have hc1 : Below BB wr w' := hcq.mono hBsz; have hcB : BB ≤ w'.heap.size := Nat.le_trans hBsz hcq.size; have hownc := own_onV hown hcq)
                      | (refine step_append_lies _ (by rfl) (.tmp 205) (.tmp 217) 100 (by rfl) BB 55 i0 (.int .u64 0) 1 8 Tryz.underlying100 hi hz0 hz1 hz2 rfl (by decide) _ _ _ (by rfl) (hownc.alloc _) ⟨w'.heap.size, 0, none⟩ 1 1 [.int .u64 ((nx : Nat) : Int)] (by rfl) rfl (Hnews_one _ _ _) one_word (by omega) (by unfold maxLen; omega) (by omega) (by simp; omega) _ rfl ?_; intro ga ca wa howna hgrowa hata hlta; have hca : Below BB wr wa := (hc1.alloc hcB _).grown hgrowa (by simp; omega) (fun k hk => (hlt1 k hk).1)))
                  go_wp2_with fail
                  rw [HE.out] at howna
                  have hRn := hR.onB hwBB hca
                  have hrn := hrr.onB hgrB hca
                  have hBn := Nat.le_trans hBsz hca.size
                  go_roundw
                  case rel => first | exact ⟨k + 1, by omega, by go_num, hRn, hrn, hBn, howna⟩ | ((repeat apply Exists.intro); exact ⟨⟨k + 1, by omega, by go_num, hRn, hrn, hBn, howna⟩, rfl⟩)
                  case measure => simp [intOf]; omega
                · obtain rfl : k = 8 := by omega
                  have hfin : uv (ql.take 8) = uv ql := by rw [← HQL.out, List.take_length]
                  rw [hfin] at hown
                  go_wp2_with fail
                  go_ret
                  exact ⟨_, rfl, BB, Nat.le_of_lt hwBB, hR.1, hown⟩
end SR
end Go.Proofs.YtabgihjffjlfiaaGreatDoor
set_option linter.unusedVariables false
namespace Go.Proofs.YtabgihjffjlfiaaGreatDoor
namespace SR
open Go.RowKit Go.Sort Go.BigFrame
set_option maxRecDepth 100000
set_option maxHeartbeats 4000000
attribute [local go_sem ↓] Go.wp_at_zero Go.wp_at_succ

/-- The state behind k blocks, with the steps' words as the reference holds them. -/
def blksR (s : Sh) (kk st bs : List Nat) : Nat → List Nat
  | 0 => st
  | k + 1 => List.zipWith (fun x y => (x + y) % 2 ^ s.W) (blksR s kk st bs k) (Rr s kk (spr s ((bs.drop (2 * s.W * k)).take (2 * s.W))) (ofL (blksR s kk st bs k)) s.n).list
theorem blksR_blks (s : Sh) (kk ks st bs : List Nat) (h : ∀ t, t < s.n → kk.getD t 0 = ks.getD t 0 >>> (64 - s.W)) : ∀ k, blksR s kk st bs k = blks s ks st bs k
  | 0 => rfl
  | k + 1 => by rw [blksR, blks, blksR_blks s kk ks st bs h k, Rr_R s kk ks _ _ s.n h s.n (Nat.le_refl _)]; rfl

theorem own_onT {w w1 : World} {B n t : Nat} {v : Value} {xs : List Value} (h : w.ownsRow B t 1 v n xs) (hb : Below w.heap.size w w1) : w1.ownsRow B t 1 v n xs := by
  refine h.kept (row := none) ⟨hb.os, hb.tape, hb.output, hb.size, fun k hk _ => hb.block k hk⟩ ?_
  cases h : v.ownBlock with
  | none => exact .inl rfl
  | some x => exact .inr (by simp)
theorem news_row {w : World} {g t : Nat} {l : List Nat} (h : w.heap[g]? = some (.cells (ints .u8 l) t (0, 0))) : ∀ (j : Nat) u, (Hbv l)[j]? = some u → w.cell? ((⟨g, 0, none⟩ : Addr).add j) = some u := by
  intro j u hj
  have hj' : j < l.length := by
    by_cases h : j < l.length
    · exact h
    · rw [List.getElem?_eq_none (by simp [Hbv]; omega)] at hj; cases hj
  rw [Addr.add_mid, Nat.zero_add, cell_ints h j hj', ← hj]
  simp [Hbv, hj']
theorem all_getD {l : List Nat} {M : Nat} (hM : 0 < M) (h : ∀ x ∈ l, x < M) (j : Nat) : l.getD j 0 < M := by
  rw [List.getD_eq_getElem?_getD]
  cases e : l[j]? with
  | none => exact hM
  | some x => exact h x (List.mem_of_getElem? e)
theorem getD_all {l : List Nat} {M : Nat} (h : ∀ j, l.getD j 0 < M) : ∀ x ∈ l, x < M := fun x hx => by
  obtain ⟨j, hj, rfl⟩ := List.mem_iff_getElem.1 hx
  have := h j
  rwa [List.getD_eq_getElem?_getD, List.getElem?_eq_getElem hj] at this
theorem be_all (n : Nat) : ∀ x, ∀ y ∈ be x n, y < 256 := by
  induction n with
  | zero => intro x y hy; cases hy
  | succ n ih =>
    intro x y hy
    rcases List.mem_append.1 hy with h | h
    · exact ih _ y h
    · rw [List.mem_singleton.1 h]; exact Nat.mod_lt _ (by decide)
theorem padd_lt (s : Sh) (bs : List Nat) (h : ∀ j, bs.getD j 0 < 256) : ∀ j, (padd s bs).getD j 0 < 256 :=
  all_getD (by decide) fun x hx => by
    rcases List.mem_append.1 hx with hx | hx
    · rcases List.mem_append.1 hx with hx | hx
      · exact getD_all h x hx
      · rcases List.mem_cons.1 hx with rfl | hx
        · decide
        · rw [List.eq_of_mem_replicate hx]; decide
    · exact be_all _ _ x hx
theorem blksR_len (s : Sh) (kk st bs : List Nat) (h : st.length = 8) : ∀ k, (blksR s kk st bs k).length = 8
  | 0 => h
  | k + 1 => by rw [blksR, List.length_zipWith, blksR_len s kk st bs h k]; rfl
theorem blksR_lt (s : Sh) (kk st bs : List Nat) (h : ∀ j, st.getD j 0 < 2 ^ s.W) : ∀ k j, (blksR s kk st bs k).getD j 0 < 2 ^ s.W
  | 0, j => h j
  | k + 1, j => by
    have hp := Nat.two_pow_pos s.W
    simp only [blksR, List.getD_eq_getElem?_getD, List.getElem?_zipWith]
    split
    · simp; exact Nat.mod_lt _ hp
    · simp; omega
theorem news_own {w : World} {B g n c : Nat} {l : List Nat} (h : w.ownsRow B 5 1 (.slice (some ⟨g, 0, none⟩) n c) n (Hbv l)) : ∀ (j : Nat) u, (Hbv l)[j]? = some u → w.cell? ((⟨g, 0, none⟩ : Addr).add j) = some u := by
  intro j u hj
  have hl : (Hbv l).length = n * 1 := h.1
  have hj' : j < n * 1 := by
    by_cases h : j < n * 1
    · exact h
    · rw [List.getElem?_eq_none (by omega)] at hj; cases hj
  rw [Addr.add_mid, Nat.zero_add, h.cellAt j hj', hj]
theorem below_set (B : Nat) (w : World) (g j : Nat) (v : Value) (h : B ≤ g) : Below B w (w.setCell ⟨g, j, none⟩ v) := (Below.refl B w).setCell h v
theorem size_setCell' (w : World) (q : Addr) (v : Value) : (w.setCell q v).heap.size = w.heap.size := by simp [World.setCell]
theorem set_front (b : Nat) (v : Nat) (t : List Nat) : (Hbv (List.replicate (b + 1) 0 ++ t)).set b (.int .u8 (v : Int)) = Hbv (List.replicate b 0 ++ v :: t) := by
  rw [List.replicate_succ', List.append_assoc]
  simp [Hbv, List.set_append_right]
def lenV : Value → Nat
  | .slice _ n _ => n
  | _ => 0
def digQ64 (kk hf bs : List Nat) : List Nat := stB 64 (blksR sh64 kk hf (padd sh64 bs) ((padd sh64 bs).length / 128)) 8

end SR
end Go.Proofs.YtabgihjffjlfiaaGreatDoor
set_option linter.unusedVariables false
namespace Go.Proofs.YtabgihjffjlfiaaGreatDoor
namespace SR
open Go.RowKit Go.Sort Go.BigFrame
set_option maxRecDepth 100000
set_option maxHeartbeats 4000000
attribute [local go_sem ↓] Go.wp_at_zero Go.wp_at_succ

theorem refsum64 (gA cA gB cB gC cC gD cD gK cK gF cF : Nat) (ad : Option Addr) (L cap : Nat) (bs kk hf : List Nat) (w : World)
    (hlen : bs.length = L) (hb256 : ∀ j, bs.getD j 0 < 256) (hL : L ≤ 100000000000000) (hv : View w ad bs)
    (kA : Row3 w gA 28 34 39) (kB : Row3 w gB 14 18 41) (kC : Row3 w gC 1 8 7) (kD : Row3 w gD 19 61 6)
    (hkk : Words w gK 80 kk) (hkb : ∀ j, kk.getD j 0 < 18446744073709551616) (hff : Words w gF 8 hf) (hfl : hf.length = 8) (hfb : ∀ j, hf.getD j 0 < 18446744073709551616) :
    Calls Tryz.prog 83 #[.agg #[.int .i64 64, .int .i64 80, .slice (some ⟨gA, 0, none⟩) 3 cA, .slice (some ⟨gB, 0, none⟩) 3 cB, .slice (some ⟨gC, 0, none⟩) 3 cC, .slice (some ⟨gD, 0, none⟩) 3 cD, .slice (some ⟨gK, 0, none⟩) 80 cK, .slice (some ⟨gF, 0, none⟩) 8 cF], .slice ad L cap] w fun e w' => ∃ v, e = .returned v ∧ ∃ base, w.heap.size ≤ base ∧ Below w.heap.size w w' ∧ w'.ownsRow base 5 1 v 64 (Hbv (digQ64 kk hf bs)) := by
  have h5i : (Tryz.prog.info? 5).map (fun i => (i.zero, i.size, i.bytes)) = some (some (.int .u8 0), 1, 1) := by kernel_rfl
  obtain ⟨i0, hi0, hz0, hz1, hz2⟩ := info_parts h5i
  have h39i : (Tryz.prog.info? 55).map (fun i => (i.zero, i.size, i.bytes)) = some (some (.int .u64 0), 1, 8) := by kernel_rfl
  obtain ⟨j0, hj0, hy0, hy1, hy2⟩ := info_parts h39i
  obtain ⟨Z, hZ⟩ : ∃ x, x = zeros sh64 L := ⟨_, rfl⟩
  have hZ' : Z = (128 - (L + 1 + 16) % 128) % 128 := hZ
  have HZ : Hid (Z = zeros sh64 L) := hZ
  have hz1' : (L + 1 + Z + 16) % 128 = 0 := by omega
  have hz2' : ∀ z, z < Z → (L + 1 + z + 16) % 128 ≠ 0 := fun z hz => by omega
  have hZ8 : Z < 128 := by omega
  have HZ2 : Hid (∀ z, z < Z → (L + 1 + z + 16) % 128 ≠ 0) := hz2'
  clear hZ hZ' hz2'
  have hR0 : RelB w (#[.int .i64 64, .int .i64 80, .slice (some ⟨gA, 0, none⟩) 3 cA, .slice (some ⟨gB, 0, none⟩) 3 cB, .slice (some ⟨gC, 0, none⟩) 3 cC, .slice (some ⟨gD, 0, none⟩) 3 cD, .slice (some ⟨gK, 0, none⟩) 80 cK, .slice (some ⟨gF, 0, none⟩) 8 cF]) (w.alloc (.cells (#[.int .i64 64, .int .i64 80, .slice (some ⟨gA, 0, none⟩) 3 cA, .slice (some ⟨gB, 0, none⟩) 3 cB, .slice (some ⟨gC, 0, none⟩) 3 cC, .slice (some ⟨gD, 0, none⟩) 3 cD, .slice (some ⟨gK, 0, none⟩) 80 cK, .slice (some ⟨gF, 0, none⟩) 8 cF]) 102)) := ⟨below1 _ _, heap_alloc_new _ _⟩
  have hv0 := hv.below (below1 w (.cells (#[.int .i64 64, .int .i64 80, .slice (some ⟨gA, 0, none⟩) 3 cA, .slice (some ⟨gB, 0, none⟩) 3 cB, .slice (some ⟨gC, 0, none⟩) 3 cC, .slice (some ⟨gD, 0, none⟩) 3 cD, .slice (some ⟨gK, 0, none⟩) 80 cK, .slice (some ⟨gF, 0, none⟩) 8 cF]) 102))
  have HLEN : Hid (bs.length = L) := hlen
  clear hlen hv
  go_enter Tryz.func83, Tryz.ntmps83
  go_wp2_with (first
    | (at_builtin; refine wpList_append_data _ rfl (.tmp 15) (.tmp 16) rfl rfl ad L cap bs rfl HLEN.out hv0 (w.heap.size + 1) (by simp) hL ?_; intro v1 w1 hown hgrow; obtain ⟨a1, c1, rfl⟩ := own_slice hown; have hR1 : RelB w (#[.int .i64 64, .int .i64 80, .slice (some ⟨gA, 0, none⟩) 3 cA, .slice (some ⟨gB, 0, none⟩) 3 cB, .slice (some ⟨gC, 0, none⟩) 3 cC, .slice (some ⟨gD, 0, none⟩) 3 cD, .slice (some ⟨gK, 0, none⟩) 80 cK, .slice (some ⟨gF, 0, none⟩) 8 cF]) w1 := ⟨hR0.1.grown hgrow hR0.1.size (by intro k hk; cases hk), (hgrow.block _ (lt_of_heap hR0.2) (by simp)).trans hR0.2⟩; clear hR0 hv0 hgrow; have hsz1 : w.heap.size + 1 ≤ w1.heap.size := lt_of_heap hR1.2)
    | (at_builtin; refine wpList_append_own _ rfl (.tmp 18) (.tmp 19) 22 rfl (w.heap.size + 1) 5 i0 (.int .u8 0) 1 1 Tryz.underlying22 hi0 hz0 hz1 hz2 rfl (by decide) _ _ _ rfl (hown.alloc _) ⟨w1.heap.size, 0, none⟩ 1 1 [.int .u8 128] rfl rfl (Hnews_one _ _ _) Hone_byte (by unfold maxLen; omega) (by omega) (by simp; omega) ?_; intro v2 w2 hown2 hgrow _; obtain ⟨a2, c2, rfl⟩ := own_slice hown2; have hlt1 := hown.lt; have hR2 := hR1.grown _ hgrow (fun k hk => by have := (hlt1 k hk).1; omega); have x0 := row_at hR2.2 0 (.int .i64 64) rfl))
  have HE : Hid (Hbv bs ++ [.int .u8 128] = Hbv (bs ++ 128 :: List.replicate 0 0)) := by
    show Hbv bs ++ [.int .u8 128] = Hbv (bs ++ 128 :: List.replicate 0 0)
    simp [Hbv]
  rw [HE.out] at hown2
  clear hown hgrow hlt1 hR1 HE
  clear x0
  go_loopw [5] (fun v5 wr => ∃ z : Nat, z ≤ Z ∧ ∃ a c, v5 = .slice a (L + 1 + z) c ∧ RelB w (#[.int .i64 64, .int .i64 80, .slice (some ⟨gA, 0, none⟩) 3 cA, .slice (some ⟨gB, 0, none⟩) 3 cB, .slice (some ⟨gC, 0, none⟩) 3 cC, .slice (some ⟨gD, 0, none⟩) 3 cD, .slice (some ⟨gK, 0, none⟩) 80 cK, .slice (some ⟨gF, 0, none⟩) 8 cF]) wr ∧ wr.ownsRow (w.heap.size + 1) 5 1 (.slice a (L + 1 + z) c) (L + 1 + z) (Hbv (bs ++ 128 :: List.replicate z 0))) (fun v _ => L + 1 + Z - lenV v)
  case atStart => exact ⟨0, by omega, _, _, rfl, hR2, hown2⟩
  case round =>
    clear hR2 hown2
    obtain ⟨z, hz, a, ca, rfl, hR, hown⟩ := hrel
    have x0 := row_at hR.2 0 (.int .i64 64) rfl
    by_cases hlt : z < Z
    · have hne := HZ2.out z hlt
      have hsz : w.heap.size + 1 ≤ wr.heap.size := lt_of_heap hR.2
      go_wp2_with (at_builtin; refine wpList_append_own _ rfl (.tmp 33) (.tmp 34) 22 rfl (w.heap.size + 1) 5 i0 (.int .u8 0) 1 1 Tryz.underlying22 hi0 hz0 hz1 hz2 rfl (by decide) _ _ _ rfl (hown.alloc _) ⟨wr.heap.size, 0, none⟩ 1 1 [.int .u8 0] rfl rfl (Hnews_one _ _ _) Hone_byte (by unfold maxLen; omega) (by omega) (by simp; omega) ?_; intro v' w1 hown' hgrow _)
      have hlt1 := hown.lt
      have HE : Hid (Hbv (bs ++ 128 :: List.replicate z 0) ++ [.int .u8 0] = Hbv (bs ++ 128 :: List.replicate (z + 1) 0)) := by
        show Hbv (bs ++ 128 :: List.replicate z 0) ++ [.int .u8 0] = Hbv (bs ++ 128 :: List.replicate (z + 1) 0)
        rw [List.replicate_succ']; simp [Hbv]
      rw [HE.out] at hown'
      have hRn := hR.grown _ hgrow (fun k hk => by have := (hlt1 k hk).1; omega)
      obtain ⟨a', c', rfl⟩ := own_slice hown'
      clear hown hgrow hR hlt1 x0 hne
      go_roundw
      case rel => first | exact ⟨z + 1, by omega, _, _, rfl, hRn, hown'⟩ | ((repeat apply Exists.intro); exact ⟨⟨z + 1, by omega, _, _, rfl, hRn, hown'⟩, rfl⟩)
      case measure => simp [lenV]; omega
    · obtain rfl : z = Z := by omega
      obtain ⟨ga, _, hae, hgaB, hgac⟩ := own_formT hown (by omega)
      cases hae
      obtain ⟨hga1, hga2⟩ := hown.lt ga rfl
      obtain ⟨X, hX⟩ : ∃ x, x = bs ++ 128 :: List.replicate z 0 := ⟨_, rfl⟩
      rw [← hX] at hown
      obtain ⟨BL, hBL⟩ : ∃ x, x = wr.heap.size := ⟨_, rfl⟩
      have hgaL : ga < BL := by rw [hBL]; exact hga2
      have hwBL : w.heap.size < BL := by rw [hBL]; exact lt_of_heap hR.2
      have hszL : BL ≤ wr.heap.size := Nat.le_of_eq hBL
      have HX : Hid (X = bs ++ 128 :: List.replicate z 0) := hX
      clear hBL hX hga2 hgac hlt hz
      go_wp2_with fail
      have HZ1 : Hid ((L + 1 + z + 16) % 128 = 0) := hz1'
      have hbf : (((L : Int) + 1 + (z : Int) + 16) % 128 != 0) = false := by
        have := HZ1.out
        have e : ((L : Int) + 1 + (z : Int) + 16) % 128 = 0 := by omega
        rw [e]; rfl
      rw [hbf]
      clear x0 hz1' hbf
      go_loopw [9, 8] (fun v9 v8 wr => ∃ i : Nat, i ≤ 16 ∧ v9 = .int .i64 (i : Int) ∧ RelB w (#[.int .i64 64, .int .i64 80, .slice (some ⟨gA, 0, none⟩) 3 cA, .slice (some ⟨gB, 0, none⟩) 3 cB, .slice (some ⟨gC, 0, none⟩) 3 cC, .slice (some ⟨gD, 0, none⟩) 3 cD, .slice (some ⟨gK, 0, none⟩) 80 cK, .slice (some ⟨gF, 0, none⟩) 8 cF]) wr ∧ BL ≤ wr.heap.size ∧ wr.ownsRow (w.heap.size + 1) 5 1 (.slice (some ⟨ga, 0, none⟩) (L + 1 + z) ca) (L + 1 + z) (Hbv X) ∧ ∃ a c, v8 = .slice a i c ∧ wr.ownsRow BL 5 1 (.slice a i c) i (Hbv (List.replicate i 0))) (fun i _ _ => 16 - (intOf i).toNat)
      case atStart => exact ⟨0, by omega, rfl, hR, hszL, hown, none, 0, rfl, World.ownsRow_nil _ _ _ _⟩
      case round =>
        clear hR hown hszL
        obtain ⟨i, hi, rfl, hR, hszL, hall, a, cl, rfl, hown⟩ := hrel
        by_cases hlt : i < 16
        · go_wp2_with (at_builtin; refine wpList_append_own _ rfl (.tmp 44) (.tmp 45) 22 rfl BL 5 i0 (.int .u8 0) 1 1 Tryz.underlying22 hi0 hz0 hz1 hz2 rfl (by decide) _ _ _ rfl (hown.alloc _) ⟨wr.heap.size, 0, none⟩ 1 1 [.int .u8 0] rfl rfl (Hnews_one _ _ _) Hone_byte (by unfold maxLen; omega) (by omega) (by simp; omega) ?_; intro v' w1 hown' hgrow _; obtain ⟨a', c', rfl⟩ := own_slice hown')
          have hlt1 := hown.lt
          have HE : Hid (Hbv (List.replicate i 0) ++ [.int .u8 0] = Hbv (List.replicate (i + 1) 0)) := by
            show Hbv (List.replicate i 0) ++ [.int .u8 0] = Hbv (List.replicate (i + 1) 0)
            rw [List.replicate_succ']; simp [Hbv]
          rw [HE.out] at hown'
          have hRn := hR.grown _ hgrow (fun k hk => by have := (hlt1 k hk).1; omega)
          have hall' := (hall.alloc (.cells #[.int .u8 0] 5)).kept hgrow (.inr (fun e => by have := (hlt1 ga e.symm).1; omega))
          have hszn : BL ≤ w1.heap.size := Nat.le_trans (Nat.le_trans hszL (by simp)) hgrow.size
          clear hown hgrow hR hlt1 hall
          go_roundw
          case rel => first | exact ⟨i + 1, by omega, by go_num, hRn, hszn, hall', _, _, rfl, hown'⟩ | ((repeat apply Exists.intro); exact ⟨⟨i + 1, by omega, by go_num, hRn, hszn, hall', _, _, rfl, hown'⟩, rfl⟩)
          case measure => simp [intOf]; omega
        · obtain rfl : i = 16 := by omega
          obtain ⟨gl, _, hae, hglB, _⟩ := own_formT hown (by omega)
          cases hae
          go_wp2_with fail
          go_loopw [10, 7] (fun v10 v7 wr => ∃ m nk : Nat, m ≤ 16 ∧ v10 = .int .i64 ((m : Int) - 1) ∧ v7 = .int .i64 (nk : Int) ∧ nk = 8 * L / 256 ^ (16 - m) ∧ RelB w (#[.int .i64 64, .int .i64 80, .slice (some ⟨gA, 0, none⟩) 3 cA, .slice (some ⟨gB, 0, none⟩) 3 cB, .slice (some ⟨gC, 0, none⟩) 3 cC, .slice (some ⟨gD, 0, none⟩) 3 cD, .slice (some ⟨gK, 0, none⟩) 80 cK, .slice (some ⟨gF, 0, none⟩) 8 cF]) wr ∧ BL ≤ wr.heap.size ∧ wr.ownsRow (w.heap.size + 1) 5 1 (.slice (some ⟨ga, 0, none⟩) (L + 1 + z) ca) (L + 1 + z) (Hbv X) ∧ wr.ownsRow BL 5 1 (.slice (some ⟨gl, 0, none⟩) 16 cl) 16 (Hbv (List.replicate m 0 ++ be (8 * L) (16 - m)))) (fun i _ _ => (intOf i + 1).toNat)
          case atStart => exact ⟨16, 8 * L, by omega, rfl, by go_num, by simp, hR, hszL, hall, by simpa [be] using hown⟩
          case round =>
            clear hR hszL hall hown
            obtain ⟨m, nk, hm, rfl, rfl, hnk, hR, hszL, hall, hown⟩ := hrel
            have HNK : Hid (nk = 8 * L / 256 ^ (16 - m)) := hnk
            have hnb : nk ≤ 8 * L := by rw [hnk]; exact Nat.div_le_self _ _
            clear hnk
            by_cases hlt : 0 < m
            · obtain ⟨b, rfl⟩ : ∃ b, m = b + 1 := ⟨m - 1, by omega⟩
              have e0 : ((b + 1 : Nat) : Int) - 1 = (b : Int) := by omega
              rw [e0]
              clear e0
              have kx : wr.cell? ⟨gl, b, none⟩ = some (.int .u8 0) := by
                rw [hown.cellAt b (by omega)]; simp only [Hbv, List.map_append, List.map_replicate]; rw [List.getElem?_append_left (by simp)]; simp
              have fx := hown.frozenAt b
              obtain ⟨hst, hgst⟩ := hown.stored b (.int .u8 ((nk % 256 : Nat) : Int))
              have HE : Hid ((Hbv (List.replicate (b + 1) 0 ++ be (8 * L) (16 - (b + 1)))).set b (.int .u8 ((nk % 256 : Nat) : Int)) = Hbv (List.replicate b 0 ++ be (8 * L) (16 - b))) := by
                show (Hbv (List.replicate (b + 1) 0 ++ be (8 * L) (16 - (b + 1)))).set b (.int .u8 ((nk % 256 : Nat) : Int)) = Hbv (List.replicate b 0 ++ be (8 * L) (16 - b))
                rw [show 16 - b = (16 - (b + 1)) + 1 by omega, be_front, Nat.shiftRight_eq_div_pow, show 2 ^ (8 * (16 - (b + 1))) = 256 ^ (16 - (b + 1)) from Nat.pow_mul 2 8 _, ← HNK.out]
                exact set_front b _ _
              rw [HE.out] at hst
              have hRn := hR.onB hwBL (below_set BL wr gl b (.int .u8 ((nk % 256 : Nat) : Int)) hglB)
              have halln := hall.kept hgst (.inr (fun e => by simp only [Value.ownBlock] at e; injection e with e; omega))
              have hszn : BL ≤ (wr.setCell ⟨gl, b, none⟩ (.int .u8 ((nk % 256 : Nat) : Int))).heap.size := by rw [size_setCell']; exact hszL
              have HN2 : Hid (nk / 256 = 8 * L / 256 ^ (16 - b)) := by
                show nk / 256 = 8 * L / 256 ^ (16 - b)
                rw [HNK.out, Nat.div_div_eq_div_mul, ← Nat.pow_succ, show (16 - (b + 1)).succ = 16 - b by omega]
              clear hown hgst hR hall
              go_wp2_with fail
              go_roundw
              case rel => first | exact ⟨b, nk / 256, by omega, by go_num, by go_num, HN2.out, hRn, hszn, halln, hst⟩ | ((repeat apply Exists.intro); exact ⟨⟨b, nk / 256, by omega, by go_num, by go_num, HN2.out, hRn, hszn, halln, hst⟩, rfl⟩)
              case measure => simp [intOf]
            · obtain rfl : m = 0 := by omega
              rw [show ((0 : Nat) : Int) - 1 = -1 from rfl]
              rw [List.replicate_zero, List.nil_append] at hown
              have hgl2 := (hown.lt gl rfl).2
              obtain ⟨pd, hpd⟩ : ∃ x, x = padd sh64 bs := ⟨_, rfl⟩
              have hpe : X ++ be (8 * L) 16 = pd := by rw [hpd, HX.out, padd, HLEN.out, ← HZ.out]; rfl
              have HPE : Hid (Hbv X ++ Hbv (be (8 * L) 16) = Hbv pd) := by
                show Hbv X ++ Hbv (be (8 * L) 16) = Hbv pd
                rw [← hpe]; simp [Hbv]
              have hpl : pd.length = L + 1 + z + 16 := by rw [← hpe, HX.out]; simp [be_len]; have := HLEN.out; omega
              have HPL : Hid (pd.length = L + 1 + z + 16) := hpl
              have HPD : Hid (pd = padd sh64 bs) := hpd
              clear hpe hpl hpd
              have hszw : w.heap.size + 1 ≤ wr.heap.size := lt_of_heap hR.2
              have hnl := news_own hown
              go_wp2_with (first
                | (at_builtin; refine wpList_append_own _ rfl (.tmp 61) (.tmp 62) 22 rfl (w.heap.size + 1) 5 i0 (.int .u8 0) 1 1 Tryz.underlying22 hi0 hz0 hz1 hz2 rfl (by decide) _ _ _ rfl hall ⟨gl, 0, none⟩ 16 cl (Hbv (be (8 * L) 16)) rfl (by simp [Hbv, be_len]) hnl bv_one (by unfold maxLen; omega) (by omega) hszw ?_; intro v3 w3 hown3 hgrow3 _; obtain ⟨a3, c3, rfl⟩ := own_slice hown3; have hR3 : RelB w (#[.int .i64 64, .int .i64 80, .slice (some ⟨gA, 0, none⟩) 3 cA, .slice (some ⟨gB, 0, none⟩) 3 cB, .slice (some ⟨gC, 0, none⟩) 3 cC, .slice (some ⟨gD, 0, none⟩) 3 cD, .slice (some ⟨gK, 0, none⟩) 80 cK, .slice (some ⟨gF, 0, none⟩) 8 cF]) w3 := ⟨hR.1.grown hgrow3 hR.1.size (fun k hk => by have := (hall.lt k hk).1; omega), (hgrow3.block _ (lt_of_heap hR.2) (fun e => by have := (hall.lt _ e.symm).1; omega)).trans hR.2⟩; have x7 := row_at hR3.2 7 (.slice (some ⟨gF, 0, none⟩) 8 cF) rfl; have hf3 : Words w3 gF 8 hf := hff.on hR3.1; have hnf := news_words hf hfl hf3)
                | (at_builtin; refine wpList_append_own _ rfl (.tmp 64) (.tmp 66) 100 rfl w3.heap.size 55 j0 (.int .u64 0) 1 8 Tryz.underlying100 hj0 hy0 hy1 hy2 rfl (by decide) (.slice none 0 0) 0 [] rfl (World.ownsRow_nil _ _ _ _) ⟨gF, 0, none⟩ 8 cF (uv hf) rfl (by simp [uv, hfl]) hnf uv_one (by unfold maxLen; omega) (by omega) (Nat.le_refl _) ?_; intro v4 w4 hown4 hgrow4 _; obtain ⟨a4, c4, rfl⟩ := own_slice hown4))
              simp only [List.nil_append, Nat.zero_add] at hown4
              rw [HPE.out] at hown3
              obtain ⟨g3, _, hae, hg3B, hnc3⟩ := own_formT hown3 (by omega)
              cases hae
              have hall4 := hown3.kept hgrow4 (.inr (by simp [Value.ownBlock]))
              have hg3l := (hall4.lt g3 rfl).2
              have hbA : BytesAt w4 g3 0 pd := fun i hi => by
                have hi2 : i < pd.length := hi
                rw [Nat.zero_add, hall4.cellAt i (by rw [← HPL.out]; omega)]; simp [Hbv, hi2]
              have hR4 : RelB w (#[.int .i64 64, .int .i64 80, .slice (some ⟨gA, 0, none⟩) 3 cA, .slice (some ⟨gB, 0, none⟩) 3 cB, .slice (some ⟨gC, 0, none⟩) 3 cC, .slice (some ⟨gD, 0, none⟩) 3 cD, .slice (some ⟨gK, 0, none⟩) 80 cK, .slice (some ⟨gF, 0, none⟩) 8 cF]) w4 := ⟨hR3.1.grown hgrow4 hR3.1.size (by intro k hk; cases hk), (hgrow4.block _ (lt_of_heap hR3.2) (by simp [Value.ownBlock])).trans hR3.2⟩
              obtain ⟨gs, _, hae, _, _⟩ := own_formT hown4 (by omega)
              cases hae
              have hs4 : Words w4 gs 8 hf := fun j hj => own_word hown4 j hj _ (by simp [show j < hf.length by omega])
              obtain ⟨NB, hNB⟩ : ∃ x, x = pd.length / 128 := ⟨_, rfl⟩
              have hNL : L + 1 + z + 16 = 128 * NB := by have := HZ1.out; have := HPL.out; omega
              have hp256 : ∀ j, pd.getD j 0 < 256 := by rw [HPD.out]; exact padd_lt sh64 bs hb256
              have HNB : Hid (NB = pd.length / 128) := hNB
              have HNL : Hid (L + 1 + z + 16 = 128 * NB) := hNL
              clear hNL hNB hown3 hown4 hgrow3 hgrow4 hall hall4 hR hR3 hnl hnf x7 hf3 hown hszL
              go_loopw [12, 11] (fun v12 v11 wr => ∃ k : Nat, k ≤ NB ∧ v12 = .int .i64 ((128 * k : Nat) : Int) ∧ RelB w (#[.int .i64 64, .int .i64 80, .slice (some ⟨gA, 0, none⟩) 3 cA, .slice (some ⟨gB, 0, none⟩) 3 cB, .slice (some ⟨gC, 0, none⟩) 3 cC, .slice (some ⟨gD, 0, none⟩) 3 cD, .slice (some ⟨gK, 0, none⟩) 80 cK, .slice (some ⟨gF, 0, none⟩) 8 cF]) wr ∧ BytesAt wr g3 0 pd ∧ ∃ gs cs, v11 = .slice (some ⟨gs, 0, none⟩) 8 cs ∧ Words wr gs 8 (blksR sh64 kk hf pd k)) (fun i _ _ => 128 * NB - (intOf i).toNat)
              case atStart => exact ⟨0, by omega, rfl, hR4, hbA, gs, _, rfl, hs4⟩
              case round =>
                clear hR4 hbA hs4
                obtain ⟨k, hk, rfl, hR, hbA, gs, cs, rfl, hws⟩ := hrel
                have x0 := row_at hR.2 0 (.int .i64 64) rfl
                by_cases hlt : k < NB
                · have hat : 128 * k + 128 ≤ L + 1 + z + 16 := by rw [HNL.out]; omega
                  obtain ⟨t, ht⟩ : ∃ x, x = 128 * k := ⟨_, rfl⟩
                  rw [← ht] at hat
                  have hgsw := block_lt_of_cell (a := ⟨gs, 0, none⟩) (hws 0 (by omega))
                  have hblk : ∀ w', Below wr.heap.size wr w' → ∀ cb, 128 ≤ cb → Calls Tryz.prog 107 #[.agg (#[.int .i64 64, .int .i64 80, .slice (some ⟨gA, 0, none⟩) 3 cA, .slice (some ⟨gB, 0, none⟩) 3 cB, .slice (some ⟨gC, 0, none⟩) 3 cC, .slice (some ⟨gD, 0, none⟩) 3 cD, .slice (some ⟨gK, 0, none⟩) 80 cK, .slice (some ⟨gF, 0, none⟩) 8 cF]), .slice (some ⟨gs, 0, none⟩) 8 cs, .slice (some ⟨g3, t, none⟩) 128 cb] w' fun e w'' => ∃ v, e = .returned v ∧ ∃ base, w'.heap.size ≤ base ∧ Below w'.heap.size w' w'' ∧ w''.ownsRow base 55 1 v 8 (uv (blksR sh64 kk hf pd (k + 1))) := fun w' hb cb hcb => by
                    have hRx := hR.on hb
                    have hbx : BytesAt w' g3 t ((pd.drop t).take 128) := by
                      have := sub_bytes (hbA.below hb (block_lt_of_cell (hbA 0 (by have := HPL.out; omega)))) t 128 (by rw [HPL.out]; exact hat)
                      rwa [Nat.zero_add] at this
                    have := block64 gA cA gB cB gC cC gD cD gK cK (.slice (some ⟨gF, 0, none⟩) 8 cF) gs cs (blksR sh64 kk hf pd k) g3 t cb ((pd.drop t).take 128) kk w' (blksR_len _ _ _ _ hfl k) (blksR_lt sh64 kk hf pd hfb k) ((hws.on hb)) (by rw [List.length_take, List.length_drop, HPL.out]; omega) (sub_lt pd t 128 hp256) hcb hbx (kA.below hRx.1) (kB.below hRx.1) (kC.below hRx.1) (kD.below hRx.1) (hkk.on hRx.1) hkb
                    rw [ht] at this ⊢
                    exact this
                  have i1 : IntKind.i64.wrap ((t : Int) + 128) = (t : Int) + 128 := by simp [IntKind.wrap, IntKind.bits, IntKind.signed]; omega
                  have i2 : (0 : Int) ≤ (t : Int) + 128 := by omega
                  have i3 : (t : Int) + 128 ≤ (c3 : Int) := by omega
                  have i4 : ¬ c3 = t := by omega
                  have i5 : t ≤ ((t : Int) + 128).toNat := by omega
                  have i6 : ((t : Int) + 128).toNat - t = 128 := by omega
                  have hboxs : ∀ w', Below wr.heap.size wr w' → Below wr.heap.size wr w' ∧ w'.cell? ⟨w.heap.size, 0, none⟩ = some (.int .i64 64) ∧ w'.cell? ⟨w.heap.size, 1, none⟩ = some (.int .i64 80) ∧ w'.cell? ⟨w.heap.size, 2, none⟩ = some (.slice (some ⟨gA, 0, none⟩) 3 cA) ∧ w'.cell? ⟨w.heap.size, 3, none⟩ = some (.slice (some ⟨gB, 0, none⟩) 3 cB) ∧ w'.cell? ⟨w.heap.size, 4, none⟩ = some (.slice (some ⟨gC, 0, none⟩) 3 cC) ∧ w'.cell? ⟨w.heap.size, 5, none⟩ = some (.slice (some ⟨gD, 0, none⟩) 3 cD) ∧ w'.cell? ⟨w.heap.size, 6, none⟩ = some (.slice (some ⟨gK, 0, none⟩) 80 cK) ∧ w'.cell? ⟨w.heap.size, 7, none⟩ = some (.slice (some ⟨gF, 0, none⟩) 8 cF) := fun w' hb =>
                    have hRx := hR.on hb
                    ⟨hb, row_at hRx.2 0 _ rfl, row_at hRx.2 1 _ rfl, row_at hRx.2 2 _ rfl, row_at hRx.2 3 _ rfl, row_at hRx.2 4 _ rfl, row_at hRx.2 5 _ rfl, row_at hRx.2 6 _ rfl, row_at hRx.2 7 _ rfl⟩
                  rw [← ht]
                  have htl : t < L + 1 + z + 16 := by omega
                  have HT : Hid (t = 128 * k) := ht
                  clear ht
                  go_wp2_with fail
                  obtain ⟨_, u0, u1, u2, u3, u4, u5, u6, u7⟩ := hboxs wr (Below.refl _ _)
                  obtain ⟨_, y0, y1, y2, y3, y4, y5, y6, y7⟩ := hboxs wr.drew (Below.refl _ _).drew
                  have i7 : IntKind.i64.wrap ((t : Int) + IntKind.i64.wrap 128) = (t : Int) + 128 := by simp [IntKind.wrap, IntKind.bits, IntKind.signed]; omega
                  have i8 : IntKind.i64.wrap 128 = 128 := by rfl
                  refine wp_region_still_tail 10 (by kernel_rfl) (by kernel_rfl) ?_
                  simp only [List.take_succ_cons, List.take_zero, List.drop_succ_cons, List.drop_zero]
                  show wpStill _ _ wr.drew (fun a' => wpList _ _ _ _ a' wr.drew) _ _
                  iterate 10 still_step
                  refine wpStill_nil ?_
                  go_wp2_with fail
                  refine (hblk _ (Below.refl _ _).drew _ (by omega)).mono ?_
                  rintro e w' ⟨v, rfl, base, hbs, hbq, hownq⟩
                  obtain ⟨gq, cq, rfl, hgq, _⟩ := own_form hownq (by omega)
                  have hc1 : Below wr.heap.size wr w' := (Below.refl _ _).drew.trans hbq
                  clear u0 u1 u2 u3 u4 u5 u6 u7 y0 y1 y2 y3 y4 y5 y6 y7 i7 i8
                  have hRn := hR.on hc1
                  have x0n := row_at hRn.2 0 (.int .i64 64) rfl
                  have hwn : Words w' gq 8 (blksR sh64 kk hf pd (k + 1)) := fun j hj => own_word hownq j hj _ (by simp [show j < (blksR sh64 kk hf pd (k + 1)).length by rw [blksR_len _ _ _ _ hfl]; exact hj])
                  have hbn := hbA.below hc1 (block_lt_of_cell (hbA 0 (by have := HPL.out; omega)))
                  have hen : ((128 * (k + 1) : Nat) : Int) = (t : Int) + 128 := by have := HT.out; omega
                  clear hboxs hblk hR hws hbA x0 hownq i1 i2 i3 i4 i5 i6
                  go_wp2_with fail
                  go_roundw
                  case rel => first | exact ⟨k + 1, by omega, by rw [hen], hRn, hbn, gq, cq, rfl, hwn⟩ | ((repeat apply Exists.intro); exact ⟨⟨k + 1, by omega, by rw [hen], hRn, hbn, gq, cq, rfl, hwn⟩, rfl⟩)
                  case measure => simp [intOf]; omega
                · obtain rfl : k = NB := by omega
                  have hge : L + 1 + z + 16 ≤ 128 * k := Nat.le_of_eq HNL.out
                  go_wp2_with fail
                  clear x0 hbA hge
                  obtain ⟨sv, hsv⟩ : ∃ x, x = blksR sh64 kk hf pd k := ⟨_, rfl⟩
                  rw [← hsv] at hws
                  have hsb : ∀ j, sv.getD j 0 < 18446744073709551616 := by rw [hsv]; exact blksR_lt sh64 kk hf pd hfb k
                  have HSV : Hid (sv = blksR sh64 kk hf pd k) := hsv
                  clear hsv
                  obtain ⟨BB, hBB⟩ : ∃ x, x = wr.heap.size := ⟨_, rfl⟩
                  have hgsB : gs < BB := by rw [hBB]; exact block_lt_of_cell (hws 0 (by omega))
                  have hwBB : w.heap.size < BB := by rw [hBB]; exact lt_of_heap hR.2
                  have hBsz : BB ≤ wr.heap.size := Nat.le_of_eq hBB
                  clear hBB
                  go_loopw [14, 13] (fun v14 v13 wr => ∃ i : Nat, i ≤ 8 ∧ v14 = .int .i64 (i : Int) ∧ RelB w (#[.int .i64 64, .int .i64 80, .slice (some ⟨gA, 0, none⟩) 3 cA, .slice (some ⟨gB, 0, none⟩) 3 cB, .slice (some ⟨gC, 0, none⟩) 3 cC, .slice (some ⟨gD, 0, none⟩) 3 cD, .slice (some ⟨gK, 0, none⟩) 80 cK, .slice (some ⟨gF, 0, none⟩) 8 cF]) wr ∧ Words wr gs 8 sv ∧ BB ≤ wr.heap.size ∧ ∃ a c, v13 = .slice a (8 * i) c ∧ wr.ownsRow BB 5 1 (.slice a (8 * i) c) (8 * i) (Hbv (stB 64 sv i))) (fun i _ _ => 8 - (intOf i).toNat)
                  case atStart => exact ⟨0, by omega, rfl, hR, hws, hBsz, none, 0, rfl, World.ownsRow_nil _ _ _ _⟩
                  case round =>
                    clear hR hws hBsz
                    obtain ⟨i, hi, rfl, hR, hws, hBsz, a, c, rfl, hown⟩ := hrel
                    by_cases hlt : i < 8
                    · obtain ⟨x, hx⟩ : ∃ x, x = sv.getD i 0 := ⟨_, rfl⟩
                      have bx : x < 18446744073709551616 := by have := hsb i; omega
                      have d1 : wr.cell? ⟨gs, i, none⟩ = some (.int .u64 (x : Int)) := by rw [hx]; exact hws i hlt
                      have HE : Hid (Hbv (stB 64 sv i) ++ Hbv (wb 64 x 8) = Hbv (stB 64 sv (i + 1))) := by
                        show Hbv (stB 64 sv i) ++ Hbv (wb 64 x 8) = Hbv (stB 64 sv (i + 1))
                        rw [hx, stB]; simp [Hbv]
                      have hall : ∀ w', Below BB wr w' → Below BB wr w' ∧ w'.cell? ⟨w.heap.size, 0, none⟩ = some (.int .i64 64) ∧ w'.cell? ⟨w.heap.size, 1, none⟩ = some (.int .i64 80) ∧ w'.cell? ⟨w.heap.size, 2, none⟩ = some (.slice (some ⟨gA, 0, none⟩) 3 cA) ∧ w'.cell? ⟨w.heap.size, 3, none⟩ = some (.slice (some ⟨gB, 0, none⟩) 3 cB) ∧ w'.cell? ⟨w.heap.size, 4, none⟩ = some (.slice (some ⟨gC, 0, none⟩) 3 cC) ∧ w'.cell? ⟨w.heap.size, 5, none⟩ = some (.slice (some ⟨gD, 0, none⟩) 3 cD) ∧ w'.cell? ⟨w.heap.size, 6, none⟩ = some (.slice (some ⟨gK, 0, none⟩) 80 cK) ∧ w'.cell? ⟨w.heap.size, 7, none⟩ = some (.slice (some ⟨gF, 0, none⟩) 8 cF) ∧ w'.cell? ⟨gs, i, none⟩ = some (.int .u64 (x : Int)) := fun w' hb =>
                        have hRx := hR.onB hwBB hb
                        ⟨hb, row_at hRx.2 0 _ rfl, row_at hRx.2 1 _ rfl, row_at hRx.2 2 _ rfl, row_at hRx.2 3 _ rfl, row_at hRx.2 4 _ rfl, row_at hRx.2 5 _ rfl, row_at hRx.2 6 _ rfl, row_at hRx.2 7 _ rfl, (hb.cell (p := ⟨gs, i, none⟩) hgsB).trans d1⟩
                      have hlt1 := hown.lt
                      clear hx
                      go_wp2_with fail
                      go_region_held3 (fun w' => Below BB wr w' ∧ w'.cell? ⟨w.heap.size, 0, none⟩ = some (.int .i64 64) ∧ w'.cell? ⟨w.heap.size, 1, none⟩ = some (.int .i64 80) ∧ w'.cell? ⟨w.heap.size, 2, none⟩ = some (.slice (some ⟨gA, 0, none⟩) 3 cA) ∧ w'.cell? ⟨w.heap.size, 3, none⟩ = some (.slice (some ⟨gB, 0, none⟩) 3 cB) ∧ w'.cell? ⟨w.heap.size, 4, none⟩ = some (.slice (some ⟨gC, 0, none⟩) 3 cC) ∧ w'.cell? ⟨w.heap.size, 5, none⟩ = some (.slice (some ⟨gD, 0, none⟩) 3 cD) ∧ w'.cell? ⟨w.heap.size, 6, none⟩ = some (.slice (some ⟨gK, 0, none⟩) 80 cK) ∧ w'.cell? ⟨w.heap.size, 7, none⟩ = some (.slice (some ⟨gF, 0, none⟩) 8 cF) ∧ w'.cell? ⟨gs, i, none⟩ = some (.int .u64 (x : Int)))
                        (first | exact hall _ hca | exact hall _ hc1 | exact hall _ (Below.refl _ _).drew)
                        (first
                          | (go_at_call 108; refine (bytesH64 _ _ _ _ _ _ _ _ ?_).mono ?_; assumption; rintro e w' ⟨_, rfl, gq, rfl, hbq, hgq, hrow⟩; have hcq : Below wr.heap.size wr w' := ((Below.refl _ _).drew.trans hbq); have hc1 : Below BB wr w' := hcq.mono hBsz; have hcB : BB ≤ w'.heap.size := Nat.le_trans hBsz hcq.size; have hownc := own_onT hown hcq; have hnw := news_row hrow)
                          | (refine step_append_lies _ (by rfl) (.tmp 92) (.tmp 98) 22 (by rfl) BB 5 i0 (.int .u8 0) 1 1 Tryz.underlying22 hi0 hz0 hz1 hz2 rfl (by decide) _ _ _ (by rfl) hownc ⟨gq, 0, none⟩ 8 8 (Hbv (wb 64 x 8)) (by rfl) (by rfl) hnw bv_one (by omega) (by unfold maxLen; omega) (by omega) hcB _ rfl ?_; intro ga' ca' wa howna hgrowa hata hlta; have hca : Below BB wr wa := hc1.grown hgrowa hcB (fun k hk => (hlt1 k hk).1)))
                      go_wp2_with fail
                      rw [HE.out] at howna
                      have hRn := hR.onB hwBB hca
                      have hwn := hws.onB hgsB hca
                      have hBn := Nat.le_trans hBsz hca.size
                      go_roundw
                      case rel => first | exact ⟨i + 1, by omega, by go_num, hRn, hwn, hBn, _, _, rfl, howna⟩ | ((repeat apply Exists.intro); exact ⟨⟨i + 1, by omega, by go_num, hRn, hwn, hBn, _, _, rfl, howna⟩, rfl⟩)
                      case measure => simp [intOf]; omega
                    · obtain rfl : i = 8 := by omega
                      have hq : stB 64 sv 8 = digQ64 kk hf bs := by rw [HSV.out, HNB.out, HPD.out]; rfl
                      rw [hq] at hown
                      go_wp2_with fail
                      go_ret
                      exact ⟨_, rfl, BB, Nat.le_of_lt hwBB, hR.1, hown⟩
end SR
end Go.Proofs.YtabgihjffjlfiaaGreatDoor
set_option linter.unusedVariables false
namespace Go.Proofs.YtabgihjffjlfiaaGreatDoor
namespace SR
open Go.RowKit Go.Sort Go.BigFrame
set_option maxRecDepth 100000
set_option maxHeartbeats 4000000
attribute [local go_sem ↓] Go.wp_at_zero Go.wp_at_succ

theorem heap_new' (w : World) (o : Obj) (k : Nat) (h : k = w.heap.size) : (w.alloc o).heap[k]? = some o := by rw [h]; exact heap_alloc_new _ _
theorem field37_6 {ρ : Operand → Value} {o : Oper} {x : Operand} {P : Nat} {w : World} (ho : o.op = .fieldAddr 102 x 6) (hx : ρ x = .pointer (some ⟨P, 0, none⟩)) : (execOp ρ o).run Tryz.prog w = .ok (.value (.pointer (some ⟨P, 6, none⟩))) w := by
  simp [execOp, ho, hx, go_sem]
theorem field37_7 {ρ : Operand → Value} {o : Oper} {x : Operand} {P : Nat} {w : World} (ho : o.op = .fieldAddr 102 x 7) (hx : ρ x = .pointer (some ⟨P, 0, none⟩)) : (execOp ρ o).run Tryz.prog w = .ok (.value (.pointer (some ⟨P, 7, none⟩))) w := by
  simp [execOp, ho, hx, go_sem]
theorem load35 {ρ : Operand → Value} {o : Oper} {x : Operand} {p : Addr} {w : World} {v : Value} (ho : o.op = .load 100 x) (hx : ρ x = .pointer (some p)) (hc : w.cell? p = some v) : (execOp ρ o).run Tryz.prog w = .ok (.value v) w := by
  simp [execOp, ho, hx, hc, go_sem]
theorem load3 {ρ : Operand → Value} {o : Oper} {x : Operand} {p : Addr} {w : World} {v : Value} (ho : o.op = .load 3 x) (hx : ρ x = .pointer (some p)) (hc : w.cell? p = some v) : (execOp ρ o).run Tryz.prog w = .ok (.value v) w := by
  simp [execOp, ho, hx, hc, go_sem]
theorem index34 {ρ : Operand → Value} {o : Oper} {x y : Operand} {g i cp : Nat} {w : World} (ho : o.op = .indexAddr 43 x y) (hx : ρ x = .slice (some ⟨g, 0, none⟩) 80 cp) (hy : ρ y = .int .i64 (i : Int)) (hi : i < 80) : (execOp ρ o).run Tryz.prog w = .ok (.value (.pointer (some ⟨g, i, none⟩))) w := by
  have h1 : (i : Int) < 80 := by omega
  have h2 : (0 : Int) ≤ (i : Int) := by omega
  simp [execOp, ho, hx, hy, h1, h2, go_sem]
theorem build35 {ρ : Operand → Value} {o : Oper} {x : Operand} {k : Int} {w : World} (ho : o.op = .buildSlice 100 1 #[(0, x)]) (hx : ρ x = .int .u64 k) : (execOp ρ o).run Tryz.prog w = .ok (.value (.slice (some ⟨w.heap.size, 0, none⟩) 1 1)) (w.alloc (.cells #[.int .u64 k] 55)) := by
  simp [execOp, ho, hx, go_sem]
theorem store35 {ρ : Operand → Value} {o : Oper} {x y : Operand} {p : Addr} {a : Option Addr} {n c : Nat} {v : Value} {w : World} (ho : o.op = .store 100 x y) (hx : ρ x = .pointer (some p)) (hy : ρ y = .slice a n c) (hc : w.cell? p = some v) (hf : w.frozen? p = false) : (execOp ρ o).run Tryz.prog w = .ok .skip (w.setCell p (.slice a n c)) := by
  simp [execOp, ho, hx, hy, hc, hf, go_sem]
structure Far (w : World) (B P gA gB gC gD gp : Nat) : Prop where
  wp : w.heap.size < P
  pb : P < B
  a : gA < B
  b : gB < B
  c : gC < B
  d : gD < B
  pp : gp < B
  na : gA ≠ P
  nb : gB ≠ P
  nc : gC ≠ P
  nd : gD ≠ P
  npp : gp ≠ P
  xa : gA ≠ w.heap.size
  xb : gB ≠ w.heap.size
  xc : gC ≠ w.heap.size
  xd : gD ≠ w.heap.size
theorem Far.mono {w : World} {B B' P gA gB gC gD gp : Nat} (h : Far w B P gA gB gC gD gp) (hB : B ≤ B') : Far w B' P gA gB gC gD gp :=
  ⟨h.wp, Nat.lt_of_lt_of_le h.pb hB, Nat.lt_of_lt_of_le h.a hB, Nat.lt_of_lt_of_le h.b hB, Nat.lt_of_lt_of_le h.c hB, Nat.lt_of_lt_of_le h.d hB, Nat.lt_of_lt_of_le h.pp hB, h.na, h.nb, h.nc, h.nd, h.npp, h.xa, h.xb, h.xc, h.xd⟩
theorem Row3.onB {w w' : World} {g a b c B : Nat} (h : Row3 w g a b c) (hg : g < B) (hb : Below B w w') : Row3 w' g a b c :=
  ⟨(hb.cell (p := ⟨g, 0, none⟩) hg).trans h.a, (hb.cell (p := ⟨g, 1, none⟩) hg).trans h.b, (hb.cell (p := ⟨g, 2, none⟩) hg).trans h.c⟩
theorem cell_setCell_ne (w : World) (p : Addr) (q : Addr) (v : Value) (h : p.block ≠ q.block) : (w.setCell q v).cell? p = w.cell? p := World.cell?_of_block (Below.heap_setCell w q v p.block h)
theorem size_setCell (w : World) (q : Addr) (v : Value) : (w.setCell q v).heap.size = w.heap.size := by simp [World.setCell]
theorem Row3.set {w : World} {g a b c P : Nat} (h : Row3 w g a b c) (hg : g ≠ P) (j : Nat) (v : Value) : Row3 (w.setCell ⟨P, j, none⟩ v) g a b c :=
  ⟨by rw [cell_setCell_ne _ _ _ _ hg]; exact h.a, by rw [cell_setCell_ne _ _ _ _ hg]; exact h.b, by rw [cell_setCell_ne _ _ _ _ hg]; exact h.c⟩
theorem words_set {w : World} {g n P : Nat} {l : List Nat} (h : Words w g n l) (hg : g ≠ P) (j : Nat) (v : Value) : Words (w.setCell ⟨P, j, none⟩ v) g n l :=
  fun i hi => by rw [cell_setCell_ne _ _ _ _ hg]; exact h i hi
theorem row3_of {w : World} {g a b c : Nat} (h : w.heap[g]? = some (.cells #[.int .i64 (a : Int), .int .i64 (b : Int), .int .i64 (c : Int)] 3 (0, 0))) : Row3 w g a b c :=
  ⟨row_at h 0 _ rfl, row_at h 1 _ rfl, row_at h 2 _ rfl⟩
theorem own_set {w : World} {B n P : Nat} {v : Value} {xs : List Value} (h : w.ownsRow B 55 1 v n xs) (hP : P < B) (j : Nat) (u : Value) : (w.setCell ⟨P, j, none⟩ u).ownsRow B 55 1 v n xs := by
  refine h.kept (row := some P) ⟨rfl, rfl, rfl, by rw [size_setCell]; exact Nat.le_refl _, fun k hk hne => heap_setCell_other _ _ _ _ (fun e => hne (by rw [e]))⟩ ?_
  cases hv : v.ownBlock with
  | none => exact .inl rfl
  | some x => exact .inr (fun e => by have := (h.lt x hv).1; injection e with e; omega)

end SR
end Go.Proofs.YtabgihjffjlfiaaGreatDoor
