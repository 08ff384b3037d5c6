/-
  The walk of the reference's Primes, at 80.
-/
import Derived.Test.YtomfnkbghlpkeaaDoorRP
import Derived.Test.YtomfnkbghlpkeaaDoorR4
set_option linter.unusedVariables false
namespace Go.Proofs.YtomfnkbghlpkeaaDoor
open Go.RowKit Go.Sort Go.BigFrame
set_option maxRecDepth 100000
set_option maxHeartbeats 600000
def iv (l : List Nat) : List Value := l.map fun (x : Nat) => Value.int .i64 (x : Int)
theorem one_int {n : Int} : ∀ u ∈ [Value.int .i64 n], u.oneCell' = true := fun u hu => by rw [List.mem_singleton.1 hu]; rfl
theorem own_slice {w : World} {base t n : Nat} {v : Value} {xs : List Value} (h : w.ownsRow base t 1 v n xs) : ∃ a cap, v = .slice a n cap := by
  rcases h.2 with ⟨h1, h0⟩ | ⟨g, cap, cur, hv, _⟩
  · exact ⟨none, 0, by rw [h1, h0]⟩
  · exact ⟨_, _, hv⟩
theorem own_formT {w : World} {base t n : Nat} {v : Value} {xs : List Value} (h : w.ownsRow base t 1 v n xs) (hn : 0 < n) : ∃ g cap, v = .slice (some ⟨g, 0, none⟩) n cap ∧ base ≤ g ∧ n ≤ cap := by
  rcases h.2 with ⟨_, h0⟩ | ⟨g, cap, cur, hv, hb, hg, hnc, _⟩
  · omega
  · exact ⟨g, cap, hv, hb, hnc⟩
theorem all_take {l : List Nat} {f : Nat → Bool} (j : Nat) (h : j < l.length) : (l.take (j + 1)).all f = ((l.take j).all f && f (l.getD j 0)) := by
  rw [take_snoc' h, List.all_append]; simp
theorem primes80 (w : World) :
    Calls Tryd.prog 25 #[.int .i64 80] w fun e w' => ∃ v, e = .returned v ∧ Below w.heap.size w w' ∧ w'.ownsRow w.heap.size 3 1 v 80 (iv PT) := by
  have h3i : (Tryd.prog.info? 3).map (fun i => (i.zero, i.size, i.bytes)) = some (some (.int .i64 0), 1, 8) := by kernel_rfl
  obtain ⟨i0, hi, hz0, hz1, hz2⟩ := info_parts h3i
  go_enter Tryd.func25, Tryd.ntmps25
  go_wp2_with fail
  go_loopw [4, 3] (fun v4 v3 wr => ∃ m n : Nat, 2 ≤ m ∧ m ≤ 410 ∧ v4 = .int .i64 (m : Int) ∧ Below w.heap.size w wr ∧ n = (pf m).length ∧ ∃ a cap, v3 = .slice a n cap ∧ wr.ownsRow w.heap.size 3 1 (.slice a n cap) n (iv (pf m))) (fun i _ _ => 410 - (intOf i).toNat)
  case atStart => exact ⟨2, 0, by omega, by omega, rfl, Below.refl _ _, rfl, none, 0, rfl, World.ownsRow_nil _ _ _ _⟩
  case round =>
    obtain ⟨m, n, h2, hm, rfl, hB, hn, a, cap, rfl, hown⟩ := hrel
    have HN : Hid (n = (pf m).length) := hn
    clear hn
    by_cases hlt : m < 410
    · obtain ⟨his, hnx, hlen, hone⟩ := pf_of m hlt h2
      have hn80 : n < 80 := by rw [HN.out]; exact hlen
      have HIS : Hid ((pf m).all (fun p => !(Nat.beq (m % p) 0)) = PT.contains m) := his
      have HNX : Hid (pf (m + 1) = pf m ++ (if PT.contains m then [m] else [])) := hnx
      have HON : Hid (∀ p ∈ pf m, 1 < p) := hone
      clear his hnx hlen hone
      go_wp2_with fail
      go_loop [6, 5] (fun i ok => ∃ j : Nat, j ≤ n ∧ i = .int .i64 (j : Int) ∧ ok = .bool (((pf m).take j).all (fun p => !(Nat.beq (m % p) 0)))) (fun i _ => n - (intOf i).toNat)
      case atStart => exact ⟨0, by omega, rfl, rfl⟩
      case round =>
        obtain ⟨j, hj, rfl, rfl⟩ := hrel
        by_cases hlt2 : j < n
        · obtain ⟨g, cap', he, _, _⟩ := own_formT hown (by omega)
          cases he
          obtain ⟨p, hp⟩ : ∃ p, p = (pf m).getD j 0 := ⟨_, rfl⟩
          have hjl : j < (pf m).length := by rw [← HN.out]; exact hlt2
          have hp1 : 1 < p := by rw [hp, List.getD_eq_getElem?_getD, List.getElem?_eq_getElem hjl]; exact HON.out _ (List.getElem_mem hjl)
          have hpm : p < 512 := by
            rw [hp, List.getD_eq_getElem?_getD, List.getElem?_eq_getElem hjl]; exact PT_lt _ ((List.mem_filter.1 (List.getElem_mem hjl)).1)
          have kx : wr.cell? ⟨g, j, none⟩ = some (.int .i64 (p : Int)) := by
            rw [hown.cellAt j (by omega)]; simp [iv, hp, hjl]
          have hst := all_take (f := fun p => !(Nat.beq (m % p) 0)) j hjl
          rw [← hp] at hst
          have HS : Hid (((pf m).take (j + 1)).all (fun p => !(Nat.beq (m % p) 0)) = (((pf m).take j).all (fun p => !(Nat.beq (m % p) 0)) && !(Nat.beq (m % p) 0))) := hst
          clear hst hp hjl
          obtain ⟨ok, hok⟩ : ∃ x, x = ((pf m).take j).all (fun p => !(Nat.beq (m % p) 0)) := ⟨_, rfl⟩
          rw [← hok] at HS ⊢
          clear hok
          by_cases hz : m % p = 0
          · have HE : Hid ((ok && !(Nat.beq (m % p) 0)) = false) := by show (ok && !(Nat.beq (m % p) 0)) = false; rw [hz]; simp
            go_wp2_with fail
            go_round
            case rel => exact ⟨j + 1, by omega, by go_num, by rw [HS.out, HE.out]⟩
            case measure => simp [intOf]; omega
          · have HE : Hid ((ok && !(Nat.beq (m % p) 0)) = ok) := by
              show (ok && !(Nat.beq (m % p) 0)) = ok
              rw [show Nat.beq (m % p) 0 = false from Bool.eq_false_iff.2 (fun e => hz (Nat.eq_of_beq_eq_true e))]; simp
            go_wp2_with fail
            go_round
            case rel => exact ⟨j + 1, by omega, by go_num, by rw [HS.out, HE.out]⟩
            case measure => simp [intOf]; omega
        · obtain rfl : j = n := by omega
          have hend : ((pf m).take j).all (fun p => !(Nat.beq (m % p) 0)) = PT.contains m := by rw [← HIS.out, HN.out, List.take_length]
          rw [hend]
          clear hend
          by_cases hc : PT.contains m = true
          · rw [hc]
            have hnx := HNX.out
            rw [if_pos hc] at hnx
            have HX : Hid (pf (m + 1) = pf m ++ [m]) := hnx
            clear hnx hc
            have hsz := hB.size
            go_wp2_with (at_builtin; refine wpList_append_own _ rfl (.tmp 27) (.tmp 29) 34 rfl w.heap.size 3 i0 (.int .i64 0) 1 8 Tryd.underlying34 hi hz0 hz1 hz2 rfl (by decide) _ _ _ rfl (hown.alloc _) ⟨wr.heap.size, 0, none⟩ 1 1 [.int .i64 (m : Int)] rfl rfl (news_one _ _ _) one_int (by unfold maxLen; omega) (by omega) (by simp; omega) ?_; intro v' w1 hown' hgrow _)
            have hlt1 := hown.lt
            have HE : Hid (iv (pf m) ++ [.int .i64 (m : Int)] = iv (pf (m + 1))) := by
              show iv (pf m) ++ [.int .i64 (m : Int)] = iv (pf (m + 1))
              rw [HX.out]; simp [iv]
            rw [HE.out] at hown'
            have hBn := (hB.alloc hB.size _).grown hgrow (by simp; omega) (fun k hk => (hlt1 k hk).1)
            obtain ⟨a', cap', rfl⟩ := own_slice hown'
            have HN1 : Hid (j + 1 = (pf (m + 1)).length) := by show j + 1 = (pf (m + 1)).length; rw [HX.out, List.length_append, HN.out]; rfl
            go_roundw
            case rel => first | exact ⟨m + 1, j + 1, by omega, by omega, by go_num, hBn, HN1.out, _, _, rfl, hown'⟩ | ((repeat apply Exists.intro); exact ⟨⟨m + 1, j + 1, by omega, by omega, by go_num, hBn, HN1.out, _, _, rfl, hown'⟩, rfl⟩)
            case measure => simp [intOf]; omega
          · have hcf : PT.contains m = false := Bool.eq_false_iff.2 hc
            rw [hcf]
            have hnx := HNX.out
            rw [if_neg hc, List.append_nil] at hnx
            rw [← hnx] at hown
            have HN1 : Hid (j = (pf (m + 1)).length) := by show j = (pf (m + 1)).length; rw [hnx]; exact HN.out
            clear hnx hcf hc
            go_wp2_with fail
            go_roundw
            case rel => first | exact ⟨m + 1, j, by omega, by omega, by go_num, hB, HN1.out, _, _, rfl, hown⟩ | ((repeat apply Exists.intro); exact ⟨⟨m + 1, j, by omega, by omega, by go_num, hB, HN1.out, _, _, rfl, hown⟩, rfl⟩)
            case measure => simp [intOf]; omega
    · obtain rfl : m = 410 := by omega
      obtain rfl : n = 80 := by rw [HN.out, pf_end]; exact PT_len
      rw [pf_end] at hown
      go_wp2_with fail
      go_ret
      exact ⟨_, rfl, hB, hown⟩
end Go.Proofs.YtomfnkbghlpkeaaDoor
