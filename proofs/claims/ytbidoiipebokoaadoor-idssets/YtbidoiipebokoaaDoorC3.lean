/-
  Ids: the law IdsSets. Ids: lists of texts that came in.
-/
import Derived.Test.YtbidoiipebokoaaDoorC2
import Derived.Test.YtbidoiipebokoaaDoorC1
import Derived.ChangeArms
import Derived.OpenShut
set_option linter.unusedVariables false
set_option linter.unusedSimpArgs false
namespace Go.Proofs.YtbidoiipebokoaaDoor
open Go.RowKit Go.Sort Go.BigFrame
set_option maxRecDepth 100000
set_option maxHeartbeats 4000000
theorem idsSets (W : World) {ns : List (List Nat)} {v : Value} (hv : SRow ns v W) (hlen : ∀ x ∈ ns, x.length ≤ 9223372036854775807) : Ret 6 #[v] W (Is (.bool true)) := by
  have HV : Hid (SRow ns v W) := hv
  have HDN : Hid (∀ x ∈ ns, Dig x) := srow_dig9 hv
  obtain ⟨a, cap, rfl, hc, hcap, hrow⟩ := hv
  obtain ⟨n, hn⟩ : ∃ n, n = ns.length := ⟨_, rfl⟩
  rw [← hn] at hc HV ⊢
  have HN : Hid (n = ns.length) := hn
  have HL : Hid (∀ x ∈ ns, x.length ≤ 9223372036854775807) := hlen
  have hnb : n ≤ 9223372036854775807 := by omega
  obtain ⟨i0, hi0, hz0, hz1, hz2⟩ := str9_info
  have HI0 : Hid _ := (⟨hi0, hz0, hz1, hz2⟩ : _ ∧ _ ∧ _ ∧ _)
  clear hn hrow hlen hc hi0 hz0 hz1 hz2
  unfold Ret
  go_enter Tryd.func6, Tryd.ntmps6
  go_wp2_with fail
  go_loopw [3, 4] (fun ov iv wr => ∃ k : Nat, k ≤ n ∧ k ≤ 8 ∧ iv = .int .i64 k ∧ Below W.heap.size W wr ∧ wr.ownsRow W.heap.size 9 1 ov k (strsV ((ns.take k).map (fun x => x.take 80)))) (fun ov iv _ => n - (intOf iv).toNat)
  case atStart => exact ⟨0, by omega, by omega, rfl, Below.refl _ _, by simpa [strsV] using World.ownsRow_nil W W.heap.size 9 1⟩
  case round =>
    obtain ⟨k, hk, hk8, rfl, hB, hown⟩ := hrel
    obtain ⟨oa, oc, rfl, _, hoc⟩ := own_slice9 hown
    have HB0 : Hid (Below W.heap.size W wr) := hB
    have HO : Hid (wr.ownsRow W.heap.size 9 1 (.slice oa k oc) k (strsV ((ns.take k).map (fun x => x.take 80)))) := hown
    by_cases hgo : k < n ∧ k < 8
    · obtain ⟨hlt, h8⟩ := hgo
      have i1 : (k : Int) < (n : Int) := by omega
      have i2 : (k : Int) < 8 := by omega
      have hV2 := SRow.stb _ _ _ _ hB HV.out
      obtain ⟨a', c', e1, _, _, hrow2⟩ := hV2
      injection e1 with e1 e1n e1c
      subst e1
      clear e1n e1c
      obtain ⟨g, off, rfl, hcell⟩ := hrow2 (by rw [← HN.out]; omega)
      obtain ⟨t, hct, hT⟩ := hcell k (by rw [← HN.out]; exact hlt)
      have hkl : k < ns.length := by rw [← HN.out]; exact hlt
      have hts : t.size ≤ 9223372036854775807 := by rw [hT.size, getD_at hkl]; exact HL.out _ (List.getElem_mem hkl)
      have hf := few9 wr hT hts
      clear hcell hrow2 hT hown hB hkl
      go_wp2_with fail
      refine Calls.mono hf ?_
      rintro e wx ⟨⟨S, rfl, hS⟩, hwx⟩
      rw [hwx]
      clear hwx hf
      have HS : Hid (Str S ((ns.getD k []).take 80)) := hS
      have hown2 := (HO.out).alloc (.cells #[.string S] 9)
      have hm1 : k + 1 ≤ maxLen := by unfold maxLen; omega
      have hm2 : (k + 1) * 16 ≤ 140737488355328 := by omega
      have hm3 : W.heap.size ≤ (wr.alloc (.cells #[.string S] 9)).heap.size := by have := HB0.out.size; simp; omega
      have HBA : Hid (Below W.heap.size W (wr.alloc (.cells #[.string S] 9))) := HB0.out.alloc HB0.out.size _
      have HOA : Hid ((wr.alloc (.cells #[.string S] 9)).ownsRow W.heap.size 9 1 (.slice oa k oc) k (strsV ((ns.take k).map (fun x => x.take 80)))) := hown2
      obtain ⟨hi0, hz0, hz1, hz2⟩ := HI0.out
      clear hS
      go_wp2_with (at_builtin; refine wpList_append_own _ rfl (.tmp 20) (.tmp 26) 33 rfl W.heap.size 9 i0 (.string ⟨#[]⟩) 1 16 Tryd.underlying33 hi0 hz0 hz1 hz2 rfl (by decide) (.slice oa k oc) k (strsV ((ns.take k).map (fun x => x.take 80))) rfl hown2 ⟨wr.heap.size, 0, none⟩ 1 1 [.string S] rfl rfl (news_one _ _ _) str9_one hm1 hm2 hm3 ?_; intro v4 w4 hown4 hgrow4 _)
      have hB4 : Below W.heap.size W w4 := HBA.out.grown hgrow4 hm3 (fun j hj => (HOA.out.lt j hj).1)
      have e4 : strsV ((ns.take k).map (fun x => x.take 80)) ++ [.string S] = strsV ((ns.take (k + 1)).map (fun x => x.take 80)) := by
        have hkl : k < ns.length := by rw [← HN.out]; exact hlt
        rw [List.take_succ_eq_append_getElem hkl, List.map_append, List.map_singleton, strsV_app, ← getD_at hkl, ← HS.out.eq]
      rw [e4] at hown4
      obtain ⟨oa4, oc4, rfl, _, _⟩ := own_slice9 hown4
      have HOW4 : Hid _ := hown4
      clear hown4 hgrow4 hown2 e4 hi0 hz0 hz1 hz2
      go_roundw
      case rel => exact ⟨k + 1, by omega, by omega, by go_num, hB4, HOW4.out⟩
      case measure => simp [intOf]; omega
    · have hcond : k = n ∨ (k < n ∧ k = 8) := by omega
      obtain ⟨O, hO⟩ : ∃ O, O = (ns.take k).map (fun x => x.take 80) := ⟨_, rfl⟩
      rw [← hO] at HO
      have hkO : O.length = k := by rw [hO]; simp; have := HN.out; omega
      have hdO : ∀ x ∈ O, Dig x := fun x hx => by
        rw [hO] at hx
        obtain ⟨y, hy, rfl⟩ := List.mem_map.1 hx
        exact (HDN.out y (List.mem_of_mem_take hy)).take 80
      have hlO : ∀ x ∈ O, x.length ≤ 80 := fun x hx => by
        rw [hO] at hx
        obtain ⟨y, hy, rfl⟩ := List.mem_map.1 hx
        simp; omega
      have hS0 : SRow O (.slice oa k oc) wr := (own_strs hdO (by rw [hkO]; exact HO.out)).row
      have g1 := setP wr hS0 (fun x hx => Nat.le_trans (hlO x hx) (by decide)) (by omega)
      have HS0 : Hid (SRow O (.slice oa k oc) wr) := hS0
      have HLO : Hid (∀ x ∈ O, x.length ≤ 80) := hlO
      have HKO : Hid (O.length = k) := hkO
      clear hO hkO hdO hlO hS0 hown hB
      have fin : ∀ (i1 : ¬ (k : Int) < (n : Int) ∨ ((k : Int) < (n : Int) ∧ ¬ (k : Int) < 8)), True := fun _ => trivial
      clear fin
      rcases hcond with hkn | ⟨hkn, hk8'⟩
      · have i1 : ¬ (k : Int) < (n : Int) := by omega
        clear hkn
        go_wp2_with fail
        refine Calls.mono g1 ?_
        rintro e w1 ⟨v1, e1, rfl, hB1, hR1⟩
        have hs0 := HB0.out.size
        have H1 : Hid (Below W.heap.size W w1) := HB0.out.trans (hB1.mono hs0)
        have g2 := set9 w1 (SRow.stb _ _ _ _ hB1 HS0.out) (fun x hx => Nat.le_trans (HLO.out x hx) (by decide)) (by rw [HKO.out]; omega)
        have HR1 : Hid _ := hR1
        clear g1 hR1 hB1 hs0
        go_wp2_with fail
        refine Calls.mono g2 ?_
        rintro e w2 ⟨v2, e2, rfl, hB2, hR2⟩
        have hs1 := H1.out.size
        have H2 : Hid (Below W.heap.size W w2) := H1.out.trans (hB2.mono hs1)
        have hR1 := HR1.out
        clear g2 HR1 hs1
        cases hx : setR O with
        | ok out =>
          rw [hx] at hR1 hR2
          obtain ⟨rfl, hM1⟩ := hR1
          obtain ⟨rfl, hM2⟩ := hR2
          have g3 := same9 w2 (SRow.stb _ _ _ _ hB2 hM1.rowM.row) hM2.rowM.row
          rw [decide_eq_true rfl] at g3
          clear hx hM1 hM2 hB2
          go_wp2_with fail
          refine Calls.mono (g3) ?_
          rintro e w3 ⟨_, rfl, hB, rfl⟩
          have hs := H2.out.size
          have H3 : Hid (Below W.heap.size W w3) := H2.out.trans (hB.mono hs)
          clear hB hs
          clear g3
          go_wp2_with fail
          refine Calls.mono (livesI w3 ) ?_
          rintro e wz ⟨_, rfl, hB, rfl⟩
          have hs := H3.out.size
          have Hwz : Hid (Below W.heap.size W wz) := H3.out.trans (hB.mono hs)
          clear hB hs
          go_wp2
          go_ret
          exact ⟨_, rfl, Hwz.out, rfl⟩
        | error e0 =>
          rw [hx] at hR1 hR2
          obtain ⟨rfl, rfl⟩ := hR1
          obtain ⟨rfl, rfl⟩ := hR2
          have g3 := same9 w2 (SRow.nil w2) (SRow.nil w2)
          rw [decide_eq_true rfl] at g3
          have hee : (e2 == e2) = true := by simp
          clear hx hB2
          go_wp2_with fail
          refine Calls.mono (g3) ?_
          rintro e w3 ⟨_, rfl, hB, rfl⟩
          have hs := H2.out.size
          have H3 : Hid (Below W.heap.size W w3) := H2.out.trans (hB.mono hs)
          clear hB hs
          clear g3
          go_wp2_with fail
          refine Calls.mono (livesI w3 ) ?_
          rintro e wz ⟨_, rfl, hB, rfl⟩
          have hs := H3.out.size
          have Hwz : Hid (Below W.heap.size W wz) := H3.out.trans (hB.mono hs)
          clear hB hs
          go_wp2
          go_ret
          exact ⟨_, rfl, Hwz.out, rfl⟩
      · have i1 : (k : Int) < (n : Int) := by omega
        have i2 : ¬ (k : Int) < 8 := by omega
        clear hk8'
        go_wp2_with fail
        refine Calls.mono g1 ?_
        rintro e w1 ⟨v1, e1, rfl, hB1, hR1⟩
        have hs0 := HB0.out.size
        have H1 : Hid (Below W.heap.size W w1) := HB0.out.trans (hB1.mono hs0)
        have g2 := set9 w1 (SRow.stb _ _ _ _ hB1 HS0.out) (fun x hx => Nat.le_trans (HLO.out x hx) (by decide)) (by rw [HKO.out]; omega)
        have HR1 : Hid _ := hR1
        clear g1 hR1 hB1 hs0
        go_wp2_with fail
        refine Calls.mono g2 ?_
        rintro e w2 ⟨v2, e2, rfl, hB2, hR2⟩
        have hs1 := H1.out.size
        have H2 : Hid (Below W.heap.size W w2) := H1.out.trans (hB2.mono hs1)
        have hR1 := HR1.out
        clear g2 HR1 hs1
        cases hx : setR O with
        | ok out =>
          rw [hx] at hR1 hR2
          obtain ⟨rfl, hM1⟩ := hR1
          obtain ⟨rfl, hM2⟩ := hR2
          have g3 := same9 w2 (SRow.stb _ _ _ _ hB2 hM1.rowM.row) hM2.rowM.row
          rw [decide_eq_true rfl] at g3
          clear hx hM1 hM2 hB2
          go_wp2_with fail
          refine Calls.mono (g3) ?_
          rintro e w3 ⟨_, rfl, hB, rfl⟩
          have hs := H2.out.size
          have H3 : Hid (Below W.heap.size W w3) := H2.out.trans (hB.mono hs)
          clear hB hs
          clear g3
          go_wp2_with fail
          refine Calls.mono (livesI w3 ) ?_
          rintro e wz ⟨_, rfl, hB, rfl⟩
          have hs := H3.out.size
          have Hwz : Hid (Below W.heap.size W wz) := H3.out.trans (hB.mono hs)
          clear hB hs
          go_wp2
          go_ret
          exact ⟨_, rfl, Hwz.out, rfl⟩
        | error e0 =>
          rw [hx] at hR1 hR2
          obtain ⟨rfl, rfl⟩ := hR1
          obtain ⟨rfl, rfl⟩ := hR2
          have g3 := same9 w2 (SRow.nil w2) (SRow.nil w2)
          rw [decide_eq_true rfl] at g3
          have hee : (e2 == e2) = true := by simp
          clear hx hB2
          go_wp2_with fail
          refine Calls.mono (g3) ?_
          rintro e w3 ⟨_, rfl, hB, rfl⟩
          have hs := H2.out.size
          have H3 : Hid (Below W.heap.size W w3) := H2.out.trans (hB.mono hs)
          clear hB hs
          clear g3
          go_wp2_with fail
          refine Calls.mono (livesI w3 ) ?_
          rintro e wz ⟨_, rfl, hB, rfl⟩
          have hs := H3.out.size
          have Hwz : Hid (Below W.heap.size W wz) := H3.out.trans (hB.mono hs)
          clear hB hs
          go_wp2
          go_ret
          exact ⟨_, rfl, Hwz.out, rfl⟩
end Go.Proofs.YtbidoiipebokoaaDoor
set_option linter.unusedVariables false
set_option linter.unusedSimpArgs false
namespace Go.Proofs.YtbidoiipebokoaaDoor
open Go.RowKit Go.Sort Go.BigFrame
set_option maxRecDepth 100000
set_option maxHeartbeats 2000000
section
variable {H : Type} {enc : TypeId × Value → H} {w : World} {base : Nat} {spare : Nat → Bool} {held : Bool}
theorem cells9 : Tryd.prog.cellsOf 9 = 1 := by kernel_rfl
theorem srow_in {fuel : Nat} {cs : List Value} {x : DataW H × List MemPlace} (h : DataW.trod enc Tryd.prog w base spare held fuel 33 cs = some x) : ∃ v ns, cs = [v] ∧ SRow ns v w ∧ ∀ y ∈ ns, y.length ≤ 9223372036854775807 := by
  rcases DataW.trod_slice Tryd.underlying33 h with ⟨hcs, _⟩ | ⟨a, len, cap, elems, rest, m, _, hcs, _, _, hl, hm, he, hel, _⟩
  · exact ⟨_, [], hcs, ⟨none, 0, rfl, Nat.le_refl _, by decide, fun h => absurd h (by simp)⟩, fun y hy => by cases hy⟩
  · have key : ∀ i, i < len → ∃ s : ByteArray, w.cell? (a.add i) = some (.string s) ∧ s.size ≤ maxLen := fun i hi => by
      have h1 := hel i hi
      rw [List.getElem?_eq_getElem (by omega)] at h1
      obtain ⟨l, h2, h3⟩ := Option.bind_eq_some_iff.1 h1
      obtain ⟨h4, h5⟩ := cells_get h2
      obtain ⟨s, h6, _, h8⟩ := DataW.trod_string Tryd.underlying9 h3
      rw [h6] at h5
      have h7 := h5 0 (by rw [cells9]; decide)
      rw [cells9, Nat.mul_one] at h7
      exact ⟨s, by simpa [Addr.add] using h7, h8⟩
    by_cases hp : 0 < len
    · obtain ⟨s0, hs0, _⟩ := key 0 hp
      obtain ⟨b, off, rfl⟩ := addr_plain hs0
      have hex : ∃ f : Nat → ByteArray, ∀ i, i < len → w.cell? ⟨b, off + i, none⟩ = some (.string (f i)) ∧ (f i).size ≤ maxLen := by
        refine ⟨fun i => match w.cell? ⟨b, off + i, none⟩ with | some (.string s) => s | _ => ByteArray.empty, fun i hi => ?_⟩
        obtain ⟨s, hs, hz⟩ := key i hi
        rw [Addr.add_mid] at hs
        simp only [hs]
        exact ⟨trivial, hz⟩
      obtain ⟨f, hf⟩ := hex
      refine ⟨_, (List.range len).map fun i => (f i).data.toList.map UInt8.toNat, hcs, ⟨some ⟨b, off, none⟩, cap, by simp, by simpa using hl, by unfold maxLen at hm; omega, fun _ => ⟨b, off, rfl, fun i hi => ?_⟩⟩, fun y hy => ?_⟩
      · have hi' : i < len := by simpa using hi
        refine ⟨f i, (hf i hi').1, ?_⟩
        rw [show ((List.range len).map fun i => (f i).data.toList.map UInt8.toNat).getD i [] = (f i).data.toList.map UInt8.toNat by simp [hi']]
        exact str_of _
      · obtain ⟨i, hi, rfl⟩ := List.mem_map.1 hy
        have := (hf i (by simpa using hi)).2
        unfold maxLen at this
        rw [List.length_map]
        have e : (f i).data.toList.length = (f i).size := rfl
        omega
    · obtain rfl : len = 0 := by omega
      exact ⟨_, [], hcs, ⟨some a, cap, rfl, Nat.zero_le _, by unfold maxLen at hm; omega, fun h => absurd h (by simp)⟩, fun y hy => by cases hy⟩
theorem srow_arg {a : Option Addr} {len cap : Nat} {d : DataW H} {ps : List MemPlace} (h : DataW.Trod enc Tryd.prog w base spare held 33 (.slice a len cap) d ps) : ∃ ns, SRow ns (.slice a len cap) w ∧ ∀ y ∈ ns, y.length ≤ 9223372036854775807 := by
  obtain ⟨m, hm⟩ := h
  obtain ⟨v, ns, e, h1, h2⟩ := srow_in hm
  have e : [Value.slice a len cap] = [v] := e
  injection e with e _
  subst e
  exact ⟨ns, h1, h2⟩
end
end Go.Proofs.YtbidoiipebokoaaDoor
