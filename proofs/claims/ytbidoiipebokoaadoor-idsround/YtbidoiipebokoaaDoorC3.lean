/-
  Ids: lists of texts that came in.
-/
import Derived.Test.YtbidoiipebokoaaDoorC1
import Derived.ChangeArms
import Derived.OpenShut
set_option linter.unusedVariables false
set_option linter.unusedSimpArgs false
namespace Go.Proofs.YtbidoiipebokoaaDoor
open Go.RowKit Go.Sort Go.BigFrame
set_option maxRecDepth 100000
set_option maxHeartbeats 2000000
section
variable {H : Type} {enc : TypeId × Value → H} {w : World} {base : Nat} {spare : Nat → Bool} {held : Bool}
theorem cells9 : Tryd.prog.cellsOf 9 = 1 := by kernel_rfl
theorem srow_in {fuel : Nat} {cs : List Value} {x : DataW H × List MemPlace} (h : DataW.trod enc Tryd.prog w base spare held fuel 33 cs = some x) : ∃ v ns, cs = [v] ∧ SRow ns v w ∧ ∀ y ∈ ns, y.length ≤ 9223372036854775807 := by
  rcases DataW.trod_slice Tryd.underlying33 h with ⟨hcs, _⟩ | ⟨a, len, cap, elems, rest, m, _, hcs, _, _, hl, hm, he, hel, _⟩
  · exact ⟨_, [], hcs, ⟨none, 0, rfl, Nat.le_refl _, by decide, fun h => absurd h (by simp)⟩, fun y hy => by cases hy⟩
  · have key : ∀ i, i < len → ∃ s : ByteArray, w.cell? (a.add i) = some (.string s) ∧ s.size ≤ maxLen := fun i hi => by
      have h1 := hel i hi
      rw [List.getElem?_eq_getElem (by omega)] at h1
      obtain ⟨l, h2, h3⟩ := Option.bind_eq_some_iff.1 h1
      obtain ⟨h4, h5⟩ := cells_get h2
      obtain ⟨s, h6, _, h8⟩ := DataW.trod_string Tryd.underlying9 h3
      rw [h6] at h5
      have h7 := h5 0 (by rw [cells9]; decide)
      rw [cells9, Nat.mul_one] at h7
      exact ⟨s, by simpa [Addr.add] using h7, h8⟩
    by_cases hp : 0 < len
    · obtain ⟨s0, hs0, _⟩ := key 0 hp
      obtain ⟨b, off, rfl⟩ := addr_plain hs0
      have hex : ∃ f : Nat → ByteArray, ∀ i, i < len → w.cell? ⟨b, off + i, none⟩ = some (.string (f i)) ∧ (f i).size ≤ maxLen := by
        refine ⟨fun i => match w.cell? ⟨b, off + i, none⟩ with | some (.string s) => s | _ => ByteArray.empty, fun i hi => ?_⟩
        obtain ⟨s, hs, hz⟩ := key i hi
        rw [Addr.add_mid] at hs
        simp only [hs]
        exact ⟨trivial, hz⟩
      obtain ⟨f, hf⟩ := hex
      refine ⟨_, (List.range len).map fun i => (f i).data.toList.map UInt8.toNat, hcs, ⟨some ⟨b, off, none⟩, cap, by simp, by simpa using hl, by unfold maxLen at hm; omega, fun _ => ⟨b, off, rfl, fun i hi => ?_⟩⟩, fun y hy => ?_⟩
      · have hi' : i < len := by simpa using hi
        refine ⟨f i, (hf i hi').1, ?_⟩
        rw [show ((List.range len).map fun i => (f i).data.toList.map UInt8.toNat).getD i [] = (f i).data.toList.map UInt8.toNat by simp [hi']]
        exact str_of _
      · obtain ⟨i, hi, rfl⟩ := List.mem_map.1 hy
        have := (hf i (by simpa using hi)).2
        unfold maxLen at this
        rw [List.length_map]
        have e : (f i).data.toList.length = (f i).size := rfl
        omega
    · obtain rfl : len = 0 := by omega
      exact ⟨_, [], hcs, ⟨some a, cap, rfl, Nat.zero_le _, by unfold maxLen at hm; omega, fun h => absurd h (by simp)⟩, fun y hy => by cases hy⟩
theorem srow_arg {a : Option Addr} {len cap : Nat} {d : DataW H} {ps : List MemPlace} (h : DataW.Trod enc Tryd.prog w base spare held 33 (.slice a len cap) d ps) : ∃ ns, SRow ns (.slice a len cap) w ∧ ∀ y ∈ ns, y.length ≤ 9223372036854775807 := by
  obtain ⟨m, hm⟩ := h
  obtain ⟨v, ns, e, h1, h2⟩ := srow_in hm
  have e : [Value.slice a len cap] = [v] := e
  injection e with e _
  subst e
  exact ⟨ns, h1, h2⟩
end
end Go.Proofs.YtbidoiipebokoaaDoor
