/-
  Ids: the law IdsOwns. Ids: lists of texts that came in.
-/
import Derived.Test.YtbidoiipebokoaaDoorC2
import Derived.Test.YtbidoiipebokoaaDoorC1
import Derived.ChangeArms
import Derived.OpenShut
set_option linter.unusedVariables false
set_option linter.unusedSimpArgs false
namespace Go.Proofs.YtbidoiipebokoaaDoor
open Go.RowKit Go.Sort Go.BigFrame
set_option maxRecDepth 100000
set_option maxHeartbeats 4000000
/-- append(nil, l...) of texts, wherever they lie: a row of one's own. -/
theorem wpList_append_strs (w : World) {ops : Array Oper} {rest : List Oper} {o : Oper} {a : Act} {Q : Exit → Act → World → Prop} (hgd : o.guard = none) (s x : Operand)
    (ho : o.op = .call { callee := .builtin .append, args := #[s, x], argTypes := #[33, 33] }) (hs : a.eval s = .slice none 0 0) {ns : List (List Nat)} {ad : Option Addr} {m c : Nat} (hx : a.eval x = .slice ad m c) (hv : SRow ns (.slice ad m c) w) (hm8 : m ≤ 8)
    (h : ∀ v' w', w'.ownsRow w.heap.size 9 1 v' m (strsV ns) → Below w.heap.size w w' → wpList Tryd.prog ops Q rest (a.put o.dst v') w') : wpList Tryd.prog ops Q (o :: rest) a w := by
  obtain ⟨i0, hi, hz0, hz1, hz2⟩ := str9_info
  obtain ⟨a', c', e, hc, hcm, hrow⟩ := hv
  injection e with e1 e2 e3
  subst e1 e2 e3
  cases ad with
  | some p =>
    refine wpList_append_own w hgd s x 33 ho w.heap.size 9 i0 (.string ⟨#[]⟩) 1 16 Tryd.underlying33 hi hz0 hz1 hz2 rfl (by decide) (.slice none 0 0) 0 [] hs (World.ownsRow_nil _ _ _ _) p ns.length c (strsV ns) hx (by rw [strsV_len, Nat.mul_one]) (fun j u hj => ?_) (fun u hu => ?_) (by unfold maxLen; omega) (by omega) (Nat.le_refl _) ?_
    · have hj' : j < ns.length := by
        by_cases h : j < ns.length
        · exact h
        · rw [List.getElem?_eq_none (by rw [strsV_len]; omega)] at hj; cases hj
      obtain ⟨b, off, ea, hcell⟩ := hrow (by omega)
      injection ea with ea
      subst ea
      obtain ⟨t, h1, h2⟩ := hcell j hj'
      rw [Addr.add_mid, h1, ← hj]
      unfold strsV
      rw [List.getElem?_map, List.getElem?_eq_getElem hj', ← getD_at hj', Option.map_some, ← h2.eq]
    · unfold strsV at hu
      obtain ⟨y, _, rfl⟩ := List.mem_map.1 hu
      rfl
    · intro v' w' h1 h2 _
      refine h v' w' ?_ ((Below.refl _ _).grown h2 (Nat.le_refl _) (fun j hj => by cases hj))
      simpa using h1
  | none =>
    have hb0 : ns = [] := by
      by_cases hp : 0 < ns.length
      · obtain ⟨b, off, e, _⟩ := hrow hp; cases e
      · exact List.eq_nil_of_length_eq_zero (by omega)
    subst hb0
    have hr : (Builtin.append_ #[33, 33] o.type #[.slice none 0 0, .slice none 0 c]).run Tryd.prog w = .ok (.slice none 0 0) w := by kernel_rfl
    refine wpList_plain hgd fun K hK => ?_
    unfold Oper.wp execOp
    simp only [ho, resolve, invoke, builtin, Sem.run_bind, Sem.run_pure, Result.andThen_ok, List.map_toArray, List.map_cons, List.map_nil, hs, hx, List.length_nil, hr]
    refine hK _ _ (h _ _ ?_ (Below.refl _ _))
    exact World.ownsRow_nil _ _ _ _
theorem setR_own {ns : List (List Nat)} {w w' : World} {e : Ending} (h : SetR ns w e w') : ∃ v er out, e = .returned (.tuple #[v, .int .i64 er]) ∧ Below w.heap.size w w' ∧ OwnS w.heap.size out v w' := by
  obtain ⟨v, er, h1, h2, h3⟩ := h
  cases hx : setR ns with
  | ok out => rw [hx] at h3; exact ⟨v, er, out, h1, h2, h3.2⟩
  | error e0 =>
    rw [hx] at h3
    exact ⟨v, er, [], h1, h2, none, 0, h3.2, Nat.le_refl _, by decide, fun hp => absurd hp (by simp)⟩
theorem idsOwnsA (W : World) {ns : List (List Nat)} {v : Value} (hv : SRow ns v W) (hlen : ∀ x ∈ ns, x.length ≤ 9223372036854775807) (h1 : ns.length ≤ 8) : Ret 8 #[v] W (Is (.bool true)) := by
  have HW : Hid (Below W.heap.size W W) := Below.refl _ _
  have HV0 : Hid (SRow ns v W) := hv
  have HDN : Hid (∀ x ∈ ns, Dig x) := srow_dig9 hv
  have HL0 : Hid (∀ x ∈ ns, x.length ≤ 9223372036854775807) := hlen
  obtain ⟨a, cap, rfl, hc, hcm, hr⟩ := hv
  obtain ⟨n, hn⟩ : ∃ n, n = ns.length := ⟨_, rfl⟩
  rw [← hn] at hc h1 HV0 ⊢
  have hi1 : ¬ (8 : Int) < (n : Int) := by omega
  have HV : Hid (SRow ns (.slice a n cap) W) := HV0.out
  have HD : Hid (∀ x ∈ ns, Dig x) := HDN.out
  have HL : Hid (∀ x ∈ ns, x.length ≤ 9223372036854775807) := HL0.out
  have hm : ns.length = n := hn.symm
  obtain ⟨L, hL⟩ : ∃ l, l = ns := ⟨_, rfl⟩
  rw [← hL] at HV HD HL hm
  have HM : Hid (L.length = n) := hm
  clear HV0 HDN HL0 hL hr hn hm
  unfold Ret
  go_enter Tryd.func8, Tryd.ntmps8
  go_wp2_with (at_builtin; refine wpList_append_strs _ rfl (.tmp 12) (.tmp 13) rfl rfl rfl HV.out (by omega) ?_; intro v1 w1 hown1 hB1)
  have HO1 : Hid (w1.ownsRow W.heap.size 9 1 v1 n (strsV L)) := hown1
  have H1 : Hid (Below W.heap.size W w1) := hB1
  have g1 := setP w1 (SRow.stb _ _ _ _ hB1 HV.out) HL.out (by rw [HM.out]; omega)
  obtain ⟨oa, oc, rfl, _, hoc⟩ := own_slice9 hown1
  clear hown1 hB1 
  go_wp2_with fail
  refine Calls.mono g1 ?_
  rintro e w2 hR
  obtain ⟨v2, er, out, rfl, hB2, a2, c2, rfl, hc2, hcm2, hx⟩ := setR_own hR
  obtain ⟨q, hq⟩ : ∃ q, q = out.length := ⟨_, rfl⟩
  rw [← hq] at hc2 hx ⊢
  have HX : Hid (0 < q → ∃ g off cur, a2 = some ⟨g, off, none⟩ ∧ w1.heap.size ≤ g ∧ w2.heap[g]? = some (.cells cur 9 (0, 0)) ∧ ∀ i, i < q → off + i < cur.size) := fun hp => by
    obtain ⟨g, off, cur, k1, k2, k3, k4⟩ := hx hp
    refine ⟨g, off, cur, k1, k2, k3, fun i hi => ?_⟩
    obtain ⟨s, k5, _⟩ := k4 i hi
    exact (Array.getElem?_eq_some_iff.1 k5).1
  have H2 : Hid (Below w1.heap.size w1 w2) := hB2
  clear g1 hR hx hB2 hq
  go_wp2_with fail
  go_loopw [6] (fun iv wr => ∃ k : Nat, k ≤ q ∧ iv = .int .i64 k ∧ Below w1.heap.size w1 wr ∧ (0 < q → ∃ g off cur, a2 = some ⟨g, off, none⟩ ∧ w1.heap.size ≤ g ∧ wr.heap[g]? = some (.cells cur 9 (0, 0)) ∧ ∀ i, i < q → off + i < cur.size)) (fun iv _ => q - (intOf iv).toNat)
  case atStart => exact ⟨0, by omega, rfl, H2.out, HX.out⟩
  case round =>
    obtain ⟨k, hk, rfl, hB, hx⟩ := hrel
    have HB : Hid (Below w1.heap.size w1 wr) := hB
    clear hB
    by_cases hlt : k < q
    · have i1 : (k : Int) < (q : Int) := by omega
      obtain ⟨g, off, cur, rfl, hg, hcur, hsz⟩ := hx (by omega)
      have hkc : off + k < cur.size := hsz k hlt
      have hcell : wr.cell? ⟨g, off + k, none⟩ = some cur[off + k] := (cell_of_row _ _ _ _ _ _ hcur).trans (by simp [hkc])
      have hfr : wr.frozen? ⟨g, off + k, none⟩ = false := free_ints hcur _
      have HC : Hid (wr.heap[g]? = some (.cells cur 9 (0, 0))) := hcur
      have HSZ : Hid (∀ i, i < q → off + i < cur.size) := hsz
      clear hx hcur hsz
      go_wp2
      refine ⟨⟨k + 1, by omega, by go_num, HB.out.setCell hg _, fun _ => ⟨g, off, _, rfl, hg, heap_setCell_same _ _ _ _ _ _ HC.out, fun i hi => by simpa using HSZ.out i hi⟩⟩, by simp [intOf]; omega⟩
    · obtain rfl : k = q := by omega
      clear hx
      have hs1 := H1.out.size
      have H3 : Hid (Below W.heap.size W wr) := H1.out.trans (HB.out.mono hs1)
      have r1 := SRow.stb _ _ _ _ H3.out HV.out
      have ho := owned_on HO1.out HB.out
      have r2 : SRow L (.slice oa n oc) wr := (own_strs HD.out (by rw [HM.out]; exact ho)).row
      have g3 := same9 wr r1 r2
      rw [decide_eq_true rfl] at g3
      clear hs1 r1 r2 ho
      go_wp2_with fail
      refine Calls.mono g3 ?_
      rintro e w4 ⟨_, rfl, hB4, rfl⟩
      have hs3 := H3.out.size
      have Hw4 : Hid (Below W.heap.size W w4) := H3.out.trans (hB4.mono hs3)
      clear hB4 hs3 g3
      go_wp2_with fail
      refine Calls.mono (livesI w4 ) ?_
      rintro e wz ⟨_, rfl, hB, rfl⟩
      have hs := Hw4.out.size
      have Hwz : Hid (Below W.heap.size W wz) := Hw4.out.trans (hB.mono hs)
      clear hB hs
      go_wp2
      go_ret
      exact ⟨_, rfl, Hwz.out, rfl⟩
theorem idsOwnsB (W : World) {ns : List (List Nat)} {v : Value} (hv : SRow ns v W) (hlen : ∀ x ∈ ns, x.length ≤ 9223372036854775807) (h1 : 8 < ns.length) : Ret 8 #[v] W (Is (.bool true)) := by
  have HW : Hid (Below W.heap.size W W) := Below.refl _ _
  have HV0 : Hid (SRow ns v W) := hv
  have HDN : Hid (∀ x ∈ ns, Dig x) := srow_dig9 hv
  have HL0 : Hid (∀ x ∈ ns, x.length ≤ 9223372036854775807) := hlen
  obtain ⟨a, cap, rfl, hc, hcm, hr⟩ := hv
  obtain ⟨n, hn⟩ : ∃ n, n = ns.length := ⟨_, rfl⟩
  rw [← hn] at hc h1 HV0 ⊢
  obtain ⟨b1, o1, rfl, _⟩ := hr (by omega)
  have hct : ∀ (w : World), (Instr.sliceAt 33 (.slice (some ⟨b1, o1, none⟩) n cap) none (some (.int .i64 8)) none).run Tryd.prog w = .ok (.slice (some ⟨b1, o1, none⟩) 8 cap) w := fun w => run_cutS (h := 8) w (by omega) hc (by omega)
  have hi1 : (8 : Int) < (n : Int) := by omega
  have HV : Hid (SRow (ns.take 8) (.slice (some ⟨b1, o1, none⟩) 8 cap) W) := HV0.out.take (by omega)
  have HD : Hid (∀ x ∈ ns.take 8, Dig x) := fun x hx => HDN.out x (List.mem_of_mem_take hx)
  have HL : Hid (∀ x ∈ ns.take 8, x.length ≤ 9223372036854775807) := fun x hx => HL0.out x (List.mem_of_mem_take hx)
  have hm : (ns.take 8).length = 8 := by simp; omega
  obtain ⟨L, hL⟩ : ∃ l, l = ns.take 8 := ⟨_, rfl⟩
  rw [← hL] at HV HD HL hm
  have HM : Hid (L.length = 8) := hm
  clear HV0 HDN HL0 hL hr hn hm
  unfold Ret
  go_enter Tryd.func8, Tryd.ntmps8
  go_wp2_with (at_builtin; refine wpList_append_strs _ rfl (.tmp 12) (.tmp 13) rfl rfl rfl HV.out (by omega) ?_; intro v1 w1 hown1 hB1)
  have HO1 : Hid (w1.ownsRow W.heap.size 9 1 v1 8 (strsV L)) := hown1
  have H1 : Hid (Below W.heap.size W w1) := hB1
  have g1 := setP w1 (SRow.stb _ _ _ _ hB1 HV.out) HL.out (by rw [HM.out]; omega)
  obtain ⟨oa, oc, rfl, _, hoc⟩ := own_slice9 hown1
  clear hown1 hB1 hct
  go_wp2_with fail
  refine Calls.mono g1 ?_
  rintro e w2 hR
  obtain ⟨v2, er, out, rfl, hB2, a2, c2, rfl, hc2, hcm2, hx⟩ := setR_own hR
  obtain ⟨q, hq⟩ : ∃ q, q = out.length := ⟨_, rfl⟩
  rw [← hq] at hc2 hx ⊢
  have HX : Hid (0 < q → ∃ g off cur, a2 = some ⟨g, off, none⟩ ∧ w1.heap.size ≤ g ∧ w2.heap[g]? = some (.cells cur 9 (0, 0)) ∧ ∀ i, i < q → off + i < cur.size) := fun hp => by
    obtain ⟨g, off, cur, k1, k2, k3, k4⟩ := hx hp
    refine ⟨g, off, cur, k1, k2, k3, fun i hi => ?_⟩
    obtain ⟨s, k5, _⟩ := k4 i hi
    exact (Array.getElem?_eq_some_iff.1 k5).1
  have H2 : Hid (Below w1.heap.size w1 w2) := hB2
  clear g1 hR hx hB2 hq
  go_wp2_with fail
  go_loopw [6] (fun iv wr => ∃ k : Nat, k ≤ q ∧ iv = .int .i64 k ∧ Below w1.heap.size w1 wr ∧ (0 < q → ∃ g off cur, a2 = some ⟨g, off, none⟩ ∧ w1.heap.size ≤ g ∧ wr.heap[g]? = some (.cells cur 9 (0, 0)) ∧ ∀ i, i < q → off + i < cur.size)) (fun iv _ => q - (intOf iv).toNat)
  case atStart => exact ⟨0, by omega, rfl, H2.out, HX.out⟩
  case round =>
    obtain ⟨k, hk, rfl, hB, hx⟩ := hrel
    have HB : Hid (Below w1.heap.size w1 wr) := hB
    clear hB
    by_cases hlt : k < q
    · have i1 : (k : Int) < (q : Int) := by omega
      obtain ⟨g, off, cur, rfl, hg, hcur, hsz⟩ := hx (by omega)
      have hkc : off + k < cur.size := hsz k hlt
      have hcell : wr.cell? ⟨g, off + k, none⟩ = some cur[off + k] := (cell_of_row _ _ _ _ _ _ hcur).trans (by simp [hkc])
      have hfr : wr.frozen? ⟨g, off + k, none⟩ = false := free_ints hcur _
      have HC : Hid (wr.heap[g]? = some (.cells cur 9 (0, 0))) := hcur
      have HSZ : Hid (∀ i, i < q → off + i < cur.size) := hsz
      clear hx hcur hsz
      go_wp2
      refine ⟨⟨k + 1, by omega, by go_num, HB.out.setCell hg _, fun _ => ⟨g, off, _, rfl, hg, heap_setCell_same _ _ _ _ _ _ HC.out, fun i hi => by simpa using HSZ.out i hi⟩⟩, by simp [intOf]; omega⟩
    · obtain rfl : k = q := by omega
      clear hx
      have hs1 := H1.out.size
      have H3 : Hid (Below W.heap.size W wr) := H1.out.trans (HB.out.mono hs1)
      have r1 := SRow.stb _ _ _ _ H3.out HV.out
      have ho := owned_on HO1.out HB.out
      have r2 : SRow L (.slice oa 8 oc) wr := (own_strs HD.out (by rw [HM.out]; exact ho)).row
      have g3 := same9 wr r1 r2
      rw [decide_eq_true rfl] at g3
      clear hs1 r1 r2 ho
      go_wp2_with fail
      refine Calls.mono g3 ?_
      rintro e w4 ⟨_, rfl, hB4, rfl⟩
      have hs3 := H3.out.size
      have Hw4 : Hid (Below W.heap.size W w4) := H3.out.trans (hB4.mono hs3)
      clear hB4 hs3 g3
      go_wp2_with fail
      refine Calls.mono (livesI w4 ) ?_
      rintro e wz ⟨_, rfl, hB, rfl⟩
      have hs := Hw4.out.size
      have Hwz : Hid (Below W.heap.size W wz) := Hw4.out.trans (hB.mono hs)
      clear hB hs
      go_wp2
      go_ret
      exact ⟨_, rfl, Hwz.out, rfl⟩
theorem idsOwns (W : World) {ns : List (List Nat)} {v : Value} (hv : SRow ns v W) (hlen : ∀ x ∈ ns, x.length ≤ 9223372036854775807) : Ret 8 #[v] W (Is (.bool true)) := by
  by_cases h1 : ns.length ≤ 8
  · exact idsOwnsA W hv hlen h1
  · exact idsOwnsB W hv hlen (by omega)
end Go.Proofs.YtbidoiipebokoaaDoor
set_option linter.unusedVariables false
set_option linter.unusedSimpArgs false
namespace Go.Proofs.YtbidoiipebokoaaDoor
open Go.RowKit Go.Sort Go.BigFrame
set_option maxRecDepth 100000
set_option maxHeartbeats 2000000
section
variable {H : Type} {enc : TypeId × Value → H} {w : World} {base : Nat} {spare : Nat → Bool} {held : Bool}
theorem cells9 : Tryd.prog.cellsOf 9 = 1 := by kernel_rfl
theorem srow_in {fuel : Nat} {cs : List Value} {x : DataW H × List MemPlace} (h : DataW.trod enc Tryd.prog w base spare held fuel 33 cs = some x) : ∃ v ns, cs = [v] ∧ SRow ns v w ∧ ∀ y ∈ ns, y.length ≤ 9223372036854775807 := by
  rcases DataW.trod_slice Tryd.underlying33 h with ⟨hcs, _⟩ | ⟨a, len, cap, elems, rest, m, _, hcs, _, _, hl, hm, he, hel, _⟩
  · exact ⟨_, [], hcs, ⟨none, 0, rfl, Nat.le_refl _, by decide, fun h => absurd h (by simp)⟩, fun y hy => by cases hy⟩
  · have key : ∀ i, i < len → ∃ s : ByteArray, w.cell? (a.add i) = some (.string s) ∧ s.size ≤ maxLen := fun i hi => by
      have h1 := hel i hi
      rw [List.getElem?_eq_getElem (by omega)] at h1
      obtain ⟨l, h2, h3⟩ := Option.bind_eq_some_iff.1 h1
      obtain ⟨h4, h5⟩ := cells_get h2
      obtain ⟨s, h6, _, h8⟩ := DataW.trod_string Tryd.underlying9 h3
      rw [h6] at h5
      have h7 := h5 0 (by rw [cells9]; decide)
      rw [cells9, Nat.mul_one] at h7
      exact ⟨s, by simpa [Addr.add] using h7, h8⟩
    by_cases hp : 0 < len
    · obtain ⟨s0, hs0, _⟩ := key 0 hp
      obtain ⟨b, off, rfl⟩ := addr_plain hs0
      have hex : ∃ f : Nat → ByteArray, ∀ i, i < len → w.cell? ⟨b, off + i, none⟩ = some (.string (f i)) ∧ (f i).size ≤ maxLen := by
        refine ⟨fun i => match w.cell? ⟨b, off + i, none⟩ with | some (.string s) => s | _ => ByteArray.empty, fun i hi => ?_⟩
        obtain ⟨s, hs, hz⟩ := key i hi
        rw [Addr.add_mid] at hs
        simp only [hs]
        exact ⟨trivial, hz⟩
      obtain ⟨f, hf⟩ := hex
      refine ⟨_, (List.range len).map fun i => (f i).data.toList.map UInt8.toNat, hcs, ⟨some ⟨b, off, none⟩, cap, by simp, by simpa using hl, by unfold maxLen at hm; omega, fun _ => ⟨b, off, rfl, fun i hi => ?_⟩⟩, fun y hy => ?_⟩
      · have hi' : i < len := by simpa using hi
        refine ⟨f i, (hf i hi').1, ?_⟩
        rw [show ((List.range len).map fun i => (f i).data.toList.map UInt8.toNat).getD i [] = (f i).data.toList.map UInt8.toNat by simp [hi']]
        exact str_of _
      · obtain ⟨i, hi, rfl⟩ := List.mem_map.1 hy
        have := (hf i (by simpa using hi)).2
        unfold maxLen at this
        rw [List.length_map]
        have e : (f i).data.toList.length = (f i).size := rfl
        omega
    · obtain rfl : len = 0 := by omega
      exact ⟨_, [], hcs, ⟨some a, cap, rfl, Nat.zero_le _, by unfold maxLen at hm; omega, fun h => absurd h (by simp)⟩, fun y hy => by cases hy⟩
theorem srow_arg {a : Option Addr} {len cap : Nat} {d : DataW H} {ps : List MemPlace} (h : DataW.Trod enc Tryd.prog w base spare held 33 (.slice a len cap) d ps) : ∃ ns, SRow ns (.slice a len cap) w ∧ ∀ y ∈ ns, y.length ≤ 9223372036854775807 := by
  obtain ⟨m, hm⟩ := h
  obtain ⟨v, ns, e, h1, h2⟩ := srow_in hm
  have e : [Value.slice a len cap] = [v] := e
  injection e with e _
  subst e
  exact ⟨ns, h1, h2⟩
end
end Go.Proofs.YtbidoiipebokoaaDoor
