/-
  turned, known.
-/
import Derived.Test.YtpfcboakafbnlaaDoorN3
import Derived.Laws.IdiomCopy
set_option linter.unusedVariables false
namespace Go.Proofs.YtpfcboakafbnlaaDoor
open Go.RowKit Go.Sort Go.BigFrame
set_option maxRecDepth 100000
set_option maxHeartbeats 2000000
def CopyFrom (w : World) (a : Option Addr) (rest : List Nat) : Prop := 0 < (ints .u8 rest).toList.length → ∃ ad, a = some ad ∧ ∀ j v, (ints .u8 rest).toList[j]? = some v → w.cell? (ad.add j) = some v
theorem copyFrom {w : World} {a : Option Addr} {rest : List Nat} (hv : View w a rest) : CopyFrom w a rest := by
  intro h0
  obtain ⟨b, off, ha, hc⟩ := hv (by simpa [ints] using h0)
  refine ⟨_, ha, fun j v hj => ?_⟩
  have hj' : j < rest.length := by
    by_cases h : j < rest.length
    · exact h
    · rw [ints_list, List.getElem?_eq_none (by simp; omega)] at hj; cases hj
  rw [Addr.add_mid, hc j hj']
  rw [← hj, ints_list]
  simp [hj']
theorem ints_u8_one (l : List Nat) : ∀ v ∈ (ints .u8 l).toList, v.oneCell' = true := fun v hv => by rw [ints_list] at hv; obtain ⟨x, _, rfl⟩ := List.mem_map.1 hv; rfl
theorem ints_toList_len (l : List Nat) : (ints .u8 l).toList.length = l.length := by simp [ints]
theorem splice_ints (z rest : List Nat) (o : Nat) : (splice (ints .u8 z).toList o (ints .u8 rest).toList).toArray = ints .u8 (z.take o ++ rest ++ z.drop (o + rest.length)) := by
  simp [splice, ints]
theorem turned69 (l : List Nat) (w : World) (hl : l.length = 32) : Ret 69 #[.agg (ints .u8 l)] w (Own w.heap.size l.reverse) := by
  unfold Ret
  have hmk := make32
  have h1 : (Tryd.prog.info? 5).map (·.size) = some 1 := by kernel_rfl
  obtain ⟨va, hva⟩ : ∃ x, x = ints .u8 l := ⟨_, rfl⟩
  have hsv : va.size = 32 := by rw [hva, ints_size, hl]
  have HVA : Hid (va = ints .u8 l) := hva
  have hl' : Hid (l.length = 32) := hl
  rw [← hva]
  clear hva hl
  have hgn : ((w.alloc (.cells va 68)).alloc (.cells (ints .u8 (digs 32 0)) 5)).heap[w.heap.size + 1]? = some (.cells (ints .u8 (digs 32 0)).toList.toArray 5 (0, 0)) := heap_alloc2_new _ _ _
  have hB2 : Below w.heap.size w ((w.alloc (.cells va 68)).alloc (.cells (ints .u8 (digs 32 0)) 5)) := below2 _ _ _
  have hg0 : ((w.alloc (.cells va 68)).alloc (.cells (ints .u8 (digs 32 0)) 5)).heap[w.heap.size]? = some (.cells va 68 (0, 0)) := heap2_0 _ _ _
  have hcl : (ints .u8 l).toList.length = Nat.min 32 32 := by rw [ints_toList_len, hl'.out]; rfl
  have hfit : 0 + (ints .u8 l).toList.length ≤ (ints .u8 (digs 32 0)).toList.length := by rw [ints_toList_len, ints_toList_len, hl'.out, digs_len]; omega
  have hpos : CopyFrom ((w.alloc (.cells va 68)).alloc (.cells (ints .u8 (digs 32 0)) 5)) (some ⟨w.heap.size, 0, none⟩) l := copyFrom (fun _ => ⟨w.heap.size, 0, rfl, by rw [HVA.out] at hg0 ⊢; exact bytes_row hg0⟩)
  go_enter Tryd.func69, Tryd.ntmps69
  go_wp2_with (refine wpList_copy_splice rfl (.tmp 5) (.tmp 6) 22 22 rfl 5 Tryd.underlying22 h1 _ _ _ _ _ _ rfl rfl (w.heap.size + 1) 0 (ints .u8 (digs 32 0)).toList 5 hgn (ints .u8 l).toList hcl (fun h => ⟨rfl, hpos h⟩) hfit (ints_u8_one _) w.heap.size w hB2 (by omega) ?_; intro w2 hw2 hB3)
  have hg2 : w2.heap[w.heap.size + 1]? = some (.cells (ints .u8 l) 5 (0, 0)) := by
    rw [hw2.out, splice_ints]
    have : (digs 32 0).take 0 ++ l ++ (digs 32 0).drop (0 + l.length) = l := by rw [hl'.out]; simp [digs]
    rw [this]
  refine (reverse74 (w.heap.size + 1) l w2 hl' hg2).mono ?_
  rintro e w3 ⟨rfl, hF, hrow⟩
  have hB4 : Below w.heap.size w w3 := hF.below hB3 (by omega)
  have HL : Hid (l.reverse.length = 32) := by show _ = _; rw [List.length_reverse]; exact hl'.out
  clear hg2 hB3 hw2 hpos hfit hcl hg0 hB2 hgn hmk
  go_wp2
  go_ret
  exact ⟨_, rfl, hB4, w.heap.size + 1, by rw [HL.out]; rfl, by omega, hrow⟩
section
variable {ρ : Operand → Value} {o : Oper} {x y z t : Operand} {w : World}
theorem dBox68 {lo : Nat} {l : List Nat} (hlo : lo ≤ w.heap.size) (ho : o.op = .box 68 x) (hx : ρ x = .agg (ints .u8 l)) (hl : l.length = 32) : Does Tryd.prog o ρ w (fun v w' => Below w.heap.size w w' ∧ Box lo (ints .u8 l) 68 v w') := by
  obtain ⟨va, hva⟩ : ∃ x, x = ints .u8 l := ⟨_, rfl⟩
  rw [← hva] at hx ⊢
  exact Does.new _ (.cells va 68) (by simp [execOp, ho, hx, go_sem]) ⟨_, rfl, hlo, heap_alloc_new _ _⟩
theorem dLoad68 {g : Nat} {l : List Nat} (hl : l.length = 32) (h : w.heap[g]? = some (.cells (ints .u8 l) 68 (0, 0))) (ho : o.op = .load 68 x) (hx : ρ x = .pointer (some ⟨g, 0, none⟩)) : Does Tryd.prog o ρ w (fun v w' => Below w.heap.size w w' ∧ Is (.agg (ints .u8 l)) v w') :=
  Does.run _ (loadRow ho hx h Tryd.underlying68 rfl (by rw [ints_size, hl]; exact info68)) rfl
theorem dExt0 {R1 R2 : Value → World → Prop} (ho : o.op = .extract x 0) (h : Tup2 R1 R2 (ρ x) w) : Does Tryd.prog o ρ w (fun v w' => Below w.heap.size w w' ∧ R1 v w') := by
  obtain ⟨v1, v2, hv, h1, h2⟩ := h
  exact Does.run v1 (by simp only [execOp, ho, hv]; kernel_rfl) h1
theorem dExt1 {R1 R2 : Value → World → Prop} (ho : o.op = .extract x 1) (h : Tup2 R1 R2 (ρ x) w) : Does Tryd.prog o ρ w (fun v w' => Below w.heap.size w w' ∧ R2 v w') := by
  obtain ⟨v1, v2, hv, h1, h2⟩ := h
  exact Does.run v2 (by simp only [execOp, ho, hv]; kernel_rfl) h2
end
theorem cTurned {v : Value} {l : List Nat} (w w0 : World) (h : Is (.agg (ints .u8 l)) v w0) (hl : l.length = 32) : Ret 69 #[v] w (Own w.heap.size l.reverse) := by
  have h' : v = .agg (ints .u8 l) := h
  subst h'
  exact turned69 l w hl
theorem ownLo {f : FuncId} {args : Array Value} {w : World} {l : List Nat} {lo : Nat} (hlo : lo ≤ w.heap.size) (h : Ret f args w (Own w.heap.size l)) : Ret f args w (Own lo l) :=
  h.mono fun e w' ⟨v, h1, h2, g, h3, h4, h5⟩ => ⟨v, h1, h2, g, h3, by omega, h5⟩
end Go.Proofs.YtpfcboakafbnlaaDoor
