/-
  What values tell: elements, points; the field's contracts in these words; single operations.
-/
import Derived.Test.YtpfcboakafbnlaaDoorR9
import Derived.Test.YtpfcboakafbnlaaDoorCA
import Derived.Test.YtpfcboakafbnlaaDoorInv
set_option linter.unusedVariables false
namespace Go.Proofs.YtpfcboakafbnlaaDoor
open Go.RowKit Go.Sort Go.BigFrame
set_option maxRecDepth 100000
set_option maxHeartbeats 2000000
def Ret (f : FuncId) (args : Array Value) (w : World) (R : Value → World → Prop) : Prop := Calls Tryd.prog f args w fun e w' => ∃ v, e = .returned v ∧ (Below w.heap.size w w' ∧ R v w')
/-- A value that is an element's. -/
def El (x : Fe) (v : Value) (_ : World) : Prop := ∃ e : E5, e.wf ∧ v = .agg (elc e) ∧ fe e.val = x
theorem El.stb (x : Fe) : Stb (El x) := fun _ _ _ _ h => h
def ptc (x y z t : E5) : Array Value := #[.int .u64 (x.a0 : Int), .int .u64 (x.a1 : Int), .int .u64 (x.a2 : Int), .int .u64 (x.a3 : Int), .int .u64 (x.a4 : Int), .int .u64 (y.a0 : Int), .int .u64 (y.a1 : Int), .int .u64 (y.a2 : Int), .int .u64 (y.a3 : Int), .int .u64 (y.a4 : Int), .int .u64 (z.a0 : Int), .int .u64 (z.a1 : Int), .int .u64 (z.a2 : Int), .int .u64 (z.a3 : Int), .int .u64 (z.a4 : Int), .int .u64 (t.a0 : Int), .int .u64 (t.a1 : Int), .int .u64 (t.a2 : Int), .int .u64 (t.a3 : Int), .int .u64 (t.a4 : Int)]
/-- Cells that tell four elements. -/
def Cells4 (cs : Array Value) (X Y Z T : Fe) : Prop := ∃ x y z t : E5, x.wf ∧ y.wf ∧ z.wf ∧ t.wf ∧ cs = ptc x y z t ∧ fe x.val = X ∧ fe y.val = Y ∧ fe z.val = Z ∧ fe t.val = T
/-- Cells that tell a point. -/
def CellsP (cs : Array Value) (p : Pt) : Prop := ∃ X Y Z T, Cells4 cs X Y Z T ∧ Rep X Y Z T p
def PtV (p : Pt) (v : Value) (_ : World) : Prop := ∃ cs, v = .agg cs ∧ CellsP cs p
theorem PtV.stb (p : Pt) : Stb (PtV p) := fun _ _ _ _ h => h
/-- Just this value. -/
def Is (x v : Value) (_ : World) : Prop := v = x
theorem Is.stb (x : Value) : Stb (Is x) := fun _ _ _ _ h => h
/-- A pointer to a block laid since. -/
def Box (lo : Nat) (cs : Array Value) (t : TypeId) (v : Value) (w : World) : Prop := ∃ g, v = .pointer (some ⟨g, 0, none⟩) ∧ lo ≤ g ∧ w.heap[g]? = some (.cells cs t (0, 0))
theorem Box.stb (lo : Nat) (cs : Array Value) (t : TypeId) : Stb (Box lo cs t) := fun _ _ _ hb ⟨g, h1, h2, h3⟩ => ⟨g, h1, h2, block_below hb (lt_of_heap h3) h3⟩
theorem info29 : (Tryd.prog.info? 29).map (·.size) = some 20 := by kernel_rfl
theorem info35 : (Tryd.prog.info? 35).map (·.size) = some 2 := by kernel_rfl
theorem info68 : (Tryd.prog.info? 68).map (·.size) = some 32 := by kernel_rfl
theorem ptc_one (x y z t : E5) : (ptc x y z t).all (·.oneCell') = true := by simp [ptc, Value.oneCell']
theorem elc_size' (e : E5) : (elc e).size = 5 := rfl
/- the field's contracts -/
theorem fe_of_mod {a b : Nat} (h : a % pp = b % pp) : fe a = fe b := fe_eq h
theorem cAdd {x y : Fe} {v1 v2 : Value} (w w0 w1 : World) (h1 : El x v1 w0) (h2 : El y v2 w1) : Ret 56 #[v1, v2] w (El (x + y)) := by
  obtain ⟨a, ha, rfl, rfl⟩ := h1
  obtain ⟨b, hb, rfl, rfl⟩ := h2
  exact (add22 a b w ha hb).mono fun e w' ⟨h, hB⟩ => ⟨_, h, hB, _, addE_wf ha hb, rfl, by rw [← fe_add]; exact fe_of_mod (addE_mod a b)⟩
theorem cSub {x y : Fe} {v1 v2 : Value} (w w0 w1 : World) (h1 : El x v1 w0) (h2 : El y v2 w1) : Ret 58 #[v1, v2] w (El (x - y)) := by
  obtain ⟨a, ha, rfl, rfl⟩ := h1
  obtain ⟨b, hb, rfl, rfl⟩ := h2
  refine (sub20 a b w ha hb).mono fun e w' ⟨h, hB⟩ => ⟨_, h, hB, _, subE_wf ha hb, rfl, ?_⟩
  have h3 : fe (subE a b).val + fe b.val = fe a.val := by rw [← fe_add]; exact fe_of_mod (subE_mod hb)
  grobner
theorem cMul {x y : Fe} {v1 v2 : Value} (w w0 w1 : World) (h1 : El x v1 w0) (h2 : El y v2 w1) : Ret 39 #[v1, v2] w (El (x * y)) := by
  obtain ⟨a, ha, rfl, rfl⟩ := h1
  obtain ⟨b, hb, rfl, rfl⟩ := h2
  exact (mul24 a b w ha hb).mono fun e w' ⟨h, hB⟩ => ⟨_, h, hB, _, mulE_wf ha hb, rfl, by rw [← fe_mul]; exact fe_of_mod (mulE_mod a b)⟩
theorem cInt (w : World) (n : Nat) (h : n ≤ 9223372036854775807) : Ret 53 #[.int .i64 (n : Int)] w (El (fe n)) :=
  (int17p n w h).mono fun e w' ⟨h1, hB⟩ => ⟨_, h1, hB, _, wordE_wf (by omega), rfl, by rw [wordE_val]⟩
theorem cInt0 (w : World) : Ret 53 #[.int .i64 0] w (El 0) := cInt w 0 (by omega)
theorem cInt1 (w : World) : Ret 53 #[.int .i64 1] w (El 1) := cInt w 1 (by omega)
theorem cInv {x : Fe} {v1 : Value} (w w0 : World) (h1 : El x v1 w0) : Ret 38 #[v1] w (El (fin x)) := by
  obtain ⟨a, ha, rfl, rfl⟩ := h1
  refine (inv28 a w ha).mono fun e w' ⟨r, hr, hre, h, hB⟩ => ⟨_, h, hB, r, hr, rfl, ?_⟩
  obtain ⟨X, hX⟩ : ∃ X, X = 57896044618658097711785492504343953926634992332820282019728792003956564819947 := ⟨_, rfl⟩
  rw [← hX] at hre
  rw [fin_pw _ (n := X) (by rw [hX]; decide), pw_fe]
  exact fe_of_mod hre
theorem cEq {x y : Fe} {v1 v2 : Value} (w w0 w1 : World) (h1 : El x v1 w0) (h2 : El y v2 w1) : Ret 52 #[v1, v2] w (Is (.bool (decide (x = y)))) := by
  obtain ⟨a, ha, rfl, rfl⟩ := h1
  obtain ⟨b, hb, rfl, rfl⟩ := h2
  refine (equal13 a b w ha hb).mono fun e w' ⟨h, hB⟩ => ⟨_, h, hB, ?_⟩
  show Value.bool _ = Value.bool _
  congr 1
  rw [decide_eq_decide]
  exact fe_iff.symm
theorem cOdd {x : Fe} {v1 : Value} (w w0 : World) (h1 : El x v1 w0) : Ret 32 #[v1] w (Is (.bool (decide (x.val % 2 = 1)))) := by
  obtain ⟨a, ha, rfl, rfl⟩ := h1
  exact (odd27 a w ha).mono fun e w' ⟨h, hB⟩ => ⟨_, h, hB, rfl⟩
/-- Bytes in a row of their own. -/
def Own (lo : Nat) (l : List Nat) (v : Value) (w : World) : Prop := ∃ g, v = .slice (some ⟨g, 0, none⟩) l.length l.length ∧ lo ≤ g ∧ w.heap[g]? = some (.cells (ints .u8 l) 5 (0, 0))
theorem Own.stb (lo : Nat) (l : List Nat) : Stb (Own lo l) := fun _ _ _ hb ⟨g, h1, h2, h3⟩ => ⟨g, h1, h2, block_below hb (lt_of_heap h3) h3⟩
theorem cBytes {x : Fe} {v1 : Value} (w w0 : World) (h1 : El x v1 w0) : Ret 40 #[v1] w (Own w.heap.size (digs 32 x.val)) := by
  obtain ⟨a, ha, rfl, rfl⟩ := h1
  refine (bytes15 a w ha).mono fun e w' ⟨g, h, hg, hB, hr⟩ => ⟨_, h, hB, g, by rw [digs_len], hg, hr⟩
/-- Bytes, wherever they lie. -/
def Bts (l : List Nat) (v : Value) (w : World) : Prop := ∃ a cap, v = .slice a l.length cap ∧ l.length ≤ cap ∧ cap ≤ 9223372036854775807 ∧ View w a l
theorem Bts.stb (l : List Nat) : Stb (Bts l) := fun _ _ _ hb ⟨a, c, h1, h2, h3, h4⟩ => ⟨a, c, h1, h2, h3, h4.below hb⟩
theorem Own.bts {lo : Nat} {l : List Nat} {v : Value} {w : World} (h : Own lo l v w) (hl : l.length ≤ 1000) : Bts l v w := by
  obtain ⟨g, h1, h2, h3⟩ := h
  exact ⟨_, _, h1, Nat.le_refl _, by omega, fun _ => ⟨g, 0, rfl, bytes_row h3⟩⟩
theorem cPow {x : Fe} {v1 v2 : Value} {l : List Nat} (w w0 : World) (h1 : El x v1 w0) (h2 : Bts l v2 w) (hl : l.length ≤ 64) (hd : Dig l) : Ret 61 #[v1, v2] w (El (pw x (valD l))) := by
  obtain ⟨a, ha, rfl, rfl⟩ := h1
  obtain ⟨ad, cap, rfl, hc, hc2, hv⟩ := h2
  refine (pow30 a ad l.length cap l w ha rfl hc hc2 hl hd hv).mono fun e w' ⟨r, hr, hre, h, hB⟩ => ⟨_, h, hB, r, hr, rfl, ?_⟩
  rw [pw_fe]
  exact fe_of_mod hre
def Tup2 (R1 R2 : Value → World → Prop) (v : Value) (w : World) : Prop := ∃ v1 v2, v = .tuple #[v1, v2] ∧ R1 v1 w ∧ R2 v2 w
theorem Tup2.stb {R1 R2 : Value → World → Prop} (h1 : Stb R1) (h2 : Stb R2) : Stb (Tup2 R1 R2) := fun _ w w' hb ⟨v1, v2, h, a, b⟩ => ⟨v1, v2, h, h1 v1 w w' hb a, h2 v2 w w' hb b⟩
theorem cRead {v : Value} {l : List Nat} (w : World) (h : Bts l v w) (hl : l.length = 32) (hd : Dig l) (hlt : valD l < pp) : Ret 30 #[v] w (Tup2 (El (fe (valD l))) (Is (.int .i64 0))) := by
  obtain ⟨a, cap, rfl, hc, hc2, hv⟩ := h
  have := read9 a cap l w hl (by omega) hc2 hd hv
  rw [if_pos hlt] at this
  rw [hl]
  refine this.mono fun e w' ⟨h, hB⟩ => ⟨_, h, hB, _, _, rfl, ⟨_, splitE_wf _, rfl, ?_⟩, rfl⟩
  rw [splitE_val, Nat.mod_eq_of_lt (by have := pp_lt; omega)]
theorem cReadNot {v : Value} {l : List Nat} (w : World) (h : Bts l v w) (hl : l.length = 32) (hd : Dig l) (hlt : ¬ valD l < pp) : Ret 30 #[v] w (Tup2 (El 0) (Is (.int .i64 2))) := by
  obtain ⟨a, cap, rfl, hc, hc2, hv⟩ := h
  have := read9 a cap l w hl (by omega) hc2 hd hv
  rw [if_neg hlt] at this
  rw [hl]
  exact this.mono fun e w' ⟨h, hB⟩ => ⟨_, h, hB, _, _, rfl, ⟨_, zeroE_wf, rfl, rfl⟩, rfl⟩
/- single operations -/
section
variable {ρ : Operand → Value} {o : Oper} {x y z t : Operand} {w : World}
theorem fa29 (g k : Nat) (hk : k < 4) (ho : o.op = .fieldAddr 29 x k) (hx : ρ x = .pointer (some ⟨g, 0, none⟩)) : (execOp ρ o).run Tryd.prog w = .ok (.value (.pointer (some ⟨g, 5 * k, none⟩))) w := by
  simp only [execOp, ho, hx]
  rcases (by omega : k = 0 ∨ k = 1 ∨ k = 2 ∨ k = 3) with rfl | rfl | rfl | rfl <;> kernel_rfl
theorem fa35 (g k : Nat) (hk : k < 2) (ho : o.op = .fieldAddr 35 x k) (hx : ρ x = .pointer (some ⟨g, 0, none⟩)) : (execOp ρ o).run Tryd.prog w = .ok (.value (.pointer (some ⟨g, k, none⟩))) w := by
  simp only [execOp, ho, hx]
  rcases (by omega : k = 0 ∨ k = 1) with rfl | rfl <;> kernel_rfl
theorem bu29 (e1 e2 e3 e4 : E5) (ho : o.op = .build 29 #[(0, x), (1, y), (2, z), (3, t)]) (hx : ρ x = .agg (elc e1)) (hy : ρ y = .agg (elc e2)) (hz : ρ z = .agg (elc e3)) (ht : ρ t = .agg (elc e4)) : (execOp ρ o).run Tryd.prog w = .ok (.value (.agg (ptc e1 e2 e3 e4))) w := by
  simp only [execOp, ho, List.map_toArray, List.map, hx, hy, hz, ht]
  kernel_rfl
theorem bu35 (a b : Option Addr) (n m k l : Nat) (ho : o.op = .build 35 #[(0, x), (1, y)]) (hx : ρ x = .slice a n m) (hy : ρ y = .slice b k l) : (execOp ρ o).run Tryd.prog w = .ok (.value (.agg #[.slice a n m, .slice b k l])) w := by
  simp only [execOp, ho, List.map_toArray, List.map, hx, hy]
  kernel_rfl
theorem al27 (ho : o.op = .alloc 27) : (execOp ρ o).run Tryd.prog w = .ok (.value (.pointer (some ⟨w.heap.size, 0, none⟩))) (w.alloc (.cells (elc zeroE) 27)) := by
  simp only [execOp, ho]
  kernel_rfl
theorem al29 (ho : o.op = .alloc 29) : (execOp ρ o).run Tryd.prog w = .ok (.value (.pointer (some ⟨w.heap.size, 0, none⟩))) (w.alloc (.cells (ptc zeroE zeroE zeroE zeroE) 29)) := by
  simp only [execOp, ho]
  kernel_rfl
theorem al35 (ho : o.op = .alloc 35) : (execOp ρ o).run Tryd.prog w = .ok (.value (.pointer (some ⟨w.heap.size, 0, none⟩))) (w.alloc (.cells #[.slice none 0 0, .slice none 0 0] 35)) := by
  simp only [execOp, ho]
  kernel_rfl
theorem loadRow {P : Program} {ty t : TypeId} {g : Nat} {cs : Array Value} {fr : Nat × Nat} {d : TypeDesc} (ho : o.op = .load ty x) (hx : ρ x = .pointer (some ⟨g, 0, none⟩)) (h : w.heap[g]? = some (.cells cs t fr)) (hu : P.underlying ty = some d) (hd : (match d with | .struct _ | .array _ _ => true | _ => false) = true)
    (hi : (P.info? ty).map (·.size) = some cs.size) : (execOp ρ o).run P w = .ok (.value (.agg cs)) w := by
  unfold execOp
  simp only [ho, hx, Instr.loadAt, Instr.sureAddr, Sem.run_bind, Sem.run_pure, Result.andThen_ok, run_loadVar_row w g t ty cs fr d h hu hd hi]
theorem range_of {g t : Nat} {cs : Array Value} {fr : Nat × Nat} (h : w.heap[g]? = some (.cells cs t fr)) (o : Nat) (l : List Value) (hl : ∀ j v, l[j]? = some v → cs[o + j]? = some v) : w.rangeAt g o l := fun j v hv => by
  rw [cell_of_row w g (o + j) _ t _ h]; exact hl j v hv
theorem loadMid {g off : Nat} {e : E5} (ho : o.op = .load 27 x) (hx : ρ x = .pointer (some ⟨g, off, none⟩)) (h : w.rangeAt g off (elc e).toList) : (execOp ρ o).run Tryd.prog w = .ok (.value (.agg (elc e))) w := by
  unfold execOp
  simp only [ho, hx, Instr.loadAt, Instr.sureAddr, Sem.run_bind, Sem.run_pure, Result.andThen_ok, run_loadVar_mid w g off 27 (elc e).toList _ h Tryd.underlying27 rfl (info26 : _)]
theorem part_at {g tt : Nat} {fr : Nat × Nat} {e1 e2 e3 e4 : E5} (h : w.heap[g]? = some (.cells (ptc e1 e2 e3 e4) tt fr)) : w.rangeAt g (5 * 0) (elc e1).toList ∧ w.rangeAt g (5 * 1) (elc e2).toList ∧ w.rangeAt g (5 * 2) (elc e3).toList ∧ w.rangeAt g (5 * 3) (elc e4).toList := by
  have five : ∀ (off : Nat) (e : E5), (∀ j, j < 5 → (ptc e1 e2 e3 e4)[off + j]? = (elc e).toList[j]?) → w.rangeAt g off (elc e).toList := fun off e H => range_of h off _ fun j v hv => by
    have hj : j < 5 := by
      have := (List.getElem?_eq_some_iff.1 hv).1
      simpa [elc] using this
    rw [H j hj]; exact hv
  refine ⟨five _ _ ?_, five _ _ ?_, five _ _ ?_, five _ _ ?_⟩ <;> intro j hj <;> rcases (by omega : j = 0 ∨ j = 1 ∨ j = 2 ∨ j = 3 ∨ j = 4) with rfl | rfl | rfl | rfl | rfl <;> rfl
/-- A part of a point's block. -/
theorem dLoadPart {R : Value → World → Prop} {g k : Nat} {X Y Z T : Fe} {cs : Array Value} {tt : Nat} {fr : Nat × Nat} (hc : Cells4 cs X Y Z T) (h : w.heap[g]? = some (.cells cs tt fr)) (hk : k < 4) (ho : o.op = .load 27 x) (hx : ρ x = .pointer (some ⟨g, 5 * k, none⟩))
    (hR : ∀ v, El (if k = 0 then X else if k = 1 then Y else if k = 2 then Z else T) v w → R v w) : Does Tryd.prog o ρ w (fun v w' => Below w.heap.size w w' ∧ R v w') := by
  obtain ⟨e1, e2, e3, e4, h1, h2, h3, h4, rfl, rfl, rfl, rfl, rfl⟩ := hc
  obtain ⟨p1, p2, p3, p4⟩ := part_at h
  rcases (by omega : k = 0 ∨ k = 1 ∨ k = 2 ∨ k = 3) with rfl | rfl | rfl | rfl
  · exact Does.run _ (loadMid ho hx p1) (hR _ ⟨_, h1, rfl, rfl⟩)
  · exact Does.run _ (loadMid ho hx p2) (hR _ ⟨_, h2, rfl, rfl⟩)
  · exact Does.run _ (loadMid ho hx p3) (hR _ ⟨_, h3, rfl, rfl⟩)
  · exact Does.run _ (loadMid ho hx p4) (hR _ ⟨_, h4, rfl, rfl⟩)
/-- An element's block. -/
theorem dLoadEl {R : Value → World → Prop} {g : Nat} {e : E5} {tt : Nat} {fr : Nat × Nat} {X : Fe} (he : e.wf) (hX : fe e.val = X) (h : w.heap[g]? = some (.cells (elc e) tt fr)) (ho : o.op = .load 27 x) (hx : ρ x = .pointer (some ⟨g, 0, none⟩)) (hR : ∀ v, El X v w → R v w) : Does Tryd.prog o ρ w (fun v w' => Below w.heap.size w w' ∧ R v w') :=
  Does.run _ (loadRow ho hx h Tryd.underlying27 rfl info26) (hR _ ⟨e, he, rfl, hX⟩)
theorem dLoadPt {R : Value → World → Prop} {g : Nat} {cs : Array Value} {tt : Nat} {fr : Nat × Nat} {p : Pt} (hp : CellsP cs p) (h : w.heap[g]? = some (.cells cs tt fr)) (ho : o.op = .load 29 x) (hx : ρ x = .pointer (some ⟨g, 0, none⟩)) (hR : ∀ v, PtV p v w → R v w) : Does Tryd.prog o ρ w (fun v w' => Below w.heap.size w w' ∧ R v w') := by
  refine Does.run _ (loadRow ho hx h Tryd.underlying29 rfl ?_) (hR _ ⟨cs, rfl, hp⟩)
  obtain ⟨X, Y, Z, T, ⟨e1, e2, e3, e4, _, _, _, _, rfl, _⟩, _⟩ := hp
  exact info29
theorem dAlloc27 {lo : Nat} (hlo : lo ≤ w.heap.size) (ho : o.op = .alloc 27) : Does Tryd.prog o ρ w (fun v w' => Below w.heap.size w w' ∧ Box lo (elc zeroE) 27 v w') :=
  Does.new _ _ (al27 ho) ⟨_, rfl, hlo, heap_alloc_new _ _⟩
theorem dAlloc29 {lo : Nat} (hlo : lo ≤ w.heap.size) (ho : o.op = .alloc 29) : Does Tryd.prog o ρ w (fun v w' => Below w.heap.size w w' ∧ Box lo (ptc zeroE zeroE zeroE zeroE) 29 v w') :=
  Does.new _ _ (al29 ho) ⟨_, rfl, hlo, heap_alloc_new _ _⟩
theorem dAlloc35 {lo : Nat} (hlo : lo ≤ w.heap.size) (ho : o.op = .alloc 35) : Does Tryd.prog o ρ w (fun v w' => Below w.heap.size w w' ∧ Box lo #[.slice none 0 0, .slice none 0 0] 35 v w') :=
  Does.new _ _ (al35 ho) ⟨_, rfl, hlo, heap_alloc_new _ _⟩
def Pt4 (X Y Z T : Fe) (v : Value) (_ : World) : Prop := ∃ cs, v = .agg cs ∧ Cells4 cs X Y Z T
theorem Pt4.stb (X Y Z T : Fe) : Stb (Pt4 X Y Z T) := fun _ _ _ _ h => h
theorem dBuild29 {X Y Z T : Fe} {w1 w2 w3 w4 : World} (ho : o.op = .build 29 #[(0, x), (1, y), (2, z), (3, t)]) (hx : El X (ρ x) w1) (hy : El Y (ρ y) w2) (hz : El Z (ρ z) w3) (ht : El T (ρ t) w4) : Does Tryd.prog o ρ w (fun v w' => Below w.heap.size w w' ∧ Pt4 X Y Z T v w') := by
  obtain ⟨e1, a1, b1, c1⟩ := hx
  obtain ⟨e2, a2, b2, c2⟩ := hy
  obtain ⟨e3, a3, b3, c3⟩ := hz
  obtain ⟨e4, a4, b4, c4⟩ := ht
  exact Does.run _ (bu29 e1 e2 e3 e4 ho b1 b2 b3 b4) ⟨_, rfl, e1, e2, e3, e4, a1, a2, a3, a4, rfl, c1, c2, c3, c4⟩
theorem dMove {R : Value → World → Prop} (ho : o.op = .move x) (h : R (ρ x) w) : Does Tryd.prog o ρ w (fun v w' => Below w.heap.size w w' ∧ R v w') :=
  Does.run _ (BigFrame.run_move x ho w) h
theorem dAssign {R : Value → World → Prop} (ho : o.op = .assign x) (h : R (ρ x) w) : Does Tryd.prog o ρ w (fun v w' => Below w.heap.size w w' ∧ R v w') :=
  Does.run _ (run_assignO x ho w) h
theorem dFa29 (g k : Nat) (hk : k < 4) (ho : o.op = .fieldAddr 29 x k) (hx : ρ x = .pointer (some ⟨g, 0, none⟩)) : Does Tryd.prog o ρ w (fun v w' => Below w.heap.size w w' ∧ Is (.pointer (some ⟨g, 5 * k, none⟩)) v w') :=
  Does.run _ (fa29 g k hk ho hx) rfl
theorem dFa35 (g k : Nat) (hk : k < 2) (ho : o.op = .fieldAddr 35 x k) (hx : ρ x = .pointer (some ⟨g, 0, none⟩)) : Does Tryd.prog o ρ w (fun v w' => Below w.heap.size w w' ∧ Is (.pointer (some ⟨g, k, none⟩)) v w') :=
  Does.run _ (fa35 g k hk ho hx) rfl
end
theorem cellsP_size {cs : Array Value} {p : Pt} (h : CellsP cs p) : cs.size = 20 := by
  obtain ⟨X, Y, Z, T, ⟨e1, e2, e3, e4, _, _, _, _, rfl, _⟩, _⟩ := h
  rfl
theorem cellsP_one {cs : Array Value} {p : Pt} (h : CellsP cs p) : cs.all (·.oneCell') = true := by
  obtain ⟨X, Y, Z, T, ⟨e1, e2, e3, e4, _, _, _, _, rfl, _⟩, _⟩ := h
  exact ptc_one _ _ _ _
theorem Pt4.cells {cs : Array Value} {X Y Z T : Fe} (h : Cells4 cs X Y Z T) : cs.size = 20 ∧ cs.all (·.oneCell') = true := by
  obtain ⟨e1, e2, e3, e4, _, _, _, _, rfl, _⟩ := h
  exact ⟨rfl, ptc_one _ _ _ _⟩
end Go.Proofs.YtpfcboakafbnlaaDoor
