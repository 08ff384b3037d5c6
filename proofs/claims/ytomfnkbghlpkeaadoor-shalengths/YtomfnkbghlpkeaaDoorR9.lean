/-
  The walk of the reference's Of, at words of 32 bits.
-/
import Derived.Test.YtomfnkbghlpkeaaDoorRQ
import Derived.Test.YtomfnkbghlpkeaaDoorR4b
import Derived.Deep.DrawnRows
import Derived.Deep.AppendLies
import Derived.Handy
import Derived.Test.YtomfnkbghlpkeaaDoorHeld
set_option linter.unusedVariables false
namespace Go.Proofs.YtomfnkbghlpkeaaDoor
open Go.RowKit Go.Sort Go.BigFrame
set_option maxRecDepth 100000
set_option maxHeartbeats 4000000
attribute [local go_sem ↓] Go.wp_at_zero Go.wp_at_succ

theorem heap_new' (w : World) (o : Obj) (k : Nat) (h : k = w.heap.size) : (w.alloc o).heap[k]? = some o := by rw [h]; exact heap_alloc_new _ _
def K32 : List Nat := (KS.take 64).map (· / 4294967296)
def H32 : List Nat := HS.map (· / 4294967296)
theorem K32_at (i : Nat) (hi : i < 64) : K32.getD i 0 = KS.getD i 0 / 4294967296 := by
  have hl : i < KS.length := by rw [show KS.length = 80 from by kernel_rfl]; omega
  simp [K32, hl, hi]
theorem H32_at (i : Nat) (hi : i < 8) : H32.getD i 0 = HS.getD i 0 / 4294967296 := by
  have hl : i < HS.length := by rw [show HS.length = 8 from by kernel_rfl]; omega
  simp [H32, hl]
theorem field37_6 {ρ : Operand → Value} {o : Oper} {x : Operand} {P : Nat} {w : World} (ho : o.op = .fieldAddr 37 x 6) (hx : ρ x = .pointer (some ⟨P, 0, none⟩)) : (execOp ρ o).run Tryd.prog w = .ok (.value (.pointer (some ⟨P, 6, none⟩))) w := by
  simp [execOp, ho, hx, go_sem]
theorem field37_7 {ρ : Operand → Value} {o : Oper} {x : Operand} {P : Nat} {w : World} (ho : o.op = .fieldAddr 37 x 7) (hx : ρ x = .pointer (some ⟨P, 0, none⟩)) : (execOp ρ o).run Tryd.prog w = .ok (.value (.pointer (some ⟨P, 7, none⟩))) w := by
  simp [execOp, ho, hx, go_sem]
theorem load35 {ρ : Operand → Value} {o : Oper} {x : Operand} {p : Addr} {w : World} {v : Value} (ho : o.op = .load 35 x) (hx : ρ x = .pointer (some p)) (hc : w.cell? p = some v) : (execOp ρ o).run Tryd.prog w = .ok (.value v) w := by
  simp [execOp, ho, hx, hc, go_sem]
theorem load3 {ρ : Operand → Value} {o : Oper} {x : Operand} {p : Addr} {w : World} {v : Value} (ho : o.op = .load 3 x) (hx : ρ x = .pointer (some p)) (hc : w.cell? p = some v) : (execOp ρ o).run Tryd.prog w = .ok (.value v) w := by
  simp [execOp, ho, hx, hc, go_sem]
theorem index34 {ρ : Operand → Value} {o : Oper} {x y : Operand} {g i cp : Nat} {w : World} (ho : o.op = .indexAddr 34 x y) (hx : ρ x = .slice (some ⟨g, 0, none⟩) 80 cp) (hy : ρ y = .int .i64 (i : Int)) (hi : i < 80) : (execOp ρ o).run Tryd.prog w = .ok (.value (.pointer (some ⟨g, i, none⟩))) w := by
  have h1 : (i : Int) < 80 := by omega
  have h2 : (0 : Int) ≤ (i : Int) := by omega
  simp [execOp, ho, hx, hy, h1, h2, go_sem]
theorem build35 {ρ : Operand → Value} {o : Oper} {x : Operand} {k : Int} {w : World} (ho : o.op = .buildSlice 35 1 #[(0, x)]) (hx : ρ x = .int .u64 k) : (execOp ρ o).run Tryd.prog w = .ok (.value (.slice (some ⟨w.heap.size, 0, none⟩) 1 1)) (w.alloc (.cells #[.int .u64 k] 39)) := by
  simp [execOp, ho, hx, go_sem]
theorem store35 {ρ : Operand → Value} {o : Oper} {x y : Operand} {p : Addr} {a : Option Addr} {n c : Nat} {v : Value} {w : World} (ho : o.op = .store 35 x y) (hx : ρ x = .pointer (some p)) (hy : ρ y = .slice a n c) (hc : w.cell? p = some v) (hf : w.frozen? p = false) : (execOp ρ o).run Tryd.prog w = .ok .skip (w.setCell p (.slice a n c)) := by
  simp [execOp, ho, hx, hy, hc, hf, go_sem]
structure Far (w : World) (B P gA gB gC gD gp : Nat) : Prop where
  wp : w.heap.size < P
  pb : P < B
  a : gA < B
  b : gB < B
  c : gC < B
  d : gD < B
  pp : gp < B
  na : gA ≠ P
  nb : gB ≠ P
  nc : gC ≠ P
  nd : gD ≠ P
  npp : gp ≠ P
  xa : gA ≠ w.heap.size
  xb : gB ≠ w.heap.size
  xc : gC ≠ w.heap.size
  xd : gD ≠ w.heap.size
theorem Far.mono {w : World} {B B' P gA gB gC gD gp : Nat} (h : Far w B P gA gB gC gD gp) (hB : B ≤ B') : Far w B' P gA gB gC gD gp :=
  ⟨h.wp, Nat.lt_of_lt_of_le h.pb hB, Nat.lt_of_lt_of_le h.a hB, Nat.lt_of_lt_of_le h.b hB, Nat.lt_of_lt_of_le h.c hB, Nat.lt_of_lt_of_le h.d hB, Nat.lt_of_lt_of_le h.pp hB, h.na, h.nb, h.nc, h.nd, h.npp, h.xa, h.xb, h.xc, h.xd⟩
theorem Row3.onB {w w' : World} {g a b c B : Nat} (h : Row3 w g a b c) (hg : g < B) (hb : Below B w w') : Row3 w' g a b c :=
  ⟨(hb.cell (p := ⟨g, 0, none⟩) hg).trans h.a, (hb.cell (p := ⟨g, 1, none⟩) hg).trans h.b, (hb.cell (p := ⟨g, 2, none⟩) hg).trans h.c⟩
theorem cell_setCell_ne (w : World) (p : Addr) (q : Addr) (v : Value) (h : p.block ≠ q.block) : (w.setCell q v).cell? p = w.cell? p := World.cell?_of_block (Below.heap_setCell w q v p.block h)
theorem size_setCell (w : World) (q : Addr) (v : Value) : (w.setCell q v).heap.size = w.heap.size := by simp [World.setCell]
theorem Row3.set {w : World} {g a b c P : Nat} (h : Row3 w g a b c) (hg : g ≠ P) (j : Nat) (v : Value) : Row3 (w.setCell ⟨P, j, none⟩ v) g a b c :=
  ⟨by rw [cell_setCell_ne _ _ _ _ hg]; exact h.a, by rw [cell_setCell_ne _ _ _ _ hg]; exact h.b, by rw [cell_setCell_ne _ _ _ _ hg]; exact h.c⟩
theorem words_set {w : World} {g n P : Nat} {l : List Nat} (h : Words w g n l) (hg : g ≠ P) (j : Nat) (v : Value) : Words (w.setCell ⟨P, j, none⟩ v) g n l :=
  fun i hi => by rw [cell_setCell_ne _ _ _ _ hg]; exact h i hi
theorem row3_of {w : World} {g a b c : Nat} (h : w.heap[g]? = some (.cells #[.int .i64 (a : Int), .int .i64 (b : Int), .int .i64 (c : Int)] 3 (0, 0))) : Row3 w g a b c :=
  ⟨row_at h 0 _ rfl, row_at h 1 _ rfl, row_at h 2 _ rfl⟩
theorem own_set {w : World} {B n P : Nat} {v : Value} {xs : List Value} (h : w.ownsRow B 39 1 v n xs) (hP : P < B) (j : Nat) (u : Value) : (w.setCell ⟨P, j, none⟩ u).ownsRow B 39 1 v n xs := by
  refine h.kept (row := some P) ⟨rfl, rfl, rfl, by rw [size_setCell]; exact Nat.le_refl _, fun k hk hne => heap_setCell_other _ _ _ _ (fun e => hne (by rw [e]))⟩ ?_
  cases hv : v.ownBlock with
  | none => exact .inl rfl
  | some x => exact .inr (fun e => by have := (h.lt x hv).1; injection e with e; omega)

structure RelO32 (w wr : World) (B P gA gB gC gD gp : Nat) (H : Array Value) : Prop where
  bl : Below w.heap.size w wr
  res : wr.heap[w.heap.size]? = some (.cells #[.int .i64 0, .int .i64 0, .slice none 0 0, .slice none 0 0, .slice none 0 0, .slice none 0 0, .slice none 0 0, .slice none 0 0] 37 (0, 0))
  box : wr.heap[P]? = some (.cells H 37 (0, 0))
  rA : Row3 wr gA 2 13 22
  rB : Row3 wr gB 6 11 25
  rC : Row3 wr gC 7 18 3
  rD : Row3 wr gD 17 19 10
  pr : Ints wr gp 80 PT
  sz : B ≤ wr.heap.size
theorem RelO32.on {w wr w1 : World} {B P gA gB gC gD gp : Nat} {H : Array Value} (h : RelO32 w wr B P gA gB gC gD gp H) (f : Far w B P gA gB gC gD gp) (hb : Below B wr w1) : RelO32 w w1 B P gA gB gC gD gp H :=
  ⟨h.bl.trans (hb.mono (by have := f.wp; have := f.pb; omega)), (hb.block _ (by have := f.wp; have := f.pb; omega)).trans h.res, (hb.block _ f.pb).trans h.box, h.rA.onB f.a hb, h.rB.onB f.b hb, h.rC.onB f.c hb, h.rD.onB f.d hb, fun j hj => (hb.cell (p := ⟨gp, j, none⟩) f.pp).trans (h.pr j hj), Nat.le_trans h.sz hb.size⟩
theorem RelO32.store {w wr : World} {B P gA gB gC gD gp : Nat} {H : Array Value} (h : RelO32 w wr B P gA gB gC gD gp H) (f : Far w B P gA gB gC gD gp) (j : Nat) (v : Value) : RelO32 w (wr.setCell ⟨P, j, none⟩ v) B P gA gB gC gD gp (H.setIfInBounds j v) :=
  ⟨h.bl.setCell (Nat.le_of_lt f.wp) _, by rw [heap_setCell_other _ _ _ _ (by have := f.wp; simp; omega)]; exact h.res, heap_setCell_same _ _ _ _ _ _ h.box, h.rA.set f.na j v, h.rB.set f.nb j v, h.rC.set f.nc j v, h.rD.set f.nd j v, fun i hi => by rw [cell_setCell_ne _ _ _ _ f.npp]; exact h.pr i hi, by rw [size_setCell]; exact h.sz⟩
theorem RelO32.base {w wr : World} {B B' P gA gB gC gD gp : Nat} {H : Array Value} (h : RelO32 w wr B P gA gB gC gD gp H) (hB : B' ≤ wr.heap.size) : RelO32 w wr B' P gA gB gC gD gp H :=
  ⟨h.bl, h.res, h.box, h.rA, h.rB, h.rC, h.rD, h.pr, hB⟩
theorem tow32 (w : World) : ∀ W0, W0 = ((((((((((w.alloc (.cells #[.int .i64 0, .int .i64 0, .slice none 0 0, .slice none 0 0, .slice none 0 0, .slice none 0 0, .slice none 0 0, .slice none 0 0] 37)).alloc (.cells #[.int .i64 28, .int .i64 34, .int .i64 39] 3)).alloc (.cells #[.int .i64 14, .int .i64 18, .int .i64 41] 3)).alloc (.cells #[.int .i64 1, .int .i64 8, .int .i64 7] 3)).alloc (.cells #[.int .i64 19, .int .i64 61, .int .i64 6] 3)).alloc (.cells #[.int .i64 32, .int .i64 64, .slice (some ⟨w.heap.size + 1 + 1 + 1 + 1 + 1 + 1, 0, none⟩) 3 3, .slice (some ⟨w.heap.size + 1 + 1 + 1 + 1 + 1 + 1 + 1, 0, none⟩) 3 3, .slice (some ⟨w.heap.size + 1 + 1 + 1 + 1 + 1 + 1 + 1 + 1, 0, none⟩) 3 3, .slice (some ⟨w.heap.size + 1 + 1 + 1 + 1 + 1 + 1 + 1 + 1 + 1, 0, none⟩) 3 3, .slice none 0 0, .slice none 0 0] 37)).alloc (.cells #[.int .i64 2, .int .i64 13, .int .i64 22] 3)).alloc (.cells #[.int .i64 6, .int .i64 11, .int .i64 25] 3)).alloc (.cells #[.int .i64 7, .int .i64 18, .int .i64 3] 3)).alloc (.cells #[.int .i64 17, .int .i64 19, .int .i64 10] 3)) → W0.heap.size = w.heap.size + 10 ∧ Below w.heap.size w W0 ∧ W0.heap[w.heap.size]? = some (.cells #[.int .i64 0, .int .i64 0, .slice none 0 0, .slice none 0 0, .slice none 0 0, .slice none 0 0, .slice none 0 0, .slice none 0 0] 37) ∧ W0.heap[w.heap.size + 1 + 1 + 1 + 1 + 1]? = some (.cells #[.int .i64 32, .int .i64 64, .slice (some ⟨w.heap.size + 1 + 1 + 1 + 1 + 1 + 1, 0, none⟩) 3 3, .slice (some ⟨w.heap.size + 1 + 1 + 1 + 1 + 1 + 1 + 1, 0, none⟩) 3 3, .slice (some ⟨w.heap.size + 1 + 1 + 1 + 1 + 1 + 1 + 1 + 1, 0, none⟩) 3 3, .slice (some ⟨w.heap.size + 1 + 1 + 1 + 1 + 1 + 1 + 1 + 1 + 1, 0, none⟩) 3 3, .slice none 0 0, .slice none 0 0] 37) ∧ W0.heap[w.heap.size + 1 + 1 + 1 + 1 + 1 + 1]? = some (.cells #[.int .i64 2, .int .i64 13, .int .i64 22] 3) ∧ W0.heap[w.heap.size + 1 + 1 + 1 + 1 + 1 + 1 + 1]? = some (.cells #[.int .i64 6, .int .i64 11, .int .i64 25] 3) ∧ W0.heap[w.heap.size + 1 + 1 + 1 + 1 + 1 + 1 + 1 + 1]? = some (.cells #[.int .i64 7, .int .i64 18, .int .i64 3] 3) ∧ W0.heap[w.heap.size + 1 + 1 + 1 + 1 + 1 + 1 + 1 + 1 + 1]? = some (.cells #[.int .i64 17, .int .i64 19, .int .i64 10] 3) := fun W0 h => by
  subst h
  refine ⟨by simp only [size_alloc], (((((((((((Below.refl _ _).alloc (by first | exact Nat.le_refl _ | (simp only [size_alloc]; omega)) _).alloc (by first | exact Nat.le_refl _ | (simp only [size_alloc]; omega)) _).alloc (by first | exact Nat.le_refl _ | (simp only [size_alloc]; omega)) _).alloc (by first | exact Nat.le_refl _ | (simp only [size_alloc]; omega)) _).alloc (by first | exact Nat.le_refl _ | (simp only [size_alloc]; omega)) _).alloc (by first | exact Nat.le_refl _ | (simp only [size_alloc]; omega)) _).alloc (by first | exact Nat.le_refl _ | (simp only [size_alloc]; omega)) _).alloc (by first | exact Nat.le_refl _ | (simp only [size_alloc]; omega)) _).alloc (by first | exact Nat.le_refl _ | (simp only [size_alloc]; omega)) _).alloc (by first | exact Nat.le_refl _ | (simp only [size_alloc]; omega)) _), ?_, ?_, ?_, ?_, ?_, ?_⟩ <;> (repeat (first | exact heap_new' _ _ _ (by simp only [size_alloc]; done) | exact heap_new' _ _ _ rfl | rw [heap_alloc_old _ _ (by simp only [size_alloc]; omega)]))
theorem of32 (w : World) : Calls Tryd.prog 17 #[.int .i64 32] w fun e w' => ∃ gA gB gC gD gK cK gF cF, e = .returned (.agg #[.int .i64 32, .int .i64 64, .slice (some ⟨gA, 0, none⟩) 3 3, .slice (some ⟨gB, 0, none⟩) 3 3, .slice (some ⟨gC, 0, none⟩) 3 3, .slice (some ⟨gD, 0, none⟩) 3 3, .slice (some ⟨gK, 0, none⟩) 64 cK, .slice (some ⟨gF, 0, none⟩) 8 cF]) ∧ Below w.heap.size w w' ∧
    Row3 w' gA 2 13 22 ∧ Row3 w' gB 6 11 25 ∧ Row3 w' gC 7 18 3 ∧ Row3 w' gD 17 19 10 ∧ Words w' gK 64 K32 ∧ Words w' gF 8 H32 := by
  have h39i : (Tryd.prog.info? 39).map (fun i => (i.zero, i.size, i.bytes)) = some (some (.int .u64 0), 1, 8) := by kernel_rfl
  obtain ⟨i0, hi0, hz0, hz1, hz2⟩ := info_parts h39i
  go_enter Tryd.func17, Tryd.ntmps17
  go_wp2_with fail
  refine (primes80 _).mono ?_
  rintro e w1 ⟨v, rfl, hb1, hown⟩
  obtain ⟨hs0, hbw, t0, t5, tA, tB, tC, tD⟩ := tow32 w _ rfl
  rw [hs0] at hown
  obtain ⟨gp, cp, rfl, hgp0, _⟩ := own_formT hown (by omega)
  have hpr : Ints w1 gp 80 PT := fun i hi => by rw [hown.cellAt i (by omega)]; simp [iv, show i < PT.length by rw [PT_len]; exact hi]
  have hgpl := (hown.lt gp rfl).2
  have hB1 : Below w.heap.size w w1 := hbw.trans (hb1.mono (by rw [hs0]; omega))
  have s0 := block_below hb1 (by rw [hs0]; omega) t0
  have s5 := block_below hb1 (by rw [hs0]; omega) t5
  have sA := block_below hb1 (by rw [hs0]; omega) tA
  have sB := block_below hb1 (by rw [hs0]; omega) tB
  have sC := block_below hb1 (by rw [hs0]; omega) tC
  have sD := block_below hb1 (by rw [hs0]; omega) tD
  have hs1 := hb1.size
  rw [hs0] at hs1
  clear hb1 hown t0 t5 tA tB tC tD hbw hs0
  generalize hgD : w.heap.size + 1 + 1 + 1 + 1 + 1 + 1 + 1 + 1 + 1 = gD at *
  generalize hgC : w.heap.size + 1 + 1 + 1 + 1 + 1 + 1 + 1 + 1 = gC at *
  generalize hgB : w.heap.size + 1 + 1 + 1 + 1 + 1 + 1 + 1 = gB at *
  generalize hgA : w.heap.size + 1 + 1 + 1 + 1 + 1 + 1 = gA at *
  generalize hP : w.heap.size + 1 + 1 + 1 + 1 + 1 = P at *
  obtain ⟨BB, hBB⟩ : ∃ x, x = w1.heap.size := ⟨_, rfl⟩
  have hfar : Far w BB P gA gB gC gD gp := ⟨by omega, by omega, by omega, by omega, by omega, by omega, by omega, by omega, by omega, by omega, by omega, by omega, by omega, by omega, by omega, by omega⟩
  have hR : RelO32 w w1 BB P gA gB gC gD gp (#[.int .i64 32, .int .i64 64, .slice (some ⟨gA, 0, none⟩) 3 3, .slice (some ⟨gB, 0, none⟩) 3 3, .slice (some ⟨gC, 0, none⟩) 3 3, .slice (some ⟨gD, 0, none⟩) 3 3, .slice none 0 0, .slice none 0 0]) := ⟨hB1, s0, s5, row3_of sA, row3_of sB, row3_of sC, row3_of sD, hpr, by omega⟩
  clear hB1 s0 s5 sA sB sC sD hpr hBB hgp0 hgpl hs1 hgD hgC hgB hgA hP
  go_wp2_with fail

  go_loopw [5] (fun v5 wr => ∃ i : Nat, i ≤ 64 ∧ v5 = .int .i64 (i : Int) ∧ ∃ vK, RelO32 w wr BB P gA gB gC gD gp (#[.int .i64 32, .int .i64 64, .slice (some ⟨gA, 0, none⟩) 3 3, .slice (some ⟨gB, 0, none⟩) 3 3, .slice (some ⟨gC, 0, none⟩) 3 3, .slice (some ⟨gD, 0, none⟩) 3 3, vK, (.slice none 0 0)]) ∧ wr.ownsRow BB 39 1 vK i (uv (K32.take i))) (fun i _ => 64 - (intOf i).toNat)
  case atStart => exact ⟨0, by omega, rfl, _, hR, World.ownsRow_nil _ _ _ _⟩
  case round =>
    clear hR
    obtain ⟨i, hi, rfl, vK, hR, hown⟩ := hrel
    have c1 := row_at hR.box 1 (.int .i64 64) rfl
    by_cases hlt : i < 64
    · obtain ⟨pi, hpi⟩ : ∃ x, x = PT.getD i 0 := ⟨_, rfl⟩
      obtain ⟨xi, hxi⟩ : ∃ x, x = KS.getD i 0 := ⟨_, rfl⟩
      obtain ⟨ki, hki⟩ : ∃ x, x = K32.getD i 0 := ⟨_, rfl⟩
      have hroot : ∀ w, Calls Tryd.prog 27 #[.int .i64 (pi : Int), .int .i64 3] w fun e w' => e = .returned (.int .u64 (xi : Int)) ∧ Below w.heap.size w w' := fun w => by rw [hpi, hxi]; exact root3_at i (by omega) w
      have htop : ∀ w, Calls Tryd.prog 26 #[.agg (#[.int .i64 32, .int .i64 64, .slice (some ⟨gA, 0, none⟩) 3 3, .slice (some ⟨gB, 0, none⟩) 3 3, .slice (some ⟨gC, 0, none⟩) 3 3, .slice (some ⟨gD, 0, none⟩) 3 3, vK, (.slice none 0 0)]), .int .u64 (xi : Int)] w fun e w' => e = .returned (.int .u64 (ki : Int)) ∧ Below w.heap.size w w' := fun w => by
        rw [hki, K32_at i (by omega), ← hxi]; exact topH32 _ _ _ _ _ _ xi w (by rw [hxi]; exact KS_lt i)
      have hpc : wr.cell? ⟨gp, i, none⟩ = some (.int .i64 (pi : Int)) := by rw [hpi]; exact hR.pr i (by omega)
      have HE : Hid (uv (K32.take i) ++ [.int .u64 (ki : Int)] = uv (K32.take (i + 1))) := by
        show uv (K32.take i) ++ [.int .u64 (ki : Int)] = uv (K32.take (i + 1))
        rw [take_snoc' (by show i < K32.length; rw [show K32.length = 64 from by kernel_rfl]; omega), ← hki]; simp [uv]
      clear hpi hxi hki
      have hsz : BB ≤ wr.heap.size := hR.sz
      have hbox : ∀ w', Below BB wr w' → w'.heap[P]? = some (.cells (#[.int .i64 32, .int .i64 64, .slice (some ⟨gA, 0, none⟩) 3 3, .slice (some ⟨gB, 0, none⟩) 3 3, .slice (some ⟨gC, 0, none⟩) 3 3, .slice (some ⟨gD, 0, none⟩) 3 3, vK, (.slice none 0 0)]) 37 (0, 0)) := fun w' hb => (hR.on hfar hb).box
      have hpx : ∀ w', Below BB wr w' → w'.cell? ⟨gp, i, none⟩ = some (.int .i64 (pi : Int)) := fun w' hb => (hb.cell (p := ⟨gp, i, none⟩) hfar.pp).trans hpc
      have h37 : (Tryd.prog.info? 37).map (·.size) = some 8 := by kernel_rfl
      have hlt1 := hown.lt
      have hS0 : Below BB wr wr.drew := (Below.refl _ _).drew
      go_wp2_with fail
      refine wp_region_Z (fun w' => Below BB wr w') 12 (by kernel_rfl) ?_
      show wpZ _ _ _ _ _ _ 13 (Array.replicate 13 false) _ wr.drew
      refine takeZ (i := 0) (some 26) _ rfl rfl (by kernel_rfl) (fun _ _ _ h => h) (yields_run (v := .pointer (some ⟨P, 6, none⟩)) rfl fun w' _ => field37_6 (x := .tmp 3) rfl rfl) hS0 ?_
      simp only [Act.put, List.setIfInBounds_toArray, List.set_cons_succ, List.set_cons_zero]
      refine takeZ (i := 1) (some 27) _ rfl rfl (by kernel_rfl) (fun _ _ _ h => h) (yields_run (v := vK) rfl fun w' hb => load35 (x := .tmp 26) rfl rfl (row_at (hbox w' hb) 6 _ rfl)) hS0 ?_
      simp only [Act.put, List.setIfInBounds_toArray, List.set_cons_succ, List.set_cons_zero]
      refine takeZ (i := 2) (some 28) _ rfl rfl (by kernel_rfl) (fun _ _ _ h => h) (yields_load_row rfl 37 (.tmp 3) rfl P rfl 37 (#[.int .i64 32, .int .i64 64, .slice (some ⟨gA, 0, none⟩) 3 3, .slice (some ⟨gB, 0, none⟩) 3 3, .slice (some ⟨gC, 0, none⟩) 3 3, .slice (some ⟨gD, 0, none⟩) 3 3, vK, (.slice none 0 0)]) (0, 0) _ (fun w' hb => hbox w' hb) Tryd.underlying37 rfl h37) hS0 ?_
      simp only [Act.put, List.setIfInBounds_toArray, List.set_cons_succ, List.set_cons_zero]
      refine takeZ (i := 3) (some 29) _ rfl rfl (by kernel_rfl) (fun _ _ _ h => h) (yields_move rfl (.tmp 4) rfl) hS0 ?_
      simp only [Act.put, List.setIfInBounds_toArray, List.set_cons_succ, List.set_cons_zero]
      refine takeZ (i := 4) (some 30) _ rfl rfl (by kernel_rfl) (fun _ _ _ h => h) (yields_move rfl (.tmp 5) rfl) hS0 ?_
      simp only [Act.put, List.setIfInBounds_toArray, List.set_cons_succ, List.set_cons_zero]
      refine takeZ (i := 5) (some 31) _ rfl rfl (by kernel_rfl) (fun _ _ _ h => h) (yields_run (v := .pointer (some ⟨gp, i, none⟩)) rfl fun w' _ => index34 (x := .tmp 29) (y := .tmp 30) (i := i) (cp := cp) rfl rfl rfl (by omega)) hS0 ?_
      simp only [Act.put, List.setIfInBounds_toArray, List.set_cons_succ, List.set_cons_zero]
      refine takeZ (i := 6) (some 32) _ rfl rfl (by kernel_rfl) (fun _ _ _ h => h) (yields_run (v := .int .i64 (pi : Int)) rfl fun w' hb => load3 (x := .tmp 31) rfl rfl (hpx w' hb)) hS0 ?_
      simp only [Act.put, List.setIfInBounds_toArray, List.set_cons_succ, List.set_cons_zero]
      refine oneZ (i := 7) (by kernel_rfl) ?_
      refine call_at (some 33) rfl rfl rfl 27 #[.int .i64 (pi : Int), .int .i64 3] (R := fun v w' => v = .int .u64 (xi : Int) ∧ Below wr.drew.heap.size wr.drew w') (by kernel_rfl) ((hroot _).mono fun e w' h => ⟨_, h.1, rfl, h.2⟩) ?_
      rintro v1 wq ⟨rfl, hbq⟩
      have hc1 : Below wr.heap.size wr wq := (Below.refl _ _).drew.trans hbq
      refine ⟨fun _ => hc1.mono hsz, ?_⟩
      simp only [Act.put, List.setIfInBounds_toArray, List.set_cons_succ, List.set_cons_zero]
      refine oneZ (i := 8) (by kernel_rfl) ?_
      refine call_at (some 34) rfl rfl rfl 26 #[.agg (#[.int .i64 32, .int .i64 64, .slice (some ⟨gA, 0, none⟩) 3 3, .slice (some ⟨gB, 0, none⟩) 3 3, .slice (some ⟨gC, 0, none⟩) 3 3, .slice (some ⟨gD, 0, none⟩) 3 3, vK, (.slice none 0 0)]), .int .u64 (xi : Int)] (R := fun v w' => v = .int .u64 (ki : Int) ∧ Below wq.heap.size wq w') (by kernel_rfl) ((htop _).mono fun e w' h => ⟨_, h.1, rfl, h.2⟩) ?_
      rintro v2 wp ⟨rfl, hbp⟩
      have hc2 : Below wr.heap.size wr wp := hc1.trans (hbp.mono hc1.size)
      have hcB : BB ≤ wp.heap.size := Nat.le_trans hsz hc2.size
      refine ⟨fun _ => hc2.mono hsz, ?_⟩
      simp only [Act.put, List.setIfInBounds_toArray, List.set_cons_succ, List.set_cons_zero]
      have hownc := own_onV hown hc2
      refine oneZ (i := 9) (by kernel_rfl) ?_
      refine new_at (some 35) (.slice (some ⟨wp.heap.size, 0, none⟩) 1 1) (.cells #[.int .u64 (ki : Int)] 39) rfl rfl rfl (build35 (x := .tmp 34) rfl rfl) ?_
      refine ⟨fun _ => (hc2.mono hsz).alloc hcB _, ?_⟩
      simp only [Act.put, List.setIfInBounds_toArray, List.set_cons_succ, List.set_cons_zero]
      refine oneZ (i := 10) (by kernel_rfl) ?_
      refine wpOp_of_wp rfl rfl (wp_append_lies _ (.tmp 27) (.tmp 35) 35 rfl BB 39 i0 (.int .u64 0) 1 8 Tryd.underlying35 hi0 hz0 hz1 hz2 rfl (by decide) vK i _ rfl (hownc.alloc _) ⟨wp.heap.size, 0, none⟩ 1 1 [.int .u64 (ki : Int)] rfl rfl (news_one _ _ _) one_word (by omega) (by unfold maxLen; omega) (by omega) (by simp; omega) _ rfl ?_)
      intro ga ca wa howna hgrowa hata hlta
      have hca : Below BB wr wa := ((hc2.mono hsz).alloc hcB _).grown hgrowa (by simp; omega) (fun k hk => (hlt1 k hk).1)
      refine ⟨fun _ => hca, ?_⟩
      have e10 : ∀ (a : Act) (v : Value), a.put (some 36) v = a.put (some 36) v := fun _ _ => rfl
      show wpZ _ _ _ _ _ _ _ _ (Act.put _ (some 36) _) _
      simp only [Act.put, List.setIfInBounds_toArray, List.set_cons_succ, List.set_cons_zero]
      refine oneZ (i := 11) (by kernel_rfl) ?_
      refine run_at (some 37) (.pointer (some ⟨P, 6, none⟩)) rfl rfl rfl (field37_6 (x := .tmp 3) rfl rfl) ?_
      refine ⟨fun _ => hca, ?_⟩
      simp only [Act.put, List.setIfInBounds_toArray, List.set_cons_succ, List.set_cons_zero]
      have hcx := row_at (hbox wa hca) 6 vK rfl
      have hfx := free_ints (hbox wa hca) 6
      refine oneZ (i := 12) (by kernel_rfl) ?_
      refine store1_at (.slice (some ⟨ga, 0, none⟩) (i + 1) ca) rfl rfl rfl (store35 (x := .tmp 37) (y := .tmp 36) rfl rfl rfl hcx hfx) ?_
      refine ⟨fun h => absurd rfl h, doneZ (by kernel_rfl) ?_ _⟩
      rw [HE.out] at howna
      have hRn := (hR.on hfar hca).store hfar 6 (.slice (some ⟨ga, 0, none⟩) (i + 1) ca)
      have hon := own_set howna hfar.pb 6 (.slice (some ⟨ga, 0, none⟩) (i + 1) ca)
      
      clear hcx hfx hownc hgrowa hata hlta hc1 hc2 hbp hbq hcB hbox hpx hS0 e10
      go_wp2_with fail
      go_roundw
      case rel => first | exact ⟨i + 1, by omega, by go_num, _, hRn, hon⟩ | ((repeat apply Exists.intro); exact ⟨⟨i + 1, by omega, by go_num, _, hRn, hon⟩, rfl⟩)
      case measure => simp [intOf]; omega
    · obtain rfl : i = 64 := by omega

      obtain ⟨gK, cK, rfl, _, _⟩ := own_form hown (by omega)
      have hKw : Words wr gK 64 K32 := words_of hown (by show 64 ≤ K32.length; exact Nat.le_of_eq (by kernel_rfl))
      obtain ⟨hKl, hKu⟩ := hown.lt gK rfl
      obtain ⟨BC, hBC⟩ : ∃ x, x = wr.heap.size := ⟨_, rfl⟩
      have hgKB : gK < BC := by rw [hBC]; exact hKu
      have hgKP : gK ≠ P := by have := hfar.pb; omega
      have hgKW : gK ≠ w.heap.size := by have := hfar.pb; have := hfar.wp; omega
      have hle : BB ≤ BC := by rw [hBC]; exact hR.sz
      have hR := hR.base (Nat.le_of_eq hBC)
      have hfar := hfar.mono hle
      clear hown hKl hKu hBC hle
      go_wp2_with fail
      clear c1

      go_loopw [6] (fun v5 wr => ∃ i : Nat, i ≤ 8 ∧ v5 = .int .i64 (i : Int) ∧ ∃ vK, RelO32 w wr BC P gA gB gC gD gp (#[.int .i64 32, .int .i64 64, .slice (some ⟨gA, 0, none⟩) 3 3, .slice (some ⟨gB, 0, none⟩) 3 3, .slice (some ⟨gC, 0, none⟩) 3 3, .slice (some ⟨gD, 0, none⟩) 3 3, (.slice (some ⟨gK, 0, none⟩) 64 cK), vK]) ∧ Words wr gK 64 K32 ∧ wr.ownsRow BC 39 1 vK i (uv (H32.take i))) (fun i _ => 8 - (intOf i).toNat)
      case atStart => exact ⟨0, by omega, rfl, _, hR, hKw, World.ownsRow_nil _ _ _ _⟩
      case round =>
        clear hR hKw
        obtain ⟨i, hi, rfl, vK, hR, hKw, hown⟩ := hrel
        have c1 := row_at hR.box 1 (.int .i64 64) rfl
        by_cases hlt : i < 8
        · obtain ⟨pi, hpi⟩ : ∃ x, x = PT.getD i 0 := ⟨_, rfl⟩
          obtain ⟨xi, hxi⟩ : ∃ x, x = HS.getD i 0 := ⟨_, rfl⟩
          obtain ⟨ki, hki⟩ : ∃ x, x = H32.getD i 0 := ⟨_, rfl⟩
          have hroot : ∀ w, Calls Tryd.prog 27 #[.int .i64 (pi : Int), .int .i64 2] w fun e w' => e = .returned (.int .u64 (xi : Int)) ∧ Below w.heap.size w w' := fun w => by rw [hpi, hxi]; exact root2_at i (by omega) w
          have htop : ∀ w, Calls Tryd.prog 26 #[.agg (#[.int .i64 32, .int .i64 64, .slice (some ⟨gA, 0, none⟩) 3 3, .slice (some ⟨gB, 0, none⟩) 3 3, .slice (some ⟨gC, 0, none⟩) 3 3, .slice (some ⟨gD, 0, none⟩) 3 3, (.slice (some ⟨gK, 0, none⟩) 64 cK), vK]), .int .u64 (xi : Int)] w fun e w' => e = .returned (.int .u64 (ki : Int)) ∧ Below w.heap.size w w' := fun w => by
            rw [hki, H32_at i (by omega), ← hxi]; exact topH32 _ _ _ _ _ _ xi w (by rw [hxi]; exact HS_lt i)
          have hpc : wr.cell? ⟨gp, i, none⟩ = some (.int .i64 (pi : Int)) := by rw [hpi]; exact hR.pr i (by omega)
          have HE : Hid (uv (H32.take i) ++ [.int .u64 (ki : Int)] = uv (H32.take (i + 1))) := by
            show uv (H32.take i) ++ [.int .u64 (ki : Int)] = uv (H32.take (i + 1))
            rw [take_snoc' (by show i < H32.length; rw [show H32.length = 8 from by kernel_rfl]; omega), ← hki]; simp [uv]
          clear hpi hxi hki
          have hsz : BC ≤ wr.heap.size := hR.sz
          have hbox : ∀ w', Below BC wr w' → w'.heap[P]? = some (.cells (#[.int .i64 32, .int .i64 64, .slice (some ⟨gA, 0, none⟩) 3 3, .slice (some ⟨gB, 0, none⟩) 3 3, .slice (some ⟨gC, 0, none⟩) 3 3, .slice (some ⟨gD, 0, none⟩) 3 3, (.slice (some ⟨gK, 0, none⟩) 64 cK), vK]) 37 (0, 0)) := fun w' hb => (hR.on hfar hb).box
          have hpx : ∀ w', Below BC wr w' → w'.cell? ⟨gp, i, none⟩ = some (.int .i64 (pi : Int)) := fun w' hb => (hb.cell (p := ⟨gp, i, none⟩) hfar.pp).trans hpc
          have h37 : (Tryd.prog.info? 37).map (·.size) = some 8 := by kernel_rfl
          have hlt1 := hown.lt
          have hS0 : Below BC wr wr.drew := (Below.refl _ _).drew
          go_wp2_with fail
          refine wp_region_Z (fun w' => Below BC wr w') 12 (by kernel_rfl) ?_
          show wpZ _ _ _ _ _ _ 13 (Array.replicate 13 false) _ wr.drew
          refine takeZ (i := 0) (some 42) _ rfl rfl (by kernel_rfl) (fun _ _ _ h => h) (yields_run (v := .pointer (some ⟨P, 7, none⟩)) rfl fun w' _ => field37_7 (x := .tmp 3) rfl rfl) hS0 ?_
          simp only [Act.put, List.setIfInBounds_toArray, List.set_cons_succ, List.set_cons_zero]
          refine takeZ (i := 1) (some 43) _ rfl rfl (by kernel_rfl) (fun _ _ _ h => h) (yields_run (v := vK) rfl fun w' hb => load35 (x := .tmp 42) rfl rfl (row_at (hbox w' hb) 7 _ rfl)) hS0 ?_
          simp only [Act.put, List.setIfInBounds_toArray, List.set_cons_succ, List.set_cons_zero]
          refine takeZ (i := 2) (some 44) _ rfl rfl (by kernel_rfl) (fun _ _ _ h => h) (yields_load_row rfl 37 (.tmp 3) rfl P rfl 37 (#[.int .i64 32, .int .i64 64, .slice (some ⟨gA, 0, none⟩) 3 3, .slice (some ⟨gB, 0, none⟩) 3 3, .slice (some ⟨gC, 0, none⟩) 3 3, .slice (some ⟨gD, 0, none⟩) 3 3, (.slice (some ⟨gK, 0, none⟩) 64 cK), vK]) (0, 0) _ (fun w' hb => hbox w' hb) Tryd.underlying37 rfl h37) hS0 ?_
          simp only [Act.put, List.setIfInBounds_toArray, List.set_cons_succ, List.set_cons_zero]
          refine takeZ (i := 3) (some 45) _ rfl rfl (by kernel_rfl) (fun _ _ _ h => h) (yields_move rfl (.tmp 4) rfl) hS0 ?_
          simp only [Act.put, List.setIfInBounds_toArray, List.set_cons_succ, List.set_cons_zero]
          refine takeZ (i := 4) (some 46) _ rfl rfl (by kernel_rfl) (fun _ _ _ h => h) (yields_move rfl (.tmp 6) rfl) hS0 ?_
          simp only [Act.put, List.setIfInBounds_toArray, List.set_cons_succ, List.set_cons_zero]
          refine takeZ (i := 5) (some 47) _ rfl rfl (by kernel_rfl) (fun _ _ _ h => h) (yields_run (v := .pointer (some ⟨gp, i, none⟩)) rfl fun w' _ => index34 (x := .tmp 45) (y := .tmp 46) (i := i) (cp := cp) rfl rfl rfl (by omega)) hS0 ?_
          simp only [Act.put, List.setIfInBounds_toArray, List.set_cons_succ, List.set_cons_zero]
          refine takeZ (i := 6) (some 48) _ rfl rfl (by kernel_rfl) (fun _ _ _ h => h) (yields_run (v := .int .i64 (pi : Int)) rfl fun w' hb => load3 (x := .tmp 47) rfl rfl (hpx w' hb)) hS0 ?_
          simp only [Act.put, List.setIfInBounds_toArray, List.set_cons_succ, List.set_cons_zero]
          refine oneZ (i := 7) (by kernel_rfl) ?_
          refine call_at (some 49) rfl rfl rfl 27 #[.int .i64 (pi : Int), .int .i64 2] (R := fun v w' => v = .int .u64 (xi : Int) ∧ Below wr.drew.heap.size wr.drew w') (by kernel_rfl) ((hroot _).mono fun e w' h => ⟨_, h.1, rfl, h.2⟩) ?_
          rintro v1 wq ⟨rfl, hbq⟩
          have hc1 : Below wr.heap.size wr wq := (Below.refl _ _).drew.trans hbq
          refine ⟨fun _ => hc1.mono hsz, ?_⟩
          simp only [Act.put, List.setIfInBounds_toArray, List.set_cons_succ, List.set_cons_zero]
          refine oneZ (i := 8) (by kernel_rfl) ?_
          refine call_at (some 50) rfl rfl rfl 26 #[.agg (#[.int .i64 32, .int .i64 64, .slice (some ⟨gA, 0, none⟩) 3 3, .slice (some ⟨gB, 0, none⟩) 3 3, .slice (some ⟨gC, 0, none⟩) 3 3, .slice (some ⟨gD, 0, none⟩) 3 3, (.slice (some ⟨gK, 0, none⟩) 64 cK), vK]), .int .u64 (xi : Int)] (R := fun v w' => v = .int .u64 (ki : Int) ∧ Below wq.heap.size wq w') (by kernel_rfl) ((htop _).mono fun e w' h => ⟨_, h.1, rfl, h.2⟩) ?_
          rintro v2 wp ⟨rfl, hbp⟩
          have hc2 : Below wr.heap.size wr wp := hc1.trans (hbp.mono hc1.size)
          have hcB : BC ≤ wp.heap.size := Nat.le_trans hsz hc2.size
          refine ⟨fun _ => hc2.mono hsz, ?_⟩
          simp only [Act.put, List.setIfInBounds_toArray, List.set_cons_succ, List.set_cons_zero]
          have hownc := own_onV hown hc2
          refine oneZ (i := 9) (by kernel_rfl) ?_
          refine new_at (some 51) (.slice (some ⟨wp.heap.size, 0, none⟩) 1 1) (.cells #[.int .u64 (ki : Int)] 39) rfl rfl rfl (build35 (x := .tmp 50) rfl rfl) ?_
          refine ⟨fun _ => (hc2.mono hsz).alloc hcB _, ?_⟩
          simp only [Act.put, List.setIfInBounds_toArray, List.set_cons_succ, List.set_cons_zero]
          refine oneZ (i := 10) (by kernel_rfl) ?_
          refine wpOp_of_wp rfl rfl (wp_append_lies _ (.tmp 43) (.tmp 51) 35 rfl BC 39 i0 (.int .u64 0) 1 8 Tryd.underlying35 hi0 hz0 hz1 hz2 rfl (by decide) vK i _ rfl (hownc.alloc _) ⟨wp.heap.size, 0, none⟩ 1 1 [.int .u64 (ki : Int)] rfl rfl (news_one _ _ _) one_word (by omega) (by unfold maxLen; omega) (by omega) (by simp; omega) _ rfl ?_)
          intro ga ca wa howna hgrowa hata hlta
          have hca : Below BC wr wa := ((hc2.mono hsz).alloc hcB _).grown hgrowa (by simp; omega) (fun k hk => (hlt1 k hk).1)
          refine ⟨fun _ => hca, ?_⟩
          have e10 : ∀ (a : Act) (v : Value), a.put (some 52) v = a.put (some 52) v := fun _ _ => rfl
          show wpZ _ _ _ _ _ _ _ _ (Act.put _ (some 52) _) _
          simp only [Act.put, List.setIfInBounds_toArray, List.set_cons_succ, List.set_cons_zero]
          refine oneZ (i := 11) (by kernel_rfl) ?_
          refine run_at (some 53) (.pointer (some ⟨P, 7, none⟩)) rfl rfl rfl (field37_7 (x := .tmp 3) rfl rfl) ?_
          refine ⟨fun _ => hca, ?_⟩
          simp only [Act.put, List.setIfInBounds_toArray, List.set_cons_succ, List.set_cons_zero]
          have hcx := row_at (hbox wa hca) 7 vK rfl
          have hfx := free_ints (hbox wa hca) 7
          refine oneZ (i := 12) (by kernel_rfl) ?_
          refine store1_at (.slice (some ⟨ga, 0, none⟩) (i + 1) ca) rfl rfl rfl (store35 (x := .tmp 53) (y := .tmp 52) rfl rfl rfl hcx hfx) ?_
          refine ⟨fun h => absurd rfl h, doneZ (by kernel_rfl) ?_ _⟩
          rw [HE.out] at howna
          have hRn := (hR.on hfar hca).store hfar 7 (.slice (some ⟨ga, 0, none⟩) (i + 1) ca)
          have hon := own_set howna hfar.pb 7 (.slice (some ⟨ga, 0, none⟩) (i + 1) ca)
          have hKn := words_set (hKw.onB hgKB hca) hgKP 7 (.slice (some ⟨ga, 0, none⟩) (i + 1) ca)
          clear hcx hfx hownc hgrowa hata hlta hc1 hc2 hbp hbq hcB hbox hpx hS0 e10
          go_wp2_with fail
          go_roundw
          case rel => first | exact ⟨i + 1, by omega, by go_num, _, hRn, hKn, hon⟩ | ((repeat apply Exists.intro); exact ⟨⟨i + 1, by omega, by go_num, _, hRn, hKn, hon⟩, rfl⟩)
          case measure => simp [intOf]; omega
        · obtain rfl : i = 8 := by omega

          obtain ⟨gF, cF, rfl, _, _⟩ := own_form hown (by omega)
          have hFw : Words wr gF 8 H32 := words_of hown (by show 8 ≤ H32.length; exact Nat.le_of_eq (by kernel_rfl))
          have hFl := (hown.lt gF rfl).1
          have hwF : gF ≠ w.heap.size := by have := hfar.wp; have := hfar.pb; omega
          clear hown hFl c1
          have bx0 := row_at hR.box 0 _ rfl
          have bx1 := row_at hR.box 1 _ rfl
          have bx2 := row_at hR.box 2 _ rfl
          have bx3 := row_at hR.box 3 _ rfl
          have bx4 := row_at hR.box 4 _ rfl
          have bx5 := row_at hR.box 5 _ rfl
          have bx6 := row_at hR.box 6 _ rfl
          have bx7 := row_at hR.box 7 _ rfl
          have rx0 := row_at hR.res 0 _ rfl
          have rx1 := row_at hR.res 1 _ rfl
          have rx2 := row_at hR.res 2 _ rfl
          have rx3 := row_at hR.res 3 _ rfl
          have rx4 := row_at hR.res 4 _ rfl
          have rx5 := row_at hR.res 5 _ rfl
          have rx6 := row_at hR.res 6 _ rfl
          have rx7 := row_at hR.res 7 _ rfl
          have fx0 := free_ints hR.res 0
          have fx1 := free_ints hR.res 1
          have fx2 := free_ints hR.res 2
          have fx3 := free_ints hR.res 3
          have fx4 := free_ints hR.res 4
          have fx5 := free_ints hR.res 5
          have fx6 := free_ints hR.res 6
          have fx7 := free_ints hR.res 7
          go_wp2_with fail
          obtain ⟨Wf, hWf⟩ : ∃ x, x = ((((((((wr.setCell ⟨w.heap.size, 0, none⟩ (.int .i64 32)).setCell ⟨w.heap.size, 1, none⟩ (.int .i64 64)).setCell ⟨w.heap.size, 2, none⟩ (.slice (some ⟨gA, 0, none⟩) 3 3)).setCell ⟨w.heap.size, 3, none⟩ (.slice (some ⟨gB, 0, none⟩) 3 3)).setCell ⟨w.heap.size, 4, none⟩ (.slice (some ⟨gC, 0, none⟩) 3 3)).setCell ⟨w.heap.size, 5, none⟩ (.slice (some ⟨gD, 0, none⟩) 3 3)).setCell ⟨w.heap.size, 6, none⟩ (.slice (some ⟨gK, 0, none⟩) 64 cK)).setCell ⟨w.heap.size, 7, none⟩ (.slice (some ⟨gF, 0, none⟩) 8 cF)) := ⟨_, rfl⟩
          rw [← hWf]
          have z0 : Below w.heap.size w Wf := by rw [hWf]; exact (Below.setCell (Below.setCell (Below.setCell (Below.setCell (Below.setCell (Below.setCell (Below.setCell (Below.setCell hR.bl (p := ⟨w.heap.size, 0, none⟩) (Nat.le_refl _) (.int .i64 32)) (p := ⟨w.heap.size, 1, none⟩) (Nat.le_refl _) (.int .i64 64)) (p := ⟨w.heap.size, 2, none⟩) (Nat.le_refl _) (.slice (some ⟨gA, 0, none⟩) 3 3)) (p := ⟨w.heap.size, 3, none⟩) (Nat.le_refl _) (.slice (some ⟨gB, 0, none⟩) 3 3)) (p := ⟨w.heap.size, 4, none⟩) (Nat.le_refl _) (.slice (some ⟨gC, 0, none⟩) 3 3)) (p := ⟨w.heap.size, 5, none⟩) (Nat.le_refl _) (.slice (some ⟨gD, 0, none⟩) 3 3)) (p := ⟨w.heap.size, 6, none⟩) (Nat.le_refl _) (.slice (some ⟨gK, 0, none⟩) 64 cK)) (p := ⟨w.heap.size, 7, none⟩) (Nat.le_refl _) (.slice (some ⟨gF, 0, none⟩) 8 cF))
          have z1 : Row3 Wf gA 2 13 22 := by rw [hWf]; exact ((((((((hR.rA.set hfar.xa 0 (.int .i64 32)).set hfar.xa 1 (.int .i64 64)).set hfar.xa 2 (.slice (some ⟨gA, 0, none⟩) 3 3)).set hfar.xa 3 (.slice (some ⟨gB, 0, none⟩) 3 3)).set hfar.xa 4 (.slice (some ⟨gC, 0, none⟩) 3 3)).set hfar.xa 5 (.slice (some ⟨gD, 0, none⟩) 3 3)).set hfar.xa 6 (.slice (some ⟨gK, 0, none⟩) 64 cK)).set hfar.xa 7 (.slice (some ⟨gF, 0, none⟩) 8 cF))
          have z2 : Row3 Wf gB 6 11 25 := by rw [hWf]; exact ((((((((hR.rB.set hfar.xb 0 (.int .i64 32)).set hfar.xb 1 (.int .i64 64)).set hfar.xb 2 (.slice (some ⟨gA, 0, none⟩) 3 3)).set hfar.xb 3 (.slice (some ⟨gB, 0, none⟩) 3 3)).set hfar.xb 4 (.slice (some ⟨gC, 0, none⟩) 3 3)).set hfar.xb 5 (.slice (some ⟨gD, 0, none⟩) 3 3)).set hfar.xb 6 (.slice (some ⟨gK, 0, none⟩) 64 cK)).set hfar.xb 7 (.slice (some ⟨gF, 0, none⟩) 8 cF))
          have z3 : Row3 Wf gC 7 18 3 := by rw [hWf]; exact ((((((((hR.rC.set hfar.xc 0 (.int .i64 32)).set hfar.xc 1 (.int .i64 64)).set hfar.xc 2 (.slice (some ⟨gA, 0, none⟩) 3 3)).set hfar.xc 3 (.slice (some ⟨gB, 0, none⟩) 3 3)).set hfar.xc 4 (.slice (some ⟨gC, 0, none⟩) 3 3)).set hfar.xc 5 (.slice (some ⟨gD, 0, none⟩) 3 3)).set hfar.xc 6 (.slice (some ⟨gK, 0, none⟩) 64 cK)).set hfar.xc 7 (.slice (some ⟨gF, 0, none⟩) 8 cF))
          have z4 : Row3 Wf gD 17 19 10 := by rw [hWf]; exact ((((((((hR.rD.set hfar.xd 0 (.int .i64 32)).set hfar.xd 1 (.int .i64 64)).set hfar.xd 2 (.slice (some ⟨gA, 0, none⟩) 3 3)).set hfar.xd 3 (.slice (some ⟨gB, 0, none⟩) 3 3)).set hfar.xd 4 (.slice (some ⟨gC, 0, none⟩) 3 3)).set hfar.xd 5 (.slice (some ⟨gD, 0, none⟩) 3 3)).set hfar.xd 6 (.slice (some ⟨gK, 0, none⟩) 64 cK)).set hfar.xd 7 (.slice (some ⟨gF, 0, none⟩) 8 cF))
          have z5 : Words Wf gK 64 K32 := by rw [hWf]; exact (words_set (words_set (words_set (words_set (words_set (words_set (words_set (words_set hKw hgKW 0 (.int .i64 32)) hgKW 1 (.int .i64 64)) hgKW 2 (.slice (some ⟨gA, 0, none⟩) 3 3)) hgKW 3 (.slice (some ⟨gB, 0, none⟩) 3 3)) hgKW 4 (.slice (some ⟨gC, 0, none⟩) 3 3)) hgKW 5 (.slice (some ⟨gD, 0, none⟩) 3 3)) hgKW 6 (.slice (some ⟨gK, 0, none⟩) 64 cK)) hgKW 7 (.slice (some ⟨gF, 0, none⟩) 8 cF))
          have z6 : Words Wf gF 8 H32 := by rw [hWf]; exact (words_set (words_set (words_set (words_set (words_set (words_set (words_set (words_set hFw hwF 0 (.int .i64 32)) hwF 1 (.int .i64 64)) hwF 2 (.slice (some ⟨gA, 0, none⟩) 3 3)) hwF 3 (.slice (some ⟨gB, 0, none⟩) 3 3)) hwF 4 (.slice (some ⟨gC, 0, none⟩) 3 3)) hwF 5 (.slice (some ⟨gD, 0, none⟩) 3 3)) hwF 6 (.slice (some ⟨gK, 0, none⟩) 64 cK)) hwF 7 (.slice (some ⟨gF, 0, none⟩) 8 cF))
          have hfin : Wf.heap[w.heap.size]? = some (.cells (#[.int .i64 32, .int .i64 64, .slice (some ⟨gA, 0, none⟩) 3 3, .slice (some ⟨gB, 0, none⟩) 3 3, .slice (some ⟨gC, 0, none⟩) 3 3, .slice (some ⟨gD, 0, none⟩) 3 3, .slice (some ⟨gK, 0, none⟩) 64 cK, .slice (some ⟨gF, 0, none⟩) 8 cF]) 37 (0, 0)) := by
            rw [hWf]; exact (heap_setCell_same _ _ 7 _ _ (.slice (some ⟨gF, 0, none⟩) 8 cF) (heap_setCell_same _ _ 6 _ _ (.slice (some ⟨gK, 0, none⟩) 64 cK) (heap_setCell_same _ _ 5 _ _ (.slice (some ⟨gD, 0, none⟩) 3 3) (heap_setCell_same _ _ 4 _ _ (.slice (some ⟨gC, 0, none⟩) 3 3) (heap_setCell_same _ _ 3 _ _ (.slice (some ⟨gB, 0, none⟩) 3 3) (heap_setCell_same _ _ 2 _ _ (.slice (some ⟨gA, 0, none⟩) 3 3) (heap_setCell_same _ _ 1 _ _ (.int .i64 64) (heap_setCell_same _ _ 0 _ _ (.int .i64 32) hR.res))))))))
          have y0 := row_at hfin 0 _ rfl
          have y1 := row_at hfin 1 _ rfl
          have y2 := row_at hfin 2 _ rfl
          have y3 := row_at hfin 3 _ rfl
          have y4 := row_at hfin 4 _ rfl
          have y5 := row_at hfin 5 _ rfl
          have y6 := row_at hfin 6 _ rfl
          have y7 := row_at hfin 7 _ rfl
          clear hWf bx0 bx1 bx2 bx3 bx4 bx5 bx6 bx7 rx0 rx1 rx2 rx3 rx4 rx5 rx6 rx7 fx0 fx1 fx2 fx3 fx4 fx5 fx6 fx7
          (try simp only [Exit.inBlock, Exit.then])
          refine bodyPost_ret (by simp [results, Tryd.results17, go_sem, y0, y1, y2, y3, y4, y5, y6, y7]; try rfl) rfl ?_
          exact ⟨gA, gB, gC, gD, gK, cK, gF, cF, rfl, z0, z1, z2, z3, z4, z5, z6⟩
end Go.Proofs.YtomfnkbghlpkeaaDoor
