/-
  The walk of the law FieldSums.
-/
import Derived.Test.YtghmcaliahjdhaaL2
set_option linter.unusedVariables false
namespace Go.Proofs.Ytghmcaliahjdhaa
open Go.RowKit Go.Sort Go.BigFrame
set_option maxRecDepth 100000
set_option maxHeartbeats 2000000
theorem mod_lt32 (v : Nat) : v % pp < 256 ^ 32 := Nat.lt_trans (Nat.mod_lt _ pp_pos) (by decide)
theorem like16T (e : E5) (g S : Nat) (w : World) (he : e.wf) (h : w.heap[g]? = some (.cells (ints .i64 (digs 32 S)) 3 (0, 0))) (hS : e.val % pp = S) :
    Calls Try.prog 16 #[.agg (elc e), .slice (some ⟨g, 0, none⟩) 32 32] w fun r w' => r = .returned (.bool true) ∧ Below w.heap.size w w' := by
  have hl : S < 256 ^ 32 := by rw [← hS]; exact mod_lt32 _
  have := like16 e (some ⟨g, 0, none⟩) 32 32 (digs 32 S) w he (digs_len _ _) (by omega) (digs_dig _ _) (fun _ => ⟨g, 0, rfl, ints_row h⟩)
  rw [valD_digs_lt hl, hS, decide_eq_true rfl] at this
  exact this
theorem neg_mod {x : E5} (hx : x.wf) : (subE zeroE x).val % pp = (0 + pp - x.val % pp) % pp := by
  have h := subE_mod (a := zeroE) hx
  rw [show zeroE.val = 0 from rfl, Nat.zero_mod] at h
  obtain ⟨V, hV⟩ : ∃ V, V = (subE zeroE x).val := ⟨_, rfl⟩
  rw [← hV] at h ⊢
  have hp : pp = 57896044618658097711785492504343953926634992332820282019728792003956564819949 := rfl
  rw [hp] at h ⊢
  omega
theorem sub_mod_eq {x y : E5} (hy : y.wf) : (subE x y).val % pp = (x.val % pp + pp - y.val % pp) % pp := by
  have h := subE_mod (a := x) hy
  obtain ⟨V, hV⟩ : ∃ V, V = (subE x y).val := ⟨_, rfl⟩
  rw [← hV] at h ⊢
  have hp : pp = 57896044618658097711785492504343953926634992332820282019728792003956564819949 := rfl
  rw [hp] at h ⊢
  omega
theorem split_mod {V : Nat} (h : V < 256 ^ 31) : (splitE V).val % pp = V := by
  have h1 : V < pp := Nat.lt_trans h (by decide)
  have := pp_lt
  rw [splitE_val, Nat.mod_eq_of_lt (a := V) (by omega), Nat.mod_eq_of_lt h1]
theorem digs_inj {u v : Nat} (hu : u < 256 ^ 32) (hv : v < 256 ^ 32) : decide (digs 32 u = digs 32 v) = decide (u = v) := by
  rw [decide_eq_decide]
  constructor
  · intro h
    have := congrArg valD h
    rwa [valD_digs_lt hu, valD_digs_lt hv] at this
  · intro h; rw [h]
theorem iview_setRow {w : World} {a : Option Addr} {l : List Nat} {g : Nat} (h : IView w a l) (hg : ∀ b off, a = some ⟨b, off, none⟩ → b ≠ g) (cs : Array Value) : IView (w.setRow g cs) a l := fun hp => by
  obtain ⟨b, off, ha, hc⟩ := h hp
  exact ⟨b, off, ha, fun i hi => by rw [cell_setRow_other _ _ _ _ (hg b off ha)]; exact hc i hi⟩
theorem iview_lt {w : World} {a : Option Addr} {l : List Nat} (h : IView w a l) (hp : 0 < l.length) : ∀ b off, a = some ⟨b, off, none⟩ → b < w.heap.size := fun b off he => by
  obtain ⟨b', off', ha, hc⟩ := h hp
  rw [he] at ha
  cases ha
  exact block_lt_of_cell (hc 0 hp)
def Away (a : Option Addr) (g g' : Nat) : Prop := ∀ b off, a = some ⟨b, off, none⟩ → b ≠ g ∧ b ≠ g'
theorem fieldSums5_00 (a : Option Addr) (la ca : Nat) (za : List Nat) (b : Option Addr) (lb cb : Nat) (zb : List Nat) (m : Int) (w : World) (hza : za.length = la) (hca : la ≤ ca) (hma : ca ≤ 9223372036854775807) (hda : Dig za) (hva : View w a za) (hzb : zb.length = lb) (hcb : lb ≤ cb) (hmb : cb ≤ 9223372036854775807) (hdb : Dig zb) (hvb : View w b zb) (hq2 : (m.tmod 2 != 0) = false) (hq3 : (m.tmod 3 != 0) = false) :
    Calls Try.prog 5 #[.slice a la ca, .slice b lb cb, .int .i64 m] w fun e w' => e = .returned (.bool true) ∧ Below w.heap.size w w' := by
  have o1 := of19 a la ca za w hza hca hma hda hva
  have o2 := fun w1 (hB : Below w.heap.size w w1) => of19 b lb cb zb w1 hzb hcb hmb hdb (hvb.below hB)
  obtain ⟨X, hX⟩ : ∃ X, X = valD (za.take 31) := ⟨_, rfl⟩
  obtain ⟨Y, hY⟩ : ∃ Y, Y = valD (zb.take 31) := ⟨_, rfl⟩
  have hX31 : X < 256 ^ 31 := by rw [hX]; exact valD_take_lt hda 31
  have hY31 : Y < 256 ^ 31 := by rw [hY]; exact valD_take_lt hdb 31
  rw [← hX] at o1
  rw [← hY] at o2
  have cNeg := fun (x : E5) w1 (hx : x.wf) => sub20 zeroE x w1 zeroE_wf hx
  simp only [elc_zero, z5] at cNeg
  have c18 := fun w1 => int18p 0 w1 (by omega)
  simp only [Int.natCast_zero, Nat.zero_mod] at c18
  obtain ⟨x, hx⟩ : ∃ z, z = splitE X := ⟨_, rfl⟩
  obtain ⟨y, hy⟩ : ∃ z, z = splitE Y := ⟨_, rfl⟩
  have hxw : x.wf := by rw [hx]; exact splitE_wf _
  have hyw : y.wf := by rw [hy]; exact splitE_wf _
  have HX : Hid (X = x.val % pp) := by show _ = _; rw [hx, split_mod hX31]
  have HY : Hid (Y = y.val % pp) := by show _ = _; rw [hy, split_mod hY31]
  rw [← hx] at o1
  rw [← hy] at o2
  clear hX hY hza hzb hva hvb hda hdb hx hy hX31 hY31
  go_enter Try.func5, Try.ntmps5
  go_wp2_with fail
  refine o1.mono ?_
  rintro e p1 ⟨v1, rfl, hb1, hrow, _⟩
  obtain ⟨ad, cd, rfl, _, _, hdv0⟩ := hrow
  rw [digs_len]
  have hdl := iview_lt hdv0 (by rw [digs_len]; decide)
  have hal : (p1.alloc (.cells #[.int .u64 0, .int .u64 0, .int .u64 0, .int .u64 0, .int .u64 0] 26)).heap[p1.heap.size]? = some (.cells #[.int .u64 0, .int .u64 0, .int .u64 0, .int .u64 0, .int .u64 0] 26 (0, 0)) := heap_alloc_new _ _
  go_wp2_with (refine wpList_store_row rfl 26 (.tmp 7) (.tmp 19) rfl _ (elc x) rfl rfl 26 _ hal info26 rfl (elc_one _) ?_)
  have h70 : ((p1.alloc (.cells #[.int .u64 0, .int .u64 0, .int .u64 0, .int .u64 0, .int .u64 0] 26)).setRow p1.heap.size (elc x)).heap[p1.heap.size]? = some (.cells (elc x) 26 (0, 0)) := setRow_heap _ _ _ _ _ _ hal
  have hBn : Below p1.heap.size p1 ((p1.alloc (.cells #[.int .u64 0, .int .u64 0, .int .u64 0, .int .u64 0, .int .u64 0] 26)).setRow p1.heap.size (elc x)) := setRow_below (below1 _ _) (Nat.le_refl _) _
  have hdv1 := hdv0.below hBn
  have hB1 := hb1.trans (hBn.mono hb1.size)
  have hg7 : w.heap.size ≤ p1.heap.size := hb1.size
  generalize ((p1.alloc (.cells #[.int .u64 0, .int .u64 0, .int .u64 0, .int .u64 0, .int .u64 0] 26)).setRow p1.heap.size (elc x)) = u1 at h70 hdv1 hB1 ⊢
  generalize p1.heap.size = g7 at h70 hdl hg7 ⊢
  clear hal hBn hb1 hdv0
  refine (o2 _ hB1).mono ?_
  rintro e p2 ⟨v2, rfl, hb2, hrow, hfr⟩
  obtain ⟨ae, ce, rfl, _, _, hev0⟩ := hrow
  rw [digs_len]
  have hel := iview_lt hev0 (by rw [digs_len]; decide)
  have hdv2 := hdv1.below hb2
  have h71 := block_below hb2 (lt_of_heap h70) h70
  have hB2 := hB1.trans (hb2.mono hB1.size)
  have hdl2 : ∀ b off, ad = some ⟨b, off, none⟩ → b < p2.heap.size := iview_lt hdv2 (by rw [digs_len]; decide)
  have hbe7 : ∀ b off, ae = some ⟨b, off, none⟩ → b ≠ g7 := fun b off h => by have e1 := hfr b off _ _ (by rw [h]); have e2 := lt_of_heap h70; omega
  have hal : (p2.alloc (.cells #[.int .u64 0, .int .u64 0, .int .u64 0, .int .u64 0, .int .u64 0] 26)).heap[p2.heap.size]? = some (.cells #[.int .u64 0, .int .u64 0, .int .u64 0, .int .u64 0, .int .u64 0] 26 (0, 0)) := heap_alloc_new _ _
  have h9 : ((p2.alloc (.cells #[.int .u64 0, .int .u64 0, .int .u64 0, .int .u64 0, .int .u64 0] 26)).setRow p2.heap.size (elc y)).heap[p2.heap.size]? = some (.cells (elc y) 26 (0, 0)) := setRow_heap _ _ _ _ _ _ hal
  have hBn : Below p2.heap.size p2 ((p2.alloc (.cells #[.int .u64 0, .int .u64 0, .int .u64 0, .int .u64 0, .int .u64 0] 26)).setRow p2.heap.size (elc y)) := setRow_below (below1 _ _) (Nat.le_refl _) _
  have hdv := hdv2.below hBn
  have hev := hev0.below hBn
  have h7 := block_below hBn (lt_of_heap h71) h71
  have hB := hB2.trans (hBn.mono hB2.size)
  have hg79 : g7 < p2.heap.size := lt_of_heap h71
  have hbd : Hid (Away ad g7 p2.heap.size) := fun b off h => by have := hdl b off h; have := hdl2 b off h; omega
  have hbe : Hid (Away ae g7 p2.heap.size) := fun b off h => by have := hbe7 b off h; have := hel b off h; omega
  go_wp2_with (first
    | (refine wpList_store_row rfl 26 (.tmp 9) (.tmp 24) rfl _ (elc y) rfl rfl 26 _ hal info26 rfl (elc_one _) ?_)
    | (refine wpList_load_row rfl 26 (.tmp 7) rfl _ rfl 26 (elc x) (0, 0) _ h7 Try.underlying26 rfl info26 ?_)
    | (refine wpList_load_row rfl 26 (.tmp 9) rfl _ rfl 26 (elc y) (0, 0) _ h9 Try.underlying26 rfl info26 ?_))
  generalize ((p2.alloc (.cells #[.int .u64 0, .int .u64 0, .int .u64 0, .int .u64 0, .int .u64 0] 26)).setRow p2.heap.size (elc y)) = u2 at h7 h9 hdv hev hB ⊢
  generalize p2.heap.size = g9 at h9 hg79 hbd hbe ⊢
  clear hal hBn hb2 hdv2 hev0 h71 hB2 hdl hdl2 hel hbe7 hB1 hdv1 h70 hfr
  have h70 := h7
  have h90 := h9
  obtain ⟨u, hu⟩ : ∃ z, z = u2 := ⟨_, rfl⟩
  rw [← hu] at h7 h9 h70 h90 hB hdv hev ⊢
  clear hu
  have Hu : Hid (Below u.heap.size u u) := Below.refl _ _
  have hXl : X < 256 ^ 32 := by rw [HX.out]; exact mod_lt32 _
  have hYl : Y < 256 ^ 32 := by rw [HY.out]; exact mod_lt32 _
  have hYp : Y < pp := by rw [HY.out]; exact Nat.mod_lt _ pp_pos
  have vX := valD_digs_lt hXl
  have vY := valD_digs_lt hYl
  have cA := fun w1 (hB : Below u.heap.size u w1) => add23 ad 32 cd (digs 32 X) ae 32 ce (digs 32 Y) w1 (digs_len _ _) (digs_len _ _) (by omega) (by omega) (hdv.below hB) (hev.below hB) (digs_dig _ _) (digs_dig _ _)
  have cS := fun w1 (hB : Below u.heap.size u w1) => sub21 ad cd (digs 32 X) ae ce (digs 32 Y) w1 (digs_len _ _) (digs_len _ _) (hdv.below hB) (hev.below hB) (digs_dig _ _) (digs_dig _ _) (by rw [vY]; omega)
  have cM := fun w1 (hB : Below u.heap.size u w1) => mul25 ad 32 cd (digs 32 X) ae 32 ce (digs 32 Y) w1 (digs_len _ _) (digs_len _ _) (by omega) (by omega) (hdv.below hB) (hev.below hB) (digs_dig _ _) (digs_dig _ _)
  have cE := fun w1 (hB : Below u.heap.size u w1) => same26 ad 32 cd (digs 32 X) ae 32 ce (digs 32 Y) w1 (digs_len _ _) (digs_len _ _) (by omega) (by omega) (hdv.below hB) (hev.below hB) (digs_dig _ _) (digs_dig _ _)
  rw [vX, vY] at cA cS cM cE
  rw [digs_inj hXl hYl] at cE
  have cO := fun w1 => odd27 x w1 hxw
  have cQ := fun w1 => equal13 x y w1 hxw hyw
  rw [← HX.out] at cO cQ
  rw [← HY.out] at cQ
  obtain ⟨g8, o8, had, hc8⟩ := hdv (by rw [digs_len]; decide)
  have k80 := hc8 0 (by rw [digs_len]; decide)
  rw [digs_get 32 X 0 (by decide), Nat.pow_zero, Nat.div_one] at k80
  obtain ⟨ob, hob⟩ : ∃ b, b = decide (X % 2 = 1) := ⟨_, rfl⟩
  obtain ⟨sb, hsb⟩ : ∃ b, b = decide (X = Y) := ⟨_, rfl⟩
  obtain ⟨z, hz⟩ : ∃ z, z = X % 256 := ⟨_, rfl⟩
  have hzb : ((z : Int) % 2 == 1) = ob := by
    rw [hob, hz, Bool.eq_iff_iff]; simp; omega
  have hzl : z < 256 := by omega
  rw [← hob] at cO
  rw [← hsb] at cE cQ
  rw [← hz] at k80
  have HK : Hid (u.cell? ⟨g8, o8 + 0, none⟩ = some (.int .i64 (z : Int))) := k80
  have hg8 := block_lt_of_cell k80
  clear hob hsb hz vX vY hXl hYl hYp hc8 hdv hev k80 hbd hbe
  cases had
  refine (add22 x y _ hxw hyw).mono ?_
  rintro e p1 ⟨rfl, hb1⟩
  have hBu := Hu.out.trans (hb1.mono Hu.out.size)
  go_wp2_with fail
  refine (cA p1 hBu).mono ?_
  rintro e p2 ⟨q2, rfl, hR2⟩
  go_wp2_with fail
  refine (like16T (addE x y) q2 _ p2 (addE_wf hxw hyw) hR2.2.2 (by rw [addE_mod, Nat.add_mod, ← HX.out, ← HY.out])).mono ?_
  rintro e p3 ⟨rfl, hb3⟩
  have hBv := hBu.trans (hR2.1.mono hBu.size)
  have Hv : Hid (Below u.heap.size u p3) := hBv.trans (hb3.mono hBv.size)
  have h7n := block_below Hv.out (lt_of_heap h70) h70
  have h9n := block_below Hv.out (lt_of_heap h90) h90
  clear hb1 hBu hR2 hb3 hBv h7 h9 Hu
  have Hu := Hv
  have h7 := h7n
  have h9 := h9n
  clear Hv h7n h9n
  go_wp2_with (first
    | (refine wpList_load_row rfl 26 (.tmp 7) rfl _ rfl 26 (elc x) (0, 0) _ h7 Try.underlying26 rfl info26 ?_)
    | (refine wpList_load_row rfl 26 (.tmp 9) rfl _ rfl 26 (elc y) (0, 0) _ h9 Try.underlying26 rfl info26 ?_))
  refine (sub20 x y _ hxw hyw).mono ?_
  rintro e p1 ⟨rfl, hb1⟩
  have hBu := Hu.out.trans (hb1.mono Hu.out.size)
  go_wp2_with fail
  refine (cS p1 hBu).mono ?_
  rintro e p2 ⟨q2, rfl, hR2⟩
  go_wp2_with fail
  refine (like16T (subE x y) q2 _ p2 (subE_wf hxw hyw) hR2.2.2 (by rw [sub_mod_eq hyw, ← HX.out, ← HY.out])).mono ?_
  rintro e p3 ⟨rfl, hb3⟩
  have hBv := hBu.trans (hR2.1.mono hBu.size)
  have Hv : Hid (Below u.heap.size u p3) := hBv.trans (hb3.mono hBv.size)
  have h7n := block_below Hv.out (lt_of_heap h70) h70
  have h9n := block_below Hv.out (lt_of_heap h90) h90
  clear hb1 hBu hR2 hb3 hBv h7 h9 Hu
  have Hu := Hv
  have h7 := h7n
  have h9 := h9n
  clear Hv h7n h9n
  go_wp2_with (first
    | (refine wpList_load_row rfl 26 (.tmp 7) rfl _ rfl 26 (elc x) (0, 0) _ h7 Try.underlying26 rfl info26 ?_)
    | (refine wpList_load_row rfl 26 (.tmp 9) rfl _ rfl 26 (elc y) (0, 0) _ h9 Try.underlying26 rfl info26 ?_))
  refine (mul24 x y _ hxw hyw).mono ?_
  rintro e p1 ⟨rfl, hb1⟩
  have hBu := Hu.out.trans (hb1.mono Hu.out.size)
  go_wp2_with fail
  refine (cM p1 hBu).mono ?_
  rintro e p2 ⟨q2, rfl, hR2⟩
  go_wp2_with fail
  refine (like16T (mulE x y) q2 _ p2 (mulE_wf hxw hyw) hR2.2.2 (by rw [mulE_mod, Nat.mul_mod, ← HX.out, ← HY.out])).mono ?_
  rintro e p3 ⟨rfl, hb3⟩
  have hBv := hBu.trans (hR2.1.mono hBu.size)
  have Hv : Hid (Below u.heap.size u p3) := hBv.trans (hb3.mono hBv.size)
  have h7n := block_below Hv.out (lt_of_heap h70) h70
  have h9n := block_below Hv.out (lt_of_heap h90) h90
  clear hb1 hBu hR2 hb3 hBv h7 h9 Hu
  have Hu := Hv
  have h7 := h7n
  have h9 := h9n
  clear Hv h7n h9n
  have kz := (Hu.out.cell (p := ⟨g8, o8 + 0, none⟩) hg8).trans HK.out
  simp only [Nat.add_zero] at kz
  clear cA cS cM
  go_wp2_with fail
  refine (cE _ Hu.out).mono ?_
  rintro e p4 ⟨rfl, hb4⟩
  have Hv : Hid (Below u.heap.size u p4) := Hu.out.trans (hb4.mono Hu.out.size)
  clear Hu h7 h9
  have h7 := block_below Hv.out (lt_of_heap h70) h70
  obtain ⟨k70, k71, k72, k73, k74⟩ := cells5 h7
  clear hb4 kz cE h7
  go_wp2_with fail
  refine (cO _).mono ?_
  rintro e p5 ⟨rfl, hb5⟩
  have Hu : Hid (Below u.heap.size u p5) := Hv.out.trans (hb5.mono Hv.out.size)
  clear hb5 k70 k71 k72 k73 k74 cO Hv
  have h7 := block_below Hu.out (lt_of_heap h70) h70
  have h9 := block_below Hu.out (lt_of_heap h90) h90
  obtain ⟨k70, k71, k72, k73, k74⟩ := cells5 h7
  obtain ⟨k90, k91, k92, k93, k94⟩ := cells5 h9
  go_wp2_with fail
  refine (cQ _).mono ?_
  rintro e p6 ⟨rfl, hb6⟩
  have Hv : Hid (Below u.heap.size u p6) := Hu.out.trans (hb6.mono Hu.out.size)
  clear hb6 k70 k71 k72 k73 k74 k90 k91 k92 k93 k94 cQ h7 h9 h70 h90 Hu
  go_wp2_with fail
  refine (lives14 _).mono ?_
  rintro e p7 ⟨rfl, hb7⟩
  have Hf : Hid (Below w.heap.size w p7) := by
    have h1 := hB.trans (Hv.out.mono hB.size)
    exact h1.trans (hb7.mono h1.size)
  clear hb7 Hv hB
  go_wp2
  go_ret
  exact ⟨rfl, Hf.out⟩
theorem fieldSums5_10 (a : Option Addr) (la ca : Nat) (za : List Nat) (b : Option Addr) (lb cb : Nat) (zb : List Nat) (m : Int) (w : World) (hza : za.length = la) (hca : la ≤ ca) (hma : ca ≤ 9223372036854775807) (hda : Dig za) (hva : View w a za) (hzb : zb.length = lb) (hcb : lb ≤ cb) (hmb : cb ≤ 9223372036854775807) (hdb : Dig zb) (hvb : View w b zb) (hq2 : (m.tmod 2 != 0) = true) (hq3 : (m.tmod 3 != 0) = false) :
    Calls Try.prog 5 #[.slice a la ca, .slice b lb cb, .int .i64 m] w fun e w' => e = .returned (.bool true) ∧ Below w.heap.size w w' := by
  have o1 := of19 a la ca za w hza hca hma hda hva
  have o2 := fun w1 (hB : Below w.heap.size w w1) => of19 b lb cb zb w1 hzb hcb hmb hdb (hvb.below hB)
  obtain ⟨X, hX⟩ : ∃ X, X = valD (za.take 31) := ⟨_, rfl⟩
  obtain ⟨Y, hY⟩ : ∃ Y, Y = valD (zb.take 31) := ⟨_, rfl⟩
  have hX31 : X < 256 ^ 31 := by rw [hX]; exact valD_take_lt hda 31
  have hY31 : Y < 256 ^ 31 := by rw [hY]; exact valD_take_lt hdb 31
  rw [← hX] at o1
  rw [← hY] at o2
  have cNeg := fun (x : E5) w1 (hx : x.wf) => sub20 zeroE x w1 zeroE_wf hx
  simp only [elc_zero, z5] at cNeg
  have c18 := fun w1 => int18p 0 w1 (by omega)
  simp only [Int.natCast_zero, Nat.zero_mod] at c18
  obtain ⟨x, hx⟩ : ∃ z, z = splitE X := ⟨_, rfl⟩
  obtain ⟨y, hy⟩ : ∃ z, z = splitE Y := ⟨_, rfl⟩
  have hxw : x.wf := by rw [hx]; exact splitE_wf _
  have hyw : y.wf := by rw [hy]; exact splitE_wf _
  have HX : Hid (X = x.val % pp) := by show _ = _; rw [hx, split_mod hX31]
  have HY : Hid (Y = y.val % pp) := by show _ = _; rw [hy, split_mod hY31]
  rw [← hx] at o1
  rw [← hy] at o2
  clear hX hY hza hzb hva hvb hda hdb hx hy hX31 hY31
  go_enter Try.func5, Try.ntmps5
  go_wp2_with fail
  refine o1.mono ?_
  rintro e p1 ⟨v1, rfl, hb1, hrow, _⟩
  obtain ⟨ad, cd, rfl, _, _, hdv0⟩ := hrow
  rw [digs_len]
  have hdl := iview_lt hdv0 (by rw [digs_len]; decide)
  have hal : (p1.alloc (.cells #[.int .u64 0, .int .u64 0, .int .u64 0, .int .u64 0, .int .u64 0] 26)).heap[p1.heap.size]? = some (.cells #[.int .u64 0, .int .u64 0, .int .u64 0, .int .u64 0, .int .u64 0] 26 (0, 0)) := heap_alloc_new _ _
  go_wp2_with (refine wpList_store_row rfl 26 (.tmp 7) (.tmp 19) rfl _ (elc x) rfl rfl 26 _ hal info26 rfl (elc_one _) ?_)
  have h70 : ((p1.alloc (.cells #[.int .u64 0, .int .u64 0, .int .u64 0, .int .u64 0, .int .u64 0] 26)).setRow p1.heap.size (elc x)).heap[p1.heap.size]? = some (.cells (elc x) 26 (0, 0)) := setRow_heap _ _ _ _ _ _ hal
  have hBn : Below p1.heap.size p1 ((p1.alloc (.cells #[.int .u64 0, .int .u64 0, .int .u64 0, .int .u64 0, .int .u64 0] 26)).setRow p1.heap.size (elc x)) := setRow_below (below1 _ _) (Nat.le_refl _) _
  have hdv1 := hdv0.below hBn
  have hB1 := hb1.trans (hBn.mono hb1.size)
  have hg7 : w.heap.size ≤ p1.heap.size := hb1.size
  generalize ((p1.alloc (.cells #[.int .u64 0, .int .u64 0, .int .u64 0, .int .u64 0, .int .u64 0] 26)).setRow p1.heap.size (elc x)) = u1 at h70 hdv1 hB1 ⊢
  generalize p1.heap.size = g7 at h70 hdl hg7 ⊢
  clear hal hBn hb1 hdv0
  refine (o2 _ hB1).mono ?_
  rintro e p2 ⟨v2, rfl, hb2, hrow, hfr⟩
  obtain ⟨ae, ce, rfl, _, _, hev0⟩ := hrow
  rw [digs_len]
  have hel := iview_lt hev0 (by rw [digs_len]; decide)
  have hdv2 := hdv1.below hb2
  have h71 := block_below hb2 (lt_of_heap h70) h70
  have hB2 := hB1.trans (hb2.mono hB1.size)
  have hdl2 : ∀ b off, ad = some ⟨b, off, none⟩ → b < p2.heap.size := iview_lt hdv2 (by rw [digs_len]; decide)
  have hbe7 : ∀ b off, ae = some ⟨b, off, none⟩ → b ≠ g7 := fun b off h => by have e1 := hfr b off _ _ (by rw [h]); have e2 := lt_of_heap h70; omega
  have hal : (p2.alloc (.cells #[.int .u64 0, .int .u64 0, .int .u64 0, .int .u64 0, .int .u64 0] 26)).heap[p2.heap.size]? = some (.cells #[.int .u64 0, .int .u64 0, .int .u64 0, .int .u64 0, .int .u64 0] 26 (0, 0)) := heap_alloc_new _ _
  have h9 : ((p2.alloc (.cells #[.int .u64 0, .int .u64 0, .int .u64 0, .int .u64 0, .int .u64 0] 26)).setRow p2.heap.size (elc y)).heap[p2.heap.size]? = some (.cells (elc y) 26 (0, 0)) := setRow_heap _ _ _ _ _ _ hal
  have hBn : Below p2.heap.size p2 ((p2.alloc (.cells #[.int .u64 0, .int .u64 0, .int .u64 0, .int .u64 0, .int .u64 0] 26)).setRow p2.heap.size (elc y)) := setRow_below (below1 _ _) (Nat.le_refl _) _
  have hdv := hdv2.below hBn
  have hev := hev0.below hBn
  have h7 := block_below hBn (lt_of_heap h71) h71
  have hB := hB2.trans (hBn.mono hB2.size)
  have hg79 : g7 < p2.heap.size := lt_of_heap h71
  have hbd : Hid (Away ad g7 p2.heap.size) := fun b off h => by have := hdl b off h; have := hdl2 b off h; omega
  have hbe : Hid (Away ae g7 p2.heap.size) := fun b off h => by have := hbe7 b off h; have := hel b off h; omega
  go_wp2_with (first
    | (refine wpList_store_row rfl 26 (.tmp 9) (.tmp 24) rfl _ (elc y) rfl rfl 26 _ hal info26 rfl (elc_one _) ?_)
    | (refine wpList_load_row rfl 26 (.tmp 7) rfl _ rfl 26 (elc x) (0, 0) _ h7 Try.underlying26 rfl info26 ?_)
    | (refine wpList_load_row rfl 26 (.tmp 9) rfl _ rfl 26 (elc y) (0, 0) _ h9 Try.underlying26 rfl info26 ?_))
  generalize ((p2.alloc (.cells #[.int .u64 0, .int .u64 0, .int .u64 0, .int .u64 0, .int .u64 0] 26)).setRow p2.heap.size (elc y)) = u2 at h7 h9 hdv hev hB ⊢
  generalize p2.heap.size = g9 at h9 hg79 hbd hbe ⊢
  clear hal hBn hb2 hdv2 hev0 h71 hB2 hdl hdl2 hel hbe7 hB1 hdv1 h70 hfr
  refine (cNeg x _ hxw).mono ?_
  rintro e n1 ⟨rfl, hn1⟩
  have hB1 := hB.trans (hn1.mono hB.size)
  have h71 := block_below hn1 (lt_of_heap h7) h7
  have h91 := block_below hn1 (lt_of_heap h9) h9
  have hdv1 := hdv.below hn1
  have hev1 := hev.below hn1
  clear hn1 h7 h9 hdv hev hB
  obtain ⟨qx, hq⟩ : ∃ z, z = subE zeroE x := ⟨_, rfl⟩
  have hqxw : qx.wf := by rw [hq]; exact subE_wf zeroE_wf hxw
  have HQx : Hid ((0 + pp - X) % pp = qx.val % pp) := by show _ = _; rw [hq, neg_mod hxw, ← HX.out]
  have hVp : X < pp := by rw [HX.out]; exact Nat.mod_lt _ pp_pos
  rw [← hq]
  clear hq hxw HX
  have h72 : (n1.setRow g7 (elc qx)).heap[g7]? = some (.cells (elc qx) 26 (0, 0)) := setRow_heap _ _ _ _ _ _ h71
  have h92 : (n1.setRow g7 (elc qx)).heap[g9]? = some (.cells (elc y) 26 (0, 0)) := (setRow_other _ _ _ _ (by omega)).trans h91
  have hB2 : Below w.heap.size w (n1.setRow g7 (elc qx)) := setRow_below hB1 (by omega) _
  have hdv2 : IView (n1.setRow g7 (elc qx)) ad (digs 32 X) := iview_setRow hdv1 (fun b off h => (hbd.out b off h).1) _
  have hev2 : IView (n1.setRow g7 (elc qx)) ae (digs 32 Y) := iview_setRow hev1 (fun b off h => (hbe.out b off h).1) _
  go_wp2_with (refine wpList_store_row rfl 26 (.tmp 7) (.tmp 31) rfl _ (elc qx) rfl rfl 26 _ h71 info26 rfl (elc_one _) ?_)
  generalize (n1.setRow g7 (elc qx)) = n2 at h72 h92 hB2 hdv2 hev2 ⊢
  clear hB1 h71 h91 hdv1 hev1
  refine (c18 _).mono ?_
  rintro e n3 ⟨gz, rfl, hRz⟩
  have hB3 := hB2.trans (hRz.1.mono hB2.size)
  have h73 := block_below hRz.1 (lt_of_heap h72) h72
  have h93 := block_below hRz.1 (lt_of_heap h92) h92
  have hdv3 := hdv2.below hRz.1
  have hev3 := hev2.below hRz.1
  clear h72 h92 hB2 hdv2 hev2
  have vv : valD (digs 32 X) = X := valD_digs_lt (Nat.lt_trans hVp (by decide))
  have v0 : valD (digs 32 0) = 0 := by decide
  have c21 := sub21 (some ⟨gz, 0, none⟩) 32 (digs 32 0) ad cd (digs 32 X) n3 (digs_len _ _) (digs_len _ _) (fun _ => ⟨gz, 0, rfl, ints_row hRz.2.2⟩) hdv3 (digs_dig _ _) (digs_dig _ _) (by rw [vv]; omega)
  rw [vv, v0] at c21
  clear vv v0 hRz hVp
  go_wp2_with fail
  refine c21.mono ?_
  rintro e n4x ⟨gdx, rfl, hRd⟩
  have hB := hB3.trans (hRd.1.mono hB3.size)
  have h7 := block_below hRd.1 (lt_of_heap h73) h73
  have h9 := block_below hRd.1 (lt_of_heap h93) h93
  have hevm := hev3.below hRd.1
  have hdvm : IView n4x (some ⟨gdx, 0, none⟩) (digs 32 ((0 + pp - X) % pp)) := fun _ => ⟨gdx, 0, rfl, ints_row hRd.2.2⟩
  have hnx : Hid (Away (some ⟨gdx, 0, none⟩) g7 g9) := by
    intro b off h
    cases h
    have e1 := hRd.2.1
    have e2 := lt_of_heap h73
    have e3 := lt_of_heap h93
    omega
  clear hRd c21 h73 h93 hdv3 hev3 hB3
  generalize (0 + pp - X) % pp = Vx at HQx hdvm
  have hdvk := hdvm
  have hevk := hevm
  clear hdvm hevm
  have h70 := h7
  have h90 := h9
  obtain ⟨u, hu⟩ : ∃ z, z = n4x := ⟨_, rfl⟩
  rw [← hu] at h7 h9 h70 h90 hB hdvk hevk ⊢
  clear hu
  have Hu : Hid (Below u.heap.size u u) := Below.refl _ _
  have hXl : Vx < 256 ^ 32 := by rw [HQx.out]; exact mod_lt32 _
  have hYl : Y < 256 ^ 32 := by rw [HY.out]; exact mod_lt32 _
  have hYp : Y < pp := by rw [HY.out]; exact Nat.mod_lt _ pp_pos
  have vX := valD_digs_lt hXl
  have vY := valD_digs_lt hYl
  have cA := fun w1 (hB : Below u.heap.size u w1) => add23 (some ⟨gdx, 0, none⟩) 32 32 (digs 32 Vx) ae 32 ce (digs 32 Y) w1 (digs_len _ _) (digs_len _ _) (by omega) (by omega) (hdvk.below hB) (hevk.below hB) (digs_dig _ _) (digs_dig _ _)
  have cS := fun w1 (hB : Below u.heap.size u w1) => sub21 (some ⟨gdx, 0, none⟩) 32 (digs 32 Vx) ae ce (digs 32 Y) w1 (digs_len _ _) (digs_len _ _) (hdvk.below hB) (hevk.below hB) (digs_dig _ _) (digs_dig _ _) (by rw [vY]; omega)
  have cM := fun w1 (hB : Below u.heap.size u w1) => mul25 (some ⟨gdx, 0, none⟩) 32 32 (digs 32 Vx) ae 32 ce (digs 32 Y) w1 (digs_len _ _) (digs_len _ _) (by omega) (by omega) (hdvk.below hB) (hevk.below hB) (digs_dig _ _) (digs_dig _ _)
  have cE := fun w1 (hB : Below u.heap.size u w1) => same26 (some ⟨gdx, 0, none⟩) 32 32 (digs 32 Vx) ae 32 ce (digs 32 Y) w1 (digs_len _ _) (digs_len _ _) (by omega) (by omega) (hdvk.below hB) (hevk.below hB) (digs_dig _ _) (digs_dig _ _)
  rw [vX, vY] at cA cS cM cE
  rw [digs_inj hXl hYl] at cE
  have cO := fun w1 => odd27 qx w1 hqxw
  have cQ := fun w1 => equal13 qx y w1 hqxw hyw
  rw [← HQx.out] at cO cQ
  rw [← HY.out] at cQ
  obtain ⟨g8, o8, had, hc8⟩ := hdvk (by rw [digs_len]; decide)
  have k80 := hc8 0 (by rw [digs_len]; decide)
  rw [digs_get 32 Vx 0 (by decide), Nat.pow_zero, Nat.div_one] at k80
  obtain ⟨ob, hob⟩ : ∃ b, b = decide (Vx % 2 = 1) := ⟨_, rfl⟩
  obtain ⟨sb, hsb⟩ : ∃ b, b = decide (Vx = Y) := ⟨_, rfl⟩
  obtain ⟨z, hz⟩ : ∃ z, z = Vx % 256 := ⟨_, rfl⟩
  have hzb : ((z : Int) % 2 == 1) = ob := by
    rw [hob, hz, Bool.eq_iff_iff]; simp; omega
  have hzl : z < 256 := by omega
  rw [← hob] at cO
  rw [← hsb] at cE cQ
  rw [← hz] at k80
  have HK : Hid (u.cell? ⟨g8, o8 + 0, none⟩ = some (.int .i64 (z : Int))) := k80
  have hg8 := block_lt_of_cell k80
  clear hob hsb hz vX vY hXl hYl hYp hc8 hdvk hevk k80 hnx hbe
  cases had
  go_wp2_with (first
    | (refine wpList_load_row rfl 26 (.tmp 7) rfl _ rfl 26 (elc qx) (0, 0) _ h7 Try.underlying26 rfl info26 ?_)
    | (refine wpList_load_row rfl 26 (.tmp 9) rfl _ rfl 26 (elc y) (0, 0) _ h9 Try.underlying26 rfl info26 ?_))
  refine (add22 qx y _ hqxw hyw).mono ?_
  rintro e p1 ⟨rfl, hb1⟩
  have hBu := Hu.out.trans (hb1.mono Hu.out.size)
  go_wp2_with fail
  refine (cA p1 hBu).mono ?_
  rintro e p2 ⟨q2, rfl, hR2⟩
  go_wp2_with fail
  refine (like16T (addE qx y) q2 _ p2 (addE_wf hqxw hyw) hR2.2.2 (by rw [addE_mod, Nat.add_mod, ← HQx.out, ← HY.out])).mono ?_
  rintro e p3 ⟨rfl, hb3⟩
  have hBv := hBu.trans (hR2.1.mono hBu.size)
  have Hv : Hid (Below u.heap.size u p3) := hBv.trans (hb3.mono hBv.size)
  have h7n := block_below Hv.out (lt_of_heap h70) h70
  have h9n := block_below Hv.out (lt_of_heap h90) h90
  clear hb1 hBu hR2 hb3 hBv h7 h9 Hu
  have Hu := Hv
  have h7 := h7n
  have h9 := h9n
  clear Hv h7n h9n
  go_wp2_with (first
    | (refine wpList_load_row rfl 26 (.tmp 7) rfl _ rfl 26 (elc qx) (0, 0) _ h7 Try.underlying26 rfl info26 ?_)
    | (refine wpList_load_row rfl 26 (.tmp 9) rfl _ rfl 26 (elc y) (0, 0) _ h9 Try.underlying26 rfl info26 ?_))
  refine (sub20 qx y _ hqxw hyw).mono ?_
  rintro e p1 ⟨rfl, hb1⟩
  have hBu := Hu.out.trans (hb1.mono Hu.out.size)
  go_wp2_with fail
  refine (cS p1 hBu).mono ?_
  rintro e p2 ⟨q2, rfl, hR2⟩
  go_wp2_with fail
  refine (like16T (subE qx y) q2 _ p2 (subE_wf hqxw hyw) hR2.2.2 (by rw [sub_mod_eq hyw, ← HQx.out, ← HY.out])).mono ?_
  rintro e p3 ⟨rfl, hb3⟩
  have hBv := hBu.trans (hR2.1.mono hBu.size)
  have Hv : Hid (Below u.heap.size u p3) := hBv.trans (hb3.mono hBv.size)
  have h7n := block_below Hv.out (lt_of_heap h70) h70
  have h9n := block_below Hv.out (lt_of_heap h90) h90
  clear hb1 hBu hR2 hb3 hBv h7 h9 Hu
  have Hu := Hv
  have h7 := h7n
  have h9 := h9n
  clear Hv h7n h9n
  go_wp2_with (first
    | (refine wpList_load_row rfl 26 (.tmp 7) rfl _ rfl 26 (elc qx) (0, 0) _ h7 Try.underlying26 rfl info26 ?_)
    | (refine wpList_load_row rfl 26 (.tmp 9) rfl _ rfl 26 (elc y) (0, 0) _ h9 Try.underlying26 rfl info26 ?_))
  refine (mul24 qx y _ hqxw hyw).mono ?_
  rintro e p1 ⟨rfl, hb1⟩
  have hBu := Hu.out.trans (hb1.mono Hu.out.size)
  go_wp2_with fail
  refine (cM p1 hBu).mono ?_
  rintro e p2 ⟨q2, rfl, hR2⟩
  go_wp2_with fail
  refine (like16T (mulE qx y) q2 _ p2 (mulE_wf hqxw hyw) hR2.2.2 (by rw [mulE_mod, Nat.mul_mod, ← HQx.out, ← HY.out])).mono ?_
  rintro e p3 ⟨rfl, hb3⟩
  have hBv := hBu.trans (hR2.1.mono hBu.size)
  have Hv : Hid (Below u.heap.size u p3) := hBv.trans (hb3.mono hBv.size)
  have h7n := block_below Hv.out (lt_of_heap h70) h70
  have h9n := block_below Hv.out (lt_of_heap h90) h90
  clear hb1 hBu hR2 hb3 hBv h7 h9 Hu
  have Hu := Hv
  have h7 := h7n
  have h9 := h9n
  clear Hv h7n h9n
  have kz := (Hu.out.cell (p := ⟨gdx, 0 + 0, none⟩) hg8).trans HK.out
  simp only [Nat.add_zero] at kz
  clear cA cS cM
  go_wp2_with fail
  refine (cE _ Hu.out).mono ?_
  rintro e p4 ⟨rfl, hb4⟩
  have Hv : Hid (Below u.heap.size u p4) := Hu.out.trans (hb4.mono Hu.out.size)
  clear Hu h7 h9
  have h7 := block_below Hv.out (lt_of_heap h70) h70
  obtain ⟨k70, k71, k72, k73, k74⟩ := cells5 h7
  clear hb4 kz cE h7
  go_wp2_with fail
  refine (cO _).mono ?_
  rintro e p5 ⟨rfl, hb5⟩
  have Hu : Hid (Below u.heap.size u p5) := Hv.out.trans (hb5.mono Hv.out.size)
  clear hb5 k70 k71 k72 k73 k74 cO Hv
  have h7 := block_below Hu.out (lt_of_heap h70) h70
  have h9 := block_below Hu.out (lt_of_heap h90) h90
  obtain ⟨k70, k71, k72, k73, k74⟩ := cells5 h7
  obtain ⟨k90, k91, k92, k93, k94⟩ := cells5 h9
  go_wp2_with fail
  refine (cQ _).mono ?_
  rintro e p6 ⟨rfl, hb6⟩
  have Hv : Hid (Below u.heap.size u p6) := Hu.out.trans (hb6.mono Hu.out.size)
  clear hb6 k70 k71 k72 k73 k74 k90 k91 k92 k93 k94 cQ h7 h9 h70 h90 Hu
  go_wp2_with fail
  refine (lives14 _).mono ?_
  rintro e p7 ⟨rfl, hb7⟩
  have Hf : Hid (Below w.heap.size w p7) := by
    have h1 := hB.trans (Hv.out.mono hB.size)
    exact h1.trans (hb7.mono h1.size)
  clear hb7 Hv hB
  go_wp2
  go_ret
  exact ⟨rfl, Hf.out⟩
theorem fieldSums5_01 (a : Option Addr) (la ca : Nat) (za : List Nat) (b : Option Addr) (lb cb : Nat) (zb : List Nat) (m : Int) (w : World) (hza : za.length = la) (hca : la ≤ ca) (hma : ca ≤ 9223372036854775807) (hda : Dig za) (hva : View w a za) (hzb : zb.length = lb) (hcb : lb ≤ cb) (hmb : cb ≤ 9223372036854775807) (hdb : Dig zb) (hvb : View w b zb) (hq2 : (m.tmod 2 != 0) = false) (hq3 : (m.tmod 3 != 0) = true) :
    Calls Try.prog 5 #[.slice a la ca, .slice b lb cb, .int .i64 m] w fun e w' => e = .returned (.bool true) ∧ Below w.heap.size w w' := by
  have o1 := of19 a la ca za w hza hca hma hda hva
  have o2 := fun w1 (hB : Below w.heap.size w w1) => of19 b lb cb zb w1 hzb hcb hmb hdb (hvb.below hB)
  obtain ⟨X, hX⟩ : ∃ X, X = valD (za.take 31) := ⟨_, rfl⟩
  obtain ⟨Y, hY⟩ : ∃ Y, Y = valD (zb.take 31) := ⟨_, rfl⟩
  have hX31 : X < 256 ^ 31 := by rw [hX]; exact valD_take_lt hda 31
  have hY31 : Y < 256 ^ 31 := by rw [hY]; exact valD_take_lt hdb 31
  rw [← hX] at o1
  rw [← hY] at o2
  have cNeg := fun (x : E5) w1 (hx : x.wf) => sub20 zeroE x w1 zeroE_wf hx
  simp only [elc_zero, z5] at cNeg
  have c18 := fun w1 => int18p 0 w1 (by omega)
  simp only [Int.natCast_zero, Nat.zero_mod] at c18
  obtain ⟨x, hx⟩ : ∃ z, z = splitE X := ⟨_, rfl⟩
  obtain ⟨y, hy⟩ : ∃ z, z = splitE Y := ⟨_, rfl⟩
  have hxw : x.wf := by rw [hx]; exact splitE_wf _
  have hyw : y.wf := by rw [hy]; exact splitE_wf _
  have HX : Hid (X = x.val % pp) := by show _ = _; rw [hx, split_mod hX31]
  have HY : Hid (Y = y.val % pp) := by show _ = _; rw [hy, split_mod hY31]
  rw [← hx] at o1
  rw [← hy] at o2
  clear hX hY hza hzb hva hvb hda hdb hx hy hX31 hY31
  go_enter Try.func5, Try.ntmps5
  go_wp2_with fail
  refine o1.mono ?_
  rintro e p1 ⟨v1, rfl, hb1, hrow, _⟩
  obtain ⟨ad, cd, rfl, _, _, hdv0⟩ := hrow
  rw [digs_len]
  have hdl := iview_lt hdv0 (by rw [digs_len]; decide)
  have hal : (p1.alloc (.cells #[.int .u64 0, .int .u64 0, .int .u64 0, .int .u64 0, .int .u64 0] 26)).heap[p1.heap.size]? = some (.cells #[.int .u64 0, .int .u64 0, .int .u64 0, .int .u64 0, .int .u64 0] 26 (0, 0)) := heap_alloc_new _ _
  go_wp2_with (refine wpList_store_row rfl 26 (.tmp 7) (.tmp 19) rfl _ (elc x) rfl rfl 26 _ hal info26 rfl (elc_one _) ?_)
  have h70 : ((p1.alloc (.cells #[.int .u64 0, .int .u64 0, .int .u64 0, .int .u64 0, .int .u64 0] 26)).setRow p1.heap.size (elc x)).heap[p1.heap.size]? = some (.cells (elc x) 26 (0, 0)) := setRow_heap _ _ _ _ _ _ hal
  have hBn : Below p1.heap.size p1 ((p1.alloc (.cells #[.int .u64 0, .int .u64 0, .int .u64 0, .int .u64 0, .int .u64 0] 26)).setRow p1.heap.size (elc x)) := setRow_below (below1 _ _) (Nat.le_refl _) _
  have hdv1 := hdv0.below hBn
  have hB1 := hb1.trans (hBn.mono hb1.size)
  have hg7 : w.heap.size ≤ p1.heap.size := hb1.size
  generalize ((p1.alloc (.cells #[.int .u64 0, .int .u64 0, .int .u64 0, .int .u64 0, .int .u64 0] 26)).setRow p1.heap.size (elc x)) = u1 at h70 hdv1 hB1 ⊢
  generalize p1.heap.size = g7 at h70 hdl hg7 ⊢
  clear hal hBn hb1 hdv0
  refine (o2 _ hB1).mono ?_
  rintro e p2 ⟨v2, rfl, hb2, hrow, hfr⟩
  obtain ⟨ae, ce, rfl, _, _, hev0⟩ := hrow
  rw [digs_len]
  have hel := iview_lt hev0 (by rw [digs_len]; decide)
  have hdv2 := hdv1.below hb2
  have h71 := block_below hb2 (lt_of_heap h70) h70
  have hB2 := hB1.trans (hb2.mono hB1.size)
  have hdl2 : ∀ b off, ad = some ⟨b, off, none⟩ → b < p2.heap.size := iview_lt hdv2 (by rw [digs_len]; decide)
  have hbe7 : ∀ b off, ae = some ⟨b, off, none⟩ → b ≠ g7 := fun b off h => by have e1 := hfr b off _ _ (by rw [h]); have e2 := lt_of_heap h70; omega
  have hal : (p2.alloc (.cells #[.int .u64 0, .int .u64 0, .int .u64 0, .int .u64 0, .int .u64 0] 26)).heap[p2.heap.size]? = some (.cells #[.int .u64 0, .int .u64 0, .int .u64 0, .int .u64 0, .int .u64 0] 26 (0, 0)) := heap_alloc_new _ _
  have h9 : ((p2.alloc (.cells #[.int .u64 0, .int .u64 0, .int .u64 0, .int .u64 0, .int .u64 0] 26)).setRow p2.heap.size (elc y)).heap[p2.heap.size]? = some (.cells (elc y) 26 (0, 0)) := setRow_heap _ _ _ _ _ _ hal
  have hBn : Below p2.heap.size p2 ((p2.alloc (.cells #[.int .u64 0, .int .u64 0, .int .u64 0, .int .u64 0, .int .u64 0] 26)).setRow p2.heap.size (elc y)) := setRow_below (below1 _ _) (Nat.le_refl _) _
  have hdv := hdv2.below hBn
  have hev := hev0.below hBn
  have h7 := block_below hBn (lt_of_heap h71) h71
  have hB := hB2.trans (hBn.mono hB2.size)
  have hg79 : g7 < p2.heap.size := lt_of_heap h71
  have hbd : Hid (Away ad g7 p2.heap.size) := fun b off h => by have := hdl b off h; have := hdl2 b off h; omega
  have hbe : Hid (Away ae g7 p2.heap.size) := fun b off h => by have := hbe7 b off h; have := hel b off h; omega
  go_wp2_with (first
    | (refine wpList_store_row rfl 26 (.tmp 9) (.tmp 24) rfl _ (elc y) rfl rfl 26 _ hal info26 rfl (elc_one _) ?_)
    | (refine wpList_load_row rfl 26 (.tmp 7) rfl _ rfl 26 (elc x) (0, 0) _ h7 Try.underlying26 rfl info26 ?_)
    | (refine wpList_load_row rfl 26 (.tmp 9) rfl _ rfl 26 (elc y) (0, 0) _ h9 Try.underlying26 rfl info26 ?_))
  generalize ((p2.alloc (.cells #[.int .u64 0, .int .u64 0, .int .u64 0, .int .u64 0, .int .u64 0] 26)).setRow p2.heap.size (elc y)) = u2 at h7 h9 hdv hev hB ⊢
  generalize p2.heap.size = g9 at h9 hg79 hbd hbe ⊢
  clear hal hBn hb2 hdv2 hev0 h71 hB2 hdl hdl2 hel hbe7 hB1 hdv1 h70 hfr
  refine (cNeg y _ hyw).mono ?_
  rintro e n1 ⟨rfl, hn1⟩
  have hB1 := hB.trans (hn1.mono hB.size)
  have h91 := block_below hn1 (lt_of_heap h9) h9
  have h71 := block_below hn1 (lt_of_heap h7) h7
  have hdv1 := hdv.below hn1
  have hev1 := hev.below hn1
  clear hn1 h9 h7 hdv hev hB
  obtain ⟨qy, hq⟩ : ∃ z, z = subE zeroE y := ⟨_, rfl⟩
  have hqyw : qy.wf := by rw [hq]; exact subE_wf zeroE_wf hyw
  have HQy : Hid ((0 + pp - Y) % pp = qy.val % pp) := by show _ = _; rw [hq, neg_mod hyw, ← HY.out]
  have hVp : Y < pp := by rw [HY.out]; exact Nat.mod_lt _ pp_pos
  rw [← hq]
  clear hq hyw HY
  have h92 : (n1.setRow g9 (elc qy)).heap[g9]? = some (.cells (elc qy) 26 (0, 0)) := setRow_heap _ _ _ _ _ _ h91
  have h72 : (n1.setRow g9 (elc qy)).heap[g7]? = some (.cells (elc x) 26 (0, 0)) := (setRow_other _ _ _ _ (by omega)).trans h71
  have hB2 : Below w.heap.size w (n1.setRow g9 (elc qy)) := setRow_below hB1 (by omega) _
  have hdv2 : IView (n1.setRow g9 (elc qy)) ad (digs 32 X) := iview_setRow hdv1 (fun b off h => (hbd.out b off h).2) _
  have hev2 : IView (n1.setRow g9 (elc qy)) ae (digs 32 Y) := iview_setRow hev1 (fun b off h => (hbe.out b off h).2) _
  go_wp2_with (refine wpList_store_row rfl 26 (.tmp 9) (.tmp 40) rfl _ (elc qy) rfl rfl 26 _ h91 info26 rfl (elc_one _) ?_)
  generalize (n1.setRow g9 (elc qy)) = n2 at h92 h72 hB2 hdv2 hev2 ⊢
  clear hB1 h91 h71 hdv1 hev1
  refine (c18 _).mono ?_
  rintro e n3 ⟨gz, rfl, hRz⟩
  have hB3 := hB2.trans (hRz.1.mono hB2.size)
  have h93 := block_below hRz.1 (lt_of_heap h92) h92
  have h73 := block_below hRz.1 (lt_of_heap h72) h72
  have hdv3 := hdv2.below hRz.1
  have hev3 := hev2.below hRz.1
  clear h92 h72 hB2 hdv2 hev2
  have vv : valD (digs 32 Y) = Y := valD_digs_lt (Nat.lt_trans hVp (by decide))
  have v0 : valD (digs 32 0) = 0 := by decide
  have c21 := sub21 (some ⟨gz, 0, none⟩) 32 (digs 32 0) ae ce (digs 32 Y) n3 (digs_len _ _) (digs_len _ _) (fun _ => ⟨gz, 0, rfl, ints_row hRz.2.2⟩) hev3 (digs_dig _ _) (digs_dig _ _) (by rw [vv]; omega)
  rw [vv, v0] at c21
  clear vv v0 hRz hVp
  go_wp2_with fail
  refine c21.mono ?_
  rintro e n4y ⟨gdy, rfl, hRd⟩
  have hB := hB3.trans (hRd.1.mono hB3.size)
  have h9 := block_below hRd.1 (lt_of_heap h93) h93
  have h7 := block_below hRd.1 (lt_of_heap h73) h73
  have hdvm := hdv3.below hRd.1
  have hevm : IView n4y (some ⟨gdy, 0, none⟩) (digs 32 ((0 + pp - Y) % pp)) := fun _ => ⟨gdy, 0, rfl, ints_row hRd.2.2⟩
  have hny : Hid (Away (some ⟨gdy, 0, none⟩) g7 g9) := by
    intro b off h
    cases h
    have e1 := hRd.2.1
    have e2 := lt_of_heap h93
    have e3 := lt_of_heap h73
    omega
  clear hRd c21 h93 h73 hdv3 hev3 hB3
  generalize (0 + pp - Y) % pp = Vy at HQy hevm
  have hdvk := hdvm
  have hevk := hevm
  clear hdvm hevm
  have h70 := h7
  have h90 := h9
  obtain ⟨u, hu⟩ : ∃ z, z = n4y := ⟨_, rfl⟩
  rw [← hu] at h7 h9 h70 h90 hB hdvk hevk ⊢
  clear hu
  have Hu : Hid (Below u.heap.size u u) := Below.refl _ _
  have hXl : X < 256 ^ 32 := by rw [HX.out]; exact mod_lt32 _
  have hYl : Vy < 256 ^ 32 := by rw [HQy.out]; exact mod_lt32 _
  have hYp : Vy < pp := by rw [HQy.out]; exact Nat.mod_lt _ pp_pos
  have vX := valD_digs_lt hXl
  have vY := valD_digs_lt hYl
  have cA := fun w1 (hB : Below u.heap.size u w1) => add23 ad 32 cd (digs 32 X) (some ⟨gdy, 0, none⟩) 32 32 (digs 32 Vy) w1 (digs_len _ _) (digs_len _ _) (by omega) (by omega) (hdvk.below hB) (hevk.below hB) (digs_dig _ _) (digs_dig _ _)
  have cS := fun w1 (hB : Below u.heap.size u w1) => sub21 ad cd (digs 32 X) (some ⟨gdy, 0, none⟩) 32 (digs 32 Vy) w1 (digs_len _ _) (digs_len _ _) (hdvk.below hB) (hevk.below hB) (digs_dig _ _) (digs_dig _ _) (by rw [vY]; omega)
  have cM := fun w1 (hB : Below u.heap.size u w1) => mul25 ad 32 cd (digs 32 X) (some ⟨gdy, 0, none⟩) 32 32 (digs 32 Vy) w1 (digs_len _ _) (digs_len _ _) (by omega) (by omega) (hdvk.below hB) (hevk.below hB) (digs_dig _ _) (digs_dig _ _)
  have cE := fun w1 (hB : Below u.heap.size u w1) => same26 ad 32 cd (digs 32 X) (some ⟨gdy, 0, none⟩) 32 32 (digs 32 Vy) w1 (digs_len _ _) (digs_len _ _) (by omega) (by omega) (hdvk.below hB) (hevk.below hB) (digs_dig _ _) (digs_dig _ _)
  rw [vX, vY] at cA cS cM cE
  rw [digs_inj hXl hYl] at cE
  have cO := fun w1 => odd27 x w1 hxw
  have cQ := fun w1 => equal13 x qy w1 hxw hqyw
  rw [← HX.out] at cO cQ
  rw [← HQy.out] at cQ
  obtain ⟨g8, o8, had, hc8⟩ := hdvk (by rw [digs_len]; decide)
  have k80 := hc8 0 (by rw [digs_len]; decide)
  rw [digs_get 32 X 0 (by decide), Nat.pow_zero, Nat.div_one] at k80
  obtain ⟨ob, hob⟩ : ∃ b, b = decide (X % 2 = 1) := ⟨_, rfl⟩
  obtain ⟨sb, hsb⟩ : ∃ b, b = decide (X = Vy) := ⟨_, rfl⟩
  obtain ⟨z, hz⟩ : ∃ z, z = X % 256 := ⟨_, rfl⟩
  have hzb : ((z : Int) % 2 == 1) = ob := by
    rw [hob, hz, Bool.eq_iff_iff]; simp; omega
  have hzl : z < 256 := by omega
  rw [← hob] at cO
  rw [← hsb] at cE cQ
  rw [← hz] at k80
  have HK : Hid (u.cell? ⟨g8, o8 + 0, none⟩ = some (.int .i64 (z : Int))) := k80
  have hg8 := block_lt_of_cell k80
  clear hob hsb hz vX vY hXl hYl hYp hc8 hdvk hevk k80 hbd hny
  cases had
  go_wp2_with (first
    | (refine wpList_load_row rfl 26 (.tmp 7) rfl _ rfl 26 (elc x) (0, 0) _ h7 Try.underlying26 rfl info26 ?_)
    | (refine wpList_load_row rfl 26 (.tmp 9) rfl _ rfl 26 (elc qy) (0, 0) _ h9 Try.underlying26 rfl info26 ?_))
  refine (add22 x qy _ hxw hqyw).mono ?_
  rintro e p1 ⟨rfl, hb1⟩
  have hBu := Hu.out.trans (hb1.mono Hu.out.size)
  go_wp2_with fail
  refine (cA p1 hBu).mono ?_
  rintro e p2 ⟨q2, rfl, hR2⟩
  go_wp2_with fail
  refine (like16T (addE x qy) q2 _ p2 (addE_wf hxw hqyw) hR2.2.2 (by rw [addE_mod, Nat.add_mod, ← HX.out, ← HQy.out])).mono ?_
  rintro e p3 ⟨rfl, hb3⟩
  have hBv := hBu.trans (hR2.1.mono hBu.size)
  have Hv : Hid (Below u.heap.size u p3) := hBv.trans (hb3.mono hBv.size)
  have h7n := block_below Hv.out (lt_of_heap h70) h70
  have h9n := block_below Hv.out (lt_of_heap h90) h90
  clear hb1 hBu hR2 hb3 hBv h7 h9 Hu
  have Hu := Hv
  have h7 := h7n
  have h9 := h9n
  clear Hv h7n h9n
  go_wp2_with (first
    | (refine wpList_load_row rfl 26 (.tmp 7) rfl _ rfl 26 (elc x) (0, 0) _ h7 Try.underlying26 rfl info26 ?_)
    | (refine wpList_load_row rfl 26 (.tmp 9) rfl _ rfl 26 (elc qy) (0, 0) _ h9 Try.underlying26 rfl info26 ?_))
  refine (sub20 x qy _ hxw hqyw).mono ?_
  rintro e p1 ⟨rfl, hb1⟩
  have hBu := Hu.out.trans (hb1.mono Hu.out.size)
  go_wp2_with fail
  refine (cS p1 hBu).mono ?_
  rintro e p2 ⟨q2, rfl, hR2⟩
  go_wp2_with fail
  refine (like16T (subE x qy) q2 _ p2 (subE_wf hxw hqyw) hR2.2.2 (by rw [sub_mod_eq hqyw, ← HX.out, ← HQy.out])).mono ?_
  rintro e p3 ⟨rfl, hb3⟩
  have hBv := hBu.trans (hR2.1.mono hBu.size)
  have Hv : Hid (Below u.heap.size u p3) := hBv.trans (hb3.mono hBv.size)
  have h7n := block_below Hv.out (lt_of_heap h70) h70
  have h9n := block_below Hv.out (lt_of_heap h90) h90
  clear hb1 hBu hR2 hb3 hBv h7 h9 Hu
  have Hu := Hv
  have h7 := h7n
  have h9 := h9n
  clear Hv h7n h9n
  go_wp2_with (first
    | (refine wpList_load_row rfl 26 (.tmp 7) rfl _ rfl 26 (elc x) (0, 0) _ h7 Try.underlying26 rfl info26 ?_)
    | (refine wpList_load_row rfl 26 (.tmp 9) rfl _ rfl 26 (elc qy) (0, 0) _ h9 Try.underlying26 rfl info26 ?_))
  refine (mul24 x qy _ hxw hqyw).mono ?_
  rintro e p1 ⟨rfl, hb1⟩
  have hBu := Hu.out.trans (hb1.mono Hu.out.size)
  go_wp2_with fail
  refine (cM p1 hBu).mono ?_
  rintro e p2 ⟨q2, rfl, hR2⟩
  go_wp2_with fail
  refine (like16T (mulE x qy) q2 _ p2 (mulE_wf hxw hqyw) hR2.2.2 (by rw [mulE_mod, Nat.mul_mod, ← HX.out, ← HQy.out])).mono ?_
  rintro e p3 ⟨rfl, hb3⟩
  have hBv := hBu.trans (hR2.1.mono hBu.size)
  have Hv : Hid (Below u.heap.size u p3) := hBv.trans (hb3.mono hBv.size)
  have h7n := block_below Hv.out (lt_of_heap h70) h70
  have h9n := block_below Hv.out (lt_of_heap h90) h90
  clear hb1 hBu hR2 hb3 hBv h7 h9 Hu
  have Hu := Hv
  have h7 := h7n
  have h9 := h9n
  clear Hv h7n h9n
  have kz := (Hu.out.cell (p := ⟨g8, o8 + 0, none⟩) hg8).trans HK.out
  simp only [Nat.add_zero] at kz
  clear cA cS cM
  go_wp2_with fail
  refine (cE _ Hu.out).mono ?_
  rintro e p4 ⟨rfl, hb4⟩
  have Hv : Hid (Below u.heap.size u p4) := Hu.out.trans (hb4.mono Hu.out.size)
  clear Hu h7 h9
  have h7 := block_below Hv.out (lt_of_heap h70) h70
  obtain ⟨k70, k71, k72, k73, k74⟩ := cells5 h7
  clear hb4 kz cE h7
  go_wp2_with fail
  refine (cO _).mono ?_
  rintro e p5 ⟨rfl, hb5⟩
  have Hu : Hid (Below u.heap.size u p5) := Hv.out.trans (hb5.mono Hv.out.size)
  clear hb5 k70 k71 k72 k73 k74 cO Hv
  have h7 := block_below Hu.out (lt_of_heap h70) h70
  have h9 := block_below Hu.out (lt_of_heap h90) h90
  obtain ⟨k70, k71, k72, k73, k74⟩ := cells5 h7
  obtain ⟨k90, k91, k92, k93, k94⟩ := cells5 h9
  go_wp2_with fail
  refine (cQ _).mono ?_
  rintro e p6 ⟨rfl, hb6⟩
  have Hv : Hid (Below u.heap.size u p6) := Hu.out.trans (hb6.mono Hu.out.size)
  clear hb6 k70 k71 k72 k73 k74 k90 k91 k92 k93 k94 cQ h7 h9 h70 h90 Hu
  go_wp2_with fail
  refine (lives14 _).mono ?_
  rintro e p7 ⟨rfl, hb7⟩
  have Hf : Hid (Below w.heap.size w p7) := by
    have h1 := hB.trans (Hv.out.mono hB.size)
    exact h1.trans (hb7.mono h1.size)
  clear hb7 Hv hB
  go_wp2
  go_ret
  exact ⟨rfl, Hf.out⟩
theorem fieldSums5_11 (a : Option Addr) (la ca : Nat) (za : List Nat) (b : Option Addr) (lb cb : Nat) (zb : List Nat) (m : Int) (w : World) (hza : za.length = la) (hca : la ≤ ca) (hma : ca ≤ 9223372036854775807) (hda : Dig za) (hva : View w a za) (hzb : zb.length = lb) (hcb : lb ≤ cb) (hmb : cb ≤ 9223372036854775807) (hdb : Dig zb) (hvb : View w b zb) (hq2 : (m.tmod 2 != 0) = true) (hq3 : (m.tmod 3 != 0) = true) :
    Calls Try.prog 5 #[.slice a la ca, .slice b lb cb, .int .i64 m] w fun e w' => e = .returned (.bool true) ∧ Below w.heap.size w w' := by
  have o1 := of19 a la ca za w hza hca hma hda hva
  have o2 := fun w1 (hB : Below w.heap.size w w1) => of19 b lb cb zb w1 hzb hcb hmb hdb (hvb.below hB)
  obtain ⟨X, hX⟩ : ∃ X, X = valD (za.take 31) := ⟨_, rfl⟩
  obtain ⟨Y, hY⟩ : ∃ Y, Y = valD (zb.take 31) := ⟨_, rfl⟩
  have hX31 : X < 256 ^ 31 := by rw [hX]; exact valD_take_lt hda 31
  have hY31 : Y < 256 ^ 31 := by rw [hY]; exact valD_take_lt hdb 31
  rw [← hX] at o1
  rw [← hY] at o2
  have cNeg := fun (x : E5) w1 (hx : x.wf) => sub20 zeroE x w1 zeroE_wf hx
  simp only [elc_zero, z5] at cNeg
  have c18 := fun w1 => int18p 0 w1 (by omega)
  simp only [Int.natCast_zero, Nat.zero_mod] at c18
  obtain ⟨x, hx⟩ : ∃ z, z = splitE X := ⟨_, rfl⟩
  obtain ⟨y, hy⟩ : ∃ z, z = splitE Y := ⟨_, rfl⟩
  have hxw : x.wf := by rw [hx]; exact splitE_wf _
  have hyw : y.wf := by rw [hy]; exact splitE_wf _
  have HX : Hid (X = x.val % pp) := by show _ = _; rw [hx, split_mod hX31]
  have HY : Hid (Y = y.val % pp) := by show _ = _; rw [hy, split_mod hY31]
  rw [← hx] at o1
  rw [← hy] at o2
  clear hX hY hza hzb hva hvb hda hdb hx hy hX31 hY31
  go_enter Try.func5, Try.ntmps5
  go_wp2_with fail
  refine o1.mono ?_
  rintro e p1 ⟨v1, rfl, hb1, hrow, _⟩
  obtain ⟨ad, cd, rfl, _, _, hdv0⟩ := hrow
  rw [digs_len]
  have hdl := iview_lt hdv0 (by rw [digs_len]; decide)
  have hal : (p1.alloc (.cells #[.int .u64 0, .int .u64 0, .int .u64 0, .int .u64 0, .int .u64 0] 26)).heap[p1.heap.size]? = some (.cells #[.int .u64 0, .int .u64 0, .int .u64 0, .int .u64 0, .int .u64 0] 26 (0, 0)) := heap_alloc_new _ _
  go_wp2_with (refine wpList_store_row rfl 26 (.tmp 7) (.tmp 19) rfl _ (elc x) rfl rfl 26 _ hal info26 rfl (elc_one _) ?_)
  have h70 : ((p1.alloc (.cells #[.int .u64 0, .int .u64 0, .int .u64 0, .int .u64 0, .int .u64 0] 26)).setRow p1.heap.size (elc x)).heap[p1.heap.size]? = some (.cells (elc x) 26 (0, 0)) := setRow_heap _ _ _ _ _ _ hal
  have hBn : Below p1.heap.size p1 ((p1.alloc (.cells #[.int .u64 0, .int .u64 0, .int .u64 0, .int .u64 0, .int .u64 0] 26)).setRow p1.heap.size (elc x)) := setRow_below (below1 _ _) (Nat.le_refl _) _
  have hdv1 := hdv0.below hBn
  have hB1 := hb1.trans (hBn.mono hb1.size)
  have hg7 : w.heap.size ≤ p1.heap.size := hb1.size
  generalize ((p1.alloc (.cells #[.int .u64 0, .int .u64 0, .int .u64 0, .int .u64 0, .int .u64 0] 26)).setRow p1.heap.size (elc x)) = u1 at h70 hdv1 hB1 ⊢
  generalize p1.heap.size = g7 at h70 hdl hg7 ⊢
  clear hal hBn hb1 hdv0
  refine (o2 _ hB1).mono ?_
  rintro e p2 ⟨v2, rfl, hb2, hrow, hfr⟩
  obtain ⟨ae, ce, rfl, _, _, hev0⟩ := hrow
  rw [digs_len]
  have hel := iview_lt hev0 (by rw [digs_len]; decide)
  have hdv2 := hdv1.below hb2
  have h71 := block_below hb2 (lt_of_heap h70) h70
  have hB2 := hB1.trans (hb2.mono hB1.size)
  have hdl2 : ∀ b off, ad = some ⟨b, off, none⟩ → b < p2.heap.size := iview_lt hdv2 (by rw [digs_len]; decide)
  have hbe7 : ∀ b off, ae = some ⟨b, off, none⟩ → b ≠ g7 := fun b off h => by have e1 := hfr b off _ _ (by rw [h]); have e2 := lt_of_heap h70; omega
  have hal : (p2.alloc (.cells #[.int .u64 0, .int .u64 0, .int .u64 0, .int .u64 0, .int .u64 0] 26)).heap[p2.heap.size]? = some (.cells #[.int .u64 0, .int .u64 0, .int .u64 0, .int .u64 0, .int .u64 0] 26 (0, 0)) := heap_alloc_new _ _
  have h9 : ((p2.alloc (.cells #[.int .u64 0, .int .u64 0, .int .u64 0, .int .u64 0, .int .u64 0] 26)).setRow p2.heap.size (elc y)).heap[p2.heap.size]? = some (.cells (elc y) 26 (0, 0)) := setRow_heap _ _ _ _ _ _ hal
  have hBn : Below p2.heap.size p2 ((p2.alloc (.cells #[.int .u64 0, .int .u64 0, .int .u64 0, .int .u64 0, .int .u64 0] 26)).setRow p2.heap.size (elc y)) := setRow_below (below1 _ _) (Nat.le_refl _) _
  have hdv := hdv2.below hBn
  have hev := hev0.below hBn
  have h7 := block_below hBn (lt_of_heap h71) h71
  have hB := hB2.trans (hBn.mono hB2.size)
  have hg79 : g7 < p2.heap.size := lt_of_heap h71
  have hbd : Hid (Away ad g7 p2.heap.size) := fun b off h => by have := hdl b off h; have := hdl2 b off h; omega
  have hbe : Hid (Away ae g7 p2.heap.size) := fun b off h => by have := hbe7 b off h; have := hel b off h; omega
  go_wp2_with (first
    | (refine wpList_store_row rfl 26 (.tmp 9) (.tmp 24) rfl _ (elc y) rfl rfl 26 _ hal info26 rfl (elc_one _) ?_)
    | (refine wpList_load_row rfl 26 (.tmp 7) rfl _ rfl 26 (elc x) (0, 0) _ h7 Try.underlying26 rfl info26 ?_)
    | (refine wpList_load_row rfl 26 (.tmp 9) rfl _ rfl 26 (elc y) (0, 0) _ h9 Try.underlying26 rfl info26 ?_))
  generalize ((p2.alloc (.cells #[.int .u64 0, .int .u64 0, .int .u64 0, .int .u64 0, .int .u64 0] 26)).setRow p2.heap.size (elc y)) = u2 at h7 h9 hdv hev hB ⊢
  generalize p2.heap.size = g9 at h9 hg79 hbd hbe ⊢
  clear hal hBn hb2 hdv2 hev0 h71 hB2 hdl hdl2 hel hbe7 hB1 hdv1 h70 hfr
  refine (cNeg x _ hxw).mono ?_
  rintro e n1 ⟨rfl, hn1⟩
  have hB1 := hB.trans (hn1.mono hB.size)
  have h71 := block_below hn1 (lt_of_heap h7) h7
  have h91 := block_below hn1 (lt_of_heap h9) h9
  have hdv1 := hdv.below hn1
  have hev1 := hev.below hn1
  clear hn1 h7 h9 hdv hev hB
  obtain ⟨qx, hq⟩ : ∃ z, z = subE zeroE x := ⟨_, rfl⟩
  have hqxw : qx.wf := by rw [hq]; exact subE_wf zeroE_wf hxw
  have HQx : Hid ((0 + pp - X) % pp = qx.val % pp) := by show _ = _; rw [hq, neg_mod hxw, ← HX.out]
  have hVp : X < pp := by rw [HX.out]; exact Nat.mod_lt _ pp_pos
  rw [← hq]
  clear hq hxw HX
  have h72 : (n1.setRow g7 (elc qx)).heap[g7]? = some (.cells (elc qx) 26 (0, 0)) := setRow_heap _ _ _ _ _ _ h71
  have h92 : (n1.setRow g7 (elc qx)).heap[g9]? = some (.cells (elc y) 26 (0, 0)) := (setRow_other _ _ _ _ (by omega)).trans h91
  have hB2 : Below w.heap.size w (n1.setRow g7 (elc qx)) := setRow_below hB1 (by omega) _
  have hdv2 : IView (n1.setRow g7 (elc qx)) ad (digs 32 X) := iview_setRow hdv1 (fun b off h => (hbd.out b off h).1) _
  have hev2 : IView (n1.setRow g7 (elc qx)) ae (digs 32 Y) := iview_setRow hev1 (fun b off h => (hbe.out b off h).1) _
  go_wp2_with (refine wpList_store_row rfl 26 (.tmp 7) (.tmp 31) rfl _ (elc qx) rfl rfl 26 _ h71 info26 rfl (elc_one _) ?_)
  generalize (n1.setRow g7 (elc qx)) = n2 at h72 h92 hB2 hdv2 hev2 ⊢
  clear hB1 h71 h91 hdv1 hev1
  refine (c18 _).mono ?_
  rintro e n3 ⟨gz, rfl, hRz⟩
  have hB3 := hB2.trans (hRz.1.mono hB2.size)
  have h73 := block_below hRz.1 (lt_of_heap h72) h72
  have h93 := block_below hRz.1 (lt_of_heap h92) h92
  have hdv3 := hdv2.below hRz.1
  have hev3 := hev2.below hRz.1
  clear h72 h92 hB2 hdv2 hev2
  have vv : valD (digs 32 X) = X := valD_digs_lt (Nat.lt_trans hVp (by decide))
  have v0 : valD (digs 32 0) = 0 := by decide
  have c21 := sub21 (some ⟨gz, 0, none⟩) 32 (digs 32 0) ad cd (digs 32 X) n3 (digs_len _ _) (digs_len _ _) (fun _ => ⟨gz, 0, rfl, ints_row hRz.2.2⟩) hdv3 (digs_dig _ _) (digs_dig _ _) (by rw [vv]; omega)
  rw [vv, v0] at c21
  clear vv v0 hRz hVp
  go_wp2_with fail
  refine c21.mono ?_
  rintro e n4x ⟨gdx, rfl, hRd⟩
  have hB := hB3.trans (hRd.1.mono hB3.size)
  have h7 := block_below hRd.1 (lt_of_heap h73) h73
  have h9 := block_below hRd.1 (lt_of_heap h93) h93
  have hevm := hev3.below hRd.1
  have hdvm : IView n4x (some ⟨gdx, 0, none⟩) (digs 32 ((0 + pp - X) % pp)) := fun _ => ⟨gdx, 0, rfl, ints_row hRd.2.2⟩
  have hnx : Hid (Away (some ⟨gdx, 0, none⟩) g7 g9) := by
    intro b off h
    cases h
    have e1 := hRd.2.1
    have e2 := lt_of_heap h73
    have e3 := lt_of_heap h93
    omega
  clear hRd c21 h73 h93 hdv3 hev3 hB3
  generalize (0 + pp - X) % pp = Vx at HQx hdvm
  have hdvk := hdvm
  have hevk := hevm
  clear hdvm hevm
  go_wp2_with (refine wpList_load_row rfl 26 (.tmp 9) rfl _ rfl 26 (elc y) (0, 0) _ h9 Try.underlying26 rfl info26 ?_)
  refine (cNeg y _ hyw).mono ?_
  rintro e n1 ⟨rfl, hn1⟩
  have hB1 := hB.trans (hn1.mono hB.size)
  have h91 := block_below hn1 (lt_of_heap h9) h9
  have h71 := block_below hn1 (lt_of_heap h7) h7
  have hdv1 := hdvk.below hn1
  have hev1 := hevk.below hn1
  clear hn1 h9 h7 hdvk hevk hB
  obtain ⟨qy, hq⟩ : ∃ z, z = subE zeroE y := ⟨_, rfl⟩
  have hqyw : qy.wf := by rw [hq]; exact subE_wf zeroE_wf hyw
  have HQy : Hid ((0 + pp - Y) % pp = qy.val % pp) := by show _ = _; rw [hq, neg_mod hyw, ← HY.out]
  have hVp : Y < pp := by rw [HY.out]; exact Nat.mod_lt _ pp_pos
  rw [← hq]
  clear hq hyw HY
  have h92 : (n1.setRow g9 (elc qy)).heap[g9]? = some (.cells (elc qy) 26 (0, 0)) := setRow_heap _ _ _ _ _ _ h91
  have h72 : (n1.setRow g9 (elc qy)).heap[g7]? = some (.cells (elc qx) 26 (0, 0)) := (setRow_other _ _ _ _ (by omega)).trans h71
  have hB2 : Below w.heap.size w (n1.setRow g9 (elc qy)) := setRow_below hB1 (by omega) _
  have hdv2 : IView (n1.setRow g9 (elc qy)) (some ⟨gdx, 0, none⟩) (digs 32 Vx) := iview_setRow hdv1 (fun b off h => (hnx.out b off h).2) _
  have hev2 : IView (n1.setRow g9 (elc qy)) ae (digs 32 Y) := iview_setRow hev1 (fun b off h => (hbe.out b off h).2) _
  go_wp2_with (refine wpList_store_row rfl 26 (.tmp 9) (.tmp 40) rfl _ (elc qy) rfl rfl 26 _ h91 info26 rfl (elc_one _) ?_)
  generalize (n1.setRow g9 (elc qy)) = n2 at h92 h72 hB2 hdv2 hev2 ⊢
  clear hB1 h91 h71 hdv1 hev1
  refine (c18 _).mono ?_
  rintro e n3 ⟨gz, rfl, hRz⟩
  have hB3 := hB2.trans (hRz.1.mono hB2.size)
  have h93 := block_below hRz.1 (lt_of_heap h92) h92
  have h73 := block_below hRz.1 (lt_of_heap h72) h72
  have hdv3 := hdv2.below hRz.1
  have hev3 := hev2.below hRz.1
  clear h92 h72 hB2 hdv2 hev2
  have vv : valD (digs 32 Y) = Y := valD_digs_lt (Nat.lt_trans hVp (by decide))
  have v0 : valD (digs 32 0) = 0 := by decide
  have c21 := sub21 (some ⟨gz, 0, none⟩) 32 (digs 32 0) ae ce (digs 32 Y) n3 (digs_len _ _) (digs_len _ _) (fun _ => ⟨gz, 0, rfl, ints_row hRz.2.2⟩) hev3 (digs_dig _ _) (digs_dig _ _) (by rw [vv]; omega)
  rw [vv, v0] at c21
  clear vv v0 hRz hVp
  go_wp2_with fail
  refine c21.mono ?_
  rintro e n4y ⟨gdy, rfl, hRd⟩
  have hB := hB3.trans (hRd.1.mono hB3.size)
  have h9 := block_below hRd.1 (lt_of_heap h93) h93
  have h7 := block_below hRd.1 (lt_of_heap h73) h73
  have hdvm := hdv3.below hRd.1
  have hevm : IView n4y (some ⟨gdy, 0, none⟩) (digs 32 ((0 + pp - Y) % pp)) := fun _ => ⟨gdy, 0, rfl, ints_row hRd.2.2⟩
  have hny : Hid (Away (some ⟨gdy, 0, none⟩) g7 g9) := by
    intro b off h
    cases h
    have e1 := hRd.2.1
    have e2 := lt_of_heap h93
    have e3 := lt_of_heap h73
    omega
  clear hRd c21 h93 h73 hdv3 hev3 hB3
  generalize (0 + pp - Y) % pp = Vy at HQy hevm
  have hdvk := hdvm
  have hevk := hevm
  clear hdvm hevm
  have h70 := h7
  have h90 := h9
  obtain ⟨u, hu⟩ : ∃ z, z = n4y := ⟨_, rfl⟩
  rw [← hu] at h7 h9 h70 h90 hB hdvk hevk ⊢
  clear hu
  have Hu : Hid (Below u.heap.size u u) := Below.refl _ _
  have hXl : Vx < 256 ^ 32 := by rw [HQx.out]; exact mod_lt32 _
  have hYl : Vy < 256 ^ 32 := by rw [HQy.out]; exact mod_lt32 _
  have hYp : Vy < pp := by rw [HQy.out]; exact Nat.mod_lt _ pp_pos
  have vX := valD_digs_lt hXl
  have vY := valD_digs_lt hYl
  have cA := fun w1 (hB : Below u.heap.size u w1) => add23 (some ⟨gdx, 0, none⟩) 32 32 (digs 32 Vx) (some ⟨gdy, 0, none⟩) 32 32 (digs 32 Vy) w1 (digs_len _ _) (digs_len _ _) (by omega) (by omega) (hdvk.below hB) (hevk.below hB) (digs_dig _ _) (digs_dig _ _)
  have cS := fun w1 (hB : Below u.heap.size u w1) => sub21 (some ⟨gdx, 0, none⟩) 32 (digs 32 Vx) (some ⟨gdy, 0, none⟩) 32 (digs 32 Vy) w1 (digs_len _ _) (digs_len _ _) (hdvk.below hB) (hevk.below hB) (digs_dig _ _) (digs_dig _ _) (by rw [vY]; omega)
  have cM := fun w1 (hB : Below u.heap.size u w1) => mul25 (some ⟨gdx, 0, none⟩) 32 32 (digs 32 Vx) (some ⟨gdy, 0, none⟩) 32 32 (digs 32 Vy) w1 (digs_len _ _) (digs_len _ _) (by omega) (by omega) (hdvk.below hB) (hevk.below hB) (digs_dig _ _) (digs_dig _ _)
  have cE := fun w1 (hB : Below u.heap.size u w1) => same26 (some ⟨gdx, 0, none⟩) 32 32 (digs 32 Vx) (some ⟨gdy, 0, none⟩) 32 32 (digs 32 Vy) w1 (digs_len _ _) (digs_len _ _) (by omega) (by omega) (hdvk.below hB) (hevk.below hB) (digs_dig _ _) (digs_dig _ _)
  rw [vX, vY] at cA cS cM cE
  rw [digs_inj hXl hYl] at cE
  have cO := fun w1 => odd27 qx w1 hqxw
  have cQ := fun w1 => equal13 qx qy w1 hqxw hqyw
  rw [← HQx.out] at cO cQ
  rw [← HQy.out] at cQ
  obtain ⟨g8, o8, had, hc8⟩ := hdvk (by rw [digs_len]; decide)
  have k80 := hc8 0 (by rw [digs_len]; decide)
  rw [digs_get 32 Vx 0 (by decide), Nat.pow_zero, Nat.div_one] at k80
  obtain ⟨ob, hob⟩ : ∃ b, b = decide (Vx % 2 = 1) := ⟨_, rfl⟩
  obtain ⟨sb, hsb⟩ : ∃ b, b = decide (Vx = Vy) := ⟨_, rfl⟩
  obtain ⟨z, hz⟩ : ∃ z, z = Vx % 256 := ⟨_, rfl⟩
  have hzb : ((z : Int) % 2 == 1) = ob := by
    rw [hob, hz, Bool.eq_iff_iff]; simp; omega
  have hzl : z < 256 := by omega
  rw [← hob] at cO
  rw [← hsb] at cE cQ
  rw [← hz] at k80
  have HK : Hid (u.cell? ⟨g8, o8 + 0, none⟩ = some (.int .i64 (z : Int))) := k80
  have hg8 := block_lt_of_cell k80
  clear hob hsb hz vX vY hXl hYl hYp hc8 hdvk hevk k80 hnx hny
  cases had
  go_wp2_with (first
    | (refine wpList_load_row rfl 26 (.tmp 7) rfl _ rfl 26 (elc qx) (0, 0) _ h7 Try.underlying26 rfl info26 ?_)
    | (refine wpList_load_row rfl 26 (.tmp 9) rfl _ rfl 26 (elc qy) (0, 0) _ h9 Try.underlying26 rfl info26 ?_))
  refine (add22 qx qy _ hqxw hqyw).mono ?_
  rintro e p1 ⟨rfl, hb1⟩
  have hBu := Hu.out.trans (hb1.mono Hu.out.size)
  go_wp2_with fail
  refine (cA p1 hBu).mono ?_
  rintro e p2 ⟨q2, rfl, hR2⟩
  go_wp2_with fail
  refine (like16T (addE qx qy) q2 _ p2 (addE_wf hqxw hqyw) hR2.2.2 (by rw [addE_mod, Nat.add_mod, ← HQx.out, ← HQy.out])).mono ?_
  rintro e p3 ⟨rfl, hb3⟩
  have hBv := hBu.trans (hR2.1.mono hBu.size)
  have Hv : Hid (Below u.heap.size u p3) := hBv.trans (hb3.mono hBv.size)
  have h7n := block_below Hv.out (lt_of_heap h70) h70
  have h9n := block_below Hv.out (lt_of_heap h90) h90
  clear hb1 hBu hR2 hb3 hBv h7 h9 Hu
  have Hu := Hv
  have h7 := h7n
  have h9 := h9n
  clear Hv h7n h9n
  go_wp2_with (first
    | (refine wpList_load_row rfl 26 (.tmp 7) rfl _ rfl 26 (elc qx) (0, 0) _ h7 Try.underlying26 rfl info26 ?_)
    | (refine wpList_load_row rfl 26 (.tmp 9) rfl _ rfl 26 (elc qy) (0, 0) _ h9 Try.underlying26 rfl info26 ?_))
  refine (sub20 qx qy _ hqxw hqyw).mono ?_
  rintro e p1 ⟨rfl, hb1⟩
  have hBu := Hu.out.trans (hb1.mono Hu.out.size)
  go_wp2_with fail
  refine (cS p1 hBu).mono ?_
  rintro e p2 ⟨q2, rfl, hR2⟩
  go_wp2_with fail
  refine (like16T (subE qx qy) q2 _ p2 (subE_wf hqxw hqyw) hR2.2.2 (by rw [sub_mod_eq hqyw, ← HQx.out, ← HQy.out])).mono ?_
  rintro e p3 ⟨rfl, hb3⟩
  have hBv := hBu.trans (hR2.1.mono hBu.size)
  have Hv : Hid (Below u.heap.size u p3) := hBv.trans (hb3.mono hBv.size)
  have h7n := block_below Hv.out (lt_of_heap h70) h70
  have h9n := block_below Hv.out (lt_of_heap h90) h90
  clear hb1 hBu hR2 hb3 hBv h7 h9 Hu
  have Hu := Hv
  have h7 := h7n
  have h9 := h9n
  clear Hv h7n h9n
  go_wp2_with (first
    | (refine wpList_load_row rfl 26 (.tmp 7) rfl _ rfl 26 (elc qx) (0, 0) _ h7 Try.underlying26 rfl info26 ?_)
    | (refine wpList_load_row rfl 26 (.tmp 9) rfl _ rfl 26 (elc qy) (0, 0) _ h9 Try.underlying26 rfl info26 ?_))
  refine (mul24 qx qy _ hqxw hqyw).mono ?_
  rintro e p1 ⟨rfl, hb1⟩
  have hBu := Hu.out.trans (hb1.mono Hu.out.size)
  go_wp2_with fail
  refine (cM p1 hBu).mono ?_
  rintro e p2 ⟨q2, rfl, hR2⟩
  go_wp2_with fail
  refine (like16T (mulE qx qy) q2 _ p2 (mulE_wf hqxw hqyw) hR2.2.2 (by rw [mulE_mod, Nat.mul_mod, ← HQx.out, ← HQy.out])).mono ?_
  rintro e p3 ⟨rfl, hb3⟩
  have hBv := hBu.trans (hR2.1.mono hBu.size)
  have Hv : Hid (Below u.heap.size u p3) := hBv.trans (hb3.mono hBv.size)
  have h7n := block_below Hv.out (lt_of_heap h70) h70
  have h9n := block_below Hv.out (lt_of_heap h90) h90
  clear hb1 hBu hR2 hb3 hBv h7 h9 Hu
  have Hu := Hv
  have h7 := h7n
  have h9 := h9n
  clear Hv h7n h9n
  have kz := (Hu.out.cell (p := ⟨gdx, 0 + 0, none⟩) hg8).trans HK.out
  simp only [Nat.add_zero] at kz
  clear cA cS cM
  go_wp2_with fail
  refine (cE _ Hu.out).mono ?_
  rintro e p4 ⟨rfl, hb4⟩
  have Hv : Hid (Below u.heap.size u p4) := Hu.out.trans (hb4.mono Hu.out.size)
  clear Hu h7 h9
  have h7 := block_below Hv.out (lt_of_heap h70) h70
  obtain ⟨k70, k71, k72, k73, k74⟩ := cells5 h7
  clear hb4 kz cE h7
  go_wp2_with fail
  refine (cO _).mono ?_
  rintro e p5 ⟨rfl, hb5⟩
  have Hu : Hid (Below u.heap.size u p5) := Hv.out.trans (hb5.mono Hv.out.size)
  clear hb5 k70 k71 k72 k73 k74 cO Hv
  have h7 := block_below Hu.out (lt_of_heap h70) h70
  have h9 := block_below Hu.out (lt_of_heap h90) h90
  obtain ⟨k70, k71, k72, k73, k74⟩ := cells5 h7
  obtain ⟨k90, k91, k92, k93, k94⟩ := cells5 h9
  go_wp2_with fail
  refine (cQ _).mono ?_
  rintro e p6 ⟨rfl, hb6⟩
  have Hv : Hid (Below u.heap.size u p6) := Hu.out.trans (hb6.mono Hu.out.size)
  clear hb6 k70 k71 k72 k73 k74 k90 k91 k92 k93 k94 cQ h7 h9 h70 h90 Hu
  go_wp2_with fail
  refine (lives14 _).mono ?_
  rintro e p7 ⟨rfl, hb7⟩
  have Hf : Hid (Below w.heap.size w p7) := by
    have h1 := hB.trans (Hv.out.mono hB.size)
    exact h1.trans (hb7.mono h1.size)
  clear hb7 Hv hB
  go_wp2
  go_ret
  exact ⟨rfl, Hf.out⟩
theorem fieldSums5 (a : Option Addr) (la ca : Nat) (za : List Nat) (b : Option Addr) (lb cb : Nat) (zb : List Nat) (m : Int) (w : World) (hza : za.length = la) (hca : la ≤ ca) (hma : ca ≤ 9223372036854775807) (hda : Dig za) (hva : View w a za) (hzb : zb.length = lb) (hcb : lb ≤ cb) (hmb : cb ≤ 9223372036854775807) (hdb : Dig zb) (hvb : View w b zb) (hm0 : -9223372036854775808 ≤ m) (hm1 : m ≤ 9223372036854775807) :
    Calls Try.prog 5 #[.slice a la ca, .slice b lb cb, .int .i64 m] w fun e w' => e = .returned (.bool true) ∧ Below w.heap.size w w' := by
  obtain ⟨b2, h2⟩ : ∃ c, (m.tmod 2 != 0) = c := ⟨_, rfl⟩
  obtain ⟨b3, h3⟩ : ∃ c, (m.tmod 3 != 0) = c := ⟨_, rfl⟩
  cases b2 <;> cases b3
  · exact fieldSums5_00 a la ca za b lb cb zb m w hza hca hma hda hva hzb hcb hmb hdb hvb h2 h3
  · exact fieldSums5_01 a la ca za b lb cb zb m w hza hca hma hda hva hzb hcb hmb hdb hvb h2 h3
  · exact fieldSums5_10 a la ca za b lb cb zb m w hza hca hma hda hva hzb hcb hmb hdb hvb h2 h3
  · exact fieldSums5_11 a la ca za b lb cb zb m w hza hca hma hda hva hzb hcb hmb hdb hvb h2 h3
end Go.Proofs.Ytghmcaliahjdhaa
