/-
  JSON: the law JsonDeep.
-/
import Derived.Test.YtljgnpneeecafaaDoorC7
set_option linter.unusedVariables false
set_option linter.unusedSimpArgs false
namespace Go.Proofs.YtljgnpneeecafaaDoor
open Go.RowKit Go.Sort Go.BigFrame
set_option maxRecDepth 100000
set_option maxHeartbeats 4000000
theorem jsonDeepA (W : World) (hT : Tab W) {n : Int} (h1 : -9223372036854775808 ≤ n) (h2 : n ≤ 9223372036854775807) (hn : 0 ≤ n) : Ret 6 #[.int .i64 n, .bool false] W (Is (.bool true)) := by
  have hneg : ¬ n < 0 := by omega
  obtain ⟨K, hK, hK21⟩ := tmodK (n) (by omega)
  have HT : Hid (Tab W) := hT
  have hN := heap_alloc_new W (.cells zero5 25)
  unfold zero5 at hN
  clear hT
  unfold Ret
  go_enter Tryd.func6, Tryd.ntmps6
  go_wp2_with (refine wpList_store_row rfl 25 (.tmp 7) (.tmp 21) rfl W.heap.size #[.int .i64 0, .int .i64 0, .string ⟨#[]⟩, .slice none 0 0, .slice none 0 0] rfl rfl 25 _ hN size25 rfl (one5 _ _ _) ?_)
  obtain ⟨w1, hw1⟩ : ∃ w1, w1 = (W.alloc (.cells #[.int .i64 0, .int .i64 0, .string ⟨#[]⟩, .slice none 0 0, .slice none 0 0] 25)).setRow W.heap.size #[.int .i64 0, .int .i64 0, .string ⟨#[]⟩, .slice none 0 0, .slice none 0 0] := ⟨_, rfl⟩
  rw [← hw1]
  have hB1 : Below W.heap.size W w1 := by rw [hw1]; exact (below1 _ _).trans ⟨rfl, rfl, rfl, by simp, fun b hb => setRow_other _ _ _ _ (by omega)⟩
  have hX1 : w1.heap[W.heap.size]? = some (.cells #[.int .i64 0, .int .i64 0, .string ⟨#[]⟩, .slice none 0 0, .slice none 0 0] 25 (0, 0)) := by rw [hw1]; exact setRow_heap _ _ _ _ _ _ hN
  have HB1 : Hid (Below W.heap.size W w1) := hB1
  have HX1 : Hid (w1.heap[W.heap.size]? = some (.cells #[.int .i64 0, .int .i64 0, .string ⟨#[]⟩, .slice none 0 0, .slice none 0 0] 25 (0, 0))) := hX1
  clear hw1 hN hB1 hX1
  go_loopw [5, 6, 8] (fun sv ev iv wr => ∃ j : Nat, j ≤ K ∧ iv = .int .i64 j ∧ sv = .string (strOf (preN false j)) ∧ ev = .string (strOf (endN false j)) ∧ Below W.heap.size W wr ∧ ∃ d0 d1 d2 d3 d4, wr.heap[W.heap.size]? = some (.cells #[d0, d1, d2, d3, d4] 25 (0, 0)) ∧ (#[d0, d1, d2, d3, d4] : Array Value).all (·.oneCell') = true ∧ DeepR (fun b => W.heap.size < b) false j [d0, d1, d2, d3, d4] wr) (fun sv ev iv _ => K - (intOf iv).toNat)
  case atStart => exact ⟨0, by omega, rfl, rfl, rfl, HB1.out, _, _, _, _, _, HX1.out, one5 _ _ _, DeepR.zero _ _ _⟩
  case round =>
    obtain ⟨j, hj, rfl, rfl, rfl, hBk, d0, d1, d2, d3, d4, hXk, hone, hDk⟩ := hrel
    have hlw := lt_of_heap hXk
    have x0 : wr.cell? ⟨W.heap.size, 0, none⟩ = some d0 := (cell_of_row _ _ _ _ _ _ hXk).trans rfl
    have x1 : wr.cell? ⟨W.heap.size, 1, none⟩ = some d1 := (cell_of_row _ _ _ _ _ _ hXk).trans rfl
    have x2 : wr.cell? ⟨W.heap.size, 2, none⟩ = some d2 := (cell_of_row _ _ _ _ _ _ hXk).trans rfl
    have x3 : wr.cell? ⟨W.heap.size, 3, none⟩ = some d3 := (cell_of_row _ _ _ _ _ _ hXk).trans rfl
    have x4 : wr.cell? ⟨W.heap.size, 4, none⟩ = some d4 := (cell_of_row _ _ _ _ _ _ hXk).trans rfl
    obtain ⟨P, hP⟩ : ∃ P, P = strOf (preN false j) := ⟨_, rfl⟩
    obtain ⟨E, hE⟩ : ∃ E, E = strOf (endN false j) := ⟨_, rfl⟩
    rw [← hP, ← hE]
    have hPs : P.size ≤ 100 := by rw [hP, strOf_size]; have := (preN_dig false j).2; omega
    have hEs : E.size ≤ 100 := by rw [hE, strOf_size]; have := (endN_dig false j).2; omega
    have HP : Hid (P = strOf (preN false j)) := hP
    have HE : Hid (E = strOf (endN false j)) := hE
    have HDk : Hid (DeepR (fun b => W.heap.size < b) false j [d0, d1, d2, d3, d4] wr) := hDk
    have HBk : Hid (Below W.heap.size W wr) := hBk
    have HXk : Hid (wr.heap[W.heap.size]? = some (.cells #[d0, d1, d2, d3, d4] 25 (0, 0))) := hXk
    clear hP hE hBk hDk hXk
    by_cases hjK : j < K
    · have hlt : (j : Int) < (K : Int) := by omega
      have hP1 : ¬ 9223372036854775807 < P.size + 1 := by omega
      have hE1 : ¬ 9223372036854775807 < E.size + 1 := by omega
      obtain ⟨wa, hwa⟩ : ∃ wa, wa = wr.alloc (.cells #[d0, d1, d2, d3, d4] 25) := ⟨_, rfl⟩
      have hA : wa.heap[W.heap.size]? = some (.cells #[d0, d1, d2, d3, d4] 25 (0, 0)) := by rw [hwa]; exact (Lib.alloc_old _ _ _ hlw).trans HXk.out
      have HWA : Hid (wa = wr.alloc (.cells #[d0, d1, d2, d3, d4] 25)) := hwa
      have HKb : Hid (wa.heap[wr.heap.size]? = some (.cells #[d0, d1, d2, d3, d4] 25 (0, 0))) := by show _ = _; rw [hwa]; exact heap_alloc_new _ _
      have HBA : Hid (Below wr.heap.size wr wa) := by show Below _ _ _; rw [hwa]; exact below1 _ _
      have HA2 : Hid (wa.heap[W.heap.size]? = some (.cells #[d0, d1, d2, d3, d4] 25 (0, 0))) := hA
      rw [hwa] at hA
      clear hwa
      go_wp2_with (refine wpList_store_row rfl 25 (.tmp 7) (.tmp 42) rfl W.heap.size #[.int .i64 4, .int .i64 0, .string ⟨#[]⟩, .slice none 0 0, .slice (some ⟨wr.heap.size, 0, none⟩) 1 1] rfl rfl 25 _ hA size25 rfl (by simp [Value.oneCell']) ?_; rw [← HWA.out]; refine Hid.out ?_)
      obtain ⟨w2, hw2⟩ : ∃ w2, w2 = wa.setRow W.heap.size #[.int .i64 4, .int .i64 0, .string ⟨#[]⟩, .slice none 0 0, .slice (some ⟨wr.heap.size, 0, none⟩) 1 1] := ⟨_, rfl⟩
      rw [← hw2]
      refine Lib.hid ?_
      have hXE : w2.heap[W.heap.size]? = some (.cells #[.int .i64 4, .int .i64 0, .string ⟨#[]⟩, .slice none 0 0, .slice (some ⟨wr.heap.size, 0, none⟩) 1 1] 25 (0, 0)) := by rw [hw2]; exact setRow_heap _ _ _ _ _ _ HA2.out
      have hoE : ∀ b, b ≠ W.heap.size → w2.heap[b]? = wa.heap[b]? := fun b hb => by rw [hw2]; exact setRow_other _ _ _ _ hb
      have hBE : Below W.heap.size W w2 := HBk.out.trans ((HBA.out.mono (by omega)).trans ⟨by rw [hw2]; rfl, by rw [hw2]; rfl, by rw [hw2]; rfl, by rw [hw2]; simp, fun b hb => hoE b (by omega)⟩)
      have hDE := DeepR.list (w' := w2) (b := wr.heap.size) HDk.out hlw (fun b hb hS => (hoE b (by have : W.heap.size < b := hS; omega)).trans (HBA.out.block b hb)) ((hoE _ (by omega)).trans HKb.out)
      have HDE : Hid (DeepR (fun b => W.heap.size < b) false (j + 1) _ w2) := hDE
      have HXE : Hid (w2.heap[W.heap.size]? = some (.cells #[.int .i64 4, .int .i64 0, .string ⟨#[]⟩, .slice none 0 0, .slice (some ⟨wr.heap.size, 0, none⟩) 1 1] 25 (0, 0))) := hXE
      have HBE : Hid (Below W.heap.size W w2) := hBE
      clear hw2 hXE hoE hBE hA hDE x0 x1 x2 x3 x4
      go_wp2
      refine ⟨⟨j + 1, by omega, by go_num, ?_, ?_, HBE.out, _, _, _, _, _, HXE.out, ?_, HDE.out⟩, by simp [intOf]; omega⟩
      · rw [HP.out]; exact congrArg Value.string ((str_strOf (preN_dig false j).1).app (str_lit (bs := [91]) (by decide))).eq
      · rw [HE.out]; exact congrArg Value.string ((str_strOf (endN_dig false j).1).app (str_lit (bs := [93]) (by decide))).eq
      · simp [Value.oneCell']
    · obtain rfl : j = K := by omega
      have hlt : ¬ (j : Int) < (j : Int) := by omega
      have hG1 : ¬ 9223372036854775807 < P.size + 4 := by omega
      have hG2 : ¬ 9223372036854775807 < P.size + 4 + E.size := by omega
      have HST : Hid (Str (P ++ ⟨#[110, 117, 108, 108]⟩ ++ E) (preN false j ++ [110, 117, 108, 108] ++ endN false j)) := by
        show Str _ _
        rw [HP.out, HE.out]
        exact ((str_strOf (preN_dig false j).1).app (str_lit (bs := [110, 117, 108, 108]) (by decide))).app (str_strOf (endN_dig false j).1)
      have HLN : Hid ((preN false j ++ [110, 117, 108, 108] ++ endN false j).length ≤ 2000) := by
        show _ ≤ _
        have := (preN_dig false j).2
        have := (endN_dig false j).2
        simp only [List.length_append, List.length_cons, List.length_nil]
        omega
      have hr1 := readP wr HST.out
      have hJV : JV (deepT false 20 j) (.agg #[d0, d1, d2, d3, d4]) wr := ⟨_, rfl, rfl, JM.jc _ _ _ _ (HDk.out 20 (by omega))⟩
      have HJV : Hid _ := hJV
      have hsk := HBk.out.size
      clear hJV x0 x1 x2 x3 x4
      by_cases h6 : j ≤ 6
      · have h6' : ¬ (6 : Int) < (j : Int) := by omega
        have HIS : Hid (IsJ 21 6 (deepT false 20 j)) := deepT_is false 20 j 6 h6 (by omega)
        have HRD : Hid (readL (preN false j ++ [110, 117, 108, 108] ++ endN false j) = .ok (deepT false 6 j)) := readL_deep false j h6
        go_wp2_with fail
        refine Calls.mono hr1 ?_
        rintro e w1 ⟨cs, er, rfl, h5, hone1, hB1, _, hq⟩
        have hq := hq HLN.out
        rw [HRD.out] at hq
        obtain ⟨rfl, hJ1⟩ := hq
        obtain ⟨e0, e1, e2, e3, e4, rfl⟩ := arr5 h5
        have hN := heap_alloc_new w1 (.cells zero5 25)
        unfold zero5 at hN
        clear hr1 h5
        go_wp2_with (refine wpList_store_row rfl 25 (.tmp 9) (.tmp 49) rfl w1.heap.size #[e0, e1, e2, e3, e4] rfl rfl 25 _ hN size25 rfl hone1 ?_; refine Hid.out ?_)
        obtain ⟨w2, hw2⟩ : ∃ w2, w2 = (w1.alloc (.cells #[.int .i64 0, .int .i64 0, .string ⟨#[]⟩, .slice none 0 0, .slice none 0 0] 25)).setRow w1.heap.size #[e0, e1, e2, e3, e4] := ⟨_, rfl⟩
        rw [← hw2]
        refine Lib.hid ?_
        have hB2 : Below w1.heap.size w1 w2 := by rw [hw2]; exact (below1 _ _).trans ⟨rfl, rfl, rfl, by simp, fun b hb => setRow_other _ _ _ _ (by omega)⟩
        have hY2 : w2.heap[w1.heap.size]? = some (.cells #[e0, e1, e2, e3, e4] 25 (0, 0)) := by rw [hw2]; exact setRow_heap _ _ _ _ _ _ hN
        have hs1 := hB1.size
        have hBr : Below wr.heap.size wr w2 := hB1.trans (hB2.mono hs1)
        have hBw : Below W.heap.size W w2 := HBk.out.trans (hBr.mono hsk)
        have HB2 : Hid (Below W.heap.size W w2) := hBw
        have hX2 := block_below hBr hlw HXk.out
        have x0 : w2.cell? ⟨W.heap.size, 0, none⟩ = some d0 := (cell_of_row _ _ _ _ _ _ hX2).trans rfl
        have x1 : w2.cell? ⟨W.heap.size, 1, none⟩ = some d1 := (cell_of_row _ _ _ _ _ _ hX2).trans rfl
        have x2 : w2.cell? ⟨W.heap.size, 2, none⟩ = some d2 := (cell_of_row _ _ _ _ _ _ hX2).trans rfl
        have x3 : w2.cell? ⟨W.heap.size, 3, none⟩ = some d3 := (cell_of_row _ _ _ _ _ _ hX2).trans rfl
        have x4 : w2.cell? ⟨W.heap.size, 4, none⟩ = some d4 := (cell_of_row _ _ _ _ _ _ hX2).trans rfl
        have hjA : JV (deepT false 6 j) (.agg #[e0, e1, e2, e3, e4]) w2 := ⟨_, rfl, rfl, JM.jc _ _ _ _ (hJ1.stb hB2)⟩
        have HjA : Hid _ := hjA
        have hw := writeP (n := 20) (deepT false 20 j) _ w2 (HT.out.below HB2.out) (isJ_full 21 20 _ (deepT_is false 20 j 20 (by omega) (by omega))) (deepT_txt false 20 j) (JV.stb _ _ _ _ hBr HJV.out)
        have HBR : Hid (Below wr.heap.size wr w2) := hBr
        have HY2 : Hid (w2.heap[w1.heap.size]? = some (.cells #[e0, e1, e2, e3, e4] 25 (0, 0))) := hY2
        have HX2 : Hid (w2.heap[W.heap.size]? = some (.cells #[d0, d1, d2, d3, d4] 25 (0, 0))) := hX2
        clear hw2 hN hB1 hB2 hJ1 hjA hBr hX2 hY2 hBw
        go_wp2_with fail
        refine Calls.mono hw ?_
        rintro e w3 ⟨v, rfl, hB3, hq⟩
        have hv := hq.1 HIS.out (by rw [deepT_write false 20 j (by omega)]; exact HLN.out)
        rw [deepT_write false 20 j (by omega), ← HST.out.eq] at hv
        subst hv
        have hX3 := block_below hB3 (lt_of_heap HX2.out) HX2.out
        have hY3 := block_below hB3 (lt_of_heap HY2.out) HY2.out
        have y0 : w3.cell? ⟨w1.heap.size, 0, none⟩ = some e0 := (cell_of_row _ _ _ _ _ _ hY3).trans rfl
        have y1 : w3.cell? ⟨w1.heap.size, 1, none⟩ = some e1 := (cell_of_row _ _ _ _ _ _ hY3).trans rfl
        have y2 : w3.cell? ⟨w1.heap.size, 2, none⟩ = some e2 := (cell_of_row _ _ _ _ _ _ hY3).trans rfl
        have y3 : w3.cell? ⟨w1.heap.size, 3, none⟩ = some e3 := (cell_of_row _ _ _ _ _ _ hY3).trans rfl
        have y4 : w3.cell? ⟨w1.heap.size, 4, none⟩ = some e4 := (cell_of_row _ _ _ _ _ _ hY3).trans rfl
        have z0 : w3.cell? ⟨W.heap.size, 0, none⟩ = some d0 := (cell_of_row _ _ _ _ _ _ hX3).trans rfl
        have z1 : w3.cell? ⟨W.heap.size, 1, none⟩ = some d1 := (cell_of_row _ _ _ _ _ _ hX3).trans rfl
        have z2 : w3.cell? ⟨W.heap.size, 2, none⟩ = some d2 := (cell_of_row _ _ _ _ _ _ hX3).trans rfl
        have z3 : w3.cell? ⟨W.heap.size, 3, none⟩ = some d3 := (cell_of_row _ _ _ _ _ _ hX3).trans rfl
        have z4 : w3.cell? ⟨W.heap.size, 4, none⟩ = some d4 := (cell_of_row _ _ _ _ _ _ hX3).trans rfl
        have hBr3 := HBR.out.trans (hB3.mono HBR.out.size)
        have hjB : JV (deepT false 6 j) (.agg #[d0, d1, d2, d3, d4]) w3 := JV.stb _ _ _ _ hBr3 (⟨_, rfl, rfl, JM.jc _ _ _ _ (HDk.out 6 h6)⟩ : JV (deepT false 6 j) (.agg #[d0, d1, d2, d3, d4]) wr)
        have hsm := sameJ 7 _ _ _ _ w3 (isJ_full 7 6 _ (deepT_is false 6 j 6 h6 h6)) (isJ_full 7 6 _ (deepT_is false 6 j 6 h6 h6)) (JV.stb _ _ _ _ hB3 HjA.out) hjB
        have hs2 := HB2.out.size
        have HB3 : Hid (Below W.heap.size W w3) := HB2.out.trans (hB3.mono hs2)
        clear hw hq hB3 hX3 hY3 hjB hBr3 x0 x1 x2 x3 x4
        go_wp2_with fail
        refine Calls.mono hsm ?_
        rintro e w4 ⟨_, rfl, hB4, c, rfl, hc⟩
        obtain rfl : c = true := hc.2 rfl
        have hs3 := HB3.out.size
        have HB4 : Hid (Below W.heap.size W w4) := HB3.out.trans (hB4.mono hs3)
        clear hsm hB4 hc y0 y1 y2 y3 y4 z0 z1 z2 z3 z4
        go_wp2_with fail
        refine (livesP _ (HT.out.below HB4.out)).mono ?_
        rintro e w6 ⟨_, rfl, hB6, rfl⟩
        have hs4 := HB4.out.size
        have HB6 : Hid (Below W.heap.size W w6) := HB4.out.trans (hB6.mono hs4)
        clear hB6
        go_wp2
        go_ret
        exact ⟨_, rfl, HB6.out, rfl⟩
      · have h6' : (6 : Int) < (j : Int) := by omega
        have HIS : Hid (¬ IsJ 21 6 (deepT false 20 j)) := deepT_not false 20 j 6 (by omega) (by omega)
        have HRD : Hid (readL (preN false j ++ [110, 117, 108, 108] ++ endN false j) = .error 9) := readL_too false j (by omega)
        go_wp2_with fail
        refine Calls.mono hr1 ?_
        rintro e w1 ⟨cs, er, rfl, h5, hone1, hB1, _, hq⟩
        have hq := hq HLN.out
        rw [HRD.out] at hq
        obtain ⟨rfl, _, rfl⟩ := hq
        unfold zero5
        have hN := heap_alloc_new w1 (.cells zero5 25)
        unfold zero5 at hN
        clear hr1 h5 hone1
        go_wp2_with (refine wpList_store_row rfl 25 (.tmp 9) (.tmp 49) rfl w1.heap.size #[.int .i64 0, .int .i64 0, .string ⟨#[]⟩, .slice none 0 0, .slice none 0 0] rfl rfl 25 _ hN size25 rfl (one5 _ _ _) ?_; refine Hid.out ?_)
        obtain ⟨w2, hw2⟩ : ∃ w2, w2 = (w1.alloc (.cells #[.int .i64 0, .int .i64 0, .string ⟨#[]⟩, .slice none 0 0, .slice none 0 0] 25)).setRow w1.heap.size #[.int .i64 0, .int .i64 0, .string ⟨#[]⟩, .slice none 0 0, .slice none 0 0] := ⟨_, rfl⟩
        rw [← hw2]
        refine Lib.hid ?_
        have hB2 : Below w1.heap.size w1 w2 := by rw [hw2]; exact (below1 _ _).trans ⟨rfl, rfl, rfl, by simp, fun b hb => setRow_other _ _ _ _ (by omega)⟩
        have hY2 : w2.heap[w1.heap.size]? = some (.cells #[.int .i64 0, .int .i64 0, .string ⟨#[]⟩, .slice none 0 0, .slice none 0 0] 25 (0, 0)) := by rw [hw2]; exact setRow_heap _ _ _ _ _ _ hN
        have hs1 := hB1.size
        have hBr : Below wr.heap.size wr w2 := hB1.trans (hB2.mono hs1)
        have hBw : Below W.heap.size W w2 := HBk.out.trans (hBr.mono hsk)
        have HB2 : Hid (Below W.heap.size W w2) := hBw
        have hX2 := block_below hBr hlw HXk.out
        have x0 : w2.cell? ⟨W.heap.size, 0, none⟩ = some d0 := (cell_of_row _ _ _ _ _ _ hX2).trans rfl
        have x1 : w2.cell? ⟨W.heap.size, 1, none⟩ = some d1 := (cell_of_row _ _ _ _ _ _ hX2).trans rfl
        have x2 : w2.cell? ⟨W.heap.size, 2, none⟩ = some d2 := (cell_of_row _ _ _ _ _ _ hX2).trans rfl
        have x3 : w2.cell? ⟨W.heap.size, 3, none⟩ = some d3 := (cell_of_row _ _ _ _ _ _ hX2).trans rfl
        have x4 : w2.cell? ⟨W.heap.size, 4, none⟩ = some d4 := (cell_of_row _ _ _ _ _ _ hX2).trans rfl
        have hw := writeP (n := 20) (deepT false 20 j) _ w2 (HT.out.below HB2.out) (isJ_full 21 20 _ (deepT_is false 20 j 20 (by omega) (by omega))) (deepT_txt false 20 j) (JV.stb _ _ _ _ hBr HJV.out)
        have HY2 : Hid (w2.heap[w1.heap.size]? = some (.cells #[.int .i64 0, .int .i64 0, .string ⟨#[]⟩, .slice none 0 0, .slice none 0 0] 25 (0, 0))) := hY2
        clear hw2 hN hB1 hB2 hBr hX2 hY2 hBw
        go_wp2_with fail
        refine Calls.mono hw ?_
        rintro e w3 ⟨v, rfl, hB3, hq⟩
        have hv := hq.2.2 HIS.out
        subst hv
        have hY3 := block_below hB3 (lt_of_heap HY2.out) HY2.out
        have y0 : w3.cell? ⟨w1.heap.size, 0, none⟩ = some (.int .i64 0) := (cell_of_row _ _ _ _ _ _ hY3).trans rfl
        have hs2 := HB2.out.size
        have HB3 : Hid (Below W.heap.size W w3) := HB2.out.trans (hB3.mono hs2)
        clear hw hq hB3 hY3 x0 x1 x2 x3 x4
        go_wp2_with fail
        refine (livesP _ (HT.out.below HB3.out)).mono ?_
        rintro e w6 ⟨_, rfl, hB6, rfl⟩
        have hs4 := HB3.out.size
        have HB6 : Hid (Below W.heap.size W w6) := HB3.out.trans (hB6.mono hs4)
        clear hB6
        go_wp2
        go_ret
        exact ⟨_, rfl, HB6.out, rfl⟩
theorem jsonDeepB (W : World) (hT : Tab W) {n : Int} (h1 : -9223372036854775808 ≤ n) (h2 : n ≤ 9223372036854775807) (hn : 0 ≤ n) : Ret 6 #[.int .i64 n, .bool true] W (Is (.bool true)) := by
  have hneg : ¬ n < 0 := by omega
  obtain ⟨K, hK, hK21⟩ := tmodK (n) (by omega)
  have HT : Hid (Tab W) := hT
  have hN := heap_alloc_new W (.cells zero5 25)
  unfold zero5 at hN
  clear hT
  unfold Ret
  go_enter Tryd.func6, Tryd.ntmps6
  go_wp2_with (refine wpList_store_row rfl 25 (.tmp 7) (.tmp 21) rfl W.heap.size #[.int .i64 0, .int .i64 0, .string ⟨#[]⟩, .slice none 0 0, .slice none 0 0] rfl rfl 25 _ hN size25 rfl (one5 _ _ _) ?_)
  obtain ⟨w1, hw1⟩ : ∃ w1, w1 = (W.alloc (.cells #[.int .i64 0, .int .i64 0, .string ⟨#[]⟩, .slice none 0 0, .slice none 0 0] 25)).setRow W.heap.size #[.int .i64 0, .int .i64 0, .string ⟨#[]⟩, .slice none 0 0, .slice none 0 0] := ⟨_, rfl⟩
  rw [← hw1]
  have hB1 : Below W.heap.size W w1 := by rw [hw1]; exact (below1 _ _).trans ⟨rfl, rfl, rfl, by simp, fun b hb => setRow_other _ _ _ _ (by omega)⟩
  have hX1 : w1.heap[W.heap.size]? = some (.cells #[.int .i64 0, .int .i64 0, .string ⟨#[]⟩, .slice none 0 0, .slice none 0 0] 25 (0, 0)) := by rw [hw1]; exact setRow_heap _ _ _ _ _ _ hN
  have HB1 : Hid (Below W.heap.size W w1) := hB1
  have HX1 : Hid (w1.heap[W.heap.size]? = some (.cells #[.int .i64 0, .int .i64 0, .string ⟨#[]⟩, .slice none 0 0, .slice none 0 0] 25 (0, 0))) := hX1
  clear hw1 hN hB1 hX1
  go_loopw [5, 6, 8] (fun sv ev iv wr => ∃ j : Nat, j ≤ K ∧ iv = .int .i64 j ∧ sv = .string (strOf (preN true j)) ∧ ev = .string (strOf (endN true j)) ∧ Below W.heap.size W wr ∧ ∃ d0 d1 d2 d3 d4, wr.heap[W.heap.size]? = some (.cells #[d0, d1, d2, d3, d4] 25 (0, 0)) ∧ (#[d0, d1, d2, d3, d4] : Array Value).all (·.oneCell') = true ∧ DeepR (fun b => W.heap.size < b) true j [d0, d1, d2, d3, d4] wr) (fun sv ev iv _ => K - (intOf iv).toNat)
  case atStart => exact ⟨0, by omega, rfl, rfl, rfl, HB1.out, _, _, _, _, _, HX1.out, one5 _ _ _, DeepR.zero _ _ _⟩
  case round =>
    obtain ⟨j, hj, rfl, rfl, rfl, hBk, d0, d1, d2, d3, d4, hXk, hone, hDk⟩ := hrel
    have hlw := lt_of_heap hXk
    have x0 : wr.cell? ⟨W.heap.size, 0, none⟩ = some d0 := (cell_of_row _ _ _ _ _ _ hXk).trans rfl
    have x1 : wr.cell? ⟨W.heap.size, 1, none⟩ = some d1 := (cell_of_row _ _ _ _ _ _ hXk).trans rfl
    have x2 : wr.cell? ⟨W.heap.size, 2, none⟩ = some d2 := (cell_of_row _ _ _ _ _ _ hXk).trans rfl
    have x3 : wr.cell? ⟨W.heap.size, 3, none⟩ = some d3 := (cell_of_row _ _ _ _ _ _ hXk).trans rfl
    have x4 : wr.cell? ⟨W.heap.size, 4, none⟩ = some d4 := (cell_of_row _ _ _ _ _ _ hXk).trans rfl
    obtain ⟨P, hP⟩ : ∃ P, P = strOf (preN true j) := ⟨_, rfl⟩
    obtain ⟨E, hE⟩ : ∃ E, E = strOf (endN true j) := ⟨_, rfl⟩
    rw [← hP, ← hE]
    have hPs : P.size ≤ 100 := by rw [hP, strOf_size]; have := (preN_dig true j).2; omega
    have hEs : E.size ≤ 100 := by rw [hE, strOf_size]; have := (endN_dig true j).2; omega
    have HP : Hid (P = strOf (preN true j)) := hP
    have HE : Hid (E = strOf (endN true j)) := hE
    have HDk : Hid (DeepR (fun b => W.heap.size < b) true j [d0, d1, d2, d3, d4] wr) := hDk
    have HBk : Hid (Below W.heap.size W wr) := hBk
    have HXk : Hid (wr.heap[W.heap.size]? = some (.cells #[d0, d1, d2, d3, d4] 25 (0, 0))) := hXk
    clear hP hE hBk hDk hXk
    by_cases hjK : j < K
    · have hlt : (j : Int) < (K : Int) := by omega
      have hP1 : ¬ 9223372036854775807 < P.size + 5 := by omega
      have hE1 : ¬ 9223372036854775807 < E.size + 1 := by omega
      obtain ⟨wa, hwa⟩ : ∃ wa, wa = (wr.alloc (.cells #[.string ⟨#[97]⟩] 9)).alloc (.cells #[d0, d1, d2, d3, d4] 25) := ⟨_, rfl⟩
      have hA : wa.heap[W.heap.size]? = some (.cells #[d0, d1, d2, d3, d4] 25 (0, 0)) := by rw [hwa]; exact (Lib.alloc_old _ _ _ (by simp; omega)).trans ((Lib.alloc_old _ _ _ hlw).trans HXk.out)
      have HWA : Hid (wa = (wr.alloc (.cells #[.string ⟨#[97]⟩] 9)).alloc (.cells #[d0, d1, d2, d3, d4] 25)) := hwa
      have hB1' := heap_alloc_new (wr.alloc (.cells #[.string ⟨#[97]⟩] 9)) (.cells #[d0, d1, d2, d3, d4] 25)
      have HKa : Hid (wa.heap[wr.heap.size]? = some (.cells #[.string ⟨#[97]⟩] 9 (0, 0))) := by show _ = _; rw [hwa]; exact (Lib.alloc_old _ _ _ (by simp)).trans (heap_alloc_new _ _)
      have HKb : Hid (wa.heap[wr.heap.size + 1]? = some (.cells #[d0, d1, d2, d3, d4] 25 (0, 0))) := by show _ = _; rw [hwa]; simpa using hB1'
      have HBA : Hid (Below wr.heap.size wr wa) := by show Below _ _ _; rw [hwa]; exact ((Below.refl _ _).alloc (Nat.le_refl _) _).alloc (by simp) _
      clear hB1'
      have HA2 : Hid (wa.heap[W.heap.size]? = some (.cells #[d0, d1, d2, d3, d4] 25 (0, 0))) := hA
      rw [hwa] at hA
      clear hwa
      go_wp2_with (refine wpList_store_row rfl 25 (.tmp 7) (.tmp 35) rfl W.heap.size #[.int .i64 5, .int .i64 0, .string ⟨#[]⟩, .slice (some ⟨wr.heap.size, 0, none⟩) 1 1, .slice (some ⟨wr.heap.size + 1, 0, none⟩) 1 1] rfl rfl 25 _ hA size25 rfl (by simp [Value.oneCell']) ?_; rw [← HWA.out]; refine Hid.out ?_)
      obtain ⟨w2, hw2⟩ : ∃ w2, w2 = wa.setRow W.heap.size #[.int .i64 5, .int .i64 0, .string ⟨#[]⟩, .slice (some ⟨wr.heap.size, 0, none⟩) 1 1, .slice (some ⟨wr.heap.size + 1, 0, none⟩) 1 1] := ⟨_, rfl⟩
      rw [← hw2]
      refine Lib.hid ?_
      have hXE : w2.heap[W.heap.size]? = some (.cells #[.int .i64 5, .int .i64 0, .string ⟨#[]⟩, .slice (some ⟨wr.heap.size, 0, none⟩) 1 1, .slice (some ⟨wr.heap.size + 1, 0, none⟩) 1 1] 25 (0, 0)) := by rw [hw2]; exact setRow_heap _ _ _ _ _ _ HA2.out
      have hoE : ∀ b, b ≠ W.heap.size → w2.heap[b]? = wa.heap[b]? := fun b hb => by rw [hw2]; exact setRow_other _ _ _ _ hb
      have hBE : Below W.heap.size W w2 := HBk.out.trans ((HBA.out.mono (by omega)).trans ⟨by rw [hw2]; rfl, by rw [hw2]; rfl, by rw [hw2]; rfl, by rw [hw2]; simp, fun b hb => hoE b (by omega)⟩)
      have hDE := DeepR.map (w' := w2) (a := wr.heap.size) (b := wr.heap.size + 1) HDk.out hlw (show W.heap.size < wr.heap.size + 1 by omega) (fun b hb hS => (hoE b (by have : W.heap.size < b := hS; omega)).trans (HBA.out.block b hb)) ((hoE _ (by omega)).trans HKa.out) ((hoE _ (by omega)).trans HKb.out)
      have HDE : Hid (DeepR (fun b => W.heap.size < b) true (j + 1) _ w2) := hDE
      have HXE : Hid (w2.heap[W.heap.size]? = some (.cells #[.int .i64 5, .int .i64 0, .string ⟨#[]⟩, .slice (some ⟨wr.heap.size, 0, none⟩) 1 1, .slice (some ⟨wr.heap.size + 1, 0, none⟩) 1 1] 25 (0, 0))) := hXE
      have HBE : Hid (Below W.heap.size W w2) := hBE
      clear hw2 hXE hoE hBE hA hDE x0 x1 x2 x3 x4
      go_wp2
      refine ⟨⟨j + 1, by omega, by go_num, ?_, ?_, HBE.out, _, _, _, _, _, HXE.out, ?_, HDE.out⟩, by simp [intOf]; omega⟩
      · rw [HP.out]; exact congrArg Value.string ((str_strOf (preN_dig true j).1).app (str_lit (bs := [123, 34, 97, 34, 58]) (by decide))).eq
      · rw [HE.out]; exact congrArg Value.string ((str_strOf (endN_dig true j).1).app (str_lit (bs := [125]) (by decide))).eq
      · simp [Value.oneCell']
    · obtain rfl : j = K := by omega
      have hlt : ¬ (j : Int) < (j : Int) := by omega
      have hG1 : ¬ 9223372036854775807 < P.size + 4 := by omega
      have hG2 : ¬ 9223372036854775807 < P.size + 4 + E.size := by omega
      have HST : Hid (Str (P ++ ⟨#[110, 117, 108, 108]⟩ ++ E) (preN true j ++ [110, 117, 108, 108] ++ endN true j)) := by
        show Str _ _
        rw [HP.out, HE.out]
        exact ((str_strOf (preN_dig true j).1).app (str_lit (bs := [110, 117, 108, 108]) (by decide))).app (str_strOf (endN_dig true j).1)
      have HLN : Hid ((preN true j ++ [110, 117, 108, 108] ++ endN true j).length ≤ 2000) := by
        show _ ≤ _
        have := (preN_dig true j).2
        have := (endN_dig true j).2
        simp only [List.length_append, List.length_cons, List.length_nil]
        omega
      have hr1 := readP wr HST.out
      have hJV : JV (deepT true 20 j) (.agg #[d0, d1, d2, d3, d4]) wr := ⟨_, rfl, rfl, JM.jc _ _ _ _ (HDk.out 20 (by omega))⟩
      have HJV : Hid _ := hJV
      have hsk := HBk.out.size
      clear hJV x0 x1 x2 x3 x4
      by_cases h6 : j ≤ 6
      · have h6' : ¬ (6 : Int) < (j : Int) := by omega
        have HIS : Hid (IsJ 21 6 (deepT true 20 j)) := deepT_is true 20 j 6 h6 (by omega)
        have HRD : Hid (readL (preN true j ++ [110, 117, 108, 108] ++ endN true j) = .ok (deepT true 6 j)) := readL_deep true j h6
        go_wp2_with fail
        refine Calls.mono hr1 ?_
        rintro e w1 ⟨cs, er, rfl, h5, hone1, hB1, _, hq⟩
        have hq := hq HLN.out
        rw [HRD.out] at hq
        obtain ⟨rfl, hJ1⟩ := hq
        obtain ⟨e0, e1, e2, e3, e4, rfl⟩ := arr5 h5
        have hN := heap_alloc_new w1 (.cells zero5 25)
        unfold zero5 at hN
        clear hr1 h5
        go_wp2_with (refine wpList_store_row rfl 25 (.tmp 9) (.tmp 49) rfl w1.heap.size #[e0, e1, e2, e3, e4] rfl rfl 25 _ hN size25 rfl hone1 ?_; refine Hid.out ?_)
        obtain ⟨w2, hw2⟩ : ∃ w2, w2 = (w1.alloc (.cells #[.int .i64 0, .int .i64 0, .string ⟨#[]⟩, .slice none 0 0, .slice none 0 0] 25)).setRow w1.heap.size #[e0, e1, e2, e3, e4] := ⟨_, rfl⟩
        rw [← hw2]
        refine Lib.hid ?_
        have hB2 : Below w1.heap.size w1 w2 := by rw [hw2]; exact (below1 _ _).trans ⟨rfl, rfl, rfl, by simp, fun b hb => setRow_other _ _ _ _ (by omega)⟩
        have hY2 : w2.heap[w1.heap.size]? = some (.cells #[e0, e1, e2, e3, e4] 25 (0, 0)) := by rw [hw2]; exact setRow_heap _ _ _ _ _ _ hN
        have hs1 := hB1.size
        have hBr : Below wr.heap.size wr w2 := hB1.trans (hB2.mono hs1)
        have hBw : Below W.heap.size W w2 := HBk.out.trans (hBr.mono hsk)
        have HB2 : Hid (Below W.heap.size W w2) := hBw
        have hX2 := block_below hBr hlw HXk.out
        have x0 : w2.cell? ⟨W.heap.size, 0, none⟩ = some d0 := (cell_of_row _ _ _ _ _ _ hX2).trans rfl
        have x1 : w2.cell? ⟨W.heap.size, 1, none⟩ = some d1 := (cell_of_row _ _ _ _ _ _ hX2).trans rfl
        have x2 : w2.cell? ⟨W.heap.size, 2, none⟩ = some d2 := (cell_of_row _ _ _ _ _ _ hX2).trans rfl
        have x3 : w2.cell? ⟨W.heap.size, 3, none⟩ = some d3 := (cell_of_row _ _ _ _ _ _ hX2).trans rfl
        have x4 : w2.cell? ⟨W.heap.size, 4, none⟩ = some d4 := (cell_of_row _ _ _ _ _ _ hX2).trans rfl
        have hjA : JV (deepT true 6 j) (.agg #[e0, e1, e2, e3, e4]) w2 := ⟨_, rfl, rfl, JM.jc _ _ _ _ (hJ1.stb hB2)⟩
        have HjA : Hid _ := hjA
        have hw := writeP (n := 20) (deepT true 20 j) _ w2 (HT.out.below HB2.out) (isJ_full 21 20 _ (deepT_is true 20 j 20 (by omega) (by omega))) (deepT_txt true 20 j) (JV.stb _ _ _ _ hBr HJV.out)
        have HBR : Hid (Below wr.heap.size wr w2) := hBr
        have HY2 : Hid (w2.heap[w1.heap.size]? = some (.cells #[e0, e1, e2, e3, e4] 25 (0, 0))) := hY2
        have HX2 : Hid (w2.heap[W.heap.size]? = some (.cells #[d0, d1, d2, d3, d4] 25 (0, 0))) := hX2
        clear hw2 hN hB1 hB2 hJ1 hjA hBr hX2 hY2 hBw
        go_wp2_with fail
        refine Calls.mono hw ?_
        rintro e w3 ⟨v, rfl, hB3, hq⟩
        have hv := hq.1 HIS.out (by rw [deepT_write true 20 j (by omega)]; exact HLN.out)
        rw [deepT_write true 20 j (by omega), ← HST.out.eq] at hv
        subst hv
        have hX3 := block_below hB3 (lt_of_heap HX2.out) HX2.out
        have hY3 := block_below hB3 (lt_of_heap HY2.out) HY2.out
        have y0 : w3.cell? ⟨w1.heap.size, 0, none⟩ = some e0 := (cell_of_row _ _ _ _ _ _ hY3).trans rfl
        have y1 : w3.cell? ⟨w1.heap.size, 1, none⟩ = some e1 := (cell_of_row _ _ _ _ _ _ hY3).trans rfl
        have y2 : w3.cell? ⟨w1.heap.size, 2, none⟩ = some e2 := (cell_of_row _ _ _ _ _ _ hY3).trans rfl
        have y3 : w3.cell? ⟨w1.heap.size, 3, none⟩ = some e3 := (cell_of_row _ _ _ _ _ _ hY3).trans rfl
        have y4 : w3.cell? ⟨w1.heap.size, 4, none⟩ = some e4 := (cell_of_row _ _ _ _ _ _ hY3).trans rfl
        have z0 : w3.cell? ⟨W.heap.size, 0, none⟩ = some d0 := (cell_of_row _ _ _ _ _ _ hX3).trans rfl
        have z1 : w3.cell? ⟨W.heap.size, 1, none⟩ = some d1 := (cell_of_row _ _ _ _ _ _ hX3).trans rfl
        have z2 : w3.cell? ⟨W.heap.size, 2, none⟩ = some d2 := (cell_of_row _ _ _ _ _ _ hX3).trans rfl
        have z3 : w3.cell? ⟨W.heap.size, 3, none⟩ = some d3 := (cell_of_row _ _ _ _ _ _ hX3).trans rfl
        have z4 : w3.cell? ⟨W.heap.size, 4, none⟩ = some d4 := (cell_of_row _ _ _ _ _ _ hX3).trans rfl
        have hBr3 := HBR.out.trans (hB3.mono HBR.out.size)
        have hjB : JV (deepT true 6 j) (.agg #[d0, d1, d2, d3, d4]) w3 := JV.stb _ _ _ _ hBr3 (⟨_, rfl, rfl, JM.jc _ _ _ _ (HDk.out 6 h6)⟩ : JV (deepT true 6 j) (.agg #[d0, d1, d2, d3, d4]) wr)
        have hsm := sameJ 7 _ _ _ _ w3 (isJ_full 7 6 _ (deepT_is true 6 j 6 h6 h6)) (isJ_full 7 6 _ (deepT_is true 6 j 6 h6 h6)) (JV.stb _ _ _ _ hB3 HjA.out) hjB
        have hs2 := HB2.out.size
        have HB3 : Hid (Below W.heap.size W w3) := HB2.out.trans (hB3.mono hs2)
        clear hw hq hB3 hX3 hY3 hjB hBr3 x0 x1 x2 x3 x4
        go_wp2_with fail
        refine Calls.mono hsm ?_
        rintro e w4 ⟨_, rfl, hB4, c, rfl, hc⟩
        obtain rfl : c = true := hc.2 rfl
        have hs3 := HB3.out.size
        have HB4 : Hid (Below W.heap.size W w4) := HB3.out.trans (hB4.mono hs3)
        clear hsm hB4 hc y0 y1 y2 y3 y4 z0 z1 z2 z3 z4
        go_wp2_with fail
        refine (livesP _ (HT.out.below HB4.out)).mono ?_
        rintro e w6 ⟨_, rfl, hB6, rfl⟩
        have hs4 := HB4.out.size
        have HB6 : Hid (Below W.heap.size W w6) := HB4.out.trans (hB6.mono hs4)
        clear hB6
        go_wp2
        go_ret
        exact ⟨_, rfl, HB6.out, rfl⟩
      · have h6' : (6 : Int) < (j : Int) := by omega
        have HIS : Hid (¬ IsJ 21 6 (deepT true 20 j)) := deepT_not true 20 j 6 (by omega) (by omega)
        have HRD : Hid (readL (preN true j ++ [110, 117, 108, 108] ++ endN true j) = .error 9) := readL_too true j (by omega)
        go_wp2_with fail
        refine Calls.mono hr1 ?_
        rintro e w1 ⟨cs, er, rfl, h5, hone1, hB1, _, hq⟩
        have hq := hq HLN.out
        rw [HRD.out] at hq
        obtain ⟨rfl, _, rfl⟩ := hq
        unfold zero5
        have hN := heap_alloc_new w1 (.cells zero5 25)
        unfold zero5 at hN
        clear hr1 h5 hone1
        go_wp2_with (refine wpList_store_row rfl 25 (.tmp 9) (.tmp 49) rfl w1.heap.size #[.int .i64 0, .int .i64 0, .string ⟨#[]⟩, .slice none 0 0, .slice none 0 0] rfl rfl 25 _ hN size25 rfl (one5 _ _ _) ?_; refine Hid.out ?_)
        obtain ⟨w2, hw2⟩ : ∃ w2, w2 = (w1.alloc (.cells #[.int .i64 0, .int .i64 0, .string ⟨#[]⟩, .slice none 0 0, .slice none 0 0] 25)).setRow w1.heap.size #[.int .i64 0, .int .i64 0, .string ⟨#[]⟩, .slice none 0 0, .slice none 0 0] := ⟨_, rfl⟩
        rw [← hw2]
        refine Lib.hid ?_
        have hB2 : Below w1.heap.size w1 w2 := by rw [hw2]; exact (below1 _ _).trans ⟨rfl, rfl, rfl, by simp, fun b hb => setRow_other _ _ _ _ (by omega)⟩
        have hY2 : w2.heap[w1.heap.size]? = some (.cells #[.int .i64 0, .int .i64 0, .string ⟨#[]⟩, .slice none 0 0, .slice none 0 0] 25 (0, 0)) := by rw [hw2]; exact setRow_heap _ _ _ _ _ _ hN
        have hs1 := hB1.size
        have hBr : Below wr.heap.size wr w2 := hB1.trans (hB2.mono hs1)
        have hBw : Below W.heap.size W w2 := HBk.out.trans (hBr.mono hsk)
        have HB2 : Hid (Below W.heap.size W w2) := hBw
        have hX2 := block_below hBr hlw HXk.out
        have x0 : w2.cell? ⟨W.heap.size, 0, none⟩ = some d0 := (cell_of_row _ _ _ _ _ _ hX2).trans rfl
        have x1 : w2.cell? ⟨W.heap.size, 1, none⟩ = some d1 := (cell_of_row _ _ _ _ _ _ hX2).trans rfl
        have x2 : w2.cell? ⟨W.heap.size, 2, none⟩ = some d2 := (cell_of_row _ _ _ _ _ _ hX2).trans rfl
        have x3 : w2.cell? ⟨W.heap.size, 3, none⟩ = some d3 := (cell_of_row _ _ _ _ _ _ hX2).trans rfl
        have x4 : w2.cell? ⟨W.heap.size, 4, none⟩ = some d4 := (cell_of_row _ _ _ _ _ _ hX2).trans rfl
        have hw := writeP (n := 20) (deepT true 20 j) _ w2 (HT.out.below HB2.out) (isJ_full 21 20 _ (deepT_is true 20 j 20 (by omega) (by omega))) (deepT_txt true 20 j) (JV.stb _ _ _ _ hBr HJV.out)
        have HY2 : Hid (w2.heap[w1.heap.size]? = some (.cells #[.int .i64 0, .int .i64 0, .string ⟨#[]⟩, .slice none 0 0, .slice none 0 0] 25 (0, 0))) := hY2
        clear hw2 hN hB1 hB2 hBr hX2 hY2 hBw
        go_wp2_with fail
        refine Calls.mono hw ?_
        rintro e w3 ⟨v, rfl, hB3, hq⟩
        have hv := hq.2.2 HIS.out
        subst hv
        have hY3 := block_below hB3 (lt_of_heap HY2.out) HY2.out
        have y0 : w3.cell? ⟨w1.heap.size, 0, none⟩ = some (.int .i64 0) := (cell_of_row _ _ _ _ _ _ hY3).trans rfl
        have hs2 := HB2.out.size
        have HB3 : Hid (Below W.heap.size W w3) := HB2.out.trans (hB3.mono hs2)
        clear hw hq hB3 hY3 x0 x1 x2 x3 x4
        go_wp2_with fail
        refine (livesP _ (HT.out.below HB3.out)).mono ?_
        rintro e w6 ⟨_, rfl, hB6, rfl⟩
        have hs4 := HB3.out.size
        have HB6 : Hid (Below W.heap.size W w6) := HB3.out.trans (hB6.mono hs4)
        clear hB6
        go_wp2
        go_ret
        exact ⟨_, rfl, HB6.out, rfl⟩
theorem jsonDeepC (W : World) (hT : Tab W) {n : Int} (h1 : -9223372036854775808 ≤ n) (h2 : n ≤ 9223372036854775807) (hn : n < 0) : Ret 6 #[.int .i64 n, .bool false] W (Is (.bool true)) := by
  have hneg : n < 0 := by omega
  obtain ⟨K, hK, hK21⟩ := tmodK (-(n + 1)) (by omega)
  have HT : Hid (Tab W) := hT
  have hN := heap_alloc_new W (.cells zero5 25)
  unfold zero5 at hN
  clear hT
  unfold Ret
  go_enter Tryd.func6, Tryd.ntmps6
  go_wp2_with (refine wpList_store_row rfl 25 (.tmp 7) (.tmp 21) rfl W.heap.size #[.int .i64 0, .int .i64 0, .string ⟨#[]⟩, .slice none 0 0, .slice none 0 0] rfl rfl 25 _ hN size25 rfl (one5 _ _ _) ?_)
  obtain ⟨w1, hw1⟩ : ∃ w1, w1 = (W.alloc (.cells #[.int .i64 0, .int .i64 0, .string ⟨#[]⟩, .slice none 0 0, .slice none 0 0] 25)).setRow W.heap.size #[.int .i64 0, .int .i64 0, .string ⟨#[]⟩, .slice none 0 0, .slice none 0 0] := ⟨_, rfl⟩
  rw [← hw1]
  have hB1 : Below W.heap.size W w1 := by rw [hw1]; exact (below1 _ _).trans ⟨rfl, rfl, rfl, by simp, fun b hb => setRow_other _ _ _ _ (by omega)⟩
  have hX1 : w1.heap[W.heap.size]? = some (.cells #[.int .i64 0, .int .i64 0, .string ⟨#[]⟩, .slice none 0 0, .slice none 0 0] 25 (0, 0)) := by rw [hw1]; exact setRow_heap _ _ _ _ _ _ hN
  have HB1 : Hid (Below W.heap.size W w1) := hB1
  have HX1 : Hid (w1.heap[W.heap.size]? = some (.cells #[.int .i64 0, .int .i64 0, .string ⟨#[]⟩, .slice none 0 0, .slice none 0 0] 25 (0, 0))) := hX1
  clear hw1 hN hB1 hX1
  go_loopw [5, 6, 8] (fun sv ev iv wr => ∃ j : Nat, j ≤ K ∧ iv = .int .i64 j ∧ sv = .string (strOf (preN false j)) ∧ ev = .string (strOf (endN false j)) ∧ Below W.heap.size W wr ∧ ∃ d0 d1 d2 d3 d4, wr.heap[W.heap.size]? = some (.cells #[d0, d1, d2, d3, d4] 25 (0, 0)) ∧ (#[d0, d1, d2, d3, d4] : Array Value).all (·.oneCell') = true ∧ DeepR (fun b => W.heap.size < b) false j [d0, d1, d2, d3, d4] wr) (fun sv ev iv _ => K - (intOf iv).toNat)
  case atStart => exact ⟨0, by omega, rfl, rfl, rfl, HB1.out, _, _, _, _, _, HX1.out, one5 _ _ _, DeepR.zero _ _ _⟩
  case round =>
    obtain ⟨j, hj, rfl, rfl, rfl, hBk, d0, d1, d2, d3, d4, hXk, hone, hDk⟩ := hrel
    have hlw := lt_of_heap hXk
    have x0 : wr.cell? ⟨W.heap.size, 0, none⟩ = some d0 := (cell_of_row _ _ _ _ _ _ hXk).trans rfl
    have x1 : wr.cell? ⟨W.heap.size, 1, none⟩ = some d1 := (cell_of_row _ _ _ _ _ _ hXk).trans rfl
    have x2 : wr.cell? ⟨W.heap.size, 2, none⟩ = some d2 := (cell_of_row _ _ _ _ _ _ hXk).trans rfl
    have x3 : wr.cell? ⟨W.heap.size, 3, none⟩ = some d3 := (cell_of_row _ _ _ _ _ _ hXk).trans rfl
    have x4 : wr.cell? ⟨W.heap.size, 4, none⟩ = some d4 := (cell_of_row _ _ _ _ _ _ hXk).trans rfl
    obtain ⟨P, hP⟩ : ∃ P, P = strOf (preN false j) := ⟨_, rfl⟩
    obtain ⟨E, hE⟩ : ∃ E, E = strOf (endN false j) := ⟨_, rfl⟩
    rw [← hP, ← hE]
    have hPs : P.size ≤ 100 := by rw [hP, strOf_size]; have := (preN_dig false j).2; omega
    have hEs : E.size ≤ 100 := by rw [hE, strOf_size]; have := (endN_dig false j).2; omega
    have HP : Hid (P = strOf (preN false j)) := hP
    have HE : Hid (E = strOf (endN false j)) := hE
    have HDk : Hid (DeepR (fun b => W.heap.size < b) false j [d0, d1, d2, d3, d4] wr) := hDk
    have HBk : Hid (Below W.heap.size W wr) := hBk
    have HXk : Hid (wr.heap[W.heap.size]? = some (.cells #[d0, d1, d2, d3, d4] 25 (0, 0))) := hXk
    clear hP hE hBk hDk hXk
    by_cases hjK : j < K
    · have hlt : (j : Int) < (K : Int) := by omega
      have hP1 : ¬ 9223372036854775807 < P.size + 1 := by omega
      have hE1 : ¬ 9223372036854775807 < E.size + 1 := by omega
      obtain ⟨wa, hwa⟩ : ∃ wa, wa = wr.alloc (.cells #[d0, d1, d2, d3, d4] 25) := ⟨_, rfl⟩
      have hA : wa.heap[W.heap.size]? = some (.cells #[d0, d1, d2, d3, d4] 25 (0, 0)) := by rw [hwa]; exact (Lib.alloc_old _ _ _ hlw).trans HXk.out
      have HWA : Hid (wa = wr.alloc (.cells #[d0, d1, d2, d3, d4] 25)) := hwa
      have HKb : Hid (wa.heap[wr.heap.size]? = some (.cells #[d0, d1, d2, d3, d4] 25 (0, 0))) := by show _ = _; rw [hwa]; exact heap_alloc_new _ _
      have HBA : Hid (Below wr.heap.size wr wa) := by show Below _ _ _; rw [hwa]; exact below1 _ _
      have HA2 : Hid (wa.heap[W.heap.size]? = some (.cells #[d0, d1, d2, d3, d4] 25 (0, 0))) := hA
      rw [hwa] at hA
      clear hwa
      go_wp2_with (refine wpList_store_row rfl 25 (.tmp 7) (.tmp 42) rfl W.heap.size #[.int .i64 4, .int .i64 0, .string ⟨#[]⟩, .slice none 0 0, .slice (some ⟨wr.heap.size, 0, none⟩) 1 1] rfl rfl 25 _ hA size25 rfl (by simp [Value.oneCell']) ?_; rw [← HWA.out]; refine Hid.out ?_)
      obtain ⟨w2, hw2⟩ : ∃ w2, w2 = wa.setRow W.heap.size #[.int .i64 4, .int .i64 0, .string ⟨#[]⟩, .slice none 0 0, .slice (some ⟨wr.heap.size, 0, none⟩) 1 1] := ⟨_, rfl⟩
      rw [← hw2]
      refine Lib.hid ?_
      have hXE : w2.heap[W.heap.size]? = some (.cells #[.int .i64 4, .int .i64 0, .string ⟨#[]⟩, .slice none 0 0, .slice (some ⟨wr.heap.size, 0, none⟩) 1 1] 25 (0, 0)) := by rw [hw2]; exact setRow_heap _ _ _ _ _ _ HA2.out
      have hoE : ∀ b, b ≠ W.heap.size → w2.heap[b]? = wa.heap[b]? := fun b hb => by rw [hw2]; exact setRow_other _ _ _ _ hb
      have hBE : Below W.heap.size W w2 := HBk.out.trans ((HBA.out.mono (by omega)).trans ⟨by rw [hw2]; rfl, by rw [hw2]; rfl, by rw [hw2]; rfl, by rw [hw2]; simp, fun b hb => hoE b (by omega)⟩)
      have hDE := DeepR.list (w' := w2) (b := wr.heap.size) HDk.out hlw (fun b hb hS => (hoE b (by have : W.heap.size < b := hS; omega)).trans (HBA.out.block b hb)) ((hoE _ (by omega)).trans HKb.out)
      have HDE : Hid (DeepR (fun b => W.heap.size < b) false (j + 1) _ w2) := hDE
      have HXE : Hid (w2.heap[W.heap.size]? = some (.cells #[.int .i64 4, .int .i64 0, .string ⟨#[]⟩, .slice none 0 0, .slice (some ⟨wr.heap.size, 0, none⟩) 1 1] 25 (0, 0))) := hXE
      have HBE : Hid (Below W.heap.size W w2) := hBE
      clear hw2 hXE hoE hBE hA hDE x0 x1 x2 x3 x4
      go_wp2
      refine ⟨⟨j + 1, by omega, by go_num, ?_, ?_, HBE.out, _, _, _, _, _, HXE.out, ?_, HDE.out⟩, by simp [intOf]; omega⟩
      · rw [HP.out]; exact congrArg Value.string ((str_strOf (preN_dig false j).1).app (str_lit (bs := [91]) (by decide))).eq
      · rw [HE.out]; exact congrArg Value.string ((str_strOf (endN_dig false j).1).app (str_lit (bs := [93]) (by decide))).eq
      · simp [Value.oneCell']
    · obtain rfl : j = K := by omega
      have hlt : ¬ (j : Int) < (j : Int) := by omega
      have hG1 : ¬ 9223372036854775807 < P.size + 4 := by omega
      have hG2 : ¬ 9223372036854775807 < P.size + 4 + E.size := by omega
      have HST : Hid (Str (P ++ ⟨#[110, 117, 108, 108]⟩ ++ E) (preN false j ++ [110, 117, 108, 108] ++ endN false j)) := by
        show Str _ _
        rw [HP.out, HE.out]
        exact ((str_strOf (preN_dig false j).1).app (str_lit (bs := [110, 117, 108, 108]) (by decide))).app (str_strOf (endN_dig false j).1)
      have HLN : Hid ((preN false j ++ [110, 117, 108, 108] ++ endN false j).length ≤ 2000) := by
        show _ ≤ _
        have := (preN_dig false j).2
        have := (endN_dig false j).2
        simp only [List.length_append, List.length_cons, List.length_nil]
        omega
      have hr1 := readP wr HST.out
      have hJV : JV (deepT false 20 j) (.agg #[d0, d1, d2, d3, d4]) wr := ⟨_, rfl, rfl, JM.jc _ _ _ _ (HDk.out 20 (by omega))⟩
      have HJV : Hid _ := hJV
      have hsk := HBk.out.size
      clear hJV x0 x1 x2 x3 x4
      by_cases h6 : j ≤ 6
      · have h6' : ¬ (6 : Int) < (j : Int) := by omega
        have HIS : Hid (IsJ 21 6 (deepT false 20 j)) := deepT_is false 20 j 6 h6 (by omega)
        have HRD : Hid (readL (preN false j ++ [110, 117, 108, 108] ++ endN false j) = .ok (deepT false 6 j)) := readL_deep false j h6
        go_wp2_with fail
        refine Calls.mono hr1 ?_
        rintro e w1 ⟨cs, er, rfl, h5, hone1, hB1, _, hq⟩
        have hq := hq HLN.out
        rw [HRD.out] at hq
        obtain ⟨rfl, hJ1⟩ := hq
        obtain ⟨e0, e1, e2, e3, e4, rfl⟩ := arr5 h5
        have hN := heap_alloc_new w1 (.cells zero5 25)
        unfold zero5 at hN
        clear hr1 h5
        go_wp2_with (refine wpList_store_row rfl 25 (.tmp 9) (.tmp 49) rfl w1.heap.size #[e0, e1, e2, e3, e4] rfl rfl 25 _ hN size25 rfl hone1 ?_; refine Hid.out ?_)
        obtain ⟨w2, hw2⟩ : ∃ w2, w2 = (w1.alloc (.cells #[.int .i64 0, .int .i64 0, .string ⟨#[]⟩, .slice none 0 0, .slice none 0 0] 25)).setRow w1.heap.size #[e0, e1, e2, e3, e4] := ⟨_, rfl⟩
        rw [← hw2]
        refine Lib.hid ?_
        have hB2 : Below w1.heap.size w1 w2 := by rw [hw2]; exact (below1 _ _).trans ⟨rfl, rfl, rfl, by simp, fun b hb => setRow_other _ _ _ _ (by omega)⟩
        have hY2 : w2.heap[w1.heap.size]? = some (.cells #[e0, e1, e2, e3, e4] 25 (0, 0)) := by rw [hw2]; exact setRow_heap _ _ _ _ _ _ hN
        have hs1 := hB1.size
        have hBr : Below wr.heap.size wr w2 := hB1.trans (hB2.mono hs1)
        have hBw : Below W.heap.size W w2 := HBk.out.trans (hBr.mono hsk)
        have HB2 : Hid (Below W.heap.size W w2) := hBw
        have hX2 := block_below hBr hlw HXk.out
        have x0 : w2.cell? ⟨W.heap.size, 0, none⟩ = some d0 := (cell_of_row _ _ _ _ _ _ hX2).trans rfl
        have x1 : w2.cell? ⟨W.heap.size, 1, none⟩ = some d1 := (cell_of_row _ _ _ _ _ _ hX2).trans rfl
        have x2 : w2.cell? ⟨W.heap.size, 2, none⟩ = some d2 := (cell_of_row _ _ _ _ _ _ hX2).trans rfl
        have x3 : w2.cell? ⟨W.heap.size, 3, none⟩ = some d3 := (cell_of_row _ _ _ _ _ _ hX2).trans rfl
        have x4 : w2.cell? ⟨W.heap.size, 4, none⟩ = some d4 := (cell_of_row _ _ _ _ _ _ hX2).trans rfl
        have hjA : JV (deepT false 6 j) (.agg #[e0, e1, e2, e3, e4]) w2 := ⟨_, rfl, rfl, JM.jc _ _ _ _ (hJ1.stb hB2)⟩
        have HjA : Hid _ := hjA
        have hw := writeP (n := 20) (deepT false 20 j) _ w2 (HT.out.below HB2.out) (isJ_full 21 20 _ (deepT_is false 20 j 20 (by omega) (by omega))) (deepT_txt false 20 j) (JV.stb _ _ _ _ hBr HJV.out)
        have HBR : Hid (Below wr.heap.size wr w2) := hBr
        have HY2 : Hid (w2.heap[w1.heap.size]? = some (.cells #[e0, e1, e2, e3, e4] 25 (0, 0))) := hY2
        have HX2 : Hid (w2.heap[W.heap.size]? = some (.cells #[d0, d1, d2, d3, d4] 25 (0, 0))) := hX2
        clear hw2 hN hB1 hB2 hJ1 hjA hBr hX2 hY2 hBw
        go_wp2_with fail
        refine Calls.mono hw ?_
        rintro e w3 ⟨v, rfl, hB3, hq⟩
        have hv := hq.1 HIS.out (by rw [deepT_write false 20 j (by omega)]; exact HLN.out)
        rw [deepT_write false 20 j (by omega), ← HST.out.eq] at hv
        subst hv
        have hX3 := block_below hB3 (lt_of_heap HX2.out) HX2.out
        have hY3 := block_below hB3 (lt_of_heap HY2.out) HY2.out
        have y0 : w3.cell? ⟨w1.heap.size, 0, none⟩ = some e0 := (cell_of_row _ _ _ _ _ _ hY3).trans rfl
        have y1 : w3.cell? ⟨w1.heap.size, 1, none⟩ = some e1 := (cell_of_row _ _ _ _ _ _ hY3).trans rfl
        have y2 : w3.cell? ⟨w1.heap.size, 2, none⟩ = some e2 := (cell_of_row _ _ _ _ _ _ hY3).trans rfl
        have y3 : w3.cell? ⟨w1.heap.size, 3, none⟩ = some e3 := (cell_of_row _ _ _ _ _ _ hY3).trans rfl
        have y4 : w3.cell? ⟨w1.heap.size, 4, none⟩ = some e4 := (cell_of_row _ _ _ _ _ _ hY3).trans rfl
        have z0 : w3.cell? ⟨W.heap.size, 0, none⟩ = some d0 := (cell_of_row _ _ _ _ _ _ hX3).trans rfl
        have z1 : w3.cell? ⟨W.heap.size, 1, none⟩ = some d1 := (cell_of_row _ _ _ _ _ _ hX3).trans rfl
        have z2 : w3.cell? ⟨W.heap.size, 2, none⟩ = some d2 := (cell_of_row _ _ _ _ _ _ hX3).trans rfl
        have z3 : w3.cell? ⟨W.heap.size, 3, none⟩ = some d3 := (cell_of_row _ _ _ _ _ _ hX3).trans rfl
        have z4 : w3.cell? ⟨W.heap.size, 4, none⟩ = some d4 := (cell_of_row _ _ _ _ _ _ hX3).trans rfl
        have hBr3 := HBR.out.trans (hB3.mono HBR.out.size)
        have hjB : JV (deepT false 6 j) (.agg #[d0, d1, d2, d3, d4]) w3 := JV.stb _ _ _ _ hBr3 (⟨_, rfl, rfl, JM.jc _ _ _ _ (HDk.out 6 h6)⟩ : JV (deepT false 6 j) (.agg #[d0, d1, d2, d3, d4]) wr)
        have hsm := sameJ 7 _ _ _ _ w3 (isJ_full 7 6 _ (deepT_is false 6 j 6 h6 h6)) (isJ_full 7 6 _ (deepT_is false 6 j 6 h6 h6)) (JV.stb _ _ _ _ hB3 HjA.out) hjB
        have hs2 := HB2.out.size
        have HB3 : Hid (Below W.heap.size W w3) := HB2.out.trans (hB3.mono hs2)
        clear hw hq hB3 hX3 hY3 hjB hBr3 x0 x1 x2 x3 x4
        go_wp2_with fail
        refine Calls.mono hsm ?_
        rintro e w4 ⟨_, rfl, hB4, c, rfl, hc⟩
        obtain rfl : c = true := hc.2 rfl
        have hs3 := HB3.out.size
        have HB4 : Hid (Below W.heap.size W w4) := HB3.out.trans (hB4.mono hs3)
        clear hsm hB4 hc y0 y1 y2 y3 y4 z0 z1 z2 z3 z4
        go_wp2_with fail
        refine (livesP _ (HT.out.below HB4.out)).mono ?_
        rintro e w6 ⟨_, rfl, hB6, rfl⟩
        have hs4 := HB4.out.size
        have HB6 : Hid (Below W.heap.size W w6) := HB4.out.trans (hB6.mono hs4)
        clear hB6
        go_wp2
        go_ret
        exact ⟨_, rfl, HB6.out, rfl⟩
      · have h6' : (6 : Int) < (j : Int) := by omega
        have HIS : Hid (¬ IsJ 21 6 (deepT false 20 j)) := deepT_not false 20 j 6 (by omega) (by omega)
        have HRD : Hid (readL (preN false j ++ [110, 117, 108, 108] ++ endN false j) = .error 9) := readL_too false j (by omega)
        go_wp2_with fail
        refine Calls.mono hr1 ?_
        rintro e w1 ⟨cs, er, rfl, h5, hone1, hB1, _, hq⟩
        have hq := hq HLN.out
        rw [HRD.out] at hq
        obtain ⟨rfl, _, rfl⟩ := hq
        unfold zero5
        have hN := heap_alloc_new w1 (.cells zero5 25)
        unfold zero5 at hN
        clear hr1 h5 hone1
        go_wp2_with (refine wpList_store_row rfl 25 (.tmp 9) (.tmp 49) rfl w1.heap.size #[.int .i64 0, .int .i64 0, .string ⟨#[]⟩, .slice none 0 0, .slice none 0 0] rfl rfl 25 _ hN size25 rfl (one5 _ _ _) ?_; refine Hid.out ?_)
        obtain ⟨w2, hw2⟩ : ∃ w2, w2 = (w1.alloc (.cells #[.int .i64 0, .int .i64 0, .string ⟨#[]⟩, .slice none 0 0, .slice none 0 0] 25)).setRow w1.heap.size #[.int .i64 0, .int .i64 0, .string ⟨#[]⟩, .slice none 0 0, .slice none 0 0] := ⟨_, rfl⟩
        rw [← hw2]
        refine Lib.hid ?_
        have hB2 : Below w1.heap.size w1 w2 := by rw [hw2]; exact (below1 _ _).trans ⟨rfl, rfl, rfl, by simp, fun b hb => setRow_other _ _ _ _ (by omega)⟩
        have hY2 : w2.heap[w1.heap.size]? = some (.cells #[.int .i64 0, .int .i64 0, .string ⟨#[]⟩, .slice none 0 0, .slice none 0 0] 25 (0, 0)) := by rw [hw2]; exact setRow_heap _ _ _ _ _ _ hN
        have hs1 := hB1.size
        have hBr : Below wr.heap.size wr w2 := hB1.trans (hB2.mono hs1)
        have hBw : Below W.heap.size W w2 := HBk.out.trans (hBr.mono hsk)
        have HB2 : Hid (Below W.heap.size W w2) := hBw
        have hX2 := block_below hBr hlw HXk.out
        have x0 : w2.cell? ⟨W.heap.size, 0, none⟩ = some d0 := (cell_of_row _ _ _ _ _ _ hX2).trans rfl
        have x1 : w2.cell? ⟨W.heap.size, 1, none⟩ = some d1 := (cell_of_row _ _ _ _ _ _ hX2).trans rfl
        have x2 : w2.cell? ⟨W.heap.size, 2, none⟩ = some d2 := (cell_of_row _ _ _ _ _ _ hX2).trans rfl
        have x3 : w2.cell? ⟨W.heap.size, 3, none⟩ = some d3 := (cell_of_row _ _ _ _ _ _ hX2).trans rfl
        have x4 : w2.cell? ⟨W.heap.size, 4, none⟩ = some d4 := (cell_of_row _ _ _ _ _ _ hX2).trans rfl
        have hw := writeP (n := 20) (deepT false 20 j) _ w2 (HT.out.below HB2.out) (isJ_full 21 20 _ (deepT_is false 20 j 20 (by omega) (by omega))) (deepT_txt false 20 j) (JV.stb _ _ _ _ hBr HJV.out)
        have HY2 : Hid (w2.heap[w1.heap.size]? = some (.cells #[.int .i64 0, .int .i64 0, .string ⟨#[]⟩, .slice none 0 0, .slice none 0 0] 25 (0, 0))) := hY2
        clear hw2 hN hB1 hB2 hBr hX2 hY2 hBw
        go_wp2_with fail
        refine Calls.mono hw ?_
        rintro e w3 ⟨v, rfl, hB3, hq⟩
        have hv := hq.2.2 HIS.out
        subst hv
        have hY3 := block_below hB3 (lt_of_heap HY2.out) HY2.out
        have y0 : w3.cell? ⟨w1.heap.size, 0, none⟩ = some (.int .i64 0) := (cell_of_row _ _ _ _ _ _ hY3).trans rfl
        have hs2 := HB2.out.size
        have HB3 : Hid (Below W.heap.size W w3) := HB2.out.trans (hB3.mono hs2)
        clear hw hq hB3 hY3 x0 x1 x2 x3 x4
        go_wp2_with fail
        refine (livesP _ (HT.out.below HB3.out)).mono ?_
        rintro e w6 ⟨_, rfl, hB6, rfl⟩
        have hs4 := HB3.out.size
        have HB6 : Hid (Below W.heap.size W w6) := HB3.out.trans (hB6.mono hs4)
        clear hB6
        go_wp2
        go_ret
        exact ⟨_, rfl, HB6.out, rfl⟩
theorem jsonDeepD (W : World) (hT : Tab W) {n : Int} (h1 : -9223372036854775808 ≤ n) (h2 : n ≤ 9223372036854775807) (hn : n < 0) : Ret 6 #[.int .i64 n, .bool true] W (Is (.bool true)) := by
  have hneg : n < 0 := by omega
  obtain ⟨K, hK, hK21⟩ := tmodK (-(n + 1)) (by omega)
  have HT : Hid (Tab W) := hT
  have hN := heap_alloc_new W (.cells zero5 25)
  unfold zero5 at hN
  clear hT
  unfold Ret
  go_enter Tryd.func6, Tryd.ntmps6
  go_wp2_with (refine wpList_store_row rfl 25 (.tmp 7) (.tmp 21) rfl W.heap.size #[.int .i64 0, .int .i64 0, .string ⟨#[]⟩, .slice none 0 0, .slice none 0 0] rfl rfl 25 _ hN size25 rfl (one5 _ _ _) ?_)
  obtain ⟨w1, hw1⟩ : ∃ w1, w1 = (W.alloc (.cells #[.int .i64 0, .int .i64 0, .string ⟨#[]⟩, .slice none 0 0, .slice none 0 0] 25)).setRow W.heap.size #[.int .i64 0, .int .i64 0, .string ⟨#[]⟩, .slice none 0 0, .slice none 0 0] := ⟨_, rfl⟩
  rw [← hw1]
  have hB1 : Below W.heap.size W w1 := by rw [hw1]; exact (below1 _ _).trans ⟨rfl, rfl, rfl, by simp, fun b hb => setRow_other _ _ _ _ (by omega)⟩
  have hX1 : w1.heap[W.heap.size]? = some (.cells #[.int .i64 0, .int .i64 0, .string ⟨#[]⟩, .slice none 0 0, .slice none 0 0] 25 (0, 0)) := by rw [hw1]; exact setRow_heap _ _ _ _ _ _ hN
  have HB1 : Hid (Below W.heap.size W w1) := hB1
  have HX1 : Hid (w1.heap[W.heap.size]? = some (.cells #[.int .i64 0, .int .i64 0, .string ⟨#[]⟩, .slice none 0 0, .slice none 0 0] 25 (0, 0))) := hX1
  clear hw1 hN hB1 hX1
  go_loopw [5, 6, 8] (fun sv ev iv wr => ∃ j : Nat, j ≤ K ∧ iv = .int .i64 j ∧ sv = .string (strOf (preN true j)) ∧ ev = .string (strOf (endN true j)) ∧ Below W.heap.size W wr ∧ ∃ d0 d1 d2 d3 d4, wr.heap[W.heap.size]? = some (.cells #[d0, d1, d2, d3, d4] 25 (0, 0)) ∧ (#[d0, d1, d2, d3, d4] : Array Value).all (·.oneCell') = true ∧ DeepR (fun b => W.heap.size < b) true j [d0, d1, d2, d3, d4] wr) (fun sv ev iv _ => K - (intOf iv).toNat)
  case atStart => exact ⟨0, by omega, rfl, rfl, rfl, HB1.out, _, _, _, _, _, HX1.out, one5 _ _ _, DeepR.zero _ _ _⟩
  case round =>
    obtain ⟨j, hj, rfl, rfl, rfl, hBk, d0, d1, d2, d3, d4, hXk, hone, hDk⟩ := hrel
    have hlw := lt_of_heap hXk
    have x0 : wr.cell? ⟨W.heap.size, 0, none⟩ = some d0 := (cell_of_row _ _ _ _ _ _ hXk).trans rfl
    have x1 : wr.cell? ⟨W.heap.size, 1, none⟩ = some d1 := (cell_of_row _ _ _ _ _ _ hXk).trans rfl
    have x2 : wr.cell? ⟨W.heap.size, 2, none⟩ = some d2 := (cell_of_row _ _ _ _ _ _ hXk).trans rfl
    have x3 : wr.cell? ⟨W.heap.size, 3, none⟩ = some d3 := (cell_of_row _ _ _ _ _ _ hXk).trans rfl
    have x4 : wr.cell? ⟨W.heap.size, 4, none⟩ = some d4 := (cell_of_row _ _ _ _ _ _ hXk).trans rfl
    obtain ⟨P, hP⟩ : ∃ P, P = strOf (preN true j) := ⟨_, rfl⟩
    obtain ⟨E, hE⟩ : ∃ E, E = strOf (endN true j) := ⟨_, rfl⟩
    rw [← hP, ← hE]
    have hPs : P.size ≤ 100 := by rw [hP, strOf_size]; have := (preN_dig true j).2; omega
    have hEs : E.size ≤ 100 := by rw [hE, strOf_size]; have := (endN_dig true j).2; omega
    have HP : Hid (P = strOf (preN true j)) := hP
    have HE : Hid (E = strOf (endN true j)) := hE
    have HDk : Hid (DeepR (fun b => W.heap.size < b) true j [d0, d1, d2, d3, d4] wr) := hDk
    have HBk : Hid (Below W.heap.size W wr) := hBk
    have HXk : Hid (wr.heap[W.heap.size]? = some (.cells #[d0, d1, d2, d3, d4] 25 (0, 0))) := hXk
    clear hP hE hBk hDk hXk
    by_cases hjK : j < K
    · have hlt : (j : Int) < (K : Int) := by omega
      have hP1 : ¬ 9223372036854775807 < P.size + 5 := by omega
      have hE1 : ¬ 9223372036854775807 < E.size + 1 := by omega
      obtain ⟨wa, hwa⟩ : ∃ wa, wa = (wr.alloc (.cells #[.string ⟨#[97]⟩] 9)).alloc (.cells #[d0, d1, d2, d3, d4] 25) := ⟨_, rfl⟩
      have hA : wa.heap[W.heap.size]? = some (.cells #[d0, d1, d2, d3, d4] 25 (0, 0)) := by rw [hwa]; exact (Lib.alloc_old _ _ _ (by simp; omega)).trans ((Lib.alloc_old _ _ _ hlw).trans HXk.out)
      have HWA : Hid (wa = (wr.alloc (.cells #[.string ⟨#[97]⟩] 9)).alloc (.cells #[d0, d1, d2, d3, d4] 25)) := hwa
      have hB1' := heap_alloc_new (wr.alloc (.cells #[.string ⟨#[97]⟩] 9)) (.cells #[d0, d1, d2, d3, d4] 25)
      have HKa : Hid (wa.heap[wr.heap.size]? = some (.cells #[.string ⟨#[97]⟩] 9 (0, 0))) := by show _ = _; rw [hwa]; exact (Lib.alloc_old _ _ _ (by simp)).trans (heap_alloc_new _ _)
      have HKb : Hid (wa.heap[wr.heap.size + 1]? = some (.cells #[d0, d1, d2, d3, d4] 25 (0, 0))) := by show _ = _; rw [hwa]; simpa using hB1'
      have HBA : Hid (Below wr.heap.size wr wa) := by show Below _ _ _; rw [hwa]; exact ((Below.refl _ _).alloc (Nat.le_refl _) _).alloc (by simp) _
      clear hB1'
      have HA2 : Hid (wa.heap[W.heap.size]? = some (.cells #[d0, d1, d2, d3, d4] 25 (0, 0))) := hA
      rw [hwa] at hA
      clear hwa
      go_wp2_with (refine wpList_store_row rfl 25 (.tmp 7) (.tmp 35) rfl W.heap.size #[.int .i64 5, .int .i64 0, .string ⟨#[]⟩, .slice (some ⟨wr.heap.size, 0, none⟩) 1 1, .slice (some ⟨wr.heap.size + 1, 0, none⟩) 1 1] rfl rfl 25 _ hA size25 rfl (by simp [Value.oneCell']) ?_; rw [← HWA.out]; refine Hid.out ?_)
      obtain ⟨w2, hw2⟩ : ∃ w2, w2 = wa.setRow W.heap.size #[.int .i64 5, .int .i64 0, .string ⟨#[]⟩, .slice (some ⟨wr.heap.size, 0, none⟩) 1 1, .slice (some ⟨wr.heap.size + 1, 0, none⟩) 1 1] := ⟨_, rfl⟩
      rw [← hw2]
      refine Lib.hid ?_
      have hXE : w2.heap[W.heap.size]? = some (.cells #[.int .i64 5, .int .i64 0, .string ⟨#[]⟩, .slice (some ⟨wr.heap.size, 0, none⟩) 1 1, .slice (some ⟨wr.heap.size + 1, 0, none⟩) 1 1] 25 (0, 0)) := by rw [hw2]; exact setRow_heap _ _ _ _ _ _ HA2.out
      have hoE : ∀ b, b ≠ W.heap.size → w2.heap[b]? = wa.heap[b]? := fun b hb => by rw [hw2]; exact setRow_other _ _ _ _ hb
      have hBE : Below W.heap.size W w2 := HBk.out.trans ((HBA.out.mono (by omega)).trans ⟨by rw [hw2]; rfl, by rw [hw2]; rfl, by rw [hw2]; rfl, by rw [hw2]; simp, fun b hb => hoE b (by omega)⟩)
      have hDE := DeepR.map (w' := w2) (a := wr.heap.size) (b := wr.heap.size + 1) HDk.out hlw (show W.heap.size < wr.heap.size + 1 by omega) (fun b hb hS => (hoE b (by have : W.heap.size < b := hS; omega)).trans (HBA.out.block b hb)) ((hoE _ (by omega)).trans HKa.out) ((hoE _ (by omega)).trans HKb.out)
      have HDE : Hid (DeepR (fun b => W.heap.size < b) true (j + 1) _ w2) := hDE
      have HXE : Hid (w2.heap[W.heap.size]? = some (.cells #[.int .i64 5, .int .i64 0, .string ⟨#[]⟩, .slice (some ⟨wr.heap.size, 0, none⟩) 1 1, .slice (some ⟨wr.heap.size + 1, 0, none⟩) 1 1] 25 (0, 0))) := hXE
      have HBE : Hid (Below W.heap.size W w2) := hBE
      clear hw2 hXE hoE hBE hA hDE x0 x1 x2 x3 x4
      go_wp2
      refine ⟨⟨j + 1, by omega, by go_num, ?_, ?_, HBE.out, _, _, _, _, _, HXE.out, ?_, HDE.out⟩, by simp [intOf]; omega⟩
      · rw [HP.out]; exact congrArg Value.string ((str_strOf (preN_dig true j).1).app (str_lit (bs := [123, 34, 97, 34, 58]) (by decide))).eq
      · rw [HE.out]; exact congrArg Value.string ((str_strOf (endN_dig true j).1).app (str_lit (bs := [125]) (by decide))).eq
      · simp [Value.oneCell']
    · obtain rfl : j = K := by omega
      have hlt : ¬ (j : Int) < (j : Int) := by omega
      have hG1 : ¬ 9223372036854775807 < P.size + 4 := by omega
      have hG2 : ¬ 9223372036854775807 < P.size + 4 + E.size := by omega
      have HST : Hid (Str (P ++ ⟨#[110, 117, 108, 108]⟩ ++ E) (preN true j ++ [110, 117, 108, 108] ++ endN true j)) := by
        show Str _ _
        rw [HP.out, HE.out]
        exact ((str_strOf (preN_dig true j).1).app (str_lit (bs := [110, 117, 108, 108]) (by decide))).app (str_strOf (endN_dig true j).1)
      have HLN : Hid ((preN true j ++ [110, 117, 108, 108] ++ endN true j).length ≤ 2000) := by
        show _ ≤ _
        have := (preN_dig true j).2
        have := (endN_dig true j).2
        simp only [List.length_append, List.length_cons, List.length_nil]
        omega
      have hr1 := readP wr HST.out
      have hJV : JV (deepT true 20 j) (.agg #[d0, d1, d2, d3, d4]) wr := ⟨_, rfl, rfl, JM.jc _ _ _ _ (HDk.out 20 (by omega))⟩
      have HJV : Hid _ := hJV
      have hsk := HBk.out.size
      clear hJV x0 x1 x2 x3 x4
      by_cases h6 : j ≤ 6
      · have h6' : ¬ (6 : Int) < (j : Int) := by omega
        have HIS : Hid (IsJ 21 6 (deepT true 20 j)) := deepT_is true 20 j 6 h6 (by omega)
        have HRD : Hid (readL (preN true j ++ [110, 117, 108, 108] ++ endN true j) = .ok (deepT true 6 j)) := readL_deep true j h6
        go_wp2_with fail
        refine Calls.mono hr1 ?_
        rintro e w1 ⟨cs, er, rfl, h5, hone1, hB1, _, hq⟩
        have hq := hq HLN.out
        rw [HRD.out] at hq
        obtain ⟨rfl, hJ1⟩ := hq
        obtain ⟨e0, e1, e2, e3, e4, rfl⟩ := arr5 h5
        have hN := heap_alloc_new w1 (.cells zero5 25)
        unfold zero5 at hN
        clear hr1 h5
        go_wp2_with (refine wpList_store_row rfl 25 (.tmp 9) (.tmp 49) rfl w1.heap.size #[e0, e1, e2, e3, e4] rfl rfl 25 _ hN size25 rfl hone1 ?_; refine Hid.out ?_)
        obtain ⟨w2, hw2⟩ : ∃ w2, w2 = (w1.alloc (.cells #[.int .i64 0, .int .i64 0, .string ⟨#[]⟩, .slice none 0 0, .slice none 0 0] 25)).setRow w1.heap.size #[e0, e1, e2, e3, e4] := ⟨_, rfl⟩
        rw [← hw2]
        refine Lib.hid ?_
        have hB2 : Below w1.heap.size w1 w2 := by rw [hw2]; exact (below1 _ _).trans ⟨rfl, rfl, rfl, by simp, fun b hb => setRow_other _ _ _ _ (by omega)⟩
        have hY2 : w2.heap[w1.heap.size]? = some (.cells #[e0, e1, e2, e3, e4] 25 (0, 0)) := by rw [hw2]; exact setRow_heap _ _ _ _ _ _ hN
        have hs1 := hB1.size
        have hBr : Below wr.heap.size wr w2 := hB1.trans (hB2.mono hs1)
        have hBw : Below W.heap.size W w2 := HBk.out.trans (hBr.mono hsk)
        have HB2 : Hid (Below W.heap.size W w2) := hBw
        have hX2 := block_below hBr hlw HXk.out
        have x0 : w2.cell? ⟨W.heap.size, 0, none⟩ = some d0 := (cell_of_row _ _ _ _ _ _ hX2).trans rfl
        have x1 : w2.cell? ⟨W.heap.size, 1, none⟩ = some d1 := (cell_of_row _ _ _ _ _ _ hX2).trans rfl
        have x2 : w2.cell? ⟨W.heap.size, 2, none⟩ = some d2 := (cell_of_row _ _ _ _ _ _ hX2).trans rfl
        have x3 : w2.cell? ⟨W.heap.size, 3, none⟩ = some d3 := (cell_of_row _ _ _ _ _ _ hX2).trans rfl
        have x4 : w2.cell? ⟨W.heap.size, 4, none⟩ = some d4 := (cell_of_row _ _ _ _ _ _ hX2).trans rfl
        have hjA : JV (deepT true 6 j) (.agg #[e0, e1, e2, e3, e4]) w2 := ⟨_, rfl, rfl, JM.jc _ _ _ _ (hJ1.stb hB2)⟩
        have HjA : Hid _ := hjA
        have hw := writeP (n := 20) (deepT true 20 j) _ w2 (HT.out.below HB2.out) (isJ_full 21 20 _ (deepT_is true 20 j 20 (by omega) (by omega))) (deepT_txt true 20 j) (JV.stb _ _ _ _ hBr HJV.out)
        have HBR : Hid (Below wr.heap.size wr w2) := hBr
        have HY2 : Hid (w2.heap[w1.heap.size]? = some (.cells #[e0, e1, e2, e3, e4] 25 (0, 0))) := hY2
        have HX2 : Hid (w2.heap[W.heap.size]? = some (.cells #[d0, d1, d2, d3, d4] 25 (0, 0))) := hX2
        clear hw2 hN hB1 hB2 hJ1 hjA hBr hX2 hY2 hBw
        go_wp2_with fail
        refine Calls.mono hw ?_
        rintro e w3 ⟨v, rfl, hB3, hq⟩
        have hv := hq.1 HIS.out (by rw [deepT_write true 20 j (by omega)]; exact HLN.out)
        rw [deepT_write true 20 j (by omega), ← HST.out.eq] at hv
        subst hv
        have hX3 := block_below hB3 (lt_of_heap HX2.out) HX2.out
        have hY3 := block_below hB3 (lt_of_heap HY2.out) HY2.out
        have y0 : w3.cell? ⟨w1.heap.size, 0, none⟩ = some e0 := (cell_of_row _ _ _ _ _ _ hY3).trans rfl
        have y1 : w3.cell? ⟨w1.heap.size, 1, none⟩ = some e1 := (cell_of_row _ _ _ _ _ _ hY3).trans rfl
        have y2 : w3.cell? ⟨w1.heap.size, 2, none⟩ = some e2 := (cell_of_row _ _ _ _ _ _ hY3).trans rfl
        have y3 : w3.cell? ⟨w1.heap.size, 3, none⟩ = some e3 := (cell_of_row _ _ _ _ _ _ hY3).trans rfl
        have y4 : w3.cell? ⟨w1.heap.size, 4, none⟩ = some e4 := (cell_of_row _ _ _ _ _ _ hY3).trans rfl
        have z0 : w3.cell? ⟨W.heap.size, 0, none⟩ = some d0 := (cell_of_row _ _ _ _ _ _ hX3).trans rfl
        have z1 : w3.cell? ⟨W.heap.size, 1, none⟩ = some d1 := (cell_of_row _ _ _ _ _ _ hX3).trans rfl
        have z2 : w3.cell? ⟨W.heap.size, 2, none⟩ = some d2 := (cell_of_row _ _ _ _ _ _ hX3).trans rfl
        have z3 : w3.cell? ⟨W.heap.size, 3, none⟩ = some d3 := (cell_of_row _ _ _ _ _ _ hX3).trans rfl
        have z4 : w3.cell? ⟨W.heap.size, 4, none⟩ = some d4 := (cell_of_row _ _ _ _ _ _ hX3).trans rfl
        have hBr3 := HBR.out.trans (hB3.mono HBR.out.size)
        have hjB : JV (deepT true 6 j) (.agg #[d0, d1, d2, d3, d4]) w3 := JV.stb _ _ _ _ hBr3 (⟨_, rfl, rfl, JM.jc _ _ _ _ (HDk.out 6 h6)⟩ : JV (deepT true 6 j) (.agg #[d0, d1, d2, d3, d4]) wr)
        have hsm := sameJ 7 _ _ _ _ w3 (isJ_full 7 6 _ (deepT_is true 6 j 6 h6 h6)) (isJ_full 7 6 _ (deepT_is true 6 j 6 h6 h6)) (JV.stb _ _ _ _ hB3 HjA.out) hjB
        have hs2 := HB2.out.size
        have HB3 : Hid (Below W.heap.size W w3) := HB2.out.trans (hB3.mono hs2)
        clear hw hq hB3 hX3 hY3 hjB hBr3 x0 x1 x2 x3 x4
        go_wp2_with fail
        refine Calls.mono hsm ?_
        rintro e w4 ⟨_, rfl, hB4, c, rfl, hc⟩
        obtain rfl : c = true := hc.2 rfl
        have hs3 := HB3.out.size
        have HB4 : Hid (Below W.heap.size W w4) := HB3.out.trans (hB4.mono hs3)
        clear hsm hB4 hc y0 y1 y2 y3 y4 z0 z1 z2 z3 z4
        go_wp2_with fail
        refine (livesP _ (HT.out.below HB4.out)).mono ?_
        rintro e w6 ⟨_, rfl, hB6, rfl⟩
        have hs4 := HB4.out.size
        have HB6 : Hid (Below W.heap.size W w6) := HB4.out.trans (hB6.mono hs4)
        clear hB6
        go_wp2
        go_ret
        exact ⟨_, rfl, HB6.out, rfl⟩
      · have h6' : (6 : Int) < (j : Int) := by omega
        have HIS : Hid (¬ IsJ 21 6 (deepT true 20 j)) := deepT_not true 20 j 6 (by omega) (by omega)
        have HRD : Hid (readL (preN true j ++ [110, 117, 108, 108] ++ endN true j) = .error 9) := readL_too true j (by omega)
        go_wp2_with fail
        refine Calls.mono hr1 ?_
        rintro e w1 ⟨cs, er, rfl, h5, hone1, hB1, _, hq⟩
        have hq := hq HLN.out
        rw [HRD.out] at hq
        obtain ⟨rfl, _, rfl⟩ := hq
        unfold zero5
        have hN := heap_alloc_new w1 (.cells zero5 25)
        unfold zero5 at hN
        clear hr1 h5 hone1
        go_wp2_with (refine wpList_store_row rfl 25 (.tmp 9) (.tmp 49) rfl w1.heap.size #[.int .i64 0, .int .i64 0, .string ⟨#[]⟩, .slice none 0 0, .slice none 0 0] rfl rfl 25 _ hN size25 rfl (one5 _ _ _) ?_; refine Hid.out ?_)
        obtain ⟨w2, hw2⟩ : ∃ w2, w2 = (w1.alloc (.cells #[.int .i64 0, .int .i64 0, .string ⟨#[]⟩, .slice none 0 0, .slice none 0 0] 25)).setRow w1.heap.size #[.int .i64 0, .int .i64 0, .string ⟨#[]⟩, .slice none 0 0, .slice none 0 0] := ⟨_, rfl⟩
        rw [← hw2]
        refine Lib.hid ?_
        have hB2 : Below w1.heap.size w1 w2 := by rw [hw2]; exact (below1 _ _).trans ⟨rfl, rfl, rfl, by simp, fun b hb => setRow_other _ _ _ _ (by omega)⟩
        have hY2 : w2.heap[w1.heap.size]? = some (.cells #[.int .i64 0, .int .i64 0, .string ⟨#[]⟩, .slice none 0 0, .slice none 0 0] 25 (0, 0)) := by rw [hw2]; exact setRow_heap _ _ _ _ _ _ hN
        have hs1 := hB1.size
        have hBr : Below wr.heap.size wr w2 := hB1.trans (hB2.mono hs1)
        have hBw : Below W.heap.size W w2 := HBk.out.trans (hBr.mono hsk)
        have HB2 : Hid (Below W.heap.size W w2) := hBw
        have hX2 := block_below hBr hlw HXk.out
        have x0 : w2.cell? ⟨W.heap.size, 0, none⟩ = some d0 := (cell_of_row _ _ _ _ _ _ hX2).trans rfl
        have x1 : w2.cell? ⟨W.heap.size, 1, none⟩ = some d1 := (cell_of_row _ _ _ _ _ _ hX2).trans rfl
        have x2 : w2.cell? ⟨W.heap.size, 2, none⟩ = some d2 := (cell_of_row _ _ _ _ _ _ hX2).trans rfl
        have x3 : w2.cell? ⟨W.heap.size, 3, none⟩ = some d3 := (cell_of_row _ _ _ _ _ _ hX2).trans rfl
        have x4 : w2.cell? ⟨W.heap.size, 4, none⟩ = some d4 := (cell_of_row _ _ _ _ _ _ hX2).trans rfl
        have hw := writeP (n := 20) (deepT true 20 j) _ w2 (HT.out.below HB2.out) (isJ_full 21 20 _ (deepT_is true 20 j 20 (by omega) (by omega))) (deepT_txt true 20 j) (JV.stb _ _ _ _ hBr HJV.out)
        have HY2 : Hid (w2.heap[w1.heap.size]? = some (.cells #[.int .i64 0, .int .i64 0, .string ⟨#[]⟩, .slice none 0 0, .slice none 0 0] 25 (0, 0))) := hY2
        clear hw2 hN hB1 hB2 hBr hX2 hY2 hBw
        go_wp2_with fail
        refine Calls.mono hw ?_
        rintro e w3 ⟨v, rfl, hB3, hq⟩
        have hv := hq.2.2 HIS.out
        subst hv
        have hY3 := block_below hB3 (lt_of_heap HY2.out) HY2.out
        have y0 : w3.cell? ⟨w1.heap.size, 0, none⟩ = some (.int .i64 0) := (cell_of_row _ _ _ _ _ _ hY3).trans rfl
        have hs2 := HB2.out.size
        have HB3 : Hid (Below W.heap.size W w3) := HB2.out.trans (hB3.mono hs2)
        clear hw hq hB3 hY3 x0 x1 x2 x3 x4
        go_wp2_with fail
        refine (livesP _ (HT.out.below HB3.out)).mono ?_
        rintro e w6 ⟨_, rfl, hB6, rfl⟩
        have hs4 := HB3.out.size
        have HB6 : Hid (Below W.heap.size W w6) := HB3.out.trans (hB6.mono hs4)
        clear hB6
        go_wp2
        go_ret
        exact ⟨_, rfl, HB6.out, rfl⟩
theorem jsonDeep (W : World) (hT : Tab W) {n : Int} {c : Bool} (h1 : -9223372036854775808 ≤ n) (h2 : n ≤ 9223372036854775807) : Ret 6 #[.int .i64 n, .bool c] W (Is (.bool true)) := by
  by_cases hn : 0 ≤ n
  · cases c
    · exact jsonDeepA W hT h1 h2 hn
    · exact jsonDeepB W hT h1 h2 hn
  · cases c
    · exact jsonDeepC W hT h1 h2 (by omega)
    · exact jsonDeepD W hT h1 h2 (by omega)
end Go.Proofs.YtljgnpneeecafaaDoor
