/-
  JSON: the law JsonRound.
-/
import Derived.Test.YtljgnpneeecafaaDoorC7
set_option linter.unusedVariables false
set_option linter.unusedSimpArgs false
namespace Go.Proofs.YtljgnpneeecafaaDoor
open Go.RowKit Go.Sort Go.BigFrame
set_option maxRecDepth 100000
set_option maxHeartbeats 4000000
theorem Str.cut400 {s : ByteArray} {bs : List Nat} (h : Str s bs) (h5 : 400 ≤ s.size) : Str (s.extract 0 400) (bs.take 400) := by
  have hsz := h.size
  refine ⟨by simp; omega, fun i hi => ?_, dig_lt (fun x hx => mem_of_dig h.dig x (List.mem_of_mem_take hx))⟩
  have hi2 : i < 400 := by simp at hi; omega
  have h1 := h.at' i (by omega)
  rw [ByteArray.getElem_extract]
  simp only [Nat.zero_add]
  rw [h1]
  simp [show i < bs.length by omega, hi2]
theorem cut400 {s : ByteArray} (h2 : 400 ≤ s.size) (w : World) : (Instr.slice 9 (.string s) none (some (.int .i64 400)) none).run Tryd.prog w = .ok (.string (s.extract 0 400)) w := by
  have h3 : ¬ ((s.size : Int) < 400) := by omega
  simp [go_sem, h3]
theorem jsonRoundA1 (W : World) {j : J 7} {v : Value} {s : ByteArray} {bs : List Nat} (hT : Tab W) (hv : JV j v W) (hs : Str s bs) (hc : bs.length ≤ 400) (hI : IsJ 7 6 (cutJ 7 j)) (hL : (writeJ 7 (cutJ 7 j)).length ≤ 2000) : Ret 4 #[v, .string s] W (Is (.bool true)) := by
  have hsz := hs.size

  have hs' : Str s bs := hs
  have hlen : bs.length ≤ 400 := by exact hc
  have hcut : ¬ (400 : Int) < (s.size : Int) := by omega
  
  
  obtain ⟨l, hl⟩ : ∃ l, l = bs := ⟨_, rfl⟩
  rw [← hl] at hs' hlen
  have HS' : Hid (Str s l) := hs'
  have HLN : Hid (l.length ≤ 400) := hlen
  have HT : Hid (Tab W) := hT
  clear hT hs hs' hl hsz hlen hc 
  obtain ⟨cs, rfl, h5, hJ⟩ := hv
  obtain ⟨c0, c1, c2, c3, c4, rfl⟩ : ∃ c0 c1 c2 c3 c4, cs = [c0, c1, c2, c3, c4] := by
    match cs, h5 with
    | [c0, c1, c2, c3, c4], _ => exact ⟨c0, c1, c2, c3, c4, rfl⟩
  have hjv : JV j (.agg #[c0, c1, c2, c3, c4]) W := ⟨_, rfl, rfl, hJ⟩
  show Ret _ #[.agg #[c0, c1, c2, c3, c4], .string s] W _
  have hB0 : Below W.heap.size W (W.alloc (.cells #[c0, c1, c2, c3, c4] 25)) := below1 _ _
  have hX0 : (W.alloc (.cells #[c0, c1, c2, c3, c4] 25)).heap[W.heap.size]? = some (.cells #[c0, c1, c2, c3, c4] 25 (0, 0)) := heap_alloc_new _ _
  have hjv0 := JV.stb j _ _ _ hB0 hjv
  have hc := cutR 6 j _ _ (by decide) hjv0
  have HX0 : Hid _ := hX0
  clear hX0 hJ hjv hjv0
  unfold Ret
  go_enter Tryd.func4, Tryd.ntmps4
  go_wp2_with fail
  refine hc.mono ?_
  rintro e w1 ⟨_, rfl, hB1, cs, rfl, h5, hJ⟩
  clear hc
  have hone := JM.one (by decide) hJ
  obtain ⟨d0, d1, d2, d3, d4, rfl⟩ : ∃ d0 d1 d2 d3 d4, cs = [d0, d1, d2, d3, d4] := by
    match cs, h5 with
    | [d0, d1, d2, d3, d4], _ => exact ⟨d0, d1, d2, d3, d4, rfl⟩
  have hX1 : w1.heap[W.heap.size]? = some (.cells #[c0, c1, c2, c3, c4] 25 (0, 0)) := block_below hB1 (by simp) HX0.out
  have hall : (#[d0, d1, d2, d3, d4] : Array Value).all (·.oneCell') = true := by simp [hone]
  have hB2 : Below W.heap.size W (w1.setRow W.heap.size #[d0, d1, d2, d3, d4]) := setRow_below (hB0.trans (hB1.mono hB0.size)) (Nat.le_refl _) _
  have hX2 : (w1.setRow W.heap.size #[d0, d1, d2, d3, d4]).heap[W.heap.size]? = some (.cells #[d0, d1, d2, d3, d4] 25 (0, 0)) := setRow_heap _ _ _ _ _ _ hX1
  have hJ2 : JV (cutJ 7 j) (.agg #[d0, d1, d2, d3, d4]) (w1.setRow W.heap.size #[d0, d1, d2, d3, d4]) := ⟨_, rfl, rfl, JM.jc _ _ _ _ (JM.move (T := fun _ => True) (fun b _ hS => ⟨trivial, setRow_other _ _ _ _ (by simp at hS; omega)⟩) _ _ _ hJ)⟩
  clear hJ hone hB1 hB0
  go_wp2_with (refine wpList_store_row rfl 25 (.tmp 2) (.tmp 18) rfl W.heap.size #[d0, d1, d2, d3, d4] rfl rfl 25 _ hX1 size25 rfl hall ?_; refine Hid.out ?_)
  obtain ⟨w2, hw2⟩ : ∃ w2, w2 = w1.setRow W.heap.size #[d0, d1, d2, d3, d4] := ⟨_, rfl⟩
  rw [← hw2] at hB2 hX2 hJ2
  rw [← hw2]
  refine Lib.hid ?_
  have x0 : w2.cell? ⟨W.heap.size, 0, none⟩ = some d0 := (cell_of_row _ _ _ _ _ _ hX2).trans rfl
  have x1 : w2.cell? ⟨W.heap.size, 1, none⟩ = some d1 := (cell_of_row _ _ _ _ _ _ hX2).trans rfl
  have x2 : w2.cell? ⟨W.heap.size, 2, none⟩ = some d2 := (cell_of_row _ _ _ _ _ _ hX2).trans rfl
  have x3 : w2.cell? ⟨W.heap.size, 3, none⟩ = some d3 := (cell_of_row _ _ _ _ _ _ hX2).trans rfl
  have x4 : w2.cell? ⟨W.heap.size, 4, none⟩ = some d4 := (cell_of_row _ _ _ _ _ _ hX2).trans rfl
  have HS : Hid _ := (⟨hB2, hX2, hJ2⟩ : _ ∧ _ ∧ _)
  clear hB2 hX2 hJ2 hw2 hX1 hall
  go_wp2_with fail
  refine (writeP (n := 6) (cutJ 7 j) _ _ (HT.out.below HS.out.1) (cutJ_full 6 j) (TxtJ.mono (by decide) _ _ (cutJ_txt 7 j)) HS.out.2.2).mono ?_
  rintro e w3 ⟨r, rfl, hB3, hr⟩
  have hr := hr.1 hI hL
  subst hr
  obtain ⟨s1, s2, s3⟩ := HS.out
  have hB3' := s1.trans (hB3.mono s1.size)
  have hX := block_below hB3 (lt_of_heap s2) s2
  have hj3 := JV.stb _ _ _ _ hB3 s3
  have HS3 : Hid (Below W.heap.size W w3 ∧ w3.heap[W.heap.size]? = some (.cells #[d0, d1, d2, d3, d4] 25 (0, 0)) ∧ JV (cutJ 7 j) (.agg #[d0, d1, d2, d3, d4]) w3) := ⟨hB3', hX, hj3⟩
  obtain ⟨T, hT⟩ : ∃ T, T = strOf (writeJ 7 (cutJ 7 j)) := ⟨_, rfl⟩
  rw [← hT]
  have HSt : Hid (Str T (writeJ 7 (cutJ 7 j))) := by show Str _ _; rw [hT]; exact str_strOf (writeJ_dig 7 6 _ hI)
  have HRB : Hid (readL (writeJ 7 (cutJ 7 j)) = .ok (cutJ 7 j)) := readL_back _ hI
  have HL : Hid ((writeJ 7 (cutJ 7 j)).length ≤ 2000) := hL
  have hr1 := readP w3 HSt.out
  clear HS hX hB3' hj3 s1 s2 s3 hB3 x0 x1 x2 x3 x4 hT hI hL
  go_wp2_with fail
  refine Calls.mono hr1 ?_
  rintro e w4 ⟨cs, er, rfl, h5, hone1, hB4, _, hq⟩
  have hq := hq HL.out
  rw [HRB.out] at hq
  obtain ⟨rfl, hJ4⟩ := hq
  obtain ⟨e0, e1, e2, e3, e4, rfl⟩ := arr5 h5
  clear hr1 h5
  have hN := heap_alloc_new w4 (.cells zero5 25)
  unfold zero5 at hN
  go_wp2_with (refine wpList_store_row rfl 25 (.tmp 7) (.tmp 29) rfl w4.heap.size #[e0, e1, e2, e3, e4] rfl rfl 25 _ hN size25 rfl hone1 ?_; refine Hid.out ?_)
  obtain ⟨w5, hnew⟩ : ∃ w', w' = (w4.alloc (.cells #[.int .i64 0, .int .i64 0, .string ⟨#[]⟩, .slice none 0 0, .slice none 0 0] 25)).setRow w4.heap.size #[e0, e1, e2, e3, e4] := ⟨_, rfl⟩
  rw [← hnew]
  refine Lib.hid ?_
  have hBn : Below w4.heap.size w4 w5 := by rw [hnew]; exact (below1 _ _).trans ⟨rfl, rfl, rfl, by simp, fun b hb => setRow_other _ _ _ _ (by omega)⟩
  have hYn : w5.heap[w4.heap.size]? = some (.cells #[e0, e1, e2, e3, e4] 25 (0, 0)) := by rw [hnew]; exact setRow_heap _ _ _ _ _ _ hN
  clear hnew hN
  have hs4 := hB4.size
  have hB35 : Below w3.heap.size w3 w5 := hB4.trans (hBn.mono hs4)
  obtain ⟨s1, s2, s3⟩ := HS3.out
  have hs3 := s1.size
  have HB5 : Hid (Below W.heap.size W w5) := s1.trans (hB35.mono hs3)
  have hX5 := block_below hB35 (lt_of_heap s2) s2
  have hjA := JV.stb _ _ _ _ hB35 s3
  have hjB : JV (cutJ 7 j) (.agg #[e0, e1, e2, e3, e4]) w5 := ⟨_, rfl, rfl, JM.jc _ _ _ _ (hJ4.stb hBn)⟩
  have hsm := sameJ 7 _ _ _ _ w5 (cutJ_full 6 j) (cutJ_full 6 j) hjA hjB
  have x0 : w5.cell? ⟨W.heap.size, 0, none⟩ = some d0 := (cell_of_row _ _ _ _ _ _ hX5).trans rfl
  have x1 : w5.cell? ⟨W.heap.size, 1, none⟩ = some d1 := (cell_of_row _ _ _ _ _ _ hX5).trans rfl
  have x2 : w5.cell? ⟨W.heap.size, 2, none⟩ = some d2 := (cell_of_row _ _ _ _ _ _ hX5).trans rfl
  have x3 : w5.cell? ⟨W.heap.size, 3, none⟩ = some d3 := (cell_of_row _ _ _ _ _ _ hX5).trans rfl
  have x4 : w5.cell? ⟨W.heap.size, 4, none⟩ = some d4 := (cell_of_row _ _ _ _ _ _ hX5).trans rfl
  have y0 : w5.cell? ⟨w4.heap.size, 0, none⟩ = some e0 := (cell_of_row _ _ _ _ _ _ hYn).trans rfl
  have y1 : w5.cell? ⟨w4.heap.size, 1, none⟩ = some e1 := (cell_of_row _ _ _ _ _ _ hYn).trans rfl
  have y2 : w5.cell? ⟨w4.heap.size, 2, none⟩ = some e2 := (cell_of_row _ _ _ _ _ _ hYn).trans rfl
  have y3 : w5.cell? ⟨w4.heap.size, 3, none⟩ = some e3 := (cell_of_row _ _ _ _ _ _ hYn).trans rfl
  have y4 : w5.cell? ⟨w4.heap.size, 4, none⟩ = some e4 := (cell_of_row _ _ _ _ _ _ hYn).trans rfl
  clear s1 s2 s3 hs3 hs4 hB35 hX5 hjA hjB hBn hYn hJ4 hB4 hone1 HS3
  go_wp2_with fail
  refine Calls.mono hsm ?_
  rintro e w6 ⟨_, rfl, hB6, c, rfl, hc5⟩
  obtain rfl : c = true := hc5.2 rfl
  have hsC := HB5.out.size
  have HB6 : Hid (Below W.heap.size W w6) := HB5.out.trans (hB6.mono hsC)
  have hr2 := readP w6 HS'.out
  clear hsm hB6 hc5 hsC x0 x1 x2 x3 x4 y0 y1 y2 y3 y4
  go_wp2_with fail
  refine Calls.mono hr2 ?_
  rintro e w7 ⟨cs, er, rfl, h5, hone2, hB7, _, hq⟩
  have hle := HLN.out
  have hq := hq (by omega)
  obtain ⟨f0, f1, f2, f3, f4, rfl⟩ := arr5 h5
  clear hr2 h5 hle
  have hN := heap_alloc_new w7 (.cells zero5 25)
  unfold zero5 at hN
  go_wp2_with (refine wpList_store_row rfl 25 (.tmp 10) (.tmp 48) rfl w7.heap.size #[f0, f1, f2, f3, f4] rfl rfl 25 _ hN size25 rfl hone2 ?_; refine Hid.out ?_)
  obtain ⟨w8, hnew⟩ : ∃ w', w' = (w7.alloc (.cells #[.int .i64 0, .int .i64 0, .string ⟨#[]⟩, .slice none 0 0, .slice none 0 0] 25)).setRow w7.heap.size #[f0, f1, f2, f3, f4] := ⟨_, rfl⟩
  rw [← hnew]
  refine Lib.hid ?_
  have hBn : Below w7.heap.size w7 w8 := by rw [hnew]; exact (below1 _ _).trans ⟨rfl, rfl, rfl, by simp, fun b hb => setRow_other _ _ _ _ (by omega)⟩
  have hYn : w8.heap[w7.heap.size]? = some (.cells #[f0, f1, f2, f3, f4] 25 (0, 0)) := by rw [hnew]; exact setRow_heap _ _ _ _ _ _ hN
  clear hnew hN
  have hs7 := hB7.size
  have hs6 := HB6.out.size
  have HB8 : Hid (Below W.heap.size W w8) := HB6.out.trans ((hB7.trans (hBn.mono hs7)).mono hs6)
  clear hs7 hs6 hB7
  cases hx : readL l with
  | error e0 =>
    rw [hx] at hq
    obtain ⟨rfl, hne, _⟩ := hq
    have hne2 : ¬ er = 0 := hne
    clear hx hBn hYn hone2
    go_wp2_with fail
    refine (livesP _ (HT.out.below HB8.out)).mono ?_
    rintro e wz ⟨_, rfl, hBz, rfl⟩
    have hsz := HB8.out.size
    have HBz : Hid (Below W.heap.size W wz) := HB8.out.trans (hBz.mono hsz)
    clear hBz
    go_wp2
    go_ret
    exact ⟨_, rfl, HBz.out, rfl⟩
  | ok jx =>
    rw [hx] at hq
    obtain ⟨rfl, hJ7⟩ := hq
    have hIs := readL_is hx
    have hFu := isJ_full 7 6 jx hIs
    have hle := HLN.out
    have hTx : TxtJ 1000000 7 jx := readL_txt (by omega) hx
    have hjx : JV jx (.agg #[f0, f1, f2, f3, f4]) w8 := ⟨_, rfl, rfl, JM.jc _ _ _ _ (hJ7.stb hBn)⟩
    have hwr := writeP (n := 6) jx _ w8 (HT.out.below HB8.out) hFu hTx hjx
    have x0 : w8.cell? ⟨w7.heap.size, 0, none⟩ = some f0 := (cell_of_row _ _ _ _ _ _ hYn).trans rfl
    have x1 : w8.cell? ⟨w7.heap.size, 1, none⟩ = some f1 := (cell_of_row _ _ _ _ _ _ hYn).trans rfl
    have x2 : w8.cell? ⟨w7.heap.size, 2, none⟩ = some f2 := (cell_of_row _ _ _ _ _ _ hYn).trans rfl
    have x3 : w8.cell? ⟨w7.heap.size, 3, none⟩ = some f3 := (cell_of_row _ _ _ _ _ _ hYn).trans rfl
    have x4 : w8.cell? ⟨w7.heap.size, 4, none⟩ = some f4 := (cell_of_row _ _ _ _ _ _ hYn).trans rfl
    have HJX : Hid (JV jx (.agg #[f0, f1, f2, f3, f4]) w8) := hjx
    have HY : Hid (w8.heap[w7.heap.size]? = some (.cells #[f0, f1, f2, f3, f4] 25 (0, 0))) := hYn
    have HIS : Hid (IsJ 7 6 jx) := hIs
    have HFU : Hid (Full 7 jx) := hFu
    clear hx hBn hYn hone2 hJ7 hle hTx hjx hIs hFu
    go_wp2_with fail
    refine Calls.mono hwr ?_
    rintro e w9 ⟨r, rfl, hB9, hr⟩
    have hs8 := HB8.out.size
    have HB9 : Hid (Below W.heap.size W w9) := HB8.out.trans (hB9.mono hs8)
    have hX9 := block_below hB9 (lt_of_heap HY.out) HY.out
    have hj9 := JV.stb _ _ _ _ hB9 HJX.out
    have HS9 : Hid (w9.heap[w7.heap.size]? = some (.cells #[f0, f1, f2, f3, f4] 25 (0, 0)) ∧ JV jx (.agg #[f0, f1, f2, f3, f4]) w9) := ⟨hX9, hj9⟩
    clear hwr hs8 hB9 hX9 hj9 HY HJX x0 x1 x2 x3 x4
    by_cases hW : (writeJ 7 jx).length ≤ 2000
    · have hr := hr.1 HIS.out hW
      subst hr
      obtain ⟨U, hU⟩ : ∃ U, U = strOf (writeJ 7 jx) := ⟨_, rfl⟩
      rw [← hU]
      have HSu : Hid (Str U (writeJ 7 jx)) := by show Str _ _; rw [hU]; exact str_strOf (writeJ_dig 7 6 _ HIS.out)
      have HRU : Hid (readL (writeJ 7 jx) = .ok jx) := readL_back _ HIS.out
      have HLW : Hid ((writeJ 7 jx).length ≤ 2000) := hW
      have hr3 := readP w9 HSu.out
      clear hU hW
      go_wp2_with fail
      refine Calls.mono hr3 ?_
      rintro e w10 ⟨cs, er, rfl, h5, hone3, hB10, _, hq⟩
      have hq := hq HLW.out
      rw [HRU.out] at hq
      obtain ⟨rfl, hJ10⟩ := hq
      obtain ⟨g0, g1, g2, g3, g4, rfl⟩ := arr5 h5
      clear hr3 h5
      have hN := heap_alloc_new w10 (.cells zero5 25)
      unfold zero5 at hN
      go_wp2_with (refine wpList_store_row rfl 25 (.tmp 14) (.tmp 68) rfl w10.heap.size #[g0, g1, g2, g3, g4] rfl rfl 25 _ hN size25 rfl hone3 ?_; refine Hid.out ?_)
      obtain ⟨w11, hnew⟩ : ∃ w', w' = (w10.alloc (.cells #[.int .i64 0, .int .i64 0, .string ⟨#[]⟩, .slice none 0 0, .slice none 0 0] 25)).setRow w10.heap.size #[g0, g1, g2, g3, g4] := ⟨_, rfl⟩
      rw [← hnew]
      refine Lib.hid ?_
      have hBn : Below w10.heap.size w10 w11 := by rw [hnew]; exact (below1 _ _).trans ⟨rfl, rfl, rfl, by simp, fun b hb => setRow_other _ _ _ _ (by omega)⟩
      have hYn : w11.heap[w10.heap.size]? = some (.cells #[g0, g1, g2, g3, g4] 25 (0, 0)) := by rw [hnew]; exact setRow_heap _ _ _ _ _ _ hN
      clear hnew hN
      have hs10 := hB10.size
      have hB911 : Below w9.heap.size w9 w11 := hB10.trans (hBn.mono hs10)
      have hs9 := HB9.out.size
      have HB11 : Hid (Below W.heap.size W w11) := HB9.out.trans (hB911.mono hs9)
      obtain ⟨s2, s3⟩ := HS9.out
      have hX11 := block_below hB911 (lt_of_heap s2) s2
      have hjA := JV.stb _ _ _ _ hB911 s3
      have hjB : JV jx (.agg #[g0, g1, g2, g3, g4]) w11 := ⟨_, rfl, rfl, JM.jc _ _ _ _ (hJ10.stb hBn)⟩
      have hsm := sameJ 7 _ _ _ _ w11 HFU.out HFU.out hjA hjB
      have x0 : w11.cell? ⟨w7.heap.size, 0, none⟩ = some f0 := (cell_of_row _ _ _ _ _ _ hX11).trans rfl
      have x1 : w11.cell? ⟨w7.heap.size, 1, none⟩ = some f1 := (cell_of_row _ _ _ _ _ _ hX11).trans rfl
      have x2 : w11.cell? ⟨w7.heap.size, 2, none⟩ = some f2 := (cell_of_row _ _ _ _ _ _ hX11).trans rfl
      have x3 : w11.cell? ⟨w7.heap.size, 3, none⟩ = some f3 := (cell_of_row _ _ _ _ _ _ hX11).trans rfl
      have x4 : w11.cell? ⟨w7.heap.size, 4, none⟩ = some f4 := (cell_of_row _ _ _ _ _ _ hX11).trans rfl
      have y0 : w11.cell? ⟨w10.heap.size, 0, none⟩ = some g0 := (cell_of_row _ _ _ _ _ _ hYn).trans rfl
      have y1 : w11.cell? ⟨w10.heap.size, 1, none⟩ = some g1 := (cell_of_row _ _ _ _ _ _ hYn).trans rfl
      have y2 : w11.cell? ⟨w10.heap.size, 2, none⟩ = some g2 := (cell_of_row _ _ _ _ _ _ hYn).trans rfl
      have y3 : w11.cell? ⟨w10.heap.size, 3, none⟩ = some g3 := (cell_of_row _ _ _ _ _ _ hYn).trans rfl
      have y4 : w11.cell? ⟨w10.heap.size, 4, none⟩ = some g4 := (cell_of_row _ _ _ _ _ _ hYn).trans rfl
      clear s2 s3 hs9 hs10 hB911 hX11 hjA hjB hBn hYn hJ10 hB10 hone3 HS9
      go_wp2_with fail
      refine Calls.mono hsm ?_
      rintro e w12 ⟨_, rfl, hB12, c, rfl, hc6⟩
      obtain rfl : c = true := hc6.2 rfl
      have hs11 := HB11.out.size
      have HB12 : Hid (Below W.heap.size W w12) := HB11.out.trans (hB12.mono hs11)
      clear hsm hB12 hc6 hs11 x0 x1 x2 x3 x4 y0 y1 y2 y3 y4
      go_wp2_with fail
      refine (livesP _ (HT.out.below HB12.out)).mono ?_
      rintro e wz ⟨_, rfl, hBz, rfl⟩
      have hsz := HB12.out.size
      have HBz : Hid (Below W.heap.size W wz) := HB12.out.trans (hBz.mono hsz)
      clear hBz
      go_wp2
      go_ret
      exact ⟨_, rfl, HBz.out, rfl⟩
    · have hr := hr.2.1 HIS.out (show 2000 < (writeJ 7 jx).length by omega)
      subst hr
      clear hW
      go_wp2_with fail
      refine (livesP _ (HT.out.below HB9.out)).mono ?_
      rintro e wz ⟨_, rfl, hBz, rfl⟩
      have hsz := HB9.out.size
      have HBz : Hid (Below W.heap.size W wz) := HB9.out.trans (hBz.mono hsz)
      clear hBz
      go_wp2
      go_ret
      exact ⟨_, rfl, HBz.out, rfl⟩
theorem jsonRoundA2 (W : World) {j : J 7} {v : Value} {s : ByteArray} {bs : List Nat} (hT : Tab W) (hv : JV j v W) (hs : Str s bs) (hc : 400 < bs.length) (hI : IsJ 7 6 (cutJ 7 j)) (hL : (writeJ 7 (cutJ 7 j)).length ≤ 2000) : Ret 4 #[v, .string s] W (Is (.bool true)) := by
  have hsz := hs.size
  obtain ⟨S, hSd⟩ : ∃ S, S = s.extract 0 400 := ⟨_, rfl⟩
  have hs' : Str S (bs.take 400) := by rw [hSd]; exact hs.cut400 (by omega)
  have hlen : (bs.take 400).length ≤ 400 := by simp; omega
  have hcut : (400 : Int) < (s.size : Int) := by omega
  have hct2 := fun (w : World) => cut400 (s := s) (by omega) w
  rw [← hSd] at hct2
  obtain ⟨l, hl⟩ : ∃ l, l = (bs.take 400) := ⟨_, rfl⟩
  rw [← hl] at hs' hlen
  have HS' : Hid (Str S l) := hs'
  have HLN : Hid (l.length ≤ 400) := hlen
  have HT : Hid (Tab W) := hT
  clear hT hs hs' hl hsz hlen hc hSd
  obtain ⟨cs, rfl, h5, hJ⟩ := hv
  obtain ⟨c0, c1, c2, c3, c4, rfl⟩ : ∃ c0 c1 c2 c3 c4, cs = [c0, c1, c2, c3, c4] := by
    match cs, h5 with
    | [c0, c1, c2, c3, c4], _ => exact ⟨c0, c1, c2, c3, c4, rfl⟩
  have hjv : JV j (.agg #[c0, c1, c2, c3, c4]) W := ⟨_, rfl, rfl, hJ⟩
  show Ret _ #[.agg #[c0, c1, c2, c3, c4], .string s] W _
  have hB0 : Below W.heap.size W (W.alloc (.cells #[c0, c1, c2, c3, c4] 25)) := below1 _ _
  have hX0 : (W.alloc (.cells #[c0, c1, c2, c3, c4] 25)).heap[W.heap.size]? = some (.cells #[c0, c1, c2, c3, c4] 25 (0, 0)) := heap_alloc_new _ _
  have hjv0 := JV.stb j _ _ _ hB0 hjv
  have hc := cutR 6 j _ _ (by decide) hjv0
  have HX0 : Hid _ := hX0
  clear hX0 hJ hjv hjv0
  unfold Ret
  go_enter Tryd.func4, Tryd.ntmps4
  go_wp2_with fail
  refine hc.mono ?_
  rintro e w1 ⟨_, rfl, hB1, cs, rfl, h5, hJ⟩
  clear hc
  have hone := JM.one (by decide) hJ
  obtain ⟨d0, d1, d2, d3, d4, rfl⟩ : ∃ d0 d1 d2 d3 d4, cs = [d0, d1, d2, d3, d4] := by
    match cs, h5 with
    | [d0, d1, d2, d3, d4], _ => exact ⟨d0, d1, d2, d3, d4, rfl⟩
  have hX1 : w1.heap[W.heap.size]? = some (.cells #[c0, c1, c2, c3, c4] 25 (0, 0)) := block_below hB1 (by simp) HX0.out
  have hall : (#[d0, d1, d2, d3, d4] : Array Value).all (·.oneCell') = true := by simp [hone]
  have hB2 : Below W.heap.size W (w1.setRow W.heap.size #[d0, d1, d2, d3, d4]) := setRow_below (hB0.trans (hB1.mono hB0.size)) (Nat.le_refl _) _
  have hX2 : (w1.setRow W.heap.size #[d0, d1, d2, d3, d4]).heap[W.heap.size]? = some (.cells #[d0, d1, d2, d3, d4] 25 (0, 0)) := setRow_heap _ _ _ _ _ _ hX1
  have hJ2 : JV (cutJ 7 j) (.agg #[d0, d1, d2, d3, d4]) (w1.setRow W.heap.size #[d0, d1, d2, d3, d4]) := ⟨_, rfl, rfl, JM.jc _ _ _ _ (JM.move (T := fun _ => True) (fun b _ hS => ⟨trivial, setRow_other _ _ _ _ (by simp at hS; omega)⟩) _ _ _ hJ)⟩
  clear hJ hone hB1 hB0
  go_wp2_with (refine wpList_store_row rfl 25 (.tmp 2) (.tmp 18) rfl W.heap.size #[d0, d1, d2, d3, d4] rfl rfl 25 _ hX1 size25 rfl hall ?_; refine Hid.out ?_)
  obtain ⟨w2, hw2⟩ : ∃ w2, w2 = w1.setRow W.heap.size #[d0, d1, d2, d3, d4] := ⟨_, rfl⟩
  rw [← hw2] at hB2 hX2 hJ2
  rw [← hw2]
  refine Lib.hid ?_
  have x0 : w2.cell? ⟨W.heap.size, 0, none⟩ = some d0 := (cell_of_row _ _ _ _ _ _ hX2).trans rfl
  have x1 : w2.cell? ⟨W.heap.size, 1, none⟩ = some d1 := (cell_of_row _ _ _ _ _ _ hX2).trans rfl
  have x2 : w2.cell? ⟨W.heap.size, 2, none⟩ = some d2 := (cell_of_row _ _ _ _ _ _ hX2).trans rfl
  have x3 : w2.cell? ⟨W.heap.size, 3, none⟩ = some d3 := (cell_of_row _ _ _ _ _ _ hX2).trans rfl
  have x4 : w2.cell? ⟨W.heap.size, 4, none⟩ = some d4 := (cell_of_row _ _ _ _ _ _ hX2).trans rfl
  have HS : Hid _ := (⟨hB2, hX2, hJ2⟩ : _ ∧ _ ∧ _)
  clear hB2 hX2 hJ2 hw2 hX1 hall
  go_wp2_with fail
  refine (writeP (n := 6) (cutJ 7 j) _ _ (HT.out.below HS.out.1) (cutJ_full 6 j) (TxtJ.mono (by decide) _ _ (cutJ_txt 7 j)) HS.out.2.2).mono ?_
  rintro e w3 ⟨r, rfl, hB3, hr⟩
  have hr := hr.1 hI hL
  subst hr
  obtain ⟨s1, s2, s3⟩ := HS.out
  have hB3' := s1.trans (hB3.mono s1.size)
  have hX := block_below hB3 (lt_of_heap s2) s2
  have hj3 := JV.stb _ _ _ _ hB3 s3
  have HS3 : Hid (Below W.heap.size W w3 ∧ w3.heap[W.heap.size]? = some (.cells #[d0, d1, d2, d3, d4] 25 (0, 0)) ∧ JV (cutJ 7 j) (.agg #[d0, d1, d2, d3, d4]) w3) := ⟨hB3', hX, hj3⟩
  obtain ⟨T, hT⟩ : ∃ T, T = strOf (writeJ 7 (cutJ 7 j)) := ⟨_, rfl⟩
  rw [← hT]
  have HSt : Hid (Str T (writeJ 7 (cutJ 7 j))) := by show Str _ _; rw [hT]; exact str_strOf (writeJ_dig 7 6 _ hI)
  have HRB : Hid (readL (writeJ 7 (cutJ 7 j)) = .ok (cutJ 7 j)) := readL_back _ hI
  have HL : Hid ((writeJ 7 (cutJ 7 j)).length ≤ 2000) := hL
  have hr1 := readP w3 HSt.out
  clear HS hX hB3' hj3 s1 s2 s3 hB3 x0 x1 x2 x3 x4 hT hI hL
  go_wp2_with fail
  refine Calls.mono hr1 ?_
  rintro e w4 ⟨cs, er, rfl, h5, hone1, hB4, _, hq⟩
  have hq := hq HL.out
  rw [HRB.out] at hq
  obtain ⟨rfl, hJ4⟩ := hq
  obtain ⟨e0, e1, e2, e3, e4, rfl⟩ := arr5 h5
  clear hr1 h5
  have hN := heap_alloc_new w4 (.cells zero5 25)
  unfold zero5 at hN
  go_wp2_with (refine wpList_store_row rfl 25 (.tmp 7) (.tmp 29) rfl w4.heap.size #[e0, e1, e2, e3, e4] rfl rfl 25 _ hN size25 rfl hone1 ?_; refine Hid.out ?_)
  obtain ⟨w5, hnew⟩ : ∃ w', w' = (w4.alloc (.cells #[.int .i64 0, .int .i64 0, .string ⟨#[]⟩, .slice none 0 0, .slice none 0 0] 25)).setRow w4.heap.size #[e0, e1, e2, e3, e4] := ⟨_, rfl⟩
  rw [← hnew]
  refine Lib.hid ?_
  have hBn : Below w4.heap.size w4 w5 := by rw [hnew]; exact (below1 _ _).trans ⟨rfl, rfl, rfl, by simp, fun b hb => setRow_other _ _ _ _ (by omega)⟩
  have hYn : w5.heap[w4.heap.size]? = some (.cells #[e0, e1, e2, e3, e4] 25 (0, 0)) := by rw [hnew]; exact setRow_heap _ _ _ _ _ _ hN
  clear hnew hN
  have hs4 := hB4.size
  have hB35 : Below w3.heap.size w3 w5 := hB4.trans (hBn.mono hs4)
  obtain ⟨s1, s2, s3⟩ := HS3.out
  have hs3 := s1.size
  have HB5 : Hid (Below W.heap.size W w5) := s1.trans (hB35.mono hs3)
  have hX5 := block_below hB35 (lt_of_heap s2) s2
  have hjA := JV.stb _ _ _ _ hB35 s3
  have hjB : JV (cutJ 7 j) (.agg #[e0, e1, e2, e3, e4]) w5 := ⟨_, rfl, rfl, JM.jc _ _ _ _ (hJ4.stb hBn)⟩
  have hsm := sameJ 7 _ _ _ _ w5 (cutJ_full 6 j) (cutJ_full 6 j) hjA hjB
  have x0 : w5.cell? ⟨W.heap.size, 0, none⟩ = some d0 := (cell_of_row _ _ _ _ _ _ hX5).trans rfl
  have x1 : w5.cell? ⟨W.heap.size, 1, none⟩ = some d1 := (cell_of_row _ _ _ _ _ _ hX5).trans rfl
  have x2 : w5.cell? ⟨W.heap.size, 2, none⟩ = some d2 := (cell_of_row _ _ _ _ _ _ hX5).trans rfl
  have x3 : w5.cell? ⟨W.heap.size, 3, none⟩ = some d3 := (cell_of_row _ _ _ _ _ _ hX5).trans rfl
  have x4 : w5.cell? ⟨W.heap.size, 4, none⟩ = some d4 := (cell_of_row _ _ _ _ _ _ hX5).trans rfl
  have y0 : w5.cell? ⟨w4.heap.size, 0, none⟩ = some e0 := (cell_of_row _ _ _ _ _ _ hYn).trans rfl
  have y1 : w5.cell? ⟨w4.heap.size, 1, none⟩ = some e1 := (cell_of_row _ _ _ _ _ _ hYn).trans rfl
  have y2 : w5.cell? ⟨w4.heap.size, 2, none⟩ = some e2 := (cell_of_row _ _ _ _ _ _ hYn).trans rfl
  have y3 : w5.cell? ⟨w4.heap.size, 3, none⟩ = some e3 := (cell_of_row _ _ _ _ _ _ hYn).trans rfl
  have y4 : w5.cell? ⟨w4.heap.size, 4, none⟩ = some e4 := (cell_of_row _ _ _ _ _ _ hYn).trans rfl
  clear s1 s2 s3 hs3 hs4 hB35 hX5 hjA hjB hBn hYn hJ4 hB4 hone1 HS3
  go_wp2_with fail
  refine Calls.mono hsm ?_
  rintro e w6 ⟨_, rfl, hB6, c, rfl, hc5⟩
  obtain rfl : c = true := hc5.2 rfl
  have hsC := HB5.out.size
  have HB6 : Hid (Below W.heap.size W w6) := HB5.out.trans (hB6.mono hsC)
  have hr2 := readP w6 HS'.out
  clear hsm hB6 hc5 hsC x0 x1 x2 x3 x4 y0 y1 y2 y3 y4
  go_wp2_with fail
  refine Calls.mono hr2 ?_
  rintro e w7 ⟨cs, er, rfl, h5, hone2, hB7, _, hq⟩
  have hle := HLN.out
  have hq := hq (by omega)
  obtain ⟨f0, f1, f2, f3, f4, rfl⟩ := arr5 h5
  clear hr2 h5 hle
  have hN := heap_alloc_new w7 (.cells zero5 25)
  unfold zero5 at hN
  go_wp2_with (refine wpList_store_row rfl 25 (.tmp 10) (.tmp 48) rfl w7.heap.size #[f0, f1, f2, f3, f4] rfl rfl 25 _ hN size25 rfl hone2 ?_; refine Hid.out ?_)
  obtain ⟨w8, hnew⟩ : ∃ w', w' = (w7.alloc (.cells #[.int .i64 0, .int .i64 0, .string ⟨#[]⟩, .slice none 0 0, .slice none 0 0] 25)).setRow w7.heap.size #[f0, f1, f2, f3, f4] := ⟨_, rfl⟩
  rw [← hnew]
  refine Lib.hid ?_
  have hBn : Below w7.heap.size w7 w8 := by rw [hnew]; exact (below1 _ _).trans ⟨rfl, rfl, rfl, by simp, fun b hb => setRow_other _ _ _ _ (by omega)⟩
  have hYn : w8.heap[w7.heap.size]? = some (.cells #[f0, f1, f2, f3, f4] 25 (0, 0)) := by rw [hnew]; exact setRow_heap _ _ _ _ _ _ hN
  clear hnew hN
  have hs7 := hB7.size
  have hs6 := HB6.out.size
  have HB8 : Hid (Below W.heap.size W w8) := HB6.out.trans ((hB7.trans (hBn.mono hs7)).mono hs6)
  clear hs7 hs6 hB7
  cases hx : readL l with
  | error e0 =>
    rw [hx] at hq
    obtain ⟨rfl, hne, _⟩ := hq
    have hne2 : ¬ er = 0 := hne
    clear hx hBn hYn hone2
    go_wp2_with fail
    refine (livesP _ (HT.out.below HB8.out)).mono ?_
    rintro e wz ⟨_, rfl, hBz, rfl⟩
    have hsz := HB8.out.size
    have HBz : Hid (Below W.heap.size W wz) := HB8.out.trans (hBz.mono hsz)
    clear hBz
    go_wp2
    go_ret
    exact ⟨_, rfl, HBz.out, rfl⟩
  | ok jx =>
    rw [hx] at hq
    obtain ⟨rfl, hJ7⟩ := hq
    have hIs := readL_is hx
    have hFu := isJ_full 7 6 jx hIs
    have hle := HLN.out
    have hTx : TxtJ 1000000 7 jx := readL_txt (by omega) hx
    have hjx : JV jx (.agg #[f0, f1, f2, f3, f4]) w8 := ⟨_, rfl, rfl, JM.jc _ _ _ _ (hJ7.stb hBn)⟩
    have hwr := writeP (n := 6) jx _ w8 (HT.out.below HB8.out) hFu hTx hjx
    have x0 : w8.cell? ⟨w7.heap.size, 0, none⟩ = some f0 := (cell_of_row _ _ _ _ _ _ hYn).trans rfl
    have x1 : w8.cell? ⟨w7.heap.size, 1, none⟩ = some f1 := (cell_of_row _ _ _ _ _ _ hYn).trans rfl
    have x2 : w8.cell? ⟨w7.heap.size, 2, none⟩ = some f2 := (cell_of_row _ _ _ _ _ _ hYn).trans rfl
    have x3 : w8.cell? ⟨w7.heap.size, 3, none⟩ = some f3 := (cell_of_row _ _ _ _ _ _ hYn).trans rfl
    have x4 : w8.cell? ⟨w7.heap.size, 4, none⟩ = some f4 := (cell_of_row _ _ _ _ _ _ hYn).trans rfl
    have HJX : Hid (JV jx (.agg #[f0, f1, f2, f3, f4]) w8) := hjx
    have HY : Hid (w8.heap[w7.heap.size]? = some (.cells #[f0, f1, f2, f3, f4] 25 (0, 0))) := hYn
    have HIS : Hid (IsJ 7 6 jx) := hIs
    have HFU : Hid (Full 7 jx) := hFu
    clear hx hBn hYn hone2 hJ7 hle hTx hjx hIs hFu
    go_wp2_with fail
    refine Calls.mono hwr ?_
    rintro e w9 ⟨r, rfl, hB9, hr⟩
    have hs8 := HB8.out.size
    have HB9 : Hid (Below W.heap.size W w9) := HB8.out.trans (hB9.mono hs8)
    have hX9 := block_below hB9 (lt_of_heap HY.out) HY.out
    have hj9 := JV.stb _ _ _ _ hB9 HJX.out
    have HS9 : Hid (w9.heap[w7.heap.size]? = some (.cells #[f0, f1, f2, f3, f4] 25 (0, 0)) ∧ JV jx (.agg #[f0, f1, f2, f3, f4]) w9) := ⟨hX9, hj9⟩
    clear hwr hs8 hB9 hX9 hj9 HY HJX x0 x1 x2 x3 x4
    by_cases hW : (writeJ 7 jx).length ≤ 2000
    · have hr := hr.1 HIS.out hW
      subst hr
      obtain ⟨U, hU⟩ : ∃ U, U = strOf (writeJ 7 jx) := ⟨_, rfl⟩
      rw [← hU]
      have HSu : Hid (Str U (writeJ 7 jx)) := by show Str _ _; rw [hU]; exact str_strOf (writeJ_dig 7 6 _ HIS.out)
      have HRU : Hid (readL (writeJ 7 jx) = .ok jx) := readL_back _ HIS.out
      have HLW : Hid ((writeJ 7 jx).length ≤ 2000) := hW
      have hr3 := readP w9 HSu.out
      clear hU hW
      go_wp2_with fail
      refine Calls.mono hr3 ?_
      rintro e w10 ⟨cs, er, rfl, h5, hone3, hB10, _, hq⟩
      have hq := hq HLW.out
      rw [HRU.out] at hq
      obtain ⟨rfl, hJ10⟩ := hq
      obtain ⟨g0, g1, g2, g3, g4, rfl⟩ := arr5 h5
      clear hr3 h5
      have hN := heap_alloc_new w10 (.cells zero5 25)
      unfold zero5 at hN
      go_wp2_with (refine wpList_store_row rfl 25 (.tmp 14) (.tmp 68) rfl w10.heap.size #[g0, g1, g2, g3, g4] rfl rfl 25 _ hN size25 rfl hone3 ?_; refine Hid.out ?_)
      obtain ⟨w11, hnew⟩ : ∃ w', w' = (w10.alloc (.cells #[.int .i64 0, .int .i64 0, .string ⟨#[]⟩, .slice none 0 0, .slice none 0 0] 25)).setRow w10.heap.size #[g0, g1, g2, g3, g4] := ⟨_, rfl⟩
      rw [← hnew]
      refine Lib.hid ?_
      have hBn : Below w10.heap.size w10 w11 := by rw [hnew]; exact (below1 _ _).trans ⟨rfl, rfl, rfl, by simp, fun b hb => setRow_other _ _ _ _ (by omega)⟩
      have hYn : w11.heap[w10.heap.size]? = some (.cells #[g0, g1, g2, g3, g4] 25 (0, 0)) := by rw [hnew]; exact setRow_heap _ _ _ _ _ _ hN
      clear hnew hN
      have hs10 := hB10.size
      have hB911 : Below w9.heap.size w9 w11 := hB10.trans (hBn.mono hs10)
      have hs9 := HB9.out.size
      have HB11 : Hid (Below W.heap.size W w11) := HB9.out.trans (hB911.mono hs9)
      obtain ⟨s2, s3⟩ := HS9.out
      have hX11 := block_below hB911 (lt_of_heap s2) s2
      have hjA := JV.stb _ _ _ _ hB911 s3
      have hjB : JV jx (.agg #[g0, g1, g2, g3, g4]) w11 := ⟨_, rfl, rfl, JM.jc _ _ _ _ (hJ10.stb hBn)⟩
      have hsm := sameJ 7 _ _ _ _ w11 HFU.out HFU.out hjA hjB
      have x0 : w11.cell? ⟨w7.heap.size, 0, none⟩ = some f0 := (cell_of_row _ _ _ _ _ _ hX11).trans rfl
      have x1 : w11.cell? ⟨w7.heap.size, 1, none⟩ = some f1 := (cell_of_row _ _ _ _ _ _ hX11).trans rfl
      have x2 : w11.cell? ⟨w7.heap.size, 2, none⟩ = some f2 := (cell_of_row _ _ _ _ _ _ hX11).trans rfl
      have x3 : w11.cell? ⟨w7.heap.size, 3, none⟩ = some f3 := (cell_of_row _ _ _ _ _ _ hX11).trans rfl
      have x4 : w11.cell? ⟨w7.heap.size, 4, none⟩ = some f4 := (cell_of_row _ _ _ _ _ _ hX11).trans rfl
      have y0 : w11.cell? ⟨w10.heap.size, 0, none⟩ = some g0 := (cell_of_row _ _ _ _ _ _ hYn).trans rfl
      have y1 : w11.cell? ⟨w10.heap.size, 1, none⟩ = some g1 := (cell_of_row _ _ _ _ _ _ hYn).trans rfl
      have y2 : w11.cell? ⟨w10.heap.size, 2, none⟩ = some g2 := (cell_of_row _ _ _ _ _ _ hYn).trans rfl
      have y3 : w11.cell? ⟨w10.heap.size, 3, none⟩ = some g3 := (cell_of_row _ _ _ _ _ _ hYn).trans rfl
      have y4 : w11.cell? ⟨w10.heap.size, 4, none⟩ = some g4 := (cell_of_row _ _ _ _ _ _ hYn).trans rfl
      clear s2 s3 hs9 hs10 hB911 hX11 hjA hjB hBn hYn hJ10 hB10 hone3 HS9
      go_wp2_with fail
      refine Calls.mono hsm ?_
      rintro e w12 ⟨_, rfl, hB12, c, rfl, hc6⟩
      obtain rfl : c = true := hc6.2 rfl
      have hs11 := HB11.out.size
      have HB12 : Hid (Below W.heap.size W w12) := HB11.out.trans (hB12.mono hs11)
      clear hsm hB12 hc6 hs11 x0 x1 x2 x3 x4 y0 y1 y2 y3 y4
      go_wp2_with fail
      refine (livesP _ (HT.out.below HB12.out)).mono ?_
      rintro e wz ⟨_, rfl, hBz, rfl⟩
      have hsz := HB12.out.size
      have HBz : Hid (Below W.heap.size W wz) := HB12.out.trans (hBz.mono hsz)
      clear hBz
      go_wp2
      go_ret
      exact ⟨_, rfl, HBz.out, rfl⟩
    · have hr := hr.2.1 HIS.out (show 2000 < (writeJ 7 jx).length by omega)
      subst hr
      clear hW
      go_wp2_with fail
      refine (livesP _ (HT.out.below HB9.out)).mono ?_
      rintro e wz ⟨_, rfl, hBz, rfl⟩
      have hsz := HB9.out.size
      have HBz : Hid (Below W.heap.size W wz) := HB9.out.trans (hBz.mono hsz)
      clear hBz
      go_wp2
      go_ret
      exact ⟨_, rfl, HBz.out, rfl⟩
theorem jsonRoundB1 (W : World) {j : J 7} {v : Value} {s : ByteArray} {bs : List Nat} (hT : Tab W) (hv : JV j v W) (hs : Str s bs) (hc : bs.length ≤ 400) (hI : IsJ 7 6 (cutJ 7 j)) (hL : 2000 < (writeJ 7 (cutJ 7 j)).length) : Ret 4 #[v, .string s] W (Is (.bool true)) := by
  have hsz := hs.size

  have hs' : Str s bs := hs
  have hlen : bs.length ≤ 400 := by exact hc
  have hcut : ¬ (400 : Int) < (s.size : Int) := by omega
  
  
  obtain ⟨l, hl⟩ : ∃ l, l = bs := ⟨_, rfl⟩
  rw [← hl] at hs' hlen
  have HS' : Hid (Str s l) := hs'
  have HLN : Hid (l.length ≤ 400) := hlen
  have HT : Hid (Tab W) := hT
  clear hT hs hs' hl hsz hlen hc 
  obtain ⟨cs, rfl, h5, hJ⟩ := hv
  obtain ⟨c0, c1, c2, c3, c4, rfl⟩ : ∃ c0 c1 c2 c3 c4, cs = [c0, c1, c2, c3, c4] := by
    match cs, h5 with
    | [c0, c1, c2, c3, c4], _ => exact ⟨c0, c1, c2, c3, c4, rfl⟩
  have hjv : JV j (.agg #[c0, c1, c2, c3, c4]) W := ⟨_, rfl, rfl, hJ⟩
  show Ret _ #[.agg #[c0, c1, c2, c3, c4], .string s] W _
  have hB0 : Below W.heap.size W (W.alloc (.cells #[c0, c1, c2, c3, c4] 25)) := below1 _ _
  have hX0 : (W.alloc (.cells #[c0, c1, c2, c3, c4] 25)).heap[W.heap.size]? = some (.cells #[c0, c1, c2, c3, c4] 25 (0, 0)) := heap_alloc_new _ _
  have hjv0 := JV.stb j _ _ _ hB0 hjv
  have hc := cutR 6 j _ _ (by decide) hjv0
  have HX0 : Hid _ := hX0
  clear hX0 hJ hjv hjv0
  unfold Ret
  go_enter Tryd.func4, Tryd.ntmps4
  go_wp2_with fail
  refine hc.mono ?_
  rintro e w1 ⟨_, rfl, hB1, cs, rfl, h5, hJ⟩
  clear hc
  have hone := JM.one (by decide) hJ
  obtain ⟨d0, d1, d2, d3, d4, rfl⟩ : ∃ d0 d1 d2 d3 d4, cs = [d0, d1, d2, d3, d4] := by
    match cs, h5 with
    | [d0, d1, d2, d3, d4], _ => exact ⟨d0, d1, d2, d3, d4, rfl⟩
  have hX1 : w1.heap[W.heap.size]? = some (.cells #[c0, c1, c2, c3, c4] 25 (0, 0)) := block_below hB1 (by simp) HX0.out
  have hall : (#[d0, d1, d2, d3, d4] : Array Value).all (·.oneCell') = true := by simp [hone]
  have hB2 : Below W.heap.size W (w1.setRow W.heap.size #[d0, d1, d2, d3, d4]) := setRow_below (hB0.trans (hB1.mono hB0.size)) (Nat.le_refl _) _
  have hX2 : (w1.setRow W.heap.size #[d0, d1, d2, d3, d4]).heap[W.heap.size]? = some (.cells #[d0, d1, d2, d3, d4] 25 (0, 0)) := setRow_heap _ _ _ _ _ _ hX1
  have hJ2 : JV (cutJ 7 j) (.agg #[d0, d1, d2, d3, d4]) (w1.setRow W.heap.size #[d0, d1, d2, d3, d4]) := ⟨_, rfl, rfl, JM.jc _ _ _ _ (JM.move (T := fun _ => True) (fun b _ hS => ⟨trivial, setRow_other _ _ _ _ (by simp at hS; omega)⟩) _ _ _ hJ)⟩
  clear hJ hone hB1 hB0
  go_wp2_with (refine wpList_store_row rfl 25 (.tmp 2) (.tmp 18) rfl W.heap.size #[d0, d1, d2, d3, d4] rfl rfl 25 _ hX1 size25 rfl hall ?_; refine Hid.out ?_)
  obtain ⟨w2, hw2⟩ : ∃ w2, w2 = w1.setRow W.heap.size #[d0, d1, d2, d3, d4] := ⟨_, rfl⟩
  rw [← hw2] at hB2 hX2 hJ2
  rw [← hw2]
  refine Lib.hid ?_
  have x0 : w2.cell? ⟨W.heap.size, 0, none⟩ = some d0 := (cell_of_row _ _ _ _ _ _ hX2).trans rfl
  have x1 : w2.cell? ⟨W.heap.size, 1, none⟩ = some d1 := (cell_of_row _ _ _ _ _ _ hX2).trans rfl
  have x2 : w2.cell? ⟨W.heap.size, 2, none⟩ = some d2 := (cell_of_row _ _ _ _ _ _ hX2).trans rfl
  have x3 : w2.cell? ⟨W.heap.size, 3, none⟩ = some d3 := (cell_of_row _ _ _ _ _ _ hX2).trans rfl
  have x4 : w2.cell? ⟨W.heap.size, 4, none⟩ = some d4 := (cell_of_row _ _ _ _ _ _ hX2).trans rfl
  have HS : Hid _ := (⟨hB2, hX2, hJ2⟩ : _ ∧ _ ∧ _)
  clear hB2 hX2 hJ2 hw2 hX1 hall
  go_wp2_with fail
  refine (writeP (n := 6) (cutJ 7 j) _ _ (HT.out.below HS.out.1) (cutJ_full 6 j) (TxtJ.mono (by decide) _ _ (cutJ_txt 7 j)) HS.out.2.2).mono ?_
  rintro e w3 ⟨r, rfl, hB3, hr⟩
  have hr := hr.2.1 hI hL
  subst hr
  obtain ⟨s1, s2, s3⟩ := HS.out
  have hB3' := s1.trans (hB3.mono s1.size)
  have HB6 : Hid (Below W.heap.size W w3) := hB3'
  have hr2 := readP w3 HS'.out
  clear HS hB3' s1 s2 s3 hB3 x0 x1 x2 x3 x4 hI hL
  go_wp2_with fail
  refine Calls.mono hr2 ?_
  rintro e w7 ⟨cs, er, rfl, h5, hone2, hB7, _, hq⟩
  have hle := HLN.out
  have hq := hq (by omega)
  obtain ⟨f0, f1, f2, f3, f4, rfl⟩ := arr5 h5
  clear hr2 h5 hle
  have hN := heap_alloc_new w7 (.cells zero5 25)
  unfold zero5 at hN
  go_wp2_with (refine wpList_store_row rfl 25 (.tmp 10) (.tmp 48) rfl w7.heap.size #[f0, f1, f2, f3, f4] rfl rfl 25 _ hN size25 rfl hone2 ?_; refine Hid.out ?_)
  obtain ⟨w8, hnew⟩ : ∃ w', w' = (w7.alloc (.cells #[.int .i64 0, .int .i64 0, .string ⟨#[]⟩, .slice none 0 0, .slice none 0 0] 25)).setRow w7.heap.size #[f0, f1, f2, f3, f4] := ⟨_, rfl⟩
  rw [← hnew]
  refine Lib.hid ?_
  have hBn : Below w7.heap.size w7 w8 := by rw [hnew]; exact (below1 _ _).trans ⟨rfl, rfl, rfl, by simp, fun b hb => setRow_other _ _ _ _ (by omega)⟩
  have hYn : w8.heap[w7.heap.size]? = some (.cells #[f0, f1, f2, f3, f4] 25 (0, 0)) := by rw [hnew]; exact setRow_heap _ _ _ _ _ _ hN
  clear hnew hN
  have hs7 := hB7.size
  have hs6 := HB6.out.size
  have HB8 : Hid (Below W.heap.size W w8) := HB6.out.trans ((hB7.trans (hBn.mono hs7)).mono hs6)
  clear hs7 hs6 hB7
  cases hx : readL l with
  | error e0 =>
    rw [hx] at hq
    obtain ⟨rfl, hne, _⟩ := hq
    have hne2 : ¬ er = 0 := hne
    clear hx hBn hYn hone2
    go_wp2_with fail
    refine (livesP _ (HT.out.below HB8.out)).mono ?_
    rintro e wz ⟨_, rfl, hBz, rfl⟩
    have hsz := HB8.out.size
    have HBz : Hid (Below W.heap.size W wz) := HB8.out.trans (hBz.mono hsz)
    clear hBz
    go_wp2
    go_ret
    exact ⟨_, rfl, HBz.out, rfl⟩
  | ok jx =>
    rw [hx] at hq
    obtain ⟨rfl, hJ7⟩ := hq
    have hIs := readL_is hx
    have hFu := isJ_full 7 6 jx hIs
    have hle := HLN.out
    have hTx : TxtJ 1000000 7 jx := readL_txt (by omega) hx
    have hjx : JV jx (.agg #[f0, f1, f2, f3, f4]) w8 := ⟨_, rfl, rfl, JM.jc _ _ _ _ (hJ7.stb hBn)⟩
    have hwr := writeP (n := 6) jx _ w8 (HT.out.below HB8.out) hFu hTx hjx
    have x0 : w8.cell? ⟨w7.heap.size, 0, none⟩ = some f0 := (cell_of_row _ _ _ _ _ _ hYn).trans rfl
    have x1 : w8.cell? ⟨w7.heap.size, 1, none⟩ = some f1 := (cell_of_row _ _ _ _ _ _ hYn).trans rfl
    have x2 : w8.cell? ⟨w7.heap.size, 2, none⟩ = some f2 := (cell_of_row _ _ _ _ _ _ hYn).trans rfl
    have x3 : w8.cell? ⟨w7.heap.size, 3, none⟩ = some f3 := (cell_of_row _ _ _ _ _ _ hYn).trans rfl
    have x4 : w8.cell? ⟨w7.heap.size, 4, none⟩ = some f4 := (cell_of_row _ _ _ _ _ _ hYn).trans rfl
    have HJX : Hid (JV jx (.agg #[f0, f1, f2, f3, f4]) w8) := hjx
    have HY : Hid (w8.heap[w7.heap.size]? = some (.cells #[f0, f1, f2, f3, f4] 25 (0, 0))) := hYn
    have HIS : Hid (IsJ 7 6 jx) := hIs
    have HFU : Hid (Full 7 jx) := hFu
    clear hx hBn hYn hone2 hJ7 hle hTx hjx hIs hFu
    go_wp2_with fail
    refine Calls.mono hwr ?_
    rintro e w9 ⟨r, rfl, hB9, hr⟩
    have hs8 := HB8.out.size
    have HB9 : Hid (Below W.heap.size W w9) := HB8.out.trans (hB9.mono hs8)
    have hX9 := block_below hB9 (lt_of_heap HY.out) HY.out
    have hj9 := JV.stb _ _ _ _ hB9 HJX.out
    have HS9 : Hid (w9.heap[w7.heap.size]? = some (.cells #[f0, f1, f2, f3, f4] 25 (0, 0)) ∧ JV jx (.agg #[f0, f1, f2, f3, f4]) w9) := ⟨hX9, hj9⟩
    clear hwr hs8 hB9 hX9 hj9 HY HJX x0 x1 x2 x3 x4
    by_cases hW : (writeJ 7 jx).length ≤ 2000
    · have hr := hr.1 HIS.out hW
      subst hr
      obtain ⟨U, hU⟩ : ∃ U, U = strOf (writeJ 7 jx) := ⟨_, rfl⟩
      rw [← hU]
      have HSu : Hid (Str U (writeJ 7 jx)) := by show Str _ _; rw [hU]; exact str_strOf (writeJ_dig 7 6 _ HIS.out)
      have HRU : Hid (readL (writeJ 7 jx) = .ok jx) := readL_back _ HIS.out
      have HLW : Hid ((writeJ 7 jx).length ≤ 2000) := hW
      have hr3 := readP w9 HSu.out
      clear hU hW
      go_wp2_with fail
      refine Calls.mono hr3 ?_
      rintro e w10 ⟨cs, er, rfl, h5, hone3, hB10, _, hq⟩
      have hq := hq HLW.out
      rw [HRU.out] at hq
      obtain ⟨rfl, hJ10⟩ := hq
      obtain ⟨g0, g1, g2, g3, g4, rfl⟩ := arr5 h5
      clear hr3 h5
      have hN := heap_alloc_new w10 (.cells zero5 25)
      unfold zero5 at hN
      go_wp2_with (refine wpList_store_row rfl 25 (.tmp 14) (.tmp 68) rfl w10.heap.size #[g0, g1, g2, g3, g4] rfl rfl 25 _ hN size25 rfl hone3 ?_; refine Hid.out ?_)
      obtain ⟨w11, hnew⟩ : ∃ w', w' = (w10.alloc (.cells #[.int .i64 0, .int .i64 0, .string ⟨#[]⟩, .slice none 0 0, .slice none 0 0] 25)).setRow w10.heap.size #[g0, g1, g2, g3, g4] := ⟨_, rfl⟩
      rw [← hnew]
      refine Lib.hid ?_
      have hBn : Below w10.heap.size w10 w11 := by rw [hnew]; exact (below1 _ _).trans ⟨rfl, rfl, rfl, by simp, fun b hb => setRow_other _ _ _ _ (by omega)⟩
      have hYn : w11.heap[w10.heap.size]? = some (.cells #[g0, g1, g2, g3, g4] 25 (0, 0)) := by rw [hnew]; exact setRow_heap _ _ _ _ _ _ hN
      clear hnew hN
      have hs10 := hB10.size
      have hB911 : Below w9.heap.size w9 w11 := hB10.trans (hBn.mono hs10)
      have hs9 := HB9.out.size
      have HB11 : Hid (Below W.heap.size W w11) := HB9.out.trans (hB911.mono hs9)
      obtain ⟨s2, s3⟩ := HS9.out
      have hX11 := block_below hB911 (lt_of_heap s2) s2
      have hjA := JV.stb _ _ _ _ hB911 s3
      have hjB : JV jx (.agg #[g0, g1, g2, g3, g4]) w11 := ⟨_, rfl, rfl, JM.jc _ _ _ _ (hJ10.stb hBn)⟩
      have hsm := sameJ 7 _ _ _ _ w11 HFU.out HFU.out hjA hjB
      have x0 : w11.cell? ⟨w7.heap.size, 0, none⟩ = some f0 := (cell_of_row _ _ _ _ _ _ hX11).trans rfl
      have x1 : w11.cell? ⟨w7.heap.size, 1, none⟩ = some f1 := (cell_of_row _ _ _ _ _ _ hX11).trans rfl
      have x2 : w11.cell? ⟨w7.heap.size, 2, none⟩ = some f2 := (cell_of_row _ _ _ _ _ _ hX11).trans rfl
      have x3 : w11.cell? ⟨w7.heap.size, 3, none⟩ = some f3 := (cell_of_row _ _ _ _ _ _ hX11).trans rfl
      have x4 : w11.cell? ⟨w7.heap.size, 4, none⟩ = some f4 := (cell_of_row _ _ _ _ _ _ hX11).trans rfl
      have y0 : w11.cell? ⟨w10.heap.size, 0, none⟩ = some g0 := (cell_of_row _ _ _ _ _ _ hYn).trans rfl
      have y1 : w11.cell? ⟨w10.heap.size, 1, none⟩ = some g1 := (cell_of_row _ _ _ _ _ _ hYn).trans rfl
      have y2 : w11.cell? ⟨w10.heap.size, 2, none⟩ = some g2 := (cell_of_row _ _ _ _ _ _ hYn).trans rfl
      have y3 : w11.cell? ⟨w10.heap.size, 3, none⟩ = some g3 := (cell_of_row _ _ _ _ _ _ hYn).trans rfl
      have y4 : w11.cell? ⟨w10.heap.size, 4, none⟩ = some g4 := (cell_of_row _ _ _ _ _ _ hYn).trans rfl
      clear s2 s3 hs9 hs10 hB911 hX11 hjA hjB hBn hYn hJ10 hB10 hone3 HS9
      go_wp2_with fail
      refine Calls.mono hsm ?_
      rintro e w12 ⟨_, rfl, hB12, c, rfl, hc6⟩
      obtain rfl : c = true := hc6.2 rfl
      have hs11 := HB11.out.size
      have HB12 : Hid (Below W.heap.size W w12) := HB11.out.trans (hB12.mono hs11)
      clear hsm hB12 hc6 hs11 x0 x1 x2 x3 x4 y0 y1 y2 y3 y4
      go_wp2_with fail
      refine (livesP _ (HT.out.below HB12.out)).mono ?_
      rintro e wz ⟨_, rfl, hBz, rfl⟩
      have hsz := HB12.out.size
      have HBz : Hid (Below W.heap.size W wz) := HB12.out.trans (hBz.mono hsz)
      clear hBz
      go_wp2
      go_ret
      exact ⟨_, rfl, HBz.out, rfl⟩
    · have hr := hr.2.1 HIS.out (show 2000 < (writeJ 7 jx).length by omega)
      subst hr
      clear hW
      go_wp2_with fail
      refine (livesP _ (HT.out.below HB9.out)).mono ?_
      rintro e wz ⟨_, rfl, hBz, rfl⟩
      have hsz := HB9.out.size
      have HBz : Hid (Below W.heap.size W wz) := HB9.out.trans (hBz.mono hsz)
      clear hBz
      go_wp2
      go_ret
      exact ⟨_, rfl, HBz.out, rfl⟩
theorem jsonRoundB2 (W : World) {j : J 7} {v : Value} {s : ByteArray} {bs : List Nat} (hT : Tab W) (hv : JV j v W) (hs : Str s bs) (hc : 400 < bs.length) (hI : IsJ 7 6 (cutJ 7 j)) (hL : 2000 < (writeJ 7 (cutJ 7 j)).length) : Ret 4 #[v, .string s] W (Is (.bool true)) := by
  have hsz := hs.size
  obtain ⟨S, hSd⟩ : ∃ S, S = s.extract 0 400 := ⟨_, rfl⟩
  have hs' : Str S (bs.take 400) := by rw [hSd]; exact hs.cut400 (by omega)
  have hlen : (bs.take 400).length ≤ 400 := by simp; omega
  have hcut : (400 : Int) < (s.size : Int) := by omega
  have hct2 := fun (w : World) => cut400 (s := s) (by omega) w
  rw [← hSd] at hct2
  obtain ⟨l, hl⟩ : ∃ l, l = (bs.take 400) := ⟨_, rfl⟩
  rw [← hl] at hs' hlen
  have HS' : Hid (Str S l) := hs'
  have HLN : Hid (l.length ≤ 400) := hlen
  have HT : Hid (Tab W) := hT
  clear hT hs hs' hl hsz hlen hc hSd
  obtain ⟨cs, rfl, h5, hJ⟩ := hv
  obtain ⟨c0, c1, c2, c3, c4, rfl⟩ : ∃ c0 c1 c2 c3 c4, cs = [c0, c1, c2, c3, c4] := by
    match cs, h5 with
    | [c0, c1, c2, c3, c4], _ => exact ⟨c0, c1, c2, c3, c4, rfl⟩
  have hjv : JV j (.agg #[c0, c1, c2, c3, c4]) W := ⟨_, rfl, rfl, hJ⟩
  show Ret _ #[.agg #[c0, c1, c2, c3, c4], .string s] W _
  have hB0 : Below W.heap.size W (W.alloc (.cells #[c0, c1, c2, c3, c4] 25)) := below1 _ _
  have hX0 : (W.alloc (.cells #[c0, c1, c2, c3, c4] 25)).heap[W.heap.size]? = some (.cells #[c0, c1, c2, c3, c4] 25 (0, 0)) := heap_alloc_new _ _
  have hjv0 := JV.stb j _ _ _ hB0 hjv
  have hc := cutR 6 j _ _ (by decide) hjv0
  have HX0 : Hid _ := hX0
  clear hX0 hJ hjv hjv0
  unfold Ret
  go_enter Tryd.func4, Tryd.ntmps4
  go_wp2_with fail
  refine hc.mono ?_
  rintro e w1 ⟨_, rfl, hB1, cs, rfl, h5, hJ⟩
  clear hc
  have hone := JM.one (by decide) hJ
  obtain ⟨d0, d1, d2, d3, d4, rfl⟩ : ∃ d0 d1 d2 d3 d4, cs = [d0, d1, d2, d3, d4] := by
    match cs, h5 with
    | [d0, d1, d2, d3, d4], _ => exact ⟨d0, d1, d2, d3, d4, rfl⟩
  have hX1 : w1.heap[W.heap.size]? = some (.cells #[c0, c1, c2, c3, c4] 25 (0, 0)) := block_below hB1 (by simp) HX0.out
  have hall : (#[d0, d1, d2, d3, d4] : Array Value).all (·.oneCell') = true := by simp [hone]
  have hB2 : Below W.heap.size W (w1.setRow W.heap.size #[d0, d1, d2, d3, d4]) := setRow_below (hB0.trans (hB1.mono hB0.size)) (Nat.le_refl _) _
  have hX2 : (w1.setRow W.heap.size #[d0, d1, d2, d3, d4]).heap[W.heap.size]? = some (.cells #[d0, d1, d2, d3, d4] 25 (0, 0)) := setRow_heap _ _ _ _ _ _ hX1
  have hJ2 : JV (cutJ 7 j) (.agg #[d0, d1, d2, d3, d4]) (w1.setRow W.heap.size #[d0, d1, d2, d3, d4]) := ⟨_, rfl, rfl, JM.jc _ _ _ _ (JM.move (T := fun _ => True) (fun b _ hS => ⟨trivial, setRow_other _ _ _ _ (by simp at hS; omega)⟩) _ _ _ hJ)⟩
  clear hJ hone hB1 hB0
  go_wp2_with (refine wpList_store_row rfl 25 (.tmp 2) (.tmp 18) rfl W.heap.size #[d0, d1, d2, d3, d4] rfl rfl 25 _ hX1 size25 rfl hall ?_; refine Hid.out ?_)
  obtain ⟨w2, hw2⟩ : ∃ w2, w2 = w1.setRow W.heap.size #[d0, d1, d2, d3, d4] := ⟨_, rfl⟩
  rw [← hw2] at hB2 hX2 hJ2
  rw [← hw2]
  refine Lib.hid ?_
  have x0 : w2.cell? ⟨W.heap.size, 0, none⟩ = some d0 := (cell_of_row _ _ _ _ _ _ hX2).trans rfl
  have x1 : w2.cell? ⟨W.heap.size, 1, none⟩ = some d1 := (cell_of_row _ _ _ _ _ _ hX2).trans rfl
  have x2 : w2.cell? ⟨W.heap.size, 2, none⟩ = some d2 := (cell_of_row _ _ _ _ _ _ hX2).trans rfl
  have x3 : w2.cell? ⟨W.heap.size, 3, none⟩ = some d3 := (cell_of_row _ _ _ _ _ _ hX2).trans rfl
  have x4 : w2.cell? ⟨W.heap.size, 4, none⟩ = some d4 := (cell_of_row _ _ _ _ _ _ hX2).trans rfl
  have HS : Hid _ := (⟨hB2, hX2, hJ2⟩ : _ ∧ _ ∧ _)
  clear hB2 hX2 hJ2 hw2 hX1 hall
  go_wp2_with fail
  refine (writeP (n := 6) (cutJ 7 j) _ _ (HT.out.below HS.out.1) (cutJ_full 6 j) (TxtJ.mono (by decide) _ _ (cutJ_txt 7 j)) HS.out.2.2).mono ?_
  rintro e w3 ⟨r, rfl, hB3, hr⟩
  have hr := hr.2.1 hI hL
  subst hr
  obtain ⟨s1, s2, s3⟩ := HS.out
  have hB3' := s1.trans (hB3.mono s1.size)
  have HB6 : Hid (Below W.heap.size W w3) := hB3'
  have hr2 := readP w3 HS'.out
  clear HS hB3' s1 s2 s3 hB3 x0 x1 x2 x3 x4 hI hL
  go_wp2_with fail
  refine Calls.mono hr2 ?_
  rintro e w7 ⟨cs, er, rfl, h5, hone2, hB7, _, hq⟩
  have hle := HLN.out
  have hq := hq (by omega)
  obtain ⟨f0, f1, f2, f3, f4, rfl⟩ := arr5 h5
  clear hr2 h5 hle
  have hN := heap_alloc_new w7 (.cells zero5 25)
  unfold zero5 at hN
  go_wp2_with (refine wpList_store_row rfl 25 (.tmp 10) (.tmp 48) rfl w7.heap.size #[f0, f1, f2, f3, f4] rfl rfl 25 _ hN size25 rfl hone2 ?_; refine Hid.out ?_)
  obtain ⟨w8, hnew⟩ : ∃ w', w' = (w7.alloc (.cells #[.int .i64 0, .int .i64 0, .string ⟨#[]⟩, .slice none 0 0, .slice none 0 0] 25)).setRow w7.heap.size #[f0, f1, f2, f3, f4] := ⟨_, rfl⟩
  rw [← hnew]
  refine Lib.hid ?_
  have hBn : Below w7.heap.size w7 w8 := by rw [hnew]; exact (below1 _ _).trans ⟨rfl, rfl, rfl, by simp, fun b hb => setRow_other _ _ _ _ (by omega)⟩
  have hYn : w8.heap[w7.heap.size]? = some (.cells #[f0, f1, f2, f3, f4] 25 (0, 0)) := by rw [hnew]; exact setRow_heap _ _ _ _ _ _ hN
  clear hnew hN
  have hs7 := hB7.size
  have hs6 := HB6.out.size
  have HB8 : Hid (Below W.heap.size W w8) := HB6.out.trans ((hB7.trans (hBn.mono hs7)).mono hs6)
  clear hs7 hs6 hB7
  cases hx : readL l with
  | error e0 =>
    rw [hx] at hq
    obtain ⟨rfl, hne, _⟩ := hq
    have hne2 : ¬ er = 0 := hne
    clear hx hBn hYn hone2
    go_wp2_with fail
    refine (livesP _ (HT.out.below HB8.out)).mono ?_
    rintro e wz ⟨_, rfl, hBz, rfl⟩
    have hsz := HB8.out.size
    have HBz : Hid (Below W.heap.size W wz) := HB8.out.trans (hBz.mono hsz)
    clear hBz
    go_wp2
    go_ret
    exact ⟨_, rfl, HBz.out, rfl⟩
  | ok jx =>
    rw [hx] at hq
    obtain ⟨rfl, hJ7⟩ := hq
    have hIs := readL_is hx
    have hFu := isJ_full 7 6 jx hIs
    have hle := HLN.out
    have hTx : TxtJ 1000000 7 jx := readL_txt (by omega) hx
    have hjx : JV jx (.agg #[f0, f1, f2, f3, f4]) w8 := ⟨_, rfl, rfl, JM.jc _ _ _ _ (hJ7.stb hBn)⟩
    have hwr := writeP (n := 6) jx _ w8 (HT.out.below HB8.out) hFu hTx hjx
    have x0 : w8.cell? ⟨w7.heap.size, 0, none⟩ = some f0 := (cell_of_row _ _ _ _ _ _ hYn).trans rfl
    have x1 : w8.cell? ⟨w7.heap.size, 1, none⟩ = some f1 := (cell_of_row _ _ _ _ _ _ hYn).trans rfl
    have x2 : w8.cell? ⟨w7.heap.size, 2, none⟩ = some f2 := (cell_of_row _ _ _ _ _ _ hYn).trans rfl
    have x3 : w8.cell? ⟨w7.heap.size, 3, none⟩ = some f3 := (cell_of_row _ _ _ _ _ _ hYn).trans rfl
    have x4 : w8.cell? ⟨w7.heap.size, 4, none⟩ = some f4 := (cell_of_row _ _ _ _ _ _ hYn).trans rfl
    have HJX : Hid (JV jx (.agg #[f0, f1, f2, f3, f4]) w8) := hjx
    have HY : Hid (w8.heap[w7.heap.size]? = some (.cells #[f0, f1, f2, f3, f4] 25 (0, 0))) := hYn
    have HIS : Hid (IsJ 7 6 jx) := hIs
    have HFU : Hid (Full 7 jx) := hFu
    clear hx hBn hYn hone2 hJ7 hle hTx hjx hIs hFu
    go_wp2_with fail
    refine Calls.mono hwr ?_
    rintro e w9 ⟨r, rfl, hB9, hr⟩
    have hs8 := HB8.out.size
    have HB9 : Hid (Below W.heap.size W w9) := HB8.out.trans (hB9.mono hs8)
    have hX9 := block_below hB9 (lt_of_heap HY.out) HY.out
    have hj9 := JV.stb _ _ _ _ hB9 HJX.out
    have HS9 : Hid (w9.heap[w7.heap.size]? = some (.cells #[f0, f1, f2, f3, f4] 25 (0, 0)) ∧ JV jx (.agg #[f0, f1, f2, f3, f4]) w9) := ⟨hX9, hj9⟩
    clear hwr hs8 hB9 hX9 hj9 HY HJX x0 x1 x2 x3 x4
    by_cases hW : (writeJ 7 jx).length ≤ 2000
    · have hr := hr.1 HIS.out hW
      subst hr
      obtain ⟨U, hU⟩ : ∃ U, U = strOf (writeJ 7 jx) := ⟨_, rfl⟩
      rw [← hU]
      have HSu : Hid (Str U (writeJ 7 jx)) := by show Str _ _; rw [hU]; exact str_strOf (writeJ_dig 7 6 _ HIS.out)
      have HRU : Hid (readL (writeJ 7 jx) = .ok jx) := readL_back _ HIS.out
      have HLW : Hid ((writeJ 7 jx).length ≤ 2000) := hW
      have hr3 := readP w9 HSu.out
      clear hU hW
      go_wp2_with fail
      refine Calls.mono hr3 ?_
      rintro e w10 ⟨cs, er, rfl, h5, hone3, hB10, _, hq⟩
      have hq := hq HLW.out
      rw [HRU.out] at hq
      obtain ⟨rfl, hJ10⟩ := hq
      obtain ⟨g0, g1, g2, g3, g4, rfl⟩ := arr5 h5
      clear hr3 h5
      have hN := heap_alloc_new w10 (.cells zero5 25)
      unfold zero5 at hN
      go_wp2_with (refine wpList_store_row rfl 25 (.tmp 14) (.tmp 68) rfl w10.heap.size #[g0, g1, g2, g3, g4] rfl rfl 25 _ hN size25 rfl hone3 ?_; refine Hid.out ?_)
      obtain ⟨w11, hnew⟩ : ∃ w', w' = (w10.alloc (.cells #[.int .i64 0, .int .i64 0, .string ⟨#[]⟩, .slice none 0 0, .slice none 0 0] 25)).setRow w10.heap.size #[g0, g1, g2, g3, g4] := ⟨_, rfl⟩
      rw [← hnew]
      refine Lib.hid ?_
      have hBn : Below w10.heap.size w10 w11 := by rw [hnew]; exact (below1 _ _).trans ⟨rfl, rfl, rfl, by simp, fun b hb => setRow_other _ _ _ _ (by omega)⟩
      have hYn : w11.heap[w10.heap.size]? = some (.cells #[g0, g1, g2, g3, g4] 25 (0, 0)) := by rw [hnew]; exact setRow_heap _ _ _ _ _ _ hN
      clear hnew hN
      have hs10 := hB10.size
      have hB911 : Below w9.heap.size w9 w11 := hB10.trans (hBn.mono hs10)
      have hs9 := HB9.out.size
      have HB11 : Hid (Below W.heap.size W w11) := HB9.out.trans (hB911.mono hs9)
      obtain ⟨s2, s3⟩ := HS9.out
      have hX11 := block_below hB911 (lt_of_heap s2) s2
      have hjA := JV.stb _ _ _ _ hB911 s3
      have hjB : JV jx (.agg #[g0, g1, g2, g3, g4]) w11 := ⟨_, rfl, rfl, JM.jc _ _ _ _ (hJ10.stb hBn)⟩
      have hsm := sameJ 7 _ _ _ _ w11 HFU.out HFU.out hjA hjB
      have x0 : w11.cell? ⟨w7.heap.size, 0, none⟩ = some f0 := (cell_of_row _ _ _ _ _ _ hX11).trans rfl
      have x1 : w11.cell? ⟨w7.heap.size, 1, none⟩ = some f1 := (cell_of_row _ _ _ _ _ _ hX11).trans rfl
      have x2 : w11.cell? ⟨w7.heap.size, 2, none⟩ = some f2 := (cell_of_row _ _ _ _ _ _ hX11).trans rfl
      have x3 : w11.cell? ⟨w7.heap.size, 3, none⟩ = some f3 := (cell_of_row _ _ _ _ _ _ hX11).trans rfl
      have x4 : w11.cell? ⟨w7.heap.size, 4, none⟩ = some f4 := (cell_of_row _ _ _ _ _ _ hX11).trans rfl
      have y0 : w11.cell? ⟨w10.heap.size, 0, none⟩ = some g0 := (cell_of_row _ _ _ _ _ _ hYn).trans rfl
      have y1 : w11.cell? ⟨w10.heap.size, 1, none⟩ = some g1 := (cell_of_row _ _ _ _ _ _ hYn).trans rfl
      have y2 : w11.cell? ⟨w10.heap.size, 2, none⟩ = some g2 := (cell_of_row _ _ _ _ _ _ hYn).trans rfl
      have y3 : w11.cell? ⟨w10.heap.size, 3, none⟩ = some g3 := (cell_of_row _ _ _ _ _ _ hYn).trans rfl
      have y4 : w11.cell? ⟨w10.heap.size, 4, none⟩ = some g4 := (cell_of_row _ _ _ _ _ _ hYn).trans rfl
      clear s2 s3 hs9 hs10 hB911 hX11 hjA hjB hBn hYn hJ10 hB10 hone3 HS9
      go_wp2_with fail
      refine Calls.mono hsm ?_
      rintro e w12 ⟨_, rfl, hB12, c, rfl, hc6⟩
      obtain rfl : c = true := hc6.2 rfl
      have hs11 := HB11.out.size
      have HB12 : Hid (Below W.heap.size W w12) := HB11.out.trans (hB12.mono hs11)
      clear hsm hB12 hc6 hs11 x0 x1 x2 x3 x4 y0 y1 y2 y3 y4
      go_wp2_with fail
      refine (livesP _ (HT.out.below HB12.out)).mono ?_
      rintro e wz ⟨_, rfl, hBz, rfl⟩
      have hsz := HB12.out.size
      have HBz : Hid (Below W.heap.size W wz) := HB12.out.trans (hBz.mono hsz)
      clear hBz
      go_wp2
      go_ret
      exact ⟨_, rfl, HBz.out, rfl⟩
    · have hr := hr.2.1 HIS.out (show 2000 < (writeJ 7 jx).length by omega)
      subst hr
      clear hW
      go_wp2_with fail
      refine (livesP _ (HT.out.below HB9.out)).mono ?_
      rintro e wz ⟨_, rfl, hBz, rfl⟩
      have hsz := HB9.out.size
      have HBz : Hid (Below W.heap.size W wz) := HB9.out.trans (hBz.mono hsz)
      clear hBz
      go_wp2
      go_ret
      exact ⟨_, rfl, HBz.out, rfl⟩
theorem jsonRoundC1 (W : World) {j : J 7} {v : Value} {s : ByteArray} {bs : List Nat} (hT : Tab W) (hv : JV j v W) (hs : Str s bs) (hc : bs.length ≤ 400) (hI : ¬ IsJ 7 6 (cutJ 7 j)) : Ret 4 #[v, .string s] W (Is (.bool true)) := by
  have hsz := hs.size

  have hs' : Str s bs := hs
  have hlen : bs.length ≤ 400 := by exact hc
  have hcut : ¬ (400 : Int) < (s.size : Int) := by omega
  
  
  obtain ⟨l, hl⟩ : ∃ l, l = bs := ⟨_, rfl⟩
  rw [← hl] at hs' hlen
  have HS' : Hid (Str s l) := hs'
  have HLN : Hid (l.length ≤ 400) := hlen
  have HT : Hid (Tab W) := hT
  clear hT hs hs' hl hsz hlen hc 
  obtain ⟨cs, rfl, h5, hJ⟩ := hv
  obtain ⟨c0, c1, c2, c3, c4, rfl⟩ : ∃ c0 c1 c2 c3 c4, cs = [c0, c1, c2, c3, c4] := by
    match cs, h5 with
    | [c0, c1, c2, c3, c4], _ => exact ⟨c0, c1, c2, c3, c4, rfl⟩
  have hjv : JV j (.agg #[c0, c1, c2, c3, c4]) W := ⟨_, rfl, rfl, hJ⟩
  show Ret _ #[.agg #[c0, c1, c2, c3, c4], .string s] W _
  have hB0 : Below W.heap.size W (W.alloc (.cells #[c0, c1, c2, c3, c4] 25)) := below1 _ _
  have hX0 : (W.alloc (.cells #[c0, c1, c2, c3, c4] 25)).heap[W.heap.size]? = some (.cells #[c0, c1, c2, c3, c4] 25 (0, 0)) := heap_alloc_new _ _
  have hjv0 := JV.stb j _ _ _ hB0 hjv
  have hc := cutR 6 j _ _ (by decide) hjv0
  have HX0 : Hid _ := hX0
  clear hX0 hJ hjv hjv0
  unfold Ret
  go_enter Tryd.func4, Tryd.ntmps4
  go_wp2_with fail
  refine hc.mono ?_
  rintro e w1 ⟨_, rfl, hB1, cs, rfl, h5, hJ⟩
  clear hc
  have hone := JM.one (by decide) hJ
  obtain ⟨d0, d1, d2, d3, d4, rfl⟩ : ∃ d0 d1 d2 d3 d4, cs = [d0, d1, d2, d3, d4] := by
    match cs, h5 with
    | [d0, d1, d2, d3, d4], _ => exact ⟨d0, d1, d2, d3, d4, rfl⟩
  have hX1 : w1.heap[W.heap.size]? = some (.cells #[c0, c1, c2, c3, c4] 25 (0, 0)) := block_below hB1 (by simp) HX0.out
  have hall : (#[d0, d1, d2, d3, d4] : Array Value).all (·.oneCell') = true := by simp [hone]
  have hB2 : Below W.heap.size W (w1.setRow W.heap.size #[d0, d1, d2, d3, d4]) := setRow_below (hB0.trans (hB1.mono hB0.size)) (Nat.le_refl _) _
  have hX2 : (w1.setRow W.heap.size #[d0, d1, d2, d3, d4]).heap[W.heap.size]? = some (.cells #[d0, d1, d2, d3, d4] 25 (0, 0)) := setRow_heap _ _ _ _ _ _ hX1
  have hJ2 : JV (cutJ 7 j) (.agg #[d0, d1, d2, d3, d4]) (w1.setRow W.heap.size #[d0, d1, d2, d3, d4]) := ⟨_, rfl, rfl, JM.jc _ _ _ _ (JM.move (T := fun _ => True) (fun b _ hS => ⟨trivial, setRow_other _ _ _ _ (by simp at hS; omega)⟩) _ _ _ hJ)⟩
  clear hJ hone hB1 hB0
  go_wp2_with (refine wpList_store_row rfl 25 (.tmp 2) (.tmp 18) rfl W.heap.size #[d0, d1, d2, d3, d4] rfl rfl 25 _ hX1 size25 rfl hall ?_; refine Hid.out ?_)
  obtain ⟨w2, hw2⟩ : ∃ w2, w2 = w1.setRow W.heap.size #[d0, d1, d2, d3, d4] := ⟨_, rfl⟩
  rw [← hw2] at hB2 hX2 hJ2
  rw [← hw2]
  refine Lib.hid ?_
  have x0 : w2.cell? ⟨W.heap.size, 0, none⟩ = some d0 := (cell_of_row _ _ _ _ _ _ hX2).trans rfl
  have x1 : w2.cell? ⟨W.heap.size, 1, none⟩ = some d1 := (cell_of_row _ _ _ _ _ _ hX2).trans rfl
  have x2 : w2.cell? ⟨W.heap.size, 2, none⟩ = some d2 := (cell_of_row _ _ _ _ _ _ hX2).trans rfl
  have x3 : w2.cell? ⟨W.heap.size, 3, none⟩ = some d3 := (cell_of_row _ _ _ _ _ _ hX2).trans rfl
  have x4 : w2.cell? ⟨W.heap.size, 4, none⟩ = some d4 := (cell_of_row _ _ _ _ _ _ hX2).trans rfl
  have HS : Hid _ := (⟨hB2, hX2, hJ2⟩ : _ ∧ _ ∧ _)
  clear hB2 hX2 hJ2 hw2 hX1 hall
  go_wp2_with fail
  refine (writeP (n := 6) (cutJ 7 j) _ _ (HT.out.below HS.out.1) (cutJ_full 6 j) (TxtJ.mono (by decide) _ _ (cutJ_txt 7 j)) HS.out.2.2).mono ?_
  rintro e w3 ⟨r, rfl, hB3, hr⟩
  have hr := hr.2.2 hI
  subst hr
  obtain ⟨s1, s2, s3⟩ := HS.out
  have hB3' := s1.trans (hB3.mono s1.size)
  have HB6 : Hid (Below W.heap.size W w3) := hB3'
  have hr2 := readP w3 HS'.out
  clear HS hB3' s1 s2 s3 hB3 x0 x1 x2 x3 x4 hI 
  go_wp2_with fail
  refine Calls.mono hr2 ?_
  rintro e w7 ⟨cs, er, rfl, h5, hone2, hB7, _, hq⟩
  have hle := HLN.out
  have hq := hq (by omega)
  obtain ⟨f0, f1, f2, f3, f4, rfl⟩ := arr5 h5
  clear hr2 h5 hle
  have hN := heap_alloc_new w7 (.cells zero5 25)
  unfold zero5 at hN
  go_wp2_with (refine wpList_store_row rfl 25 (.tmp 10) (.tmp 48) rfl w7.heap.size #[f0, f1, f2, f3, f4] rfl rfl 25 _ hN size25 rfl hone2 ?_; refine Hid.out ?_)
  obtain ⟨w8, hnew⟩ : ∃ w', w' = (w7.alloc (.cells #[.int .i64 0, .int .i64 0, .string ⟨#[]⟩, .slice none 0 0, .slice none 0 0] 25)).setRow w7.heap.size #[f0, f1, f2, f3, f4] := ⟨_, rfl⟩
  rw [← hnew]
  refine Lib.hid ?_
  have hBn : Below w7.heap.size w7 w8 := by rw [hnew]; exact (below1 _ _).trans ⟨rfl, rfl, rfl, by simp, fun b hb => setRow_other _ _ _ _ (by omega)⟩
  have hYn : w8.heap[w7.heap.size]? = some (.cells #[f0, f1, f2, f3, f4] 25 (0, 0)) := by rw [hnew]; exact setRow_heap _ _ _ _ _ _ hN
  clear hnew hN
  have hs7 := hB7.size
  have hs6 := HB6.out.size
  have HB8 : Hid (Below W.heap.size W w8) := HB6.out.trans ((hB7.trans (hBn.mono hs7)).mono hs6)
  clear hs7 hs6 hB7
  cases hx : readL l with
  | error e0 =>
    rw [hx] at hq
    obtain ⟨rfl, hne, _⟩ := hq
    have hne2 : ¬ er = 0 := hne
    clear hx hBn hYn hone2
    go_wp2_with fail
    refine (livesP _ (HT.out.below HB8.out)).mono ?_
    rintro e wz ⟨_, rfl, hBz, rfl⟩
    have hsz := HB8.out.size
    have HBz : Hid (Below W.heap.size W wz) := HB8.out.trans (hBz.mono hsz)
    clear hBz
    go_wp2
    go_ret
    exact ⟨_, rfl, HBz.out, rfl⟩
  | ok jx =>
    rw [hx] at hq
    obtain ⟨rfl, hJ7⟩ := hq
    have hIs := readL_is hx
    have hFu := isJ_full 7 6 jx hIs
    have hle := HLN.out
    have hTx : TxtJ 1000000 7 jx := readL_txt (by omega) hx
    have hjx : JV jx (.agg #[f0, f1, f2, f3, f4]) w8 := ⟨_, rfl, rfl, JM.jc _ _ _ _ (hJ7.stb hBn)⟩
    have hwr := writeP (n := 6) jx _ w8 (HT.out.below HB8.out) hFu hTx hjx
    have x0 : w8.cell? ⟨w7.heap.size, 0, none⟩ = some f0 := (cell_of_row _ _ _ _ _ _ hYn).trans rfl
    have x1 : w8.cell? ⟨w7.heap.size, 1, none⟩ = some f1 := (cell_of_row _ _ _ _ _ _ hYn).trans rfl
    have x2 : w8.cell? ⟨w7.heap.size, 2, none⟩ = some f2 := (cell_of_row _ _ _ _ _ _ hYn).trans rfl
    have x3 : w8.cell? ⟨w7.heap.size, 3, none⟩ = some f3 := (cell_of_row _ _ _ _ _ _ hYn).trans rfl
    have x4 : w8.cell? ⟨w7.heap.size, 4, none⟩ = some f4 := (cell_of_row _ _ _ _ _ _ hYn).trans rfl
    have HJX : Hid (JV jx (.agg #[f0, f1, f2, f3, f4]) w8) := hjx
    have HY : Hid (w8.heap[w7.heap.size]? = some (.cells #[f0, f1, f2, f3, f4] 25 (0, 0))) := hYn
    have HIS : Hid (IsJ 7 6 jx) := hIs
    have HFU : Hid (Full 7 jx) := hFu
    clear hx hBn hYn hone2 hJ7 hle hTx hjx hIs hFu
    go_wp2_with fail
    refine Calls.mono hwr ?_
    rintro e w9 ⟨r, rfl, hB9, hr⟩
    have hs8 := HB8.out.size
    have HB9 : Hid (Below W.heap.size W w9) := HB8.out.trans (hB9.mono hs8)
    have hX9 := block_below hB9 (lt_of_heap HY.out) HY.out
    have hj9 := JV.stb _ _ _ _ hB9 HJX.out
    have HS9 : Hid (w9.heap[w7.heap.size]? = some (.cells #[f0, f1, f2, f3, f4] 25 (0, 0)) ∧ JV jx (.agg #[f0, f1, f2, f3, f4]) w9) := ⟨hX9, hj9⟩
    clear hwr hs8 hB9 hX9 hj9 HY HJX x0 x1 x2 x3 x4
    by_cases hW : (writeJ 7 jx).length ≤ 2000
    · have hr := hr.1 HIS.out hW
      subst hr
      obtain ⟨U, hU⟩ : ∃ U, U = strOf (writeJ 7 jx) := ⟨_, rfl⟩
      rw [← hU]
      have HSu : Hid (Str U (writeJ 7 jx)) := by show Str _ _; rw [hU]; exact str_strOf (writeJ_dig 7 6 _ HIS.out)
      have HRU : Hid (readL (writeJ 7 jx) = .ok jx) := readL_back _ HIS.out
      have HLW : Hid ((writeJ 7 jx).length ≤ 2000) := hW
      have hr3 := readP w9 HSu.out
      clear hU hW
      go_wp2_with fail
      refine Calls.mono hr3 ?_
      rintro e w10 ⟨cs, er, rfl, h5, hone3, hB10, _, hq⟩
      have hq := hq HLW.out
      rw [HRU.out] at hq
      obtain ⟨rfl, hJ10⟩ := hq
      obtain ⟨g0, g1, g2, g3, g4, rfl⟩ := arr5 h5
      clear hr3 h5
      have hN := heap_alloc_new w10 (.cells zero5 25)
      unfold zero5 at hN
      go_wp2_with (refine wpList_store_row rfl 25 (.tmp 14) (.tmp 68) rfl w10.heap.size #[g0, g1, g2, g3, g4] rfl rfl 25 _ hN size25 rfl hone3 ?_; refine Hid.out ?_)
      obtain ⟨w11, hnew⟩ : ∃ w', w' = (w10.alloc (.cells #[.int .i64 0, .int .i64 0, .string ⟨#[]⟩, .slice none 0 0, .slice none 0 0] 25)).setRow w10.heap.size #[g0, g1, g2, g3, g4] := ⟨_, rfl⟩
      rw [← hnew]
      refine Lib.hid ?_
      have hBn : Below w10.heap.size w10 w11 := by rw [hnew]; exact (below1 _ _).trans ⟨rfl, rfl, rfl, by simp, fun b hb => setRow_other _ _ _ _ (by omega)⟩
      have hYn : w11.heap[w10.heap.size]? = some (.cells #[g0, g1, g2, g3, g4] 25 (0, 0)) := by rw [hnew]; exact setRow_heap _ _ _ _ _ _ hN
      clear hnew hN
      have hs10 := hB10.size
      have hB911 : Below w9.heap.size w9 w11 := hB10.trans (hBn.mono hs10)
      have hs9 := HB9.out.size
      have HB11 : Hid (Below W.heap.size W w11) := HB9.out.trans (hB911.mono hs9)
      obtain ⟨s2, s3⟩ := HS9.out
      have hX11 := block_below hB911 (lt_of_heap s2) s2
      have hjA := JV.stb _ _ _ _ hB911 s3
      have hjB : JV jx (.agg #[g0, g1, g2, g3, g4]) w11 := ⟨_, rfl, rfl, JM.jc _ _ _ _ (hJ10.stb hBn)⟩
      have hsm := sameJ 7 _ _ _ _ w11 HFU.out HFU.out hjA hjB
      have x0 : w11.cell? ⟨w7.heap.size, 0, none⟩ = some f0 := (cell_of_row _ _ _ _ _ _ hX11).trans rfl
      have x1 : w11.cell? ⟨w7.heap.size, 1, none⟩ = some f1 := (cell_of_row _ _ _ _ _ _ hX11).trans rfl
      have x2 : w11.cell? ⟨w7.heap.size, 2, none⟩ = some f2 := (cell_of_row _ _ _ _ _ _ hX11).trans rfl
      have x3 : w11.cell? ⟨w7.heap.size, 3, none⟩ = some f3 := (cell_of_row _ _ _ _ _ _ hX11).trans rfl
      have x4 : w11.cell? ⟨w7.heap.size, 4, none⟩ = some f4 := (cell_of_row _ _ _ _ _ _ hX11).trans rfl
      have y0 : w11.cell? ⟨w10.heap.size, 0, none⟩ = some g0 := (cell_of_row _ _ _ _ _ _ hYn).trans rfl
      have y1 : w11.cell? ⟨w10.heap.size, 1, none⟩ = some g1 := (cell_of_row _ _ _ _ _ _ hYn).trans rfl
      have y2 : w11.cell? ⟨w10.heap.size, 2, none⟩ = some g2 := (cell_of_row _ _ _ _ _ _ hYn).trans rfl
      have y3 : w11.cell? ⟨w10.heap.size, 3, none⟩ = some g3 := (cell_of_row _ _ _ _ _ _ hYn).trans rfl
      have y4 : w11.cell? ⟨w10.heap.size, 4, none⟩ = some g4 := (cell_of_row _ _ _ _ _ _ hYn).trans rfl
      clear s2 s3 hs9 hs10 hB911 hX11 hjA hjB hBn hYn hJ10 hB10 hone3 HS9
      go_wp2_with fail
      refine Calls.mono hsm ?_
      rintro e w12 ⟨_, rfl, hB12, c, rfl, hc6⟩
      obtain rfl : c = true := hc6.2 rfl
      have hs11 := HB11.out.size
      have HB12 : Hid (Below W.heap.size W w12) := HB11.out.trans (hB12.mono hs11)
      clear hsm hB12 hc6 hs11 x0 x1 x2 x3 x4 y0 y1 y2 y3 y4
      go_wp2_with fail
      refine (livesP _ (HT.out.below HB12.out)).mono ?_
      rintro e wz ⟨_, rfl, hBz, rfl⟩
      have hsz := HB12.out.size
      have HBz : Hid (Below W.heap.size W wz) := HB12.out.trans (hBz.mono hsz)
      clear hBz
      go_wp2
      go_ret
      exact ⟨_, rfl, HBz.out, rfl⟩
    · have hr := hr.2.1 HIS.out (show 2000 < (writeJ 7 jx).length by omega)
      subst hr
      clear hW
      go_wp2_with fail
      refine (livesP _ (HT.out.below HB9.out)).mono ?_
      rintro e wz ⟨_, rfl, hBz, rfl⟩
      have hsz := HB9.out.size
      have HBz : Hid (Below W.heap.size W wz) := HB9.out.trans (hBz.mono hsz)
      clear hBz
      go_wp2
      go_ret
      exact ⟨_, rfl, HBz.out, rfl⟩
theorem jsonRoundC2 (W : World) {j : J 7} {v : Value} {s : ByteArray} {bs : List Nat} (hT : Tab W) (hv : JV j v W) (hs : Str s bs) (hc : 400 < bs.length) (hI : ¬ IsJ 7 6 (cutJ 7 j)) : Ret 4 #[v, .string s] W (Is (.bool true)) := by
  have hsz := hs.size
  obtain ⟨S, hSd⟩ : ∃ S, S = s.extract 0 400 := ⟨_, rfl⟩
  have hs' : Str S (bs.take 400) := by rw [hSd]; exact hs.cut400 (by omega)
  have hlen : (bs.take 400).length ≤ 400 := by simp; omega
  have hcut : (400 : Int) < (s.size : Int) := by omega
  have hct2 := fun (w : World) => cut400 (s := s) (by omega) w
  rw [← hSd] at hct2
  obtain ⟨l, hl⟩ : ∃ l, l = (bs.take 400) := ⟨_, rfl⟩
  rw [← hl] at hs' hlen
  have HS' : Hid (Str S l) := hs'
  have HLN : Hid (l.length ≤ 400) := hlen
  have HT : Hid (Tab W) := hT
  clear hT hs hs' hl hsz hlen hc hSd
  obtain ⟨cs, rfl, h5, hJ⟩ := hv
  obtain ⟨c0, c1, c2, c3, c4, rfl⟩ : ∃ c0 c1 c2 c3 c4, cs = [c0, c1, c2, c3, c4] := by
    match cs, h5 with
    | [c0, c1, c2, c3, c4], _ => exact ⟨c0, c1, c2, c3, c4, rfl⟩
  have hjv : JV j (.agg #[c0, c1, c2, c3, c4]) W := ⟨_, rfl, rfl, hJ⟩
  show Ret _ #[.agg #[c0, c1, c2, c3, c4], .string s] W _
  have hB0 : Below W.heap.size W (W.alloc (.cells #[c0, c1, c2, c3, c4] 25)) := below1 _ _
  have hX0 : (W.alloc (.cells #[c0, c1, c2, c3, c4] 25)).heap[W.heap.size]? = some (.cells #[c0, c1, c2, c3, c4] 25 (0, 0)) := heap_alloc_new _ _
  have hjv0 := JV.stb j _ _ _ hB0 hjv
  have hc := cutR 6 j _ _ (by decide) hjv0
  have HX0 : Hid _ := hX0
  clear hX0 hJ hjv hjv0
  unfold Ret
  go_enter Tryd.func4, Tryd.ntmps4
  go_wp2_with fail
  refine hc.mono ?_
  rintro e w1 ⟨_, rfl, hB1, cs, rfl, h5, hJ⟩
  clear hc
  have hone := JM.one (by decide) hJ
  obtain ⟨d0, d1, d2, d3, d4, rfl⟩ : ∃ d0 d1 d2 d3 d4, cs = [d0, d1, d2, d3, d4] := by
    match cs, h5 with
    | [d0, d1, d2, d3, d4], _ => exact ⟨d0, d1, d2, d3, d4, rfl⟩
  have hX1 : w1.heap[W.heap.size]? = some (.cells #[c0, c1, c2, c3, c4] 25 (0, 0)) := block_below hB1 (by simp) HX0.out
  have hall : (#[d0, d1, d2, d3, d4] : Array Value).all (·.oneCell') = true := by simp [hone]
  have hB2 : Below W.heap.size W (w1.setRow W.heap.size #[d0, d1, d2, d3, d4]) := setRow_below (hB0.trans (hB1.mono hB0.size)) (Nat.le_refl _) _
  have hX2 : (w1.setRow W.heap.size #[d0, d1, d2, d3, d4]).heap[W.heap.size]? = some (.cells #[d0, d1, d2, d3, d4] 25 (0, 0)) := setRow_heap _ _ _ _ _ _ hX1
  have hJ2 : JV (cutJ 7 j) (.agg #[d0, d1, d2, d3, d4]) (w1.setRow W.heap.size #[d0, d1, d2, d3, d4]) := ⟨_, rfl, rfl, JM.jc _ _ _ _ (JM.move (T := fun _ => True) (fun b _ hS => ⟨trivial, setRow_other _ _ _ _ (by simp at hS; omega)⟩) _ _ _ hJ)⟩
  clear hJ hone hB1 hB0
  go_wp2_with (refine wpList_store_row rfl 25 (.tmp 2) (.tmp 18) rfl W.heap.size #[d0, d1, d2, d3, d4] rfl rfl 25 _ hX1 size25 rfl hall ?_; refine Hid.out ?_)
  obtain ⟨w2, hw2⟩ : ∃ w2, w2 = w1.setRow W.heap.size #[d0, d1, d2, d3, d4] := ⟨_, rfl⟩
  rw [← hw2] at hB2 hX2 hJ2
  rw [← hw2]
  refine Lib.hid ?_
  have x0 : w2.cell? ⟨W.heap.size, 0, none⟩ = some d0 := (cell_of_row _ _ _ _ _ _ hX2).trans rfl
  have x1 : w2.cell? ⟨W.heap.size, 1, none⟩ = some d1 := (cell_of_row _ _ _ _ _ _ hX2).trans rfl
  have x2 : w2.cell? ⟨W.heap.size, 2, none⟩ = some d2 := (cell_of_row _ _ _ _ _ _ hX2).trans rfl
  have x3 : w2.cell? ⟨W.heap.size, 3, none⟩ = some d3 := (cell_of_row _ _ _ _ _ _ hX2).trans rfl
  have x4 : w2.cell? ⟨W.heap.size, 4, none⟩ = some d4 := (cell_of_row _ _ _ _ _ _ hX2).trans rfl
  have HS : Hid _ := (⟨hB2, hX2, hJ2⟩ : _ ∧ _ ∧ _)
  clear hB2 hX2 hJ2 hw2 hX1 hall
  go_wp2_with fail
  refine (writeP (n := 6) (cutJ 7 j) _ _ (HT.out.below HS.out.1) (cutJ_full 6 j) (TxtJ.mono (by decide) _ _ (cutJ_txt 7 j)) HS.out.2.2).mono ?_
  rintro e w3 ⟨r, rfl, hB3, hr⟩
  have hr := hr.2.2 hI
  subst hr
  obtain ⟨s1, s2, s3⟩ := HS.out
  have hB3' := s1.trans (hB3.mono s1.size)
  have HB6 : Hid (Below W.heap.size W w3) := hB3'
  have hr2 := readP w3 HS'.out
  clear HS hB3' s1 s2 s3 hB3 x0 x1 x2 x3 x4 hI 
  go_wp2_with fail
  refine Calls.mono hr2 ?_
  rintro e w7 ⟨cs, er, rfl, h5, hone2, hB7, _, hq⟩
  have hle := HLN.out
  have hq := hq (by omega)
  obtain ⟨f0, f1, f2, f3, f4, rfl⟩ := arr5 h5
  clear hr2 h5 hle
  have hN := heap_alloc_new w7 (.cells zero5 25)
  unfold zero5 at hN
  go_wp2_with (refine wpList_store_row rfl 25 (.tmp 10) (.tmp 48) rfl w7.heap.size #[f0, f1, f2, f3, f4] rfl rfl 25 _ hN size25 rfl hone2 ?_; refine Hid.out ?_)
  obtain ⟨w8, hnew⟩ : ∃ w', w' = (w7.alloc (.cells #[.int .i64 0, .int .i64 0, .string ⟨#[]⟩, .slice none 0 0, .slice none 0 0] 25)).setRow w7.heap.size #[f0, f1, f2, f3, f4] := ⟨_, rfl⟩
  rw [← hnew]
  refine Lib.hid ?_
  have hBn : Below w7.heap.size w7 w8 := by rw [hnew]; exact (below1 _ _).trans ⟨rfl, rfl, rfl, by simp, fun b hb => setRow_other _ _ _ _ (by omega)⟩
  have hYn : w8.heap[w7.heap.size]? = some (.cells #[f0, f1, f2, f3, f4] 25 (0, 0)) := by rw [hnew]; exact setRow_heap _ _ _ _ _ _ hN
  clear hnew hN
  have hs7 := hB7.size
  have hs6 := HB6.out.size
  have HB8 : Hid (Below W.heap.size W w8) := HB6.out.trans ((hB7.trans (hBn.mono hs7)).mono hs6)
  clear hs7 hs6 hB7
  cases hx : readL l with
  | error e0 =>
    rw [hx] at hq
    obtain ⟨rfl, hne, _⟩ := hq
    have hne2 : ¬ er = 0 := hne
    clear hx hBn hYn hone2
    go_wp2_with fail
    refine (livesP _ (HT.out.below HB8.out)).mono ?_
    rintro e wz ⟨_, rfl, hBz, rfl⟩
    have hsz := HB8.out.size
    have HBz : Hid (Below W.heap.size W wz) := HB8.out.trans (hBz.mono hsz)
    clear hBz
    go_wp2
    go_ret
    exact ⟨_, rfl, HBz.out, rfl⟩
  | ok jx =>
    rw [hx] at hq
    obtain ⟨rfl, hJ7⟩ := hq
    have hIs := readL_is hx
    have hFu := isJ_full 7 6 jx hIs
    have hle := HLN.out
    have hTx : TxtJ 1000000 7 jx := readL_txt (by omega) hx
    have hjx : JV jx (.agg #[f0, f1, f2, f3, f4]) w8 := ⟨_, rfl, rfl, JM.jc _ _ _ _ (hJ7.stb hBn)⟩
    have hwr := writeP (n := 6) jx _ w8 (HT.out.below HB8.out) hFu hTx hjx
    have x0 : w8.cell? ⟨w7.heap.size, 0, none⟩ = some f0 := (cell_of_row _ _ _ _ _ _ hYn).trans rfl
    have x1 : w8.cell? ⟨w7.heap.size, 1, none⟩ = some f1 := (cell_of_row _ _ _ _ _ _ hYn).trans rfl
    have x2 : w8.cell? ⟨w7.heap.size, 2, none⟩ = some f2 := (cell_of_row _ _ _ _ _ _ hYn).trans rfl
    have x3 : w8.cell? ⟨w7.heap.size, 3, none⟩ = some f3 := (cell_of_row _ _ _ _ _ _ hYn).trans rfl
    have x4 : w8.cell? ⟨w7.heap.size, 4, none⟩ = some f4 := (cell_of_row _ _ _ _ _ _ hYn).trans rfl
    have HJX : Hid (JV jx (.agg #[f0, f1, f2, f3, f4]) w8) := hjx
    have HY : Hid (w8.heap[w7.heap.size]? = some (.cells #[f0, f1, f2, f3, f4] 25 (0, 0))) := hYn
    have HIS : Hid (IsJ 7 6 jx) := hIs
    have HFU : Hid (Full 7 jx) := hFu
    clear hx hBn hYn hone2 hJ7 hle hTx hjx hIs hFu
    go_wp2_with fail
    refine Calls.mono hwr ?_
    rintro e w9 ⟨r, rfl, hB9, hr⟩
    have hs8 := HB8.out.size
    have HB9 : Hid (Below W.heap.size W w9) := HB8.out.trans (hB9.mono hs8)
    have hX9 := block_below hB9 (lt_of_heap HY.out) HY.out
    have hj9 := JV.stb _ _ _ _ hB9 HJX.out
    have HS9 : Hid (w9.heap[w7.heap.size]? = some (.cells #[f0, f1, f2, f3, f4] 25 (0, 0)) ∧ JV jx (.agg #[f0, f1, f2, f3, f4]) w9) := ⟨hX9, hj9⟩
    clear hwr hs8 hB9 hX9 hj9 HY HJX x0 x1 x2 x3 x4
    by_cases hW : (writeJ 7 jx).length ≤ 2000
    · have hr := hr.1 HIS.out hW
      subst hr
      obtain ⟨U, hU⟩ : ∃ U, U = strOf (writeJ 7 jx) := ⟨_, rfl⟩
      rw [← hU]
      have HSu : Hid (Str U (writeJ 7 jx)) := by show Str _ _; rw [hU]; exact str_strOf (writeJ_dig 7 6 _ HIS.out)
      have HRU : Hid (readL (writeJ 7 jx) = .ok jx) := readL_back _ HIS.out
      have HLW : Hid ((writeJ 7 jx).length ≤ 2000) := hW
      have hr3 := readP w9 HSu.out
      clear hU hW
      go_wp2_with fail
      refine Calls.mono hr3 ?_
      rintro e w10 ⟨cs, er, rfl, h5, hone3, hB10, _, hq⟩
      have hq := hq HLW.out
      rw [HRU.out] at hq
      obtain ⟨rfl, hJ10⟩ := hq
      obtain ⟨g0, g1, g2, g3, g4, rfl⟩ := arr5 h5
      clear hr3 h5
      have hN := heap_alloc_new w10 (.cells zero5 25)
      unfold zero5 at hN
      go_wp2_with (refine wpList_store_row rfl 25 (.tmp 14) (.tmp 68) rfl w10.heap.size #[g0, g1, g2, g3, g4] rfl rfl 25 _ hN size25 rfl hone3 ?_; refine Hid.out ?_)
      obtain ⟨w11, hnew⟩ : ∃ w', w' = (w10.alloc (.cells #[.int .i64 0, .int .i64 0, .string ⟨#[]⟩, .slice none 0 0, .slice none 0 0] 25)).setRow w10.heap.size #[g0, g1, g2, g3, g4] := ⟨_, rfl⟩
      rw [← hnew]
      refine Lib.hid ?_
      have hBn : Below w10.heap.size w10 w11 := by rw [hnew]; exact (below1 _ _).trans ⟨rfl, rfl, rfl, by simp, fun b hb => setRow_other _ _ _ _ (by omega)⟩
      have hYn : w11.heap[w10.heap.size]? = some (.cells #[g0, g1, g2, g3, g4] 25 (0, 0)) := by rw [hnew]; exact setRow_heap _ _ _ _ _ _ hN
      clear hnew hN
      have hs10 := hB10.size
      have hB911 : Below w9.heap.size w9 w11 := hB10.trans (hBn.mono hs10)
      have hs9 := HB9.out.size
      have HB11 : Hid (Below W.heap.size W w11) := HB9.out.trans (hB911.mono hs9)
      obtain ⟨s2, s3⟩ := HS9.out
      have hX11 := block_below hB911 (lt_of_heap s2) s2
      have hjA := JV.stb _ _ _ _ hB911 s3
      have hjB : JV jx (.agg #[g0, g1, g2, g3, g4]) w11 := ⟨_, rfl, rfl, JM.jc _ _ _ _ (hJ10.stb hBn)⟩
      have hsm := sameJ 7 _ _ _ _ w11 HFU.out HFU.out hjA hjB
      have x0 : w11.cell? ⟨w7.heap.size, 0, none⟩ = some f0 := (cell_of_row _ _ _ _ _ _ hX11).trans rfl
      have x1 : w11.cell? ⟨w7.heap.size, 1, none⟩ = some f1 := (cell_of_row _ _ _ _ _ _ hX11).trans rfl
      have x2 : w11.cell? ⟨w7.heap.size, 2, none⟩ = some f2 := (cell_of_row _ _ _ _ _ _ hX11).trans rfl
      have x3 : w11.cell? ⟨w7.heap.size, 3, none⟩ = some f3 := (cell_of_row _ _ _ _ _ _ hX11).trans rfl
      have x4 : w11.cell? ⟨w7.heap.size, 4, none⟩ = some f4 := (cell_of_row _ _ _ _ _ _ hX11).trans rfl
      have y0 : w11.cell? ⟨w10.heap.size, 0, none⟩ = some g0 := (cell_of_row _ _ _ _ _ _ hYn).trans rfl
      have y1 : w11.cell? ⟨w10.heap.size, 1, none⟩ = some g1 := (cell_of_row _ _ _ _ _ _ hYn).trans rfl
      have y2 : w11.cell? ⟨w10.heap.size, 2, none⟩ = some g2 := (cell_of_row _ _ _ _ _ _ hYn).trans rfl
      have y3 : w11.cell? ⟨w10.heap.size, 3, none⟩ = some g3 := (cell_of_row _ _ _ _ _ _ hYn).trans rfl
      have y4 : w11.cell? ⟨w10.heap.size, 4, none⟩ = some g4 := (cell_of_row _ _ _ _ _ _ hYn).trans rfl
      clear s2 s3 hs9 hs10 hB911 hX11 hjA hjB hBn hYn hJ10 hB10 hone3 HS9
      go_wp2_with fail
      refine Calls.mono hsm ?_
      rintro e w12 ⟨_, rfl, hB12, c, rfl, hc6⟩
      obtain rfl : c = true := hc6.2 rfl
      have hs11 := HB11.out.size
      have HB12 : Hid (Below W.heap.size W w12) := HB11.out.trans (hB12.mono hs11)
      clear hsm hB12 hc6 hs11 x0 x1 x2 x3 x4 y0 y1 y2 y3 y4
      go_wp2_with fail
      refine (livesP _ (HT.out.below HB12.out)).mono ?_
      rintro e wz ⟨_, rfl, hBz, rfl⟩
      have hsz := HB12.out.size
      have HBz : Hid (Below W.heap.size W wz) := HB12.out.trans (hBz.mono hsz)
      clear hBz
      go_wp2
      go_ret
      exact ⟨_, rfl, HBz.out, rfl⟩
    · have hr := hr.2.1 HIS.out (show 2000 < (writeJ 7 jx).length by omega)
      subst hr
      clear hW
      go_wp2_with fail
      refine (livesP _ (HT.out.below HB9.out)).mono ?_
      rintro e wz ⟨_, rfl, hBz, rfl⟩
      have hsz := HB9.out.size
      have HBz : Hid (Below W.heap.size W wz) := HB9.out.trans (hBz.mono hsz)
      clear hBz
      go_wp2
      go_ret
      exact ⟨_, rfl, HBz.out, rfl⟩
theorem jsonRound (W : World) {j : J 7} {v : Value} {s : ByteArray} {bs : List Nat} (hT : Tab W) (hv : JV j v W) (hs : Str s bs) : Ret 4 #[v, .string s] W (Is (.bool true)) := by
  by_cases hc : bs.length ≤ 400
  · by_cases hI : IsJ 7 6 (cutJ 7 j)
    · by_cases hL : (writeJ 7 (cutJ 7 j)).length ≤ 2000
      · exact jsonRoundA1 W hT hv hs hc hI hL
      · exact jsonRoundB1 W hT hv hs hc hI (by omega)
    · exact jsonRoundC1 W hT hv hs hc hI
  · by_cases hI : IsJ 7 6 (cutJ 7 j)
    · by_cases hL : (writeJ 7 (cutJ 7 j)).length ≤ 2000
      · exact jsonRoundA2 W hT hv hs (by omega) hI hL
      · exact jsonRoundB2 W hT hv hs (by omega) hI (by omega)
    · exact jsonRoundC2 W hT hv hs (by omega) hI
end Go.Proofs.YtljgnpneeecafaaDoor
