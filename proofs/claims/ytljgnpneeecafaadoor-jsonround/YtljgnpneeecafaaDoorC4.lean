/-
  JSON: what stands in fields that are not of the value's kind. JSON: the writer's lists. JSON: the writer's maps. JSON: the writer's values; Write. JSON: the writer's values, of any kind; Write. JSON: the reader: how it stands; its single steps. JSON: the reader's words.
-/
import Derived.Test.YtljgnpneeecafaaDoorC3
import Derived.Lib.AppendIntMem
import Derived.StillTailTactics
import Derived.Deep.MidRow
set_option linter.unusedVariables false
namespace Go.Proofs.YtljgnpneeecafaaDoor
open Go.RowKit Go.Sort Go.BigFrame
set_option maxRecDepth 100000
set_option maxHeartbeats 2000000
/-- Something stands where it may not. -/
def OthP (ki m : Int) (e : Prop) (nl kl : Nat) : Prop := (m ≠ 0 ∧ ki ≠ 1 ∧ ki ≠ 2) ∨ (¬ e ∧ ki ≠ 3) ∨ (0 < nl ∧ ki ≠ 5) ∨ (0 < kl ∧ ki ≠ 4 ∧ ki ≠ 5)
theorem others1 (m : Int) (s : ByteArray) (na ka : Option Addr) (nl nc kl kc : Nat) (w : World) :
    Ret 22 #[.agg #[.int .i64 1, .int .i64 m, .string s, .slice na nl nc, .slice ka kl kc]] w (Tells (OthP 1 m (s.toList = []) nl kl)) := by
  unfold Ret
  go_enter Tryd.func22, Tryd.ntmps22
  go_wp2
  all_goals
    go_ret
    refine ⟨_, rfl, below1 _ _, _, rfl, ?_⟩
    unfold OthP
    simp [*]
theorem others2 (m : Int) (s : ByteArray) (na ka : Option Addr) (nl nc kl kc : Nat) (w : World) :
    Ret 22 #[.agg #[.int .i64 2, .int .i64 m, .string s, .slice na nl nc, .slice ka kl kc]] w (Tells (OthP 2 m (s.toList = []) nl kl)) := by
  unfold Ret
  go_enter Tryd.func22, Tryd.ntmps22
  go_wp2
  all_goals
    go_ret
    refine ⟨_, rfl, below1 _ _, _, rfl, ?_⟩
    unfold OthP
    simp [*]
theorem others3 (m : Int) (s : ByteArray) (na ka : Option Addr) (nl nc kl kc : Nat) (w : World) :
    Ret 22 #[.agg #[.int .i64 3, .int .i64 m, .string s, .slice na nl nc, .slice ka kl kc]] w (Tells (OthP 3 m (s.toList = []) nl kl)) := by
  unfold Ret
  go_enter Tryd.func22, Tryd.ntmps22
  go_wp2
  all_goals
    go_ret
    refine ⟨_, rfl, below1 _ _, _, rfl, ?_⟩
    unfold OthP
    simp [*]
theorem others4 (m : Int) (s : ByteArray) (na ka : Option Addr) (nl nc kl kc : Nat) (w : World) :
    Ret 22 #[.agg #[.int .i64 4, .int .i64 m, .string s, .slice na nl nc, .slice ka kl kc]] w (Tells (OthP 4 m (s.toList = []) nl kl)) := by
  unfold Ret
  go_enter Tryd.func22, Tryd.ntmps22
  go_wp2
  all_goals
    go_ret
    refine ⟨_, rfl, below1 _ _, _, rfl, ?_⟩
    unfold OthP
    simp [*]
theorem others5 (m : Int) (s : ByteArray) (na ka : Option Addr) (nl nc kl kc : Nat) (w : World) :
    Ret 22 #[.agg #[.int .i64 5, .int .i64 m, .string s, .slice na nl nc, .slice ka kl kc]] w (Tells (OthP 5 m (s.toList = []) nl kl)) := by
  unfold Ret
  go_enter Tryd.func22, Tryd.ntmps22
  go_wp2
  all_goals
    go_ret
    refine ⟨_, rfl, below1 _ _, _, rfl, ?_⟩
    unfold OthP
    simp [*]
theorem othersX {ki : Int} (h : ki < 1 ∨ 5 < ki) (m : Int) (s : ByteArray) (na ka : Option Addr) (nl nc kl kc : Nat) (w : World) :
    Ret 22 #[.agg #[.int .i64 ki, .int .i64 m, .string s, .slice na nl nc, .slice ka kl kc]] w (Tells (OthP ki m (s.toList = []) nl kl)) := by
  have n1 : ¬ ki = 1 := by omega
  have n2 : ¬ ki = 2 := by omega
  have n3 : ¬ ki = 3 := by omega
  have n4 : ¬ ki = 4 := by omega
  have n5 : ¬ ki = 5 := by omega
  have q1 : (ki == 1) = false := by simpa using n1
  have q2 : (ki == 2) = false := by simpa using n2
  have q3 : (ki == 3) = false := by simpa using n3
  have q4 : (ki == 4) = false := by simpa using n4
  have q5 : (ki == 5) = false := by simpa using n5
  clear h
  unfold Ret
  go_enter Tryd.func22, Tryd.ntmps22
  go_wp2
  all_goals
    go_ret
    refine ⟨_, rfl, below1 _ _, _, rfl, ?_⟩
    unfold OthP
    simp [*]
theorem others22 (ki m : Int) (s : ByteArray) (na ka : Option Addr) (nl nc kl kc : Nat) (w : World) :
    Ret 22 #[.agg #[.int .i64 ki, .int .i64 m, .string s, .slice na nl nc, .slice ka kl kc]] w (Tells (OthP ki m (s.toList = []) nl kl)) := by
  by_cases h : ki < 1 ∨ 5 < ki
  · exact othersX h m s na ka nl nc kl kc w
  · rcases (by omega : ki = 1 ∨ ki = 2 ∨ ki = 3 ∨ ki = 4 ∨ ki = 5) with rfl | rfl | rfl | rfl | rfl
    · exact others1 m s na ka nl nc kl kc w
    · exact others2 m s na ka nl nc kl kc w
    · exact others3 m s na ka nl nc kl kc w
    · exact others4 m s na ka nl nc kl kc w
    · exact others5 m s na ka nl nc kl kc w
end Go.Proofs.YtljgnpneeecafaaDoor
set_option linter.unusedVariables false
namespace Go.Proofs.YtljgnpneeecafaaDoor
open Go.RowKit Go.Sort Go.BigFrame
set_option maxRecDepth 100000
set_option maxHeartbeats 2000000
theorem Tab.below {w w' : World} (h : Tab w) (hb : Below w.heap.size w w') : Tab w' := Lib.tabBelow_of_tabIs h w' hb
theorem JC.one {n : Nat} {j : J n} {d0 d1 d2 d3 d4 : Value} {w : World} (hf : Full n j) (h : JC n j [d0, d1, d2, d3, d4] w) : (#[d0, d1, d2, d3, d4] : Array Value).all (·.oneCell') = true := by
  cases n with
  | zero => exact absurd hf (by simp [Full])
  | succ n =>
    obtain ⟨s, nv, kv, h1, _, ⟨a, c, rfl, _⟩, ⟨a2, c2, rfl, _⟩, _⟩ := h
    injection h1 with e0 h1; injection h1 with e1 h1; injection h1 with e2 h1; injection h1 with e3 h1; injection h1 with e4 h1
    subst e0 e1 e2 e3 e4
    simp [Value.oneCell']
/-- A value that lies in the caller's memory is written, or it is none. -/
def WrC (n : Nat) : Prop := ∀ (j : J n) (v : Value) (w0 w : World) (g ar : Nat) (T : List Nat), ar ≤ 6 → TxtJ 1000000 n j → Full n j → Tab w0 → JV j v w0 → Below w0.heap.size w0 w → WS w0.heap.size g ar T w →
  Calls Tryd.prog 14 #[.pointer (some ⟨g, 0, none⟩), v] w (WOk w0.heap.size g ar T w (IsJ n (6 - ar) j) (writeJ n j))
theorem list27 {n : Nat} (ih : WrC n) (ks : List (J n)) (kv : Value) (w0 w : World) (g ar : Nat) (T : List Nat) (ha : ar < 6) (ht : ∀ k ∈ ks, TxtJ 1000000 n k) (hf : ∀ k ∈ ks, Full n k) (hT : Tab w0) (hk : KRow (JC n) ks kv w0) (hB : Below w0.heap.size w0 w) (hW : WS w0.heap.size g ar T w) :
    Calls Tryd.prog 27 #[.pointer (some ⟨g, 0, none⟩), kv] w (WOk w0.heap.size g ar T w (∀ k ∈ ks, IsJ n (6 - ar - 1) k) (91 :: (accW (fun i => (ks.map (writeJ n)).getD i []) ks.length ++ [93]))) := by
  obtain ⟨ka, kc, rfl, lk1, lk2, hkc⟩ := hk
  obtain ⟨F, hF⟩ : ∃ F : Nat → List Nat, F = (fun i => (ks.map (writeJ n)).getD i []) := ⟨_, rfl⟩
  obtain ⟨K, hK⟩ : ∃ x, x = ks.length := ⟨_, rfl⟩
  rw [← hF]
  rw [← hK] at lk1 ⊢
  have HK : Hid (K = ks.length) := hK
  have HF : Hid _ := hF
  clear hF hK
  have hd := deeper41 hW ha
  go_enter_defers Tryd.func27, Tryd.ntmps27
  go_wp2_with fail
  refine hd.mono ?_
  rintro e w1 ⟨rfl, hW1, hF1⟩
  have hp := put23 hW1 (str_lit (bs := [91]) (by decide)) (by decide)
  rw [show strOf [91] = ByteArray.mk #[91] by decide] at hp
  go_wp2_with fail
  refine hp.mono ?_
  rintro e w2 ⟨rfl, hW2, hF2⟩
  go_wp2_with fail
  have hFA := hF1.trans hF2
  have hz5 : (Tryd.prog.info? 25).map (·.size) = some 5 := by kernel_rfl
  clear hp hd
  go_loopw [19] (fun i wr => ∃ k : Nat, k ≤ K ∧ i = .int .i64 k ∧ WS w0.heap.size g (ar + 1) (T ++ [91] ++ accW F k) wr ∧ Fw w0.heap.size g w wr ∧ ∀ i (h : i < ks.length), i < k → IsJ n (6 - ar - 1) (ks[i]'h)) (fun i _ => K - (intOf i).toNat)
  case atStart => exact ⟨0, by omega, rfl, by simpa [accW] using hW2, hFA, fun i h h' => absurd h' (by omega)⟩
  case round =>
    obtain ⟨k, hk, rfl, hWk, hFk, hIs⟩ := hrel
    have hBr := hB.trans hFk.1
    by_cases hlt : k < K
    · have l1 : k < ks.length := by rw [← HK.out]; exact hlt
      obtain ⟨b1, o1, rfl, hc1⟩ := hkc (by omega)
      obtain ⟨cs, hx1, hS1⟩ := hc1 k l1
      have hFx : F k = writeJ n (ks[k]'l1) := by rw [HF.out]; simp [l1]
      have htk := ht _ (List.getElem_mem l1)
      have hfk := hf _ (List.getElem_mem l1)
      have hIk : ∀ P : Prop, (P ↔ IsJ n (6 - (ar + 1)) (ks[k]'l1)) → (P ↔ IsJ n (6 - ar - 1) (ks[k]'l1)) := fun P h => by rw [h, show 6 - (ar + 1) = 6 - ar - 1 by omega]
      obtain ⟨d0, d1, d2, d3, d4, rfl⟩ : ∃ d0 d1 d2 d3 d4, cs = [d0, d1, d2, d3, d4] := by
        match cs, hx1.1 with
        | [d0, d1, d2, d3, d4], _ => exact ⟨d0, d1, d2, d3, d4, rfl⟩
      have hjv0 : JV (ks[k]'l1) (.agg #[d0, d1, d2, d3, d4]) w0 := ⟨_, rfl, rfl, hS1⟩
      have hblt : b1 < w0.heap.size := cell_some_lt (show w0.cell? ⟨b1, o1 + k * 5, none⟩ = some d0 from hx1.2 0 (by decide))
      have g0 : wr.cell? ⟨b1, o1 + k * 5, none⟩ = some d0 := (hBr.cell (p := ⟨b1, _, none⟩) hblt).trans (hx1.2 0 (by decide))
      have g1 : wr.cell? ⟨b1, o1 + k * 5 + 1, none⟩ = some d1 := (hBr.cell (p := ⟨b1, _, none⟩) hblt).trans (hx1.2 1 (by decide))
      have g2 : wr.cell? ⟨b1, o1 + k * 5 + 2, none⟩ = some d2 := (hBr.cell (p := ⟨b1, _, none⟩) hblt).trans (hx1.2 2 (by decide))
      have g3 : wr.cell? ⟨b1, o1 + k * 5 + 3, none⟩ = some d3 := (hBr.cell (p := ⟨b1, _, none⟩) hblt).trans (hx1.2 3 (by decide))
      have g4 : wr.cell? ⟨b1, o1 + k * 5 + 4, none⟩ = some d4 := (hBr.cell (p := ⟨b1, _, none⟩) hblt).trans (hx1.2 4 (by decide))
      have hone : (#[d0, d1, d2, d3, d4] : Array Value).all (·.oneCell') = true := JC.one hfk hS1
      clear hc1 hx1
      obtain ⟨wx, hwx⟩ : ∃ wx, wx = (wr.alloc (.cells #[.int .i64 0, .int .i64 0, .string ⟨#[]⟩, .slice none 0 0, .slice none 0 0] 25)).setRow wr.heap.size #[d0, d1, d2, d3, d4] := ⟨_, rfl⟩
      have hBx : Below wr.heap.size wr wx := by rw [hwx]; exact setRow_below (below1 _ _) (Nat.le_refl _) _
      have hXx : wx.heap[wr.heap.size]? = some (.cells #[d0, d1, d2, d3, d4] 25 (0, 0)) := by rw [hwx]; exact setRow_heap _ _ _ _ _ _ (heap_alloc_new _ _)
      have hWx := hWk.new hBx
      have hFx2 := hFk.trans (Fw.new hBx hWk.1)
      have hgne : wr.heap.size ≠ g := by
        obtain ⟨_, bs, hw, _⟩ := hWk
        rcases hw with hw | hw <;> have := hw.lt <;> omega
      go_wp2_with (refine wpList_store_row rfl 25 (.tmp 6) (.tmp 23) rfl wr.heap.size #[d0, d1, d2, d3, d4] rfl rfl 25 _ (heap_alloc_new _ _) hz5 rfl hone ?_; refine Hid.out ?_)
      rw [← hwx]
      clear hwx g0 g1 g2 g3 g4 hWk
      refine Lib.hid ?_
      by_cases hk0 : k = 0
      · have hk0i : ¬ (0 : Int) < (k : Int) := by omega
        have x0 : wx.cell? ⟨wr.heap.size, 0, none⟩ = some d0 := (cell_of_row _ _ _ _ _ _ hXx).trans rfl
        have x1 : wx.cell? ⟨wr.heap.size, 1, none⟩ = some d1 := (cell_of_row _ _ _ _ _ _ hXx).trans rfl
        have x2 : wx.cell? ⟨wr.heap.size, 2, none⟩ = some d2 := (cell_of_row _ _ _ _ _ _ hXx).trans rfl
        have x3 : wx.cell? ⟨wr.heap.size, 3, none⟩ = some d3 := (cell_of_row _ _ _ _ _ _ hXx).trans rfl
        have x4 : wx.cell? ⟨wr.heap.size, 4, none⟩ = some d4 := (cell_of_row _ _ _ _ _ _ hXx).trans rfl
        go_wp2_with fail
        refine (ih _ _ w0 wx g (ar + 1) _ (by omega) htk hfk hT hjv0 (hB.trans (hFx2).1) hWx).mono ?_
        rintro e w6 ⟨c, rfl, hc, hF6, T6, hW6, hT6⟩
        have hF7 := (hFx2).trans hF6
        have hc := hIk _ hc
        cases c with
        | false =>
          go_wp2
          refine leaves_cons (f := 42) (args := #[.pointer (some ⟨g, 2, none⟩)]) (by simp) (by simp [go_sem]) ?_
          refine (higher42 .returning hW6 ha).mono ?_
          rintro e u' w9 ⟨rfl, rfl, hW9, hF9⟩
          exact ⟨_, results_tmp rfl _ _ _, false, rfl, ⟨fun e => (by cases e), fun e => (by have := hc.2 (e _ (List.getElem_mem l1)); cases this)⟩, hF7.trans hF9, _, hW9, fun e => (by cases e)⟩
        | true =>
          obtain rfl := hT6 rfl
          go_wp2
          refine ⟨⟨k + 1, by omega, by go_num, ?_, hF7, fun i h h' => ?_⟩, by simp [intOf]; omega⟩
          · rw [show T ++ [91] ++ accW F (k + 1) = T ++ [91] ++ accW F k ++ writeJ n (ks[k]'l1) by rw [show accW F (k + 1) = accW F k ++ (if k = 0 then [] else [44]) ++ F k from rfl, hFx]; simp [hk0]]
            exact hW6
          · by_cases e : i = k
            · subst e; exact hc.1 (by first | rfl | trivial)
            · exact hIs i h (by omega)
      · have hk0i : (0 : Int) < (k : Int) := by omega
        have hp2 := put23 hWx (str_lit (bs := [44]) (by decide)) (by decide)
        rw [show strOf [44] = ByteArray.mk #[44] by decide] at hp2
        go_wp2_with fail
        refine hp2.mono ?_
        rintro e w5 ⟨rfl, hW5, hF5⟩
        have hX5 := hF5.block hXx hgne (by decide)
        have x0 : w5.cell? ⟨wr.heap.size, 0, none⟩ = some d0 := (cell_of_row _ _ _ _ _ _ hX5).trans rfl
        have x1 : w5.cell? ⟨wr.heap.size, 1, none⟩ = some d1 := (cell_of_row _ _ _ _ _ _ hX5).trans rfl
        have x2 : w5.cell? ⟨wr.heap.size, 2, none⟩ = some d2 := (cell_of_row _ _ _ _ _ _ hX5).trans rfl
        have x3 : w5.cell? ⟨wr.heap.size, 3, none⟩ = some d3 := (cell_of_row _ _ _ _ _ _ hX5).trans rfl
        have x4 : w5.cell? ⟨wr.heap.size, 4, none⟩ = some d4 := (cell_of_row _ _ _ _ _ _ hX5).trans rfl
        go_wp2_with fail
        refine (ih _ _ w0 w5 g (ar + 1) _ (by omega) htk hfk hT hjv0 (hB.trans (hFx2.trans hF5).1) hW5).mono ?_
        rintro e w6 ⟨c, rfl, hc, hF6, T6, hW6, hT6⟩
        have hF7 := (hFx2.trans hF5).trans hF6
        have hc := hIk _ hc
        cases c with
        | false =>
          go_wp2
          refine leaves_cons (f := 42) (args := #[.pointer (some ⟨g, 2, none⟩)]) (by simp) (by simp [go_sem]) ?_
          refine (higher42 .returning hW6 ha).mono ?_
          rintro e u' w9 ⟨rfl, rfl, hW9, hF9⟩
          exact ⟨_, results_tmp rfl _ _ _, false, rfl, ⟨fun e => (by cases e), fun e => (by have := hc.2 (e _ (List.getElem_mem l1)); cases this)⟩, hF7.trans hF9, _, hW9, fun e => (by cases e)⟩
        | true =>
          obtain rfl := hT6 rfl
          go_wp2
          refine ⟨⟨k + 1, by omega, by go_num, ?_, hF7, fun i h h' => ?_⟩, by simp [intOf]; omega⟩
          · rw [show T ++ [91] ++ accW F (k + 1) = T ++ [91] ++ accW F k ++ [44] ++ writeJ n (ks[k]'l1) by rw [show accW F (k + 1) = accW F k ++ (if k = 0 then [] else [44]) ++ F k from rfl, hFx]; simp [hk0]]
            exact hW6
          · by_cases e : i = k
            · subst e; exact hc.1 (by first | rfl | trivial)
            · exact hIs i h (by omega)
    · obtain rfl : K = k := by omega
      have hp2 := put23 hWk (str_lit (bs := [93]) (by decide)) (by decide)
      rw [show strOf [93] = ByteArray.mk #[93] by decide] at hp2
      go_wp2_with fail
      refine hp2.mono ?_
      rintro e w5 ⟨rfl, hW5, hF5⟩
      go_wp2
      refine leaves_cons (f := 42) (args := #[.pointer (some ⟨g, 2, none⟩)]) (by simp) (by simp [go_sem]) ?_
      refine (higher42 .returning hW5 ha).mono ?_
      rintro e u' w9 ⟨rfl, rfl, hW9, hF9⟩
      refine ⟨_, results_tmp rfl _ _ _, true, rfl, ⟨fun _ => ?_, fun _ => rfl⟩, (hFk.trans hF5).trans hF9, _, hW9, fun _ => ?_⟩
      · intro k hkm
        obtain ⟨i, hi, rfl⟩ := List.getElem_of_mem hkm
        exact hIs i hi (by rw [HK.out]; exact hi)
      · simp
end Go.Proofs.YtljgnpneeecafaaDoor
set_option linter.unusedVariables false
namespace Go.Proofs.YtljgnpneeecafaaDoor
open Go.RowKit Go.Sort Go.BigFrame
set_option maxRecDepth 100000
set_option maxHeartbeats 2000000
theorem list_no {lo g : Nat} {T : List Nat} {w : World} (kv : Value) (hW : WS lo g 6 T w) :
    Calls Tryd.prog 27 #[.pointer (some ⟨g, 0, none⟩), kv] w fun e w' => e = .returned (.bool false) ∧ w' = w := by
  have hd := deeper_no hW
  go_enter Tryd.func27, Tryd.ntmps27
  go_wp2_with fail
  refine hd.mono ?_
  rintro e w1 ⟨rfl, rfl⟩
  go_wp2
  go_ret
  exact ⟨rfl, rfl⟩
theorem table_len {g : Nat} {w : World} (na ka : Option Addr) (nl nc kl kc : Nat) (h : nl ≠ kl) :
    Calls Tryd.prog 28 #[.pointer (some ⟨g, 0, none⟩), .slice na nl nc, .slice ka kl kc] w fun e w' => e = .returned (.bool false) ∧ w' = w := by
  have hi : (((nl : Int) != (kl : Int)) = true) := by simp; omega
  go_enter Tryd.func28, Tryd.ntmps28
  go_wp2
  go_ret
  exact ⟨rfl, rfl⟩
theorem table_like {g : Nat} {ns : List (List Nat)} {w : World} (na ka : Option Addr) (nc kc : Nat) (hn : SRow ns (.slice na ns.length nc) w) (hl : ∀ x ∈ ns, x.length ≤ 1000000) (h : ¬ ns.Nodup) :
    Calls Tryd.prog 28 #[.pointer (some ⟨g, 0, none⟩), .slice na ns.length nc, .slice ka ns.length kc] w fun e w' => e = .returned (.bool false) ∧ Below w.heap.size w w' := by
  have hu := unlike43 hn hl
  obtain ⟨N, hN⟩ : ∃ N, N = ns.length := ⟨_, rfl⟩
  rw [← hN] at hu ⊢
  clear hN hn
  have hi : (((N : Int) != (N : Int)) = false) := by simp
  go_enter Tryd.func28, Tryd.ntmps28
  go_wp2_with fail
  refine hu.mono ?_
  rintro e w1 ⟨_, rfl, hB, c, rfl, hc⟩
  obtain rfl : c = false := by cases c with | false => rfl | true => exact absurd (hc.1 rfl) h
  go_wp2
  go_ret
  exact ⟨rfl, hB⟩
theorem table_deep {lo g : Nat} {T : List Nat} {ns : List (List Nat)} {w : World} (na ka : Option Addr) (nc kc : Nat) (hn : SRow ns (.slice na ns.length nc) w) (hl : ∀ x ∈ ns, x.length ≤ 1000000) (h : ns.Nodup) (hW : WS lo g 6 T w) :
    Calls Tryd.prog 28 #[.pointer (some ⟨g, 0, none⟩), .slice na ns.length nc, .slice ka ns.length kc] w fun e w' => e = .returned (.bool false) ∧ Below w.heap.size w w' := by
  have hu := unlike43 hn hl
  obtain ⟨N, hN⟩ : ∃ N, N = ns.length := ⟨_, rfl⟩
  rw [← hN] at hu ⊢
  clear hN hn
  have hi : (((N : Int) != (N : Int)) = false) := by simp
  go_enter Tryd.func28, Tryd.ntmps28
  go_wp2_with fail
  refine hu.mono ?_
  rintro e w1 ⟨_, rfl, hB, c, rfl, hc⟩
  obtain rfl : c = true := hc.2 h
  have hd := deeper_no (hW.new hB)
  clear hc
  go_wp2_with fail
  refine hd.mono ?_
  rintro e w1 ⟨rfl, rfl⟩
  go_wp2
  go_ret
  exact ⟨rfl, hB⟩
theorem table28 {n : Nat} (ih : WrC n) (ns : List (List Nat)) (ks : List (J n)) (nv kv : Value) (w0 w : World) (g ar : Nat) (T : List Nat) (ha : ar < 6) (hlen : ns.length = ks.length) (hnd : ns.Nodup) (hnl : ∀ x ∈ ns, x.length ≤ 1000000) (ht : ∀ k ∈ ks, TxtJ 1000000 n k) (hf : ∀ k ∈ ks, Full n k) (hT : Tab w0) (hn : SRow ns nv w0) (hk : KRow (JC n) ks kv w0) (hB : Below w0.heap.size w0 w) (hW : WS w0.heap.size g ar T w) :
    Calls Tryd.prog 28 #[.pointer (some ⟨g, 0, none⟩), nv, kv] w (WOk w0.heap.size g ar T w ((∀ a ∈ ns, lettersB a = true) ∧ ∀ k ∈ ks, IsJ n (6 - ar - 1) k) (123 :: (accW (fun i => quoT (ns.getD i []) ++ [58] ++ (ks.map (writeJ n)).getD i []) ks.length ++ [125]))) := by
  have hnw := SRow.stb _ _ _ _ hB hn
  obtain ⟨na, nc, rfl, ln1, ln2, hnc⟩ := hn
  obtain ⟨ka, kc, rfl, lk1, lk2, hkc⟩ := hk
  have hu := unlike43 hnw hnl
  clear hnw
  obtain ⟨F, hF⟩ : ∃ F : Nat → List Nat, F = (fun i => quoT (ns.getD i []) ++ [58] ++ (ks.map (writeJ n)).getD i []) := ⟨_, rfl⟩
  obtain ⟨K, hK⟩ : ∃ x, x = ks.length := ⟨_, rfl⟩
  rw [← hF]
  rw [hlen, ← hK] at hu
  rw [hlen, ← hK] at ln1 ⊢
  rw [← hK] at lk1
  rw [hlen] at hnc
  have HK : Hid (K = ks.length) := hK
  have HF : Hid _ := hF
  have HL : Hid _ := hlen
  clear hF hK hlen
  have hi : (((K : Int) != (K : Int)) = false) := by simp
  go_enter_defers Tryd.func28, Tryd.ntmps28
  go_wp2_with fail
  refine hu.mono ?_
  rintro e w8 ⟨_, rfl, hB8, c, rfl, hc⟩
  obtain rfl : c = true := hc.2 hnd
  have hd := deeper41 (hW.new hB8) ha
  have hF8 := Fw.new (g := g) hB8 hW.1
  clear hc hu
  go_wp2_with fail
  refine hd.mono ?_
  rintro e w1 ⟨rfl, hW1, hF1⟩
  have hp := put23 hW1 (str_lit (bs := [123]) (by decide)) (by decide)
  rw [show strOf [123] = ByteArray.mk #[123] by decide] at hp
  go_wp2_with fail
  refine hp.mono ?_
  rintro e w2 ⟨rfl, hW2, hF2⟩
  go_wp2_with fail
  have hFA := (hF8.trans hF1).trans hF2
  have hz5 : (Tryd.prog.info? 25).map (·.size) = some 5 := by kernel_rfl
  clear hp hd
  go_loopw [33] (fun i wr => ∃ k : Nat, k ≤ K ∧ i = .int .i64 k ∧ WS w0.heap.size g (ar + 1) (T ++ [123] ++ accW F k) wr ∧ Fw w0.heap.size g w wr ∧ (∀ i (h : i < ks.length), i < k → IsJ n (6 - ar - 1) (ks[i]'h)) ∧ ∀ i, i < k → lettersB (ns.getD i []) = true) (fun i _ => K - (intOf i).toNat)
  case atStart => exact ⟨0, by omega, rfl, by simpa [accW] using hW2, hFA, fun i h h' => absurd h' (by omega), fun i h' => absurd h' (by omega)⟩
  case round =>
    obtain ⟨k, hk, rfl, hWk, hFk, hIs, hLs⟩ := hrel
    have hBr := hB.trans hFk.1
    by_cases hlt : k < K
    · have l1 : k < ks.length := by rw [← HK.out]; exact hlt
      have l2 : k < ns.length := by rw [HL.out]; exact l1
      obtain ⟨b1, o1, rfl, hc1⟩ := hkc (by omega)
      obtain ⟨cs, hx1, hS1⟩ := hc1 k l1
      obtain ⟨b2, o2, rfl, hc2⟩ := hnc (by omega)
      obtain ⟨s2, hs2, hS2⟩ := hc2 k l1
      have hmemN : ns.getD k [] ∈ ns := by
        have e : ns.getD k [] = ns[k] := by simp [l2]
        rw [e]; exact List.getElem_mem l2
      have hsl := hnl _ hmemN
      have hFx : F k = quoT (ns.getD k []) ++ [58] ++ writeJ n (ks[k]'l1) := by rw [HF.out]; simp [l1]
      have htk := ht _ (List.getElem_mem l1)
      have hfk := hf _ (List.getElem_mem l1)
      have hIk : ∀ P : Prop, (P ↔ IsJ n (6 - (ar + 1)) (ks[k]'l1)) → (P ↔ IsJ n (6 - ar - 1) (ks[k]'l1)) := fun P h => by rw [h, show 6 - (ar + 1) = 6 - ar - 1 by omega]
      obtain ⟨NM, hNM⟩ : ∃ NM, NM = ns.getD k [] := ⟨_, rfl⟩
      rw [← hNM] at hS2 hsl hFx hmemN
      have HNM : Hid _ := hNM
      clear hNM
      obtain ⟨d0, d1, d2, d3, d4, rfl⟩ : ∃ d0 d1 d2 d3 d4, cs = [d0, d1, d2, d3, d4] := by
        match cs, hx1.1 with
        | [d0, d1, d2, d3, d4], _ => exact ⟨d0, d1, d2, d3, d4, rfl⟩
      have hjv0 : JV (ks[k]'l1) (.agg #[d0, d1, d2, d3, d4]) w0 := ⟨_, rfl, rfl, hS1⟩
      have hblt : b1 < w0.heap.size := cell_some_lt (show w0.cell? ⟨b1, o1 + k * 5, none⟩ = some d0 from hx1.2 0 (by decide))
      have hblt2 : b2 < w0.heap.size := cell_some_lt hs2
      have g0 : wr.cell? ⟨b1, o1 + k * 5, none⟩ = some d0 := (hBr.cell (p := ⟨b1, _, none⟩) hblt).trans (hx1.2 0 (by decide))
      have g1 : wr.cell? ⟨b1, o1 + k * 5 + 1, none⟩ = some d1 := (hBr.cell (p := ⟨b1, _, none⟩) hblt).trans (hx1.2 1 (by decide))
      have g2 : wr.cell? ⟨b1, o1 + k * 5 + 2, none⟩ = some d2 := (hBr.cell (p := ⟨b1, _, none⟩) hblt).trans (hx1.2 2 (by decide))
      have g3 : wr.cell? ⟨b1, o1 + k * 5 + 3, none⟩ = some d3 := (hBr.cell (p := ⟨b1, _, none⟩) hblt).trans (hx1.2 3 (by decide))
      have g4 : wr.cell? ⟨b1, o1 + k * 5 + 4, none⟩ = some d4 := (hBr.cell (p := ⟨b1, _, none⟩) hblt).trans (hx1.2 4 (by decide))
      have hone : (#[d0, d1, d2, d3, d4] : Array Value).all (·.oneCell') = true := JC.one hfk hS1
      clear hc1 hx1 hc2
      obtain ⟨wx, hwx⟩ : ∃ wx, wx = (wr.alloc (.cells #[.int .i64 0, .int .i64 0, .string ⟨#[]⟩, .slice none 0 0, .slice none 0 0] 25)).setRow wr.heap.size #[d0, d1, d2, d3, d4] := ⟨_, rfl⟩
      have hBx : Below wr.heap.size wr wx := by rw [hwx]; exact setRow_below (below1 _ _) (Nat.le_refl _) _
      have hXx : wx.heap[wr.heap.size]? = some (.cells #[d0, d1, d2, d3, d4] 25 (0, 0)) := by rw [hwx]; exact setRow_heap _ _ _ _ _ _ (heap_alloc_new _ _)
      have hWx := hWk.new hBx
      have hFx2 := hFk.trans (Fw.new hBx hWk.1)
      have hgne : wr.heap.size ≠ g := by
        obtain ⟨_, bs, hw, _⟩ := hWk
        rcases hw with hw | hw <;> have := hw.lt <;> omega
      go_wp2_with (refine wpList_store_row rfl 25 (.tmp 8) (.tmp 37) rfl wr.heap.size #[d0, d1, d2, d3, d4] rfl rfl 25 _ (heap_alloc_new _ _) hz5 rfl hone ?_; refine Hid.out ?_)
      rw [← hwx]
      clear hwx g0 g1 g2 g3 g4 hWk
      refine Lib.hid ?_
      by_cases hk0 : k = 0
      · have hk0i : ¬ (0 : Int) < (k : Int) := by omega
        have HK0 : Hid ((if k = 0 then ([] : List Nat) else [44]) = []) := if_pos hk0
        clear hk0
        have hBx5 := hB.trans (hFx2).1
        have s0 : wx.cell? ⟨b2, o2 + k, none⟩ = some (.string s2) := (hBx5.cell (p := ⟨b2, _, none⟩) hblt2).trans hs2
        go_wp2_with fail
        refine (text26 hS2 hsl hWx).mono ?_
        rintro e w6 ⟨c, rfl, hc, hF6, T6, hW6, hT6⟩
        have hF7 := (hFx2).trans hF6
        clear s0
        cases c with
        | false =>
          go_wp2
          refine leaves_cons (f := 42) (args := #[.pointer (some ⟨g, 2, none⟩)]) (by simp) (by simp [go_sem]) ?_
          refine (higher42 .returning hW6 ha).mono ?_
          rintro e u' w9 ⟨rfl, rfl, hW9, hF9⟩
          refine ⟨_, results_tmp rfl _ _ _, false, rfl, ⟨fun e => (by cases e), fun e => ?_⟩, hF7.trans hF9, _, hW9, fun e => (by cases e)⟩
          have := hc.2 (e.1 _ hmemN)
          cases this
        | true =>
          obtain rfl := hT6 rfl
          have hLk : lettersB NM = true := hc.1 (by first | rfl | trivial)
          have hp3 := put23 hW6 (str_lit (bs := [58]) (by decide)) (by decide)
          rw [show strOf [58] = ByteArray.mk #[58] by decide] at hp3
          clear hc
          go_wp2_with fail
          refine hp3.mono ?_
          rintro e w7 ⟨rfl, hW7, hF7b⟩
          have hF8b := hF7.trans hF7b
          have hX7 := (hF6.trans hF7b).block hXx hgne (by decide)
          have x0 : w7.cell? ⟨wr.heap.size, 0, none⟩ = some d0 := (cell_of_row _ _ _ _ _ _ hX7).trans rfl
          have x1 : w7.cell? ⟨wr.heap.size, 1, none⟩ = some d1 := (cell_of_row _ _ _ _ _ _ hX7).trans rfl
          have x2 : w7.cell? ⟨wr.heap.size, 2, none⟩ = some d2 := (cell_of_row _ _ _ _ _ _ hX7).trans rfl
          have x3 : w7.cell? ⟨wr.heap.size, 3, none⟩ = some d3 := (cell_of_row _ _ _ _ _ _ hX7).trans rfl
          have x4 : w7.cell? ⟨wr.heap.size, 4, none⟩ = some d4 := (cell_of_row _ _ _ _ _ _ hX7).trans rfl
          go_wp2_with fail
          refine (ih _ _ w0 w7 g (ar + 1) _ (by omega) htk hfk hT hjv0 (hB.trans hF8b.1) hW7).mono ?_
          rintro e w10 ⟨c, rfl, hc, hF10, T10, hW10, hT10⟩
          have hF11 := hF8b.trans hF10
          have hc := hIk _ hc
          cases c with
          | false =>
            go_wp2
            refine leaves_cons (f := 42) (args := #[.pointer (some ⟨g, 2, none⟩)]) (by simp) (by simp [go_sem]) ?_
            refine (higher42 .returning hW10 ha).mono ?_
            rintro e u' w9 ⟨rfl, rfl, hW9, hF9⟩
            exact ⟨_, results_tmp rfl _ _ _, false, rfl, ⟨fun e => (by cases e), fun e => (by have := hc.2 (e.2 _ (List.getElem_mem l1)); cases this)⟩, hF11.trans hF9, _, hW9, fun e => (by cases e)⟩
          | true =>
            obtain rfl := hT10 rfl
            go_wp2
            refine ⟨⟨k + 1, by omega, by go_num, ?_, hF11, fun i h h' => ?_, fun i h' => ?_⟩, by simp [intOf]; omega⟩
            · rw [show T ++ [123] ++ accW F (k + 1) = T ++ [123] ++ accW F k ++ quoT NM ++ [58] ++ writeJ n (ks[k]'l1) by rw [show accW F (k + 1) = accW F k ++ (if k = 0 then [] else [44]) ++ F k from rfl, hFx, HK0.out]; simp]
              exact hW10
            · by_cases e : i = k
              · subst e; exact hc.1 (by first | rfl | trivial)
              · exact hIs i h (by omega)
            · by_cases e : i = k
              · subst e; rw [← HNM.out]; exact hLk
              · exact hLs i (by omega)
      · have hk0i : (0 : Int) < (k : Int) := by omega
        have HK0 : Hid ((if k = 0 then ([] : List Nat) else [44]) = [44]) := if_neg hk0
        clear hk0
        have hp2 := put23 hWx (str_lit (bs := [44]) (by decide)) (by decide)
        rw [show strOf [44] = ByteArray.mk #[44] by decide] at hp2
        go_wp2_with fail
        refine hp2.mono ?_
        rintro e w5 ⟨rfl, hW5, hF5⟩
        have hX5 := hF5.block hXx hgne (by decide)
        have hBx5 := hB.trans (hFx2.trans hF5).1
        have s0 : w5.cell? ⟨b2, o2 + k, none⟩ = some (.string s2) := (hBx5.cell (p := ⟨b2, _, none⟩) hblt2).trans hs2
        go_wp2_with fail
        refine (text26 hS2 hsl hW5).mono ?_
        rintro e w6 ⟨c, rfl, hc, hF6, T6, hW6, hT6⟩
        have hF7 := (hFx2.trans hF5).trans hF6
        clear s0
        cases c with
        | false =>
          go_wp2
          refine leaves_cons (f := 42) (args := #[.pointer (some ⟨g, 2, none⟩)]) (by simp) (by simp [go_sem]) ?_
          refine (higher42 .returning hW6 ha).mono ?_
          rintro e u' w9 ⟨rfl, rfl, hW9, hF9⟩
          refine ⟨_, results_tmp rfl _ _ _, false, rfl, ⟨fun e => (by cases e), fun e => ?_⟩, hF7.trans hF9, _, hW9, fun e => (by cases e)⟩
          have := hc.2 (e.1 _ hmemN)
          cases this
        | true =>
          obtain rfl := hT6 rfl
          have hLk : lettersB NM = true := hc.1 (by first | rfl | trivial)
          have hp3 := put23 hW6 (str_lit (bs := [58]) (by decide)) (by decide)
          rw [show strOf [58] = ByteArray.mk #[58] by decide] at hp3
          clear hc
          go_wp2_with fail
          refine hp3.mono ?_
          rintro e w7 ⟨rfl, hW7, hF7b⟩
          have hF8b := hF7.trans hF7b
          have hX7 := (hF6.trans hF7b).block hX5 hgne (by decide)
          have x0 : w7.cell? ⟨wr.heap.size, 0, none⟩ = some d0 := (cell_of_row _ _ _ _ _ _ hX7).trans rfl
          have x1 : w7.cell? ⟨wr.heap.size, 1, none⟩ = some d1 := (cell_of_row _ _ _ _ _ _ hX7).trans rfl
          have x2 : w7.cell? ⟨wr.heap.size, 2, none⟩ = some d2 := (cell_of_row _ _ _ _ _ _ hX7).trans rfl
          have x3 : w7.cell? ⟨wr.heap.size, 3, none⟩ = some d3 := (cell_of_row _ _ _ _ _ _ hX7).trans rfl
          have x4 : w7.cell? ⟨wr.heap.size, 4, none⟩ = some d4 := (cell_of_row _ _ _ _ _ _ hX7).trans rfl
          go_wp2_with fail
          refine (ih _ _ w0 w7 g (ar + 1) _ (by omega) htk hfk hT hjv0 (hB.trans hF8b.1) hW7).mono ?_
          rintro e w10 ⟨c, rfl, hc, hF10, T10, hW10, hT10⟩
          have hF11 := hF8b.trans hF10
          have hc := hIk _ hc
          cases c with
          | false =>
            go_wp2
            refine leaves_cons (f := 42) (args := #[.pointer (some ⟨g, 2, none⟩)]) (by simp) (by simp [go_sem]) ?_
            refine (higher42 .returning hW10 ha).mono ?_
            rintro e u' w9 ⟨rfl, rfl, hW9, hF9⟩
            exact ⟨_, results_tmp rfl _ _ _, false, rfl, ⟨fun e => (by cases e), fun e => (by have := hc.2 (e.2 _ (List.getElem_mem l1)); cases this)⟩, hF11.trans hF9, _, hW9, fun e => (by cases e)⟩
          | true =>
            obtain rfl := hT10 rfl
            go_wp2
            refine ⟨⟨k + 1, by omega, by go_num, ?_, hF11, fun i h h' => ?_, fun i h' => ?_⟩, by simp [intOf]; omega⟩
            · rw [show T ++ [123] ++ accW F (k + 1) = T ++ [123] ++ accW F k ++ [44] ++ quoT NM ++ [58] ++ writeJ n (ks[k]'l1) by rw [show accW F (k + 1) = accW F k ++ (if k = 0 then [] else [44]) ++ F k from rfl, hFx, HK0.out]; simp]
              exact hW10
            · by_cases e : i = k
              · subst e; exact hc.1 (by first | rfl | trivial)
              · exact hIs i h (by omega)
            · by_cases e : i = k
              · subst e; rw [← HNM.out]; exact hLk
              · exact hLs i (by omega)
    · obtain rfl : K = k := by omega
      have hp2 := put23 hWk (str_lit (bs := [125]) (by decide)) (by decide)
      rw [show strOf [125] = ByteArray.mk #[125] by decide] at hp2
      go_wp2_with fail
      refine hp2.mono ?_
      rintro e w5 ⟨rfl, hW5, hF5⟩
      go_wp2
      refine leaves_cons (f := 42) (args := #[.pointer (some ⟨g, 2, none⟩)]) (by simp) (by simp [go_sem]) ?_
      refine (higher42 .returning hW5 ha).mono ?_
      rintro e u' w9 ⟨rfl, rfl, hW9, hF9⟩
      refine ⟨_, results_tmp rfl _ _ _, true, rfl, ⟨fun _ => ⟨?_, ?_⟩, fun _ => rfl⟩, (hFk.trans hF5).trans hF9, _, hW9, fun _ => ?_⟩
      · intro a ham
        obtain ⟨i, hi, rfl⟩ := List.getElem_of_mem ham
        have := hLs i (by rw [HK.out, ← HL.out]; exact hi)
        simpa [hi] using this
      · intro k hkm
        obtain ⟨i, hi, rfl⟩ := List.getElem_of_mem hkm
        exact hIs i hi (by rw [HK.out]; exact hi)
      · simp
end Go.Proofs.YtljgnpneeecafaaDoor
set_option linter.unusedVariables false
namespace Go.Proofs.YtljgnpneeecafaaDoor
open Go.RowKit Go.Sort Go.BigFrame
set_option maxRecDepth 100000
set_option maxHeartbeats 2000000
theorem letters_iff {a : List Nat} : lettersB a = true ↔ ∀ c ∈ a, c ≤ 126 := by
  unfold lettersB
  rw [List.all_eq_true]
  simp
section
variable {n d : Nat} {ki m : Int} {t : List Nat} {ns : List (List Nat)} {ks : List (J n)}
theorem isJ_oth (h : OthP ki m (t = []) ns.length ks.length) : ¬ IsJ (n + 1) d (⟨ki, m, t, ns, ks⟩ : JN (J n)) := by
  intro hI
  obtain ⟨_, b1, b2, b3, _, _, b6⟩ := isJ_parts hI
  rcases h with ⟨h1, h2, h3⟩ | ⟨h1, h2⟩ | ⟨h1, h2⟩ | ⟨h1, h2, h3⟩
  · exact h1 (b6 h3 h2).1
  · exact h1 (b1 h2)
  · have := b2 h2; omega
  · have := b3 h3 h2; omega
theorem names_none : NamesOk [] [] 0 := ⟨rfl, fun i hi => absurd hi (by omega)⟩
theorem oth_parts (h : ¬ OthP ki m (t = []) ns.length ks.length) : (m = 0 ∨ ki = 1 ∨ ki = 2) ∧ (t = [] ∨ ki = 3) ∧ (ns = [] ∨ ki = 5) ∧ (ks = [] ∨ ki = 4 ∨ ki = 5) := by
  unfold OthP at h
  refine ⟨?_, ?_, ?_, ?_⟩
  · by_cases a : m = 0 <;> by_cases b : ki = 1 <;> by_cases c : ki = 2 <;> simp_all
  · by_cases a : t = [] <;> by_cases b : ki = 3 <;> simp_all
  · by_cases b : ki = 5
    · exact .inr b
    · refine .inl (List.eq_nil_of_length_eq_zero ?_)
      rcases Nat.eq_zero_or_pos ns.length with e | e
      · exact e
      · exact absurd (.inr (.inr (.inl ⟨e, b⟩))) h
  · by_cases a : ki = 4
    · exact .inr (.inl a)
    · by_cases b : ki = 5
      · exact .inr (.inr b)
      · refine .inl (List.eq_nil_of_length_eq_zero ?_)
        rcases Nat.eq_zero_or_pos ks.length with e | e
        · exact e
        · exact absurd (.inr (.inr (.inr ⟨e, a, b⟩))) h
theorem isJ0 (h : ¬ OthP 0 m (t = []) ns.length ks.length) : IsJ (n + 1) d (⟨0, m, t, ns, ks⟩ : JN (J n)) ↔ True := by
  obtain ⟨h1, h2, h3, h4⟩ := oth_parts h
  have h1 : m = 0 := by omega
  have h2 : t = [] := by rcases h2 with h | h; exact h; omega
  have h3 : ns = [] := by rcases h3 with h | h; exact h; omega
  have h4 : ks = [] := by rcases h4 with h | h | h; exact h; omega; omega
  subst h1 h2 h3 h4
  refine ⟨fun _ => trivial, fun _ => isJ_of ⟨⟨by omega, by omega, fun _ => by omega⟩, fun _ => rfl, fun _ => rfl, fun _ _ => rfl, fun e => by omega, fun e => by omega, fun _ _ => ⟨rfl, fun e => by omega, names_none, fun k hk => by cases hk⟩⟩⟩
theorem isJ1 (h : ¬ OthP 1 m (t = []) ns.length ks.length) : IsJ (n + 1) d (⟨1, m, t, ns, ks⟩ : JN (J n)) ↔ m = 0 ∨ m = 1 := by
  obtain ⟨h1, h2, h3, h4⟩ := oth_parts h
  have h2 : t = [] := by rcases h2 with h | h; exact h; omega
  have h3 : ns = [] := by rcases h3 with h | h; exact h; omega
  have h4 : ks = [] := by rcases h4 with h | h | h; exact h; omega; omega
  subst h2 h3 h4
  refine ⟨fun hI => (isJ_parts hI).2.2.2.2.2.1 rfl, fun hm => isJ_of ⟨⟨by omega, by omega, fun _ => by omega⟩, fun _ => rfl, fun _ => rfl, fun _ _ => rfl, fun e => by omega, fun e => hm, fun _ e => absurd rfl e⟩⟩
theorem isJ2 (h : ¬ OthP 2 m (t = []) ns.length ks.length) : IsJ (n + 1) d (⟨2, m, t, ns, ks⟩ : JN (J n)) ↔ -1000000000000000 ≤ m ∧ m ≤ 1000000000000000 := by
  obtain ⟨h1, h2, h3, h4⟩ := oth_parts h
  have h2 : t = [] := by rcases h2 with h | h; exact h; omega
  have h3 : ns = [] := by rcases h3 with h | h; exact h; omega
  have h4 : ks = [] := by rcases h4 with h | h | h; exact h; omega; omega
  subst h2 h3 h4
  refine ⟨fun hI => (isJ_parts hI).2.2.2.2.1 rfl, fun hm => isJ_of ⟨⟨by omega, by omega, fun _ => by omega⟩, fun _ => rfl, fun _ => rfl, fun _ _ => rfl, fun e => hm, fun e => by omega, fun e => absurd rfl e⟩⟩
theorem isJ3 (h : ¬ OthP 3 m (t = []) ns.length ks.length) : IsJ (n + 1) d (⟨3, m, t, ns, ks⟩ : JN (J n)) ↔ lettersB t = true := by
  obtain ⟨h1, h2, h3, h4⟩ := oth_parts h
  have h1 : m = 0 := by omega
  have h3 : ns = [] := by rcases h3 with h | h; exact h; omega
  have h4 : ks = [] := by rcases h4 with h | h | h; exact h; omega; omega
  subst h1 h3 h4
  refine ⟨fun hI => ((isJ_parts hI).2.2.2.2.2.2 (by omega) (by omega)).2.2.1.1, fun hm => isJ_of ⟨⟨by omega, by omega, fun _ => by omega⟩, fun e => absurd rfl e, fun _ => rfl, fun _ _ => rfl, fun e => by omega, fun e => by omega, fun _ _ => ⟨rfl, fun e => by omega, ⟨hm, fun i hi => absurd hi (by simp)⟩, fun k hk => by cases hk⟩⟩⟩
theorem isJ4 (h : ¬ OthP 4 m (t = []) ns.length ks.length) : IsJ (n + 1) d (⟨4, m, t, ns, ks⟩ : JN (J n)) ↔ d ≠ 0 ∧ ∀ k ∈ ks, IsJ n (d - 1) k := by
  obtain ⟨h1, h2, h3, h4⟩ := oth_parts h
  have h1 : m = 0 := by omega
  have h2 : t = [] := by rcases h2 with h | h; exact h; omega
  have h3 : ns = [] := by rcases h3 with h | h; exact h; omega
  subst h1 h2 h3
  refine ⟨fun hI => ⟨fun e => by have := (isJ_parts hI).1.2.2 e; omega, ((isJ_parts hI).2.2.2.2.2.2 (by omega) (by omega)).2.2.2⟩, fun hm => isJ_of ⟨⟨by omega, by omega, fun e => absurd e hm.1⟩, fun _ => rfl, fun _ => rfl, fun _ e => absurd rfl e, fun e => by omega, fun e => by omega, fun _ _ => ⟨rfl, fun e => by omega, names_none, hm.2⟩⟩⟩
theorem isJ5 (h : ¬ OthP 5 m (t = []) ns.length ks.length) : IsJ (n + 1) d (⟨5, m, t, ns, ks⟩ : JN (J n)) ↔ d ≠ 0 ∧ ns.length = ks.length ∧ ns.Nodup ∧ (∀ a ∈ ns, lettersB a = true) ∧ ∀ k ∈ ks, IsJ n (d - 1) k := by
  obtain ⟨h1, h2, h3, h4⟩ := oth_parts h
  have h1 : m = 0 := by omega
  have h2 : t = [] := by rcases h2 with h | h; exact h; omega
  subst h1 h2
  constructor
  · intro hI
    have h6 := (isJ_parts hI).2.2.2.2.2.2 (by omega) (by omega)
    obtain ⟨n1, n2⟩ := names_nodup h6.2.2.1
    exact ⟨fun e => by have := (isJ_parts hI).1.2.2 e; omega, h6.2.1 rfl, n1, fun a ha => letters_iff.2 (n2 a ha), h6.2.2.2⟩
  · rintro ⟨a1, a2, a3, a4, a5⟩
    exact isJ_of ⟨⟨by omega, by omega, fun e => absurd e a1⟩, fun _ => rfl, fun e => absurd rfl e, fun e _ => absurd rfl e, fun e => by omega, fun e => by omega, fun _ _ => ⟨rfl, fun _ => a2, nodup_names a3 (fun a ha => letters_iff.1 (a4 a ha)), a5⟩⟩
theorem isJ_out (h : ki < 0 ∨ 5 < ki) : ¬ IsJ (n + 1) d (⟨ki, m, t, ns, ks⟩ : JN (J n)) := fun hI => by
  have := (isJ_parts hI).1; omega
end
theorem str_nil {s : ByteArray} {t : List Nat} (h : Str s t) : (s.toList = []) = (t = []) := by
  have := nonempty_str h
  rw [Bool.eq_iff_iff, beq_iff_eq, decide_eq_true_eq] at this
  exact propext this
theorem val0 {n : Nat} (ih : WrC n) (m : Int) (t : List Nat) (ns : List (List Nat)) (ks : List (J n)) (v : Value) (w0 w : World) (g ar : Nat) (T : List Nat) (ha : ar ≤ 6) (ht : TxtJ 1000000 (n + 1) (⟨0, m, t, ns, ks⟩ : JN (J n))) (hf : Full (n + 1) (⟨0, m, t, ns, ks⟩ : JN (J n))) (hT : Tab w0) (hv : JV (n := n + 1) (⟨0, m, t, ns, ks⟩ : JN (J n)) v w0) (hB : Below w0.heap.size w0 w) (hW : WS w0.heap.size g ar T w) (ho : ¬ OthP 0 m (t = []) ns.length ks.length) :
    Calls Tryd.prog 14 #[.pointer (some ⟨g, 0, none⟩), v] w (WOk w0.heap.size g ar T w (IsJ (n + 1) (6 - ar) (⟨0, m, t, ns, ks⟩ : JN (J n))) (writeJ (n + 1) (⟨0, m, t, ns, ks⟩ : JN (J n)))) := by
  obtain ⟨_, rfl, _, s, nv, kv, rfl, hs, hn, hk, hb1, hb2⟩ := hv
  have hm1 : -9223372036854775808 ≤ m ∧ m ≤ 9223372036854775807 := hb2
  have hst : Str s t := hs
  have hsn : SRow ns nv w0 := hn
  have hkk : KRow (JC n) ks kv w0 := hk
  have ht1 : t.length ≤ 1000000 := ht.1
  have ht2 : ∀ x ∈ ns, x.length ≤ 1000000 := ht.2.1
  have ht3 : ∀ k ∈ ks, TxtJ 1000000 n k := ht.2.2
  have hf2 : ∀ k ∈ ks, Full n k := hf
  have hI := isJ0 (d := 6 - ar) ho
  clear hb1 hb2 hs hn hk ht hf
  have hns := hsn
  have hks := hkk
  obtain ⟨na, nc, rfl, ln1, ln2, -⟩ := hns
  obtain ⟨ka, kc, rfl, lk1, lk2, -⟩ := hks
  have hoth := others22 0 m s na ka ns.length nc ks.length kc (w.alloc (.cells #[.int .i64 0, .int .i64 m, .string s, .slice na ns.length nc, .slice ka ks.length kc] 25))
  rw [str_nil hst] at hoth
  have X0 : BoxJ (w.alloc (.cells #[.int .i64 0, .int .i64 m, .string s, .slice na ns.length nc, .slice ka ks.length kc] 25)) w.heap.size 0 m s (.slice na ns.length nc) (.slice ka ks.length kc) := heap_alloc_new _ _
  have B0 : Below w.heap.size w (w.alloc (.cells #[.int .i64 0, .int .i64 m, .string s, .slice na ns.length nc, .slice ka ks.length kc] 25)) := below1 _ _
  show Calls _ _ #[_, .agg #[.int .i64 0, .int .i64 m, .string s, .slice na ns.length nc, .slice ka ks.length kc]] _ _
  obtain ⟨NL, hNL⟩ : ∃ x, x = ns.length := ⟨_, rfl⟩
  obtain ⟨KL, hKL⟩ : ∃ x, x = ks.length := ⟨_, rfl⟩
  rw [← hNL, ← hKL] at hoth X0 B0 ⊢
  rw [← hNL, ← hKL] at ho
  rw [← hNL] at hsn
  rw [← hKL] at hkk
  have HN : Hid _ := hNL
  have HK : Hid _ := hKL
  have HX : Hid _ := X0
  clear X0 hNL hKL
  unfold Ret at hoth
  go_enter Tryd.func14, Tryd.ntmps14
  go_wp2_with fail
  refine hoth.mono ?_
  rintro e w1 ⟨_, rfl, hB1, c, rfl, hc⟩
  obtain rfl : c = false := by
    cases c with
    | false => rfl
    | true => exact absurd (hc.1 rfl) ho
  have hX1 := BoxJ.below HX.out hB1
  have c0 := hX1.cell 0
  have c1 := hX1.cell 1
  have c2 := hX1.cell 2
  have c3 := hX1.cell 3
  have c4 := hX1.cell 4
  have hBn := B0.trans (hB1.mono B0.size)
  have hW1 := hW.new hBn
  have hFn := Fw.new (g := g) hBn hW.1
  have hBw := hB.trans hFn.1
  clear hc hoth hX1 HX hB1 B0

  have hp := put23 hW1 (str_lit (bs := [110, 117, 108, 108]) (by decide)) (by decide)
  rw [show strOf [110, 117, 108, 108] = ByteArray.mk #[110, 117, 108, 108] by decide] at hp
  go_wp2_with fail
  refine hp.mono ?_
  rintro e w2 ⟨rfl, hW2, hF2⟩
  have hF3 := hFn.trans hF2
  go_wp2
  go_ret
  exact ⟨true, rfl, by rw [hI]; exact ⟨fun _ => trivial, fun _ => rfl⟩, hF3, _, hW2, fun _ => rfl⟩
theorem val1 {n : Nat} (ih : WrC n) (m : Int) (t : List Nat) (ns : List (List Nat)) (ks : List (J n)) (v : Value) (w0 w : World) (g ar : Nat) (T : List Nat) (ha : ar ≤ 6) (ht : TxtJ 1000000 (n + 1) (⟨1, m, t, ns, ks⟩ : JN (J n))) (hf : Full (n + 1) (⟨1, m, t, ns, ks⟩ : JN (J n))) (hT : Tab w0) (hv : JV (n := n + 1) (⟨1, m, t, ns, ks⟩ : JN (J n)) v w0) (hB : Below w0.heap.size w0 w) (hW : WS w0.heap.size g ar T w) (ho : ¬ OthP 1 m (t = []) ns.length ks.length) :
    Calls Tryd.prog 14 #[.pointer (some ⟨g, 0, none⟩), v] w (WOk w0.heap.size g ar T w (IsJ (n + 1) (6 - ar) (⟨1, m, t, ns, ks⟩ : JN (J n))) (writeJ (n + 1) (⟨1, m, t, ns, ks⟩ : JN (J n)))) := by
  obtain ⟨_, rfl, _, s, nv, kv, rfl, hs, hn, hk, hb1, hb2⟩ := hv
  have hm1 : -9223372036854775808 ≤ m ∧ m ≤ 9223372036854775807 := hb2
  have hst : Str s t := hs
  have hsn : SRow ns nv w0 := hn
  have hkk : KRow (JC n) ks kv w0 := hk
  have ht1 : t.length ≤ 1000000 := ht.1
  have ht2 : ∀ x ∈ ns, x.length ≤ 1000000 := ht.2.1
  have ht3 : ∀ k ∈ ks, TxtJ 1000000 n k := ht.2.2
  have hf2 : ∀ k ∈ ks, Full n k := hf
  have hI := isJ1 (d := 6 - ar) ho
  clear hb1 hb2 hs hn hk ht hf
  have hns := hsn
  have hks := hkk
  obtain ⟨na, nc, rfl, ln1, ln2, -⟩ := hns
  obtain ⟨ka, kc, rfl, lk1, lk2, -⟩ := hks
  have hoth := others22 1 m s na ka ns.length nc ks.length kc (w.alloc (.cells #[.int .i64 1, .int .i64 m, .string s, .slice na ns.length nc, .slice ka ks.length kc] 25))
  rw [str_nil hst] at hoth
  have X0 : BoxJ (w.alloc (.cells #[.int .i64 1, .int .i64 m, .string s, .slice na ns.length nc, .slice ka ks.length kc] 25)) w.heap.size 1 m s (.slice na ns.length nc) (.slice ka ks.length kc) := heap_alloc_new _ _
  have B0 : Below w.heap.size w (w.alloc (.cells #[.int .i64 1, .int .i64 m, .string s, .slice na ns.length nc, .slice ka ks.length kc] 25)) := below1 _ _
  show Calls _ _ #[_, .agg #[.int .i64 1, .int .i64 m, .string s, .slice na ns.length nc, .slice ka ks.length kc]] _ _
  obtain ⟨NL, hNL⟩ : ∃ x, x = ns.length := ⟨_, rfl⟩
  obtain ⟨KL, hKL⟩ : ∃ x, x = ks.length := ⟨_, rfl⟩
  rw [← hNL, ← hKL] at hoth X0 B0 ⊢
  rw [← hNL, ← hKL] at ho
  rw [← hNL] at hsn
  rw [← hKL] at hkk
  have HN : Hid _ := hNL
  have HK : Hid _ := hKL
  have HX : Hid _ := X0
  clear X0 hNL hKL
  unfold Ret at hoth
  go_enter Tryd.func14, Tryd.ntmps14
  go_wp2_with fail
  refine hoth.mono ?_
  rintro e w1 ⟨_, rfl, hB1, c, rfl, hc⟩
  obtain rfl : c = false := by
    cases c with
    | false => rfl
    | true => exact absurd (hc.1 rfl) ho
  have hX1 := BoxJ.below HX.out hB1
  have c0 := hX1.cell 0
  have c1 := hX1.cell 1
  have c2 := hX1.cell 2
  have c3 := hX1.cell 3
  have c4 := hX1.cell 4
  have hBn := B0.trans (hB1.mono B0.size)
  have hW1 := hW.new hBn
  have hFn := Fw.new (g := g) hBn hW.1
  have hBw := hB.trans hFn.1
  clear hc hoth hX1 HX hB1 B0

  go_wp2_with fail
  refine (truth24 m hW1).mono ?_
  rintro e w2 ⟨c, rfl, hc, hF2, T2, hW2, hT2⟩
  have hF3 := hFn.trans hF2
  go_wp2
  go_ret
  exact ⟨c, rfl, by rw [hI]; exact hc, hF3, T2, hW2, hT2⟩
theorem val2 {n : Nat} (ih : WrC n) (m : Int) (t : List Nat) (ns : List (List Nat)) (ks : List (J n)) (v : Value) (w0 w : World) (g ar : Nat) (T : List Nat) (ha : ar ≤ 6) (ht : TxtJ 1000000 (n + 1) (⟨2, m, t, ns, ks⟩ : JN (J n))) (hf : Full (n + 1) (⟨2, m, t, ns, ks⟩ : JN (J n))) (hT : Tab w0) (hv : JV (n := n + 1) (⟨2, m, t, ns, ks⟩ : JN (J n)) v w0) (hB : Below w0.heap.size w0 w) (hW : WS w0.heap.size g ar T w) (ho : ¬ OthP 2 m (t = []) ns.length ks.length) :
    Calls Tryd.prog 14 #[.pointer (some ⟨g, 0, none⟩), v] w (WOk w0.heap.size g ar T w (IsJ (n + 1) (6 - ar) (⟨2, m, t, ns, ks⟩ : JN (J n))) (writeJ (n + 1) (⟨2, m, t, ns, ks⟩ : JN (J n)))) := by
  obtain ⟨_, rfl, _, s, nv, kv, rfl, hs, hn, hk, hb1, hb2⟩ := hv
  have hm1 : -9223372036854775808 ≤ m ∧ m ≤ 9223372036854775807 := hb2
  have hst : Str s t := hs
  have hsn : SRow ns nv w0 := hn
  have hkk : KRow (JC n) ks kv w0 := hk
  have ht1 : t.length ≤ 1000000 := ht.1
  have ht2 : ∀ x ∈ ns, x.length ≤ 1000000 := ht.2.1
  have ht3 : ∀ k ∈ ks, TxtJ 1000000 n k := ht.2.2
  have hf2 : ∀ k ∈ ks, Full n k := hf
  have hI := isJ2 (d := 6 - ar) ho
  clear hb1 hb2 hs hn hk ht hf
  have hns := hsn
  have hks := hkk
  obtain ⟨na, nc, rfl, ln1, ln2, -⟩ := hns
  obtain ⟨ka, kc, rfl, lk1, lk2, -⟩ := hks
  have hoth := others22 2 m s na ka ns.length nc ks.length kc (w.alloc (.cells #[.int .i64 2, .int .i64 m, .string s, .slice na ns.length nc, .slice ka ks.length kc] 25))
  rw [str_nil hst] at hoth
  have X0 : BoxJ (w.alloc (.cells #[.int .i64 2, .int .i64 m, .string s, .slice na ns.length nc, .slice ka ks.length kc] 25)) w.heap.size 2 m s (.slice na ns.length nc) (.slice ka ks.length kc) := heap_alloc_new _ _
  have B0 : Below w.heap.size w (w.alloc (.cells #[.int .i64 2, .int .i64 m, .string s, .slice na ns.length nc, .slice ka ks.length kc] 25)) := below1 _ _
  show Calls _ _ #[_, .agg #[.int .i64 2, .int .i64 m, .string s, .slice na ns.length nc, .slice ka ks.length kc]] _ _
  obtain ⟨NL, hNL⟩ : ∃ x, x = ns.length := ⟨_, rfl⟩
  obtain ⟨KL, hKL⟩ : ∃ x, x = ks.length := ⟨_, rfl⟩
  rw [← hNL, ← hKL] at hoth X0 B0 ⊢
  rw [← hNL, ← hKL] at ho
  rw [← hNL] at hsn
  rw [← hKL] at hkk
  have HN : Hid _ := hNL
  have HK : Hid _ := hKL
  have HX : Hid _ := X0
  clear X0 hNL hKL
  unfold Ret at hoth
  go_enter Tryd.func14, Tryd.ntmps14
  go_wp2_with fail
  refine hoth.mono ?_
  rintro e w1 ⟨_, rfl, hB1, c, rfl, hc⟩
  obtain rfl : c = false := by
    cases c with
    | false => rfl
    | true => exact absurd (hc.1 rfl) ho
  have hX1 := BoxJ.below HX.out hB1
  have c0 := hX1.cell 0
  have c1 := hX1.cell 1
  have c2 := hX1.cell 2
  have c3 := hX1.cell 3
  have c4 := hX1.cell 4
  have hBn := B0.trans (hB1.mono B0.size)
  have hW1 := hW.new hBn
  have hFn := Fw.new (g := g) hBn hW.1
  have hBw := hB.trans hFn.1
  clear hc hoth hX1 HX hB1 B0

  have hTw := Tab.below hT hBw
  go_wp2_with fail
  refine (integer25 m hm1.1 hm1.2 hTw hW1).mono ?_
  rintro e w2 ⟨c, rfl, hc, hF2, T2, hW2, hT2⟩
  have hF3 := hFn.trans hF2
  go_wp2
  go_ret
  exact ⟨c, rfl, by rw [hI]; exact hc, hF3, T2, hW2, hT2⟩
theorem val3 {n : Nat} (ih : WrC n) (m : Int) (t : List Nat) (ns : List (List Nat)) (ks : List (J n)) (v : Value) (w0 w : World) (g ar : Nat) (T : List Nat) (ha : ar ≤ 6) (ht : TxtJ 1000000 (n + 1) (⟨3, m, t, ns, ks⟩ : JN (J n))) (hf : Full (n + 1) (⟨3, m, t, ns, ks⟩ : JN (J n))) (hT : Tab w0) (hv : JV (n := n + 1) (⟨3, m, t, ns, ks⟩ : JN (J n)) v w0) (hB : Below w0.heap.size w0 w) (hW : WS w0.heap.size g ar T w) (ho : ¬ OthP 3 m (t = []) ns.length ks.length) :
    Calls Tryd.prog 14 #[.pointer (some ⟨g, 0, none⟩), v] w (WOk w0.heap.size g ar T w (IsJ (n + 1) (6 - ar) (⟨3, m, t, ns, ks⟩ : JN (J n))) (writeJ (n + 1) (⟨3, m, t, ns, ks⟩ : JN (J n)))) := by
  obtain ⟨_, rfl, _, s, nv, kv, rfl, hs, hn, hk, hb1, hb2⟩ := hv
  have hm1 : -9223372036854775808 ≤ m ∧ m ≤ 9223372036854775807 := hb2
  have hst : Str s t := hs
  have hsn : SRow ns nv w0 := hn
  have hkk : KRow (JC n) ks kv w0 := hk
  have ht1 : t.length ≤ 1000000 := ht.1
  have ht2 : ∀ x ∈ ns, x.length ≤ 1000000 := ht.2.1
  have ht3 : ∀ k ∈ ks, TxtJ 1000000 n k := ht.2.2
  have hf2 : ∀ k ∈ ks, Full n k := hf
  have hI := isJ3 (d := 6 - ar) ho
  clear hb1 hb2 hs hn hk ht hf
  have hns := hsn
  have hks := hkk
  obtain ⟨na, nc, rfl, ln1, ln2, -⟩ := hns
  obtain ⟨ka, kc, rfl, lk1, lk2, -⟩ := hks
  have hoth := others22 3 m s na ka ns.length nc ks.length kc (w.alloc (.cells #[.int .i64 3, .int .i64 m, .string s, .slice na ns.length nc, .slice ka ks.length kc] 25))
  rw [str_nil hst] at hoth
  have X0 : BoxJ (w.alloc (.cells #[.int .i64 3, .int .i64 m, .string s, .slice na ns.length nc, .slice ka ks.length kc] 25)) w.heap.size 3 m s (.slice na ns.length nc) (.slice ka ks.length kc) := heap_alloc_new _ _
  have B0 : Below w.heap.size w (w.alloc (.cells #[.int .i64 3, .int .i64 m, .string s, .slice na ns.length nc, .slice ka ks.length kc] 25)) := below1 _ _
  show Calls _ _ #[_, .agg #[.int .i64 3, .int .i64 m, .string s, .slice na ns.length nc, .slice ka ks.length kc]] _ _
  obtain ⟨NL, hNL⟩ : ∃ x, x = ns.length := ⟨_, rfl⟩
  obtain ⟨KL, hKL⟩ : ∃ x, x = ks.length := ⟨_, rfl⟩
  rw [← hNL, ← hKL] at hoth X0 B0 ⊢
  rw [← hNL, ← hKL] at ho
  rw [← hNL] at hsn
  rw [← hKL] at hkk
  have HN : Hid _ := hNL
  have HK : Hid _ := hKL
  have HX : Hid _ := X0
  clear X0 hNL hKL
  unfold Ret at hoth
  go_enter Tryd.func14, Tryd.ntmps14
  go_wp2_with fail
  refine hoth.mono ?_
  rintro e w1 ⟨_, rfl, hB1, c, rfl, hc⟩
  obtain rfl : c = false := by
    cases c with
    | false => rfl
    | true => exact absurd (hc.1 rfl) ho
  have hX1 := BoxJ.below HX.out hB1
  have c0 := hX1.cell 0
  have c1 := hX1.cell 1
  have c2 := hX1.cell 2
  have c3 := hX1.cell 3
  have c4 := hX1.cell 4
  have hBn := B0.trans (hB1.mono B0.size)
  have hW1 := hW.new hBn
  have hFn := Fw.new (g := g) hBn hW.1
  have hBw := hB.trans hFn.1
  clear hc hoth hX1 HX hB1 B0

  go_wp2_with fail
  refine (text26 hst ht1 hW1).mono ?_
  rintro e w2 ⟨c, rfl, hc, hF2, T2, hW2, hT2⟩
  have hF3 := hFn.trans hF2
  go_wp2
  go_ret
  exact ⟨c, rfl, by rw [hI]; exact hc, hF3, T2, hW2, hT2⟩
theorem val4 {n : Nat} (ih : WrC n) (m : Int) (t : List Nat) (ns : List (List Nat)) (ks : List (J n)) (v : Value) (w0 w : World) (g ar : Nat) (T : List Nat) (ha : ar ≤ 6) (ht : TxtJ 1000000 (n + 1) (⟨4, m, t, ns, ks⟩ : JN (J n))) (hf : Full (n + 1) (⟨4, m, t, ns, ks⟩ : JN (J n))) (hT : Tab w0) (hv : JV (n := n + 1) (⟨4, m, t, ns, ks⟩ : JN (J n)) v w0) (hB : Below w0.heap.size w0 w) (hW : WS w0.heap.size g ar T w) (ho : ¬ OthP 4 m (t = []) ns.length ks.length) :
    Calls Tryd.prog 14 #[.pointer (some ⟨g, 0, none⟩), v] w (WOk w0.heap.size g ar T w (IsJ (n + 1) (6 - ar) (⟨4, m, t, ns, ks⟩ : JN (J n))) (writeJ (n + 1) (⟨4, m, t, ns, ks⟩ : JN (J n)))) := by
  obtain ⟨_, rfl, _, s, nv, kv, rfl, hs, hn, hk, hb1, hb2⟩ := hv
  have hm1 : -9223372036854775808 ≤ m ∧ m ≤ 9223372036854775807 := hb2
  have hst : Str s t := hs
  have hsn : SRow ns nv w0 := hn
  have hkk : KRow (JC n) ks kv w0 := hk
  have ht1 : t.length ≤ 1000000 := ht.1
  have ht2 : ∀ x ∈ ns, x.length ≤ 1000000 := ht.2.1
  have ht3 : ∀ k ∈ ks, TxtJ 1000000 n k := ht.2.2
  have hf2 : ∀ k ∈ ks, Full n k := hf
  have hI := isJ4 (d := 6 - ar) ho
  clear hb1 hb2 hs hn hk ht hf
  have hns := hsn
  have hks := hkk
  obtain ⟨na, nc, rfl, ln1, ln2, -⟩ := hns
  obtain ⟨ka, kc, rfl, lk1, lk2, -⟩ := hks
  have hoth := others22 4 m s na ka ns.length nc ks.length kc (w.alloc (.cells #[.int .i64 4, .int .i64 m, .string s, .slice na ns.length nc, .slice ka ks.length kc] 25))
  rw [str_nil hst] at hoth
  have X0 : BoxJ (w.alloc (.cells #[.int .i64 4, .int .i64 m, .string s, .slice na ns.length nc, .slice ka ks.length kc] 25)) w.heap.size 4 m s (.slice na ns.length nc) (.slice ka ks.length kc) := heap_alloc_new _ _
  have B0 : Below w.heap.size w (w.alloc (.cells #[.int .i64 4, .int .i64 m, .string s, .slice na ns.length nc, .slice ka ks.length kc] 25)) := below1 _ _
  show Calls _ _ #[_, .agg #[.int .i64 4, .int .i64 m, .string s, .slice na ns.length nc, .slice ka ks.length kc]] _ _
  obtain ⟨NL, hNL⟩ : ∃ x, x = ns.length := ⟨_, rfl⟩
  obtain ⟨KL, hKL⟩ : ∃ x, x = ks.length := ⟨_, rfl⟩
  rw [← hNL, ← hKL] at hoth X0 B0 ⊢
  rw [← hNL, ← hKL] at ho
  rw [← hNL] at hsn
  rw [← hKL] at hkk
  have HN : Hid _ := hNL
  have HK : Hid _ := hKL
  have HX : Hid _ := X0
  clear X0 hNL hKL
  unfold Ret at hoth
  go_enter Tryd.func14, Tryd.ntmps14
  go_wp2_with fail
  refine hoth.mono ?_
  rintro e w1 ⟨_, rfl, hB1, c, rfl, hc⟩
  obtain rfl : c = false := by
    cases c with
    | false => rfl
    | true => exact absurd (hc.1 rfl) ho
  have hX1 := BoxJ.below HX.out hB1
  have c0 := hX1.cell 0
  have c1 := hX1.cell 1
  have c2 := hX1.cell 2
  have c3 := hX1.cell 3
  have c4 := hX1.cell 4
  have hBn := B0.trans (hB1.mono B0.size)
  have hW1 := hW.new hBn
  have hFn := Fw.new (g := g) hBn hW.1
  have hBw := hB.trans hFn.1
  clear hc hoth hX1 HX hB1 B0

  by_cases h6 : ar = 6
  · subst h6
    go_wp2_with fail
    refine (list_no _ hW1).mono ?_
    rintro e w2 ⟨rfl, rfl⟩
    go_wp2
    go_ret
    exact ⟨false, rfl, by rw [hI]; exact ⟨fun e => (by cases e), fun e => absurd rfl e.1⟩, hFn, _, hW1, fun e => (by cases e)⟩
  have ha6 : ar < 6 := by omega
  go_wp2_with fail
  refine (list27 ih ks _ w0 _ g ar T ha6 ht3 hf2 hT hkk hBw hW1).mono ?_
  rintro e w2 ⟨c, rfl, hc, hF2, T2, hW2, hT2⟩
  have hF3 := hFn.trans hF2
  go_wp2
  go_ret
  exact ⟨c, rfl, by rw [hI, hc]; exact ⟨fun h => ⟨by omega, h⟩, fun h => h.2⟩, hF3, T2, hW2, hT2⟩
theorem val5 {n : Nat} (ih : WrC n) (m : Int) (t : List Nat) (ns : List (List Nat)) (ks : List (J n)) (v : Value) (w0 w : World) (g ar : Nat) (T : List Nat) (ha : ar ≤ 6) (ht : TxtJ 1000000 (n + 1) (⟨5, m, t, ns, ks⟩ : JN (J n))) (hf : Full (n + 1) (⟨5, m, t, ns, ks⟩ : JN (J n))) (hT : Tab w0) (hv : JV (n := n + 1) (⟨5, m, t, ns, ks⟩ : JN (J n)) v w0) (hB : Below w0.heap.size w0 w) (hW : WS w0.heap.size g ar T w) (ho : ¬ OthP 5 m (t = []) ns.length ks.length) :
    Calls Tryd.prog 14 #[.pointer (some ⟨g, 0, none⟩), v] w (WOk w0.heap.size g ar T w (IsJ (n + 1) (6 - ar) (⟨5, m, t, ns, ks⟩ : JN (J n))) (writeJ (n + 1) (⟨5, m, t, ns, ks⟩ : JN (J n)))) := by
  obtain ⟨_, rfl, _, s, nv, kv, rfl, hs, hn, hk, hb1, hb2⟩ := hv
  have hm1 : -9223372036854775808 ≤ m ∧ m ≤ 9223372036854775807 := hb2
  have hst : Str s t := hs
  have hsn : SRow ns nv w0 := hn
  have hkk : KRow (JC n) ks kv w0 := hk
  have ht1 : t.length ≤ 1000000 := ht.1
  have ht2 : ∀ x ∈ ns, x.length ≤ 1000000 := ht.2.1
  have ht3 : ∀ k ∈ ks, TxtJ 1000000 n k := ht.2.2
  have hf2 : ∀ k ∈ ks, Full n k := hf
  have hI := isJ5 (d := 6 - ar) ho
  clear hb1 hb2 hs hn hk ht hf
  have hns := hsn
  have hks := hkk
  obtain ⟨na, nc, rfl, ln1, ln2, -⟩ := hns
  obtain ⟨ka, kc, rfl, lk1, lk2, -⟩ := hks
  have hoth := others22 5 m s na ka ns.length nc ks.length kc (w.alloc (.cells #[.int .i64 5, .int .i64 m, .string s, .slice na ns.length nc, .slice ka ks.length kc] 25))
  rw [str_nil hst] at hoth
  have X0 : BoxJ (w.alloc (.cells #[.int .i64 5, .int .i64 m, .string s, .slice na ns.length nc, .slice ka ks.length kc] 25)) w.heap.size 5 m s (.slice na ns.length nc) (.slice ka ks.length kc) := heap_alloc_new _ _
  have B0 : Below w.heap.size w (w.alloc (.cells #[.int .i64 5, .int .i64 m, .string s, .slice na ns.length nc, .slice ka ks.length kc] 25)) := below1 _ _
  show Calls _ _ #[_, .agg #[.int .i64 5, .int .i64 m, .string s, .slice na ns.length nc, .slice ka ks.length kc]] _ _
  obtain ⟨NL, hNL⟩ : ∃ x, x = ns.length := ⟨_, rfl⟩
  obtain ⟨KL, hKL⟩ : ∃ x, x = ks.length := ⟨_, rfl⟩
  rw [← hNL, ← hKL] at hoth X0 B0 ⊢
  rw [← hNL, ← hKL] at ho
  rw [← hNL] at hsn
  rw [← hKL] at hkk
  have HN : Hid _ := hNL
  have HK : Hid _ := hKL
  have HX : Hid _ := X0
  clear X0 hNL hKL
  unfold Ret at hoth
  go_enter Tryd.func14, Tryd.ntmps14
  go_wp2_with fail
  refine hoth.mono ?_
  rintro e w1 ⟨_, rfl, hB1, c, rfl, hc⟩
  obtain rfl : c = false := by
    cases c with
    | false => rfl
    | true => exact absurd (hc.1 rfl) ho
  have hX1 := BoxJ.below HX.out hB1
  have c0 := hX1.cell 0
  have c1 := hX1.cell 1
  have c2 := hX1.cell 2
  have c3 := hX1.cell 3
  have c4 := hX1.cell 4
  have hBn := B0.trans (hB1.mono B0.size)
  have hW1 := hW.new hBn
  have hFn := Fw.new (g := g) hBn hW.1
  have hBw := hB.trans hFn.1
  clear hc hoth hX1 HX hB1 B0

  by_cases hNK : NL = KL
  case neg =>
    go_wp2_with fail
    refine (table_len na ka NL nc KL kc hNK).mono ?_
    rintro e w2 ⟨rfl, rfl⟩
    go_wp2
    go_ret
    exact ⟨false, rfl, by rw [hI, ← HN.out, ← HK.out]; exact ⟨fun e => (by cases e), fun e => absurd e.2.1 hNK⟩, hFn, _, hW1, fun e => (by cases e)⟩
  have hsw := SRow.stb _ _ _ _ hBw hsn
  have HNK : Hid _ := hNK
  subst hNK
  by_cases hnd : ns.Nodup
  case neg =>
    have hx := table_like (g := g) na ka nc kc (by rw [← HN.out]; exact hsw) ht2 hnd
    rw [← HN.out] at hx
    go_wp2_with fail
    refine hx.mono ?_
    rintro e w2 ⟨rfl, hB2⟩
    go_wp2
    go_ret
    exact ⟨false, rfl, by rw [hI]; exact ⟨fun e => (by cases e), fun e => absurd e.2.2.1 hnd⟩, hFn.trans (Fw.new hB2 hW1.1), _, hW1.new hB2, fun e => (by cases e)⟩
  by_cases h6 : ar = 6
  case pos =>
    subst h6
    have hx := table_deep (g := g) na ka nc kc (by rw [← HN.out]; exact hsw) ht2 hnd hW1
    rw [← HN.out] at hx
    go_wp2_with fail
    refine hx.mono ?_
    rintro e w2 ⟨rfl, hB2⟩
    go_wp2
    go_ret
    exact ⟨false, rfl, by rw [hI]; exact ⟨fun e => (by cases e), fun e => absurd rfl e.1⟩, hFn.trans (Fw.new hB2 hW1.1), _, hW1.new hB2, fun e => (by cases e)⟩
  have ha6 : ar < 6 := by omega
  have hx := table28 ih ns ks _ _ w0 _ g ar T ha6 (by rw [← HN.out, ← HK.out]) hnd ht2 ht3 hf2 hT hsn hkk hBw hW1
  clear hsw
  go_wp2_with fail
  refine hx.mono ?_
  rintro e w2 ⟨c, rfl, hc, hF2, T2, hW2, hT2⟩
  have hF3 := hFn.trans hF2
  go_wp2
  go_ret
  exact ⟨c, rfl, by rw [hI, hc]; exact ⟨fun h => ⟨by omega, by rw [← HN.out, ← HK.out], hnd, h⟩, fun h => h.2.2.2⟩, hF3, T2, hW2, hT2⟩
end Go.Proofs.YtljgnpneeecafaaDoor
set_option linter.unusedVariables false
namespace Go.Proofs.YtljgnpneeecafaaDoor
open Go.RowKit Go.Sort Go.BigFrame
set_option maxRecDepth 100000
set_option maxHeartbeats 2000000
theorem val_oth {n : Nat} (ki m : Int) (t : List Nat) (ns : List (List Nat)) (ks : List (J n)) (v : Value) (w : World) (g ar : Nat) (T : List Nat) (lo : Nat) (hv : JV (n := n + 1) (⟨ki, m, t, ns, ks⟩ : JN (J n)) v w) (hW : WS lo g ar T w) (ho : OthP ki m (t = []) ns.length ks.length) :
    Calls Tryd.prog 14 #[.pointer (some ⟨g, 0, none⟩), v] w fun e w' => e = .returned (.bool false) ∧ Below w.heap.size w w' := by
  obtain ⟨_, rfl, _, s, nv, kv, rfl, hs, hn, hk, -, -⟩ := hv
  have hst : Str s t := hs
  obtain ⟨na, nc, rfl, ln1, ln2, -⟩ := hn
  obtain ⟨ka, kc, rfl, lk1, lk2, -⟩ := hk
  show Calls _ _ #[_, .agg #[.int .i64 ki, .int .i64 m, .string s, .slice na ns.length nc, .slice ka ks.length kc]] _ _
  have hoth := others22 ki m s na ka ns.length nc ks.length kc (w.alloc (.cells #[.int .i64 ki, .int .i64 m, .string s, .slice na ns.length nc, .slice ka ks.length kc] 25))
  rw [str_nil hst] at hoth
  have B0 : Below w.heap.size w (w.alloc (.cells #[.int .i64 ki, .int .i64 m, .string s, .slice na ns.length nc, .slice ka ks.length kc] 25)) := below1 _ _
  unfold Ret at hoth
  go_enter Tryd.func14, Tryd.ntmps14
  go_wp2_with fail
  refine hoth.mono ?_
  rintro e w1 ⟨_, rfl, hB1, c, rfl, hc⟩
  obtain rfl : c = true := hc.2 ho
  have hB := B0.trans (hB1.mono B0.size)
  go_wp2
  go_ret
  exact ⟨rfl, hB⟩
theorem val_out {n : Nat} (ki m : Int) (hki : ki < 0 ∨ 5 < ki) (t : List Nat) (ns : List (List Nat)) (ks : List (J n)) (v : Value) (w : World) (g ar : Nat) (T : List Nat) (lo : Nat) (hv : JV (n := n + 1) (⟨ki, m, t, ns, ks⟩ : JN (J n)) v w) (hW : WS lo g ar T w) (ho : ¬ OthP ki m (t = []) ns.length ks.length) :
    Calls Tryd.prog 14 #[.pointer (some ⟨g, 0, none⟩), v] w fun e w' => e = .returned (.bool false) ∧ Below w.heap.size w w' := by
  obtain ⟨_, rfl, _, s, nv, kv, rfl, hs, hn, hk, -, -⟩ := hv
  have hst : Str s t := hs
  obtain ⟨na, nc, rfl, ln1, ln2, -⟩ := hn
  obtain ⟨ka, kc, rfl, lk1, lk2, -⟩ := hk
  show Calls _ _ #[_, .agg #[.int .i64 ki, .int .i64 m, .string s, .slice na ns.length nc, .slice ka ks.length kc]] _ _
  have hoth := others22 ki m s na ka ns.length nc ks.length kc (w.alloc (.cells #[.int .i64 ki, .int .i64 m, .string s, .slice na ns.length nc, .slice ka ks.length kc] 25))
  rw [str_nil hst] at hoth
  have X0 : BoxJ (w.alloc (.cells #[.int .i64 ki, .int .i64 m, .string s, .slice na ns.length nc, .slice ka ks.length kc] 25)) w.heap.size ki m s (.slice na ns.length nc) (.slice ka ks.length kc) := heap_alloc_new _ _
  have B0 : Below w.heap.size w (w.alloc (.cells #[.int .i64 ki, .int .i64 m, .string s, .slice na ns.length nc, .slice ka ks.length kc] 25)) := below1 _ _
  have q0 : (ki == 0) = false := by have : ¬ ki = 0 := by omega
                                    simpa using this
  have q1 : (ki == 1) = false := by have : ¬ ki = 1 := by omega
                                    simpa using this
  have q2 : (ki == 2) = false := by have : ¬ ki = 2 := by omega
                                    simpa using this
  have q3 : (ki == 3) = false := by have : ¬ ki = 3 := by omega
                                    simpa using this
  have q4 : (ki == 4) = false := by have : ¬ ki = 4 := by omega
                                    simpa using this
  have q5 : (ki == 5) = false := by have : ¬ ki = 5 := by omega
                                    simpa using this
  have HX : Hid _ := X0
  clear X0 hki
  unfold Ret at hoth
  go_enter Tryd.func14, Tryd.ntmps14
  go_wp2_with fail
  refine hoth.mono ?_
  rintro e w1 ⟨_, rfl, hB1, c, rfl, hc⟩
  obtain rfl : c = false := by
    cases c with
    | false => rfl
    | true => exact absurd (hc.1 rfl) ho
  have hX1 := BoxJ.below HX.out hB1
  have c0 := hX1.cell 0
  have hB := B0.trans (hB1.mono B0.size)
  clear hc hoth hX1 HX
  go_wp2
  go_ret
  exact ⟨rfl, hB⟩
theorem wrR : ∀ n, WrC n
  | 0 => fun j v w0 w g ar T _ _ hf => absurd hf (by simp [Full])
  | n + 1 => fun j v w0 w g ar T ha ht hf hT hv hB hW => by
    obtain ⟨ki, m, t, ns, ks⟩ := j
    have hvw := JV.stb _ _ _ _ hB hv
    by_cases ho : OthP ki m (t = []) ns.length ks.length
    · refine (val_oth ki m t ns ks v w g ar T _ hvw hW ho).mono ?_
      rintro e w' ⟨rfl, hb⟩
      exact ⟨false, rfl, ⟨fun e => (by cases e), fun e => absurd e (isJ_oth ho)⟩, Fw.new hb hW.1, T, hW.new hb, fun e => (by cases e)⟩
    by_cases hki : ki < 0 ∨ 5 < ki
    · refine (val_out ki m hki t ns ks v w g ar T _ hvw hW ho).mono ?_
      rintro e w' ⟨rfl, hb⟩
      exact ⟨false, rfl, ⟨fun e => (by cases e), fun e => absurd e (isJ_out hki)⟩, Fw.new hb hW.1, T, hW.new hb, fun e => (by cases e)⟩
    rcases (by omega : ki = 0 ∨ ki = 1 ∨ ki = 2 ∨ ki = 3 ∨ ki = 4 ∨ ki = 5) with rfl | rfl | rfl | rfl | rfl | rfl
    · exact val0 (wrR n) m t ns ks v w0 w g ar T ha ht hf hT hv hB hW ho
    · exact val1 (wrR n) m t ns ks v w0 w g ar T ha ht hf hT hv hB hW ho
    · exact val2 (wrR n) m t ns ks v w0 w g ar T ha ht hf hT hv hB hW ho
    · exact val3 (wrR n) m t ns ks v w0 w g ar T ha ht hf hT hv hB hW ho
    · exact val4 (wrR n) m t ns ks v w0 w g ar T ha ht hf hT hv hB hW ho
    · exact val5 (wrR n) m t ns ks v w0 w g ar T ha ht hf hT hv hB hW ho
theorem string16 {lo g : Nat} {bs : List Nat} {ar : Nat} {w : World} (h : WrF lo g bs ar w) (hd : Dig bs) (h0 : bs ≠ []) :
    Calls Tryd.prog 16 #[.pointer (some ⟨g, 0, none⟩)] w fun e w' => e = .returned (.string (strOf bs)) ∧ Below lo w w' := by
  obtain ⟨p, _, v, hbk, hown⟩ : ∃ p, WrAt lo g bs ar p w := by rcases h with h | h <;> exact ⟨_, h⟩
  have hl0 : bs.length ≠ 0 := by simpa using h0
  obtain ⟨b, cap, cur, rfl, hbg, hg, hnc, hcm, hcs, htake⟩ : ∃ b cap cur, v = .slice (some ⟨b, 0, none⟩) bs.length cap ∧ lo ≤ b ∧ w.heap[b]? = some (.cells cur 5 (0, 0)) ∧ bs.length ≤ cap ∧ cap ≤ maxLen ∧ cur.size = cap * 1 ∧ cur.toList.take (bs.length * 1) = bv bs := by
    rcases hown.2 with ⟨_, hz⟩ | ⟨b, cap, cur, hv, r⟩
    · exact absurd hz hl0
    · exact ⟨b, cap, cur, hv, r⟩
  obtain ⟨l, hl⟩ : ∃ l : List UInt8, l = bs.map UInt8.ofNat := ⟨_, rfl⟩
  have hll : l.length = bs.length := by rw [hl, List.length_map]
  have hs : strOf bs = ⟨l.toArray⟩ := by rw [strOf_arr, hl]
  have c1 : w.drew.cell? ⟨g, 1, none⟩ = some (.slice (some ⟨b, 0, none⟩) l.length cap) := by
    have : w.drew.heap[g]? = some (.cells #[p, .slice (some ⟨b, 0, none⟩) bs.length cap, .int .i64 (ar : Int)] 47 (0, 0)) := hbk
    rw [cell_of_row _ _ _ _ _ _ this, hll]; rfl
  have hSD : (Builtin.unsafeSliceData_ #[41] 63 #[.slice (some ⟨b, 0, none⟩) l.length cap]).run Tryd.prog w.drew = .ok (.pointer (some ⟨b, 0, none⟩)) w.drew :=
    Lib.run_unsafeSliceData_row _ _ _ _ _ _ (by omega)
  have hUS : (Builtin.unsafeString_ #[63, 3] 9 #[.pointer (some ⟨b, 0, none⟩), .int .i64 l.length]).run Tryd.prog w.drew = .ok (.string ⟨l.toArray⟩) (w.drew.freeze ⟨b, 0, none⟩ l.length) := by
    refine Lib.run_unsafeString_row w.drew 63 3 9 5 Tryd.underlying63 (by kernel_rfl) b cur.size (by have hg' : w.drew.heap[b]? = some (.cells cur 5 (0, 0)) := hg; simp [World.shape?, hg']) l (by intro e; rw [e] at hll; simp at hll; omega) (by omega) (by unfold maxLen at hcm; omega) ?_
    intro j x hx
    have hj : j < bs.length := by
      have := (List.getElem?_eq_some_iff.1 hx).1
      omega
    have hxe : x = UInt8.ofNat bs[j] := by
      rw [hl, List.getElem?_map, List.getElem?_eq_getElem hj] at hx
      exact (Option.some.inj hx).symm
    have hlt : bs[j] < 256 := by
      have := hd j
      simpa [hj] using this
    have := hown.cells (g := b) rfl j (.int .u8 (bs[j] : Int)) (by simp [bv, hj])
    rw [hxe, UInt8.toNat_ofNat', Nat.mod_eq_of_lt hlt]
    exact this
  rw [hs]
  rw [hll] at c1 hSD hUS
  clear hs hown htake hl hbk hll
  go_enter Tryd.func16, Tryd.ntmps16
  go_wp2
  go_region
  all_goals (go_wp2; go_ret; exact ⟨rfl, Lib.below_freeze (Below.drew (Below.refl lo w)) (p := ⟨b, 0, none⟩) hbg _⟩)
theorem writeJ_ne {n d : Nat} {j : J (n + 1)} (h : IsJ (n + 1) d j) : writeJ (n + 1) j ≠ [] := by
  obtain ⟨a, l, e, _⟩ := writeJ_head n d j h
  rw [e]; simp
theorem writeP {n : Nat} (j : J (n + 1)) (v : Value) (w : World) (hT : Tab w) (hF : Full (n + 1) j) (hX : TxtJ 1000000 (n + 1) j) (hv : JV j v w) : Ret 8 #[v] w (fun r _ => (IsJ (n + 1) 6 j → (writeJ (n + 1) j).length ≤ 2000 → r = .tuple #[.string (strOf (writeJ (n + 1) j)), .int .i64 0]) ∧ (IsJ (n + 1) 6 j → 2000 < (writeJ (n + 1) j).length → r = .tuple #[.string ⟨#[]⟩, .int .i64 4]) ∧ (¬ IsJ (n + 1) 6 j → r = .tuple #[.string ⟨#[]⟩, .int .i64 1])) := by
  have hv0 := hv
  obtain ⟨cs, rfl, h5, hJ⟩ := hv
  obtain ⟨c0, c1, c2, c3, c4, rfl⟩ : ∃ c0 c1 c2 c3 c4, cs = [c0, c1, c2, c3, c4] := by
    match cs, h5 with
    | [c0, c1, c2, c3, c4], _ => exact ⟨c0, c1, c2, c3, c4, rfl⟩
  have hjv : JV j (.agg #[c0, c1, c2, c3, c4]) w := ⟨_, rfl, rfl, hJ⟩
  show Ret _ #[.agg #[c0, c1, c2, c3, c4]] w _
  obtain ⟨w1, hw1⟩ : ∃ w1, w1 = (w.alloc (.cells #[c0, c1, c2, c3, c4] 25)).alloc (.cells #[.pointer none, .slice none 0 0, .int .i64 0] 47) := ⟨_, rfl⟩
  have hB1 : Below w.heap.size w w1 := by rw [hw1]; exact ((Below.refl _ _).alloc (Nat.le_refl _) _).alloc (by simp) _
  have hX1 : w1.heap[w.heap.size]? = some (.cells #[c0, c1, c2, c3, c4] 25 (0, 0)) := by rw [hw1, Lib.alloc_old _ _ _ (by simp)]; exact heap_alloc_new _ _
  have hG1 : w1.heap[w.heap.size + 1]? = some (.cells #[.pointer none, .slice none 0 0, .int .i64 0] 47 (0, 0)) := by
    rw [hw1]
    have := heap_alloc_new (w.alloc (.cells #[c0, c1, c2, c3, c4] 25)) (.cells #[.pointer none, .slice none 0 0, .int .i64 0] 47)
    simpa using this
  have hW1 : WS w.heap.size (w.heap.size + 1) 0 [] w1 := ⟨hB1.size, [], .inl ⟨by omega, _, hG1, World.ownsRow_nil _ _ _ _⟩, by simp, fun j => by simp, .inl rfl⟩
  have x0 : w1.cell? ⟨w.heap.size, 0, none⟩ = some c0 := (cell_of_row _ _ _ _ _ _ hX1).trans rfl
  have x1 : w1.cell? ⟨w.heap.size, 1, none⟩ = some c1 := (cell_of_row _ _ _ _ _ _ hX1).trans rfl
  have x2 : w1.cell? ⟨w.heap.size, 2, none⟩ = some c2 := (cell_of_row _ _ _ _ _ _ hX1).trans rfl
  have x3 : w1.cell? ⟨w.heap.size, 3, none⟩ = some c3 := (cell_of_row _ _ _ _ _ _ hX1).trans rfl
  have x4 : w1.cell? ⟨w.heap.size, 4, none⟩ = some c4 := (cell_of_row _ _ _ _ _ _ hX1).trans rfl
  have hval := wrR (n + 1) j _ w w1 (w.heap.size + 1) 0 [] (by omega) hX hF hT hjv hB1 hW1
  rw [hw1] at x0 x1 x2 x3 x4 hval
  clear hX1 hG1 hW1
  unfold Ret
  go_enter Tryd.func8, Tryd.ntmps8
  go_wp2_with fail
  refine hval.mono ?_
  rintro e w2 ⟨c, rfl, hc, hF2, T2, hW2, hT2⟩
  rw [← hw1] at hF2
  have hB2 := hB1.trans hF2.1
  clear hval x0 x1 x2 x3 x4
  cases c with
  | false =>
    have hI : ¬ IsJ (n + 1) 6 j := fun e => by have := hc.2 e; cases this
    clear hc
    go_wp2
    go_ret2
    exact ⟨_, rfl, hB2, fun e => absurd e hI, fun e => absurd e hI, fun _ => rfl⟩
  | true =>
    have hI : IsJ (n + 1) 6 j := hc.1 rfl
    have hT2 : T2 = writeJ (n + 1) j := by simpa using hT2 rfl
    rw [hT2] at hW2
    clear hc hT2
    obtain ⟨hlo2, bs, hWb, hbl, hbd, hH⟩ := hW2
    have hlen := len15 hWb
    by_cases hL : bs.length ≤ 2000
    · have hbs : bs = writeJ (n + 1) j := by
        rcases hH with h | h
        · exact h
        · omega
      have hstr := string16 hWb hbd (by rw [hbs]; exact writeJ_ne hI)
      have hLi : ¬ (2000 : Int) < (bs.length : Int) := by omega
      obtain ⟨S, hS⟩ : ∃ S, S = strOf bs := ⟨_, rfl⟩
      rw [← hS] at hstr
      obtain ⟨N, hN⟩ : ∃ N, N = bs.length := ⟨_, rfl⟩
      rw [← hN] at hlen hLi
      have HS : Hid _ := hS
      have HN : Hid _ := hN
      have HB : Hid _ := hbs
      clear hS hN hbs hH
      go_wp2_with fail
      refine hlen.mono ?_
      rintro e w3 ⟨rfl, rfl⟩
      go_wp2_with fail
      refine hstr.mono ?_
      rintro e w4 ⟨rfl, hB4⟩
      go_wp2
      go_ret2
      refine ⟨_, rfl, hB2.trans hB4, fun _ _ => by rw [HS.out, HB.out]; rfl, fun _ h => ?_, fun h => absurd hI h⟩
      rw [← HB.out, ← HN.out] at h
      omega
    · have hLi : (2000 : Int) < (bs.length : Int) := by omega
      have hTL : 2000 < (writeJ (n + 1) j).length := by
        rcases hH with h | h
        · rw [← h]; omega
        · exact h.2
      obtain ⟨N, hN⟩ : ∃ N, N = bs.length := ⟨_, rfl⟩
      rw [← hN] at hlen hLi
      clear hN hH
      go_wp2_with fail
      refine hlen.mono ?_
      rintro e w3 ⟨rfl, rfl⟩
      go_wp2
      go_ret2
      exact ⟨_, rfl, hB2, fun _ h => absurd h (by omega), fun _ _ => rfl, fun h => absurd hI h⟩
end Go.Proofs.YtljgnpneeecafaaDoor
set_option linter.unusedVariables false
namespace Go.Proofs.YtljgnpneeecafaaDoor
open Go.RowKit Go.Sort Go.BigFrame
set_option maxRecDepth 100000
set_option maxHeartbeats 2000000
/-- A reader in block g: so many lists and maps stand around, this is left to be read. -/
def RdAt (g ar : Nat) (l : List Nat) (mv : Value) (w : World) : Prop := Dig l ∧ w.heap[g]? = some (.cells #[.int .i64 (ar : Int), .string (strOf l), mv] 56 (0, 0))
/-- Nothing old has changed, but for block g. -/
def Fg (g : Nat) (w w' : World) : Prop := Below 0 w w' ∧ ∀ k, k < w.heap.size → k ≠ g → w'.heap[k]? = w.heap[k]?
theorem Fg.refl (g : Nat) (w : World) : Fg g w w := ⟨Below.refl _ _, fun _ _ _ => rfl⟩
theorem Fg.size {g : Nat} {w w' : World} (h : Fg g w w') : w.heap.size ≤ w'.heap.size := h.1.size
theorem Fg.trans {g : Nat} {a b c : World} (h : Fg g a b) (h' : Fg g b c) : Fg g a c := ⟨h.1.trans h'.1, fun k hk hg => (h'.2 k (by have := h.size; omega) hg).trans (h.2 k hk hg)⟩
theorem Fg.new {g : Nat} {w w' : World} (h : Below w.heap.size w w') : Fg g w w' := ⟨h.mono (Nat.zero_le _), fun k hk _ => h.block k hk⟩
theorem Fg.set {g : Nat} {w w' : World} (h : Fg g w w') (j : Nat) (v : Value) : Fg g w (w'.setCell ⟨g, j, none⟩ v) :=
  ⟨h.1.setCell (p := ⟨g, j, none⟩) (Nat.zero_le _) _, fun k hk hg => (Below.heap_setCell _ _ _ _ (fun e => hg e)).trans (h.2 k hk hg)⟩
theorem Fg.below {g B : Nat} {w w' : World} (h : Fg g w w') (hg : B ≤ g) (hB : B ≤ w.heap.size) : Below B w w' := ⟨h.1.1, h.1.2, h.1.3, h.size, fun k hk => h.2 k (by omega) (by omega)⟩
theorem Fg.block {g k : Nat} {w w' : World} {ob : Obj} (h : Fg g w w') (hk : w.heap[k]? = some ob) (hkg : k ≠ g) : w'.heap[k]? = some ob := (h.2 k (lt_of_heap hk) hkg).trans hk
theorem RdAt.new {g ar : Nat} {l : List Nat} {mv : Value} {w w' : World} (h : RdAt g ar l mv w) (hb : Below w.heap.size w w') : RdAt g ar l mv w' := ⟨h.1, block_below hb (lt_of_heap h.2) h.2⟩
theorem RdAt.lt {g ar : Nat} {l : List Nat} {mv : Value} {w : World} (h : RdAt g ar l mv w) : g < w.heap.size := lt_of_heap h.2
theorem RdAt.c1 {g ar : Nat} {l : List Nat} {mv : Value} {w : World} (h : RdAt g ar l mv w) : w.cell? ⟨g, 1, none⟩ = some (.string (strOf l)) := (cell_of_row _ _ _ _ _ _ h.2).trans rfl
theorem RdAt.f1 {g ar : Nat} {l : List Nat} {mv : Value} {w : World} (h : RdAt g ar l mv w) (j : Nat) : w.frozen? ⟨g, j, none⟩ = false := Lib.frozen_of_heap h.2 j
theorem RdAt.put {g ar : Nat} {l l' : List Nat} {mv : Value} {w : World} (h : RdAt g ar l mv w) (hd : Dig l') : RdAt g ar l' mv (w.setCell ⟨g, 1, none⟩ (.string (strOf l'))) := ⟨hd, by rw [heap_setCell_same _ _ _ _ _ _ h.2]; rfl⟩
theorem Dig.dropN {l : List Nat} (h : Dig l) (n : Nat) : Dig (l.drop n) := dig_lt fun x hx => mem_of_dig h x (List.mem_of_mem_drop hx)
theorem str_empty {s : ByteArray} {t : List Nat} (h : Str s t) : s.toList.isEmpty = t.isEmpty := by
  have := str_nil h
  rw [Bool.eq_iff_iff, List.isEmpty_iff, List.isEmpty_iff, this]
theorem next37 {g ar : Nat} {l : List Nat} {mv : Value} {w : World} (h : RdAt g ar l mv w) :
    Calls Tryd.prog 37 #[.pointer (some ⟨g, 0, none⟩)] w fun e w' => e = .returned (.int .u8 ((l.headD 0 : Nat) : Int)) ∧ w' = w := by
  have c1 := h.c1
  have hS := str_strOf h.1
  have hsz := hS.size
  have hat := hS.at'
  have hnil := str_empty hS
  clear h
  cases l with
  | nil =>
    have e : (strOf []) = (⟨#[]⟩ : ByteArray) := rfl
    rw [e] at c1
    clear hsz hat hnil e hS
    go_enter Tryd.func37, Tryd.ntmps37
    go_wp2
    go_ret
    exact ⟨rfl, rfl⟩
  | cons c r =>
    obtain ⟨s, hs⟩ : ∃ s, s = strOf (c :: r) := ⟨_, rfl⟩
    rw [← hs] at c1
    have hne : s.toList.isEmpty = false := by rw [hs, hnil]; rfl
    have hpos : 0 < s.size := by rw [hs, hsz]; simp
    have hx : (s[0]'hpos).toNat = c := by
      have := hat 0 (by rw [hsz]; simp)
      simp only [hs]
      simpa using this
    have hxi : ((s[0]'hpos).toNat : Int) = (c : Int) := by rw [hx]
    clear hsz hat hnil hs hS hx
    go_enter Tryd.func37, Tryd.ntmps37
    go_wp2
    go_ret
    exact ⟨rfl, rfl⟩
theorem strOf_drop (l : List Nat) (n : Nat) (hn : n ≤ l.length) (hd : Dig l) : (strOf l).extract n (strOf l).size = strOf (l.drop n) := by
  have hS := str_strOf hd
  have hsz := hS.size
  have : Str ((strOf l).extract n (strOf l).size) (l.drop n) := by
    refine ⟨by simp; omega, fun i hi => ?_, Dig.dropN hd n⟩
    have hi2 : i < l.length - n := by simp at hi; omega
    rw [ByteArray.getElem_extract]
    have := hS.at' (n + i) (by omega)
    rw [this]
    simp [show n + i < l.length by omega, hi2]
  exact this.eq
theorem take47 {g ar : Nat} {l : List Nat} {mv : Value} {w : World} (h : RdAt g ar l mv w) (hl : l.length ≤ 1000000) :
    Calls Tryd.prog 47 #[.pointer (some ⟨g, 0, none⟩)] w fun e w' => e = .returned (.int .u8 ((l.headD 0 : Nat) : Int)) ∧ RdAt g ar (l.drop 1) mv w' ∧ Fg g w w' := by
  have hnx := next37 h
  have c1 := h.c1
  have f1 := h.f1 1
  have hsz := (str_strOf h.1).size
  have hmin : (IntKind.i64.wrap (min 1 ((strOf l).size : Int))) = ((min 1 l.length : Nat) : Int) := by rw [hsz, IntKind.wrap_i64]; omega
  have hput := (h.put (Dig.dropN h.1 1))
  have hdrop : (strOf l).extract (min 1 l.length) (strOf l).size = strOf (l.drop 1) := by
    rw [strOf_drop l _ (by omega) h.1]
    congr 1
    cases l <;> simp
  obtain ⟨s, hs⟩ : ∃ s, s = strOf l := ⟨_, rfl⟩
  rw [← hs] at c1 hsz hdrop hmin
  obtain ⟨s2, hs2⟩ : ∃ s2, s2 = strOf (l.drop 1) := ⟨_, rfl⟩
  rw [← hs2] at hdrop hput
  obtain ⟨C, hC⟩ : ∃ C, C = l.headD 0 := ⟨_, rfl⟩
  rw [← hC] at hnx ⊢
  have c1d : w.drew.cell? ⟨g, 1, none⟩ = some (.string s) := c1
  have hcut : ∀ w : World, (Instr.slice 9 (.string s) (some (.int .i64 (min 1 (l.length : Int)))) none none).run Tryd.prog w = .ok (.string s2) w := fun w => by
    have e1 : min 1 (l.length : Int) = ((min 1 l.length : Nat) : Int) := by omega
    have e3 : min 1 l.length ≤ s.size := by omega
    rw [e1, ← hdrop]
    generalize min 1 l.length = m at e3
    simp [go_sem, e3]
  clear hs hs2 hC hdrop hmin
  go_enter Tryd.func47, Tryd.ntmps47
  go_wp2_with fail
  refine hnx.mono ?_
  rintro e w1 ⟨rfl, rfl⟩
  go_wp2_with fail
  go_still_tail 14, (by kernel_rfl)
  have f1d : w1.drew.frozen? ⟨g, 1, none⟩ = false := f1
  show wpList _ _ _ _ _ w1.drew
  go_wp2
  go_ret
  exact ⟨rfl, hput, (Fg.new (Below.refl _ _).drew).set 1 _⟩
/- what is next -/
theorem isPrefix_lit : ∀ {p l : List Nat}, (∀ c ∈ p, c < 256) → (∀ c ∈ l, c < 256) → (p.map UInt8.ofNat).isPrefixOf (l.map UInt8.ofNat) = (litP p l).isSome
  | [], l, _, _ => by simp [litP]
  | a :: p, [], _, _ => by simp [litP]
  | a :: p, b :: l, hp, hl => by
    have ih := isPrefix_lit (p := p) (l := l) (fun c hc => hp c (by simp [hc])) (fun c hc => hl c (by simp [hc]))
    have h1 : (UInt8.ofNat a == UInt8.ofNat b) = decide (b = a) := by
      rw [Bool.eq_iff_iff, beq_iff_eq, decide_eq_true_eq]
      constructor
      · intro h
        have := congrArg UInt8.toNat h
        have ha := hp a (by simp)
        have hb := hl b (by simp)
        simp at this; omega
      · intro h; rw [h]
    show (UInt8.ofNat a == UInt8.ofNat b && (p.map UInt8.ofNat).isPrefixOf (l.map UInt8.ofNat)) = _
    rw [h1, ih]
    unfold litP
    by_cases h : b = a
    · subst h
      by_cases h2 : l.take p.length = p <;> simp [h2]
    · simp [h]
theorem strOf_list {l : List Nat} : (strOf l).data.toList = l.map UInt8.ofNat := by rw [strOf_arr]
theorem cut_lit {p l : List Nat} (hp : Dig p) (hl : Dig l) : Lib.hasPrefix (strOf l).data.toList (strOf p).data.toList = (litP p l).isSome ∧ (⟨(Lib.trimPrefix (strOf l).data.toList (strOf p).data.toList).toArray⟩ : ByteArray) = strOf ((litP p l).getD l) := by
  have h1 : Lib.hasPrefix (strOf l).data.toList (strOf p).data.toList = (litP p l).isSome := by
    unfold Lib.hasPrefix
    rw [strOf_list, strOf_list, isPrefix_lit (mem_of_dig hp) (mem_of_dig hl)]
  refine ⟨h1, ?_⟩
  unfold Lib.trimPrefix
  rw [h1, strOf_list, strOf_list, strOf_arr]
  by_cases h : l.take p.length = p
  · have e : litP p l = some (l.drop p.length) := by unfold litP; rw [if_pos h]
    rw [e]
    simp
  · have e : litP p l = none := by unfold litP; rw [if_neg h]
    rw [e]
    simp
theorem litP_dig {p l r : List Nat} (hl : Dig l) (h : litP p l = some r) : Dig r := by
  unfold litP at h
  split at h
  · injection h with h; subst h; exact Dig.dropN hl _
  · cases h
theorem skip45 {g ar : Nat} {l p : List Nat} {s : ByteArray} {mv : Value} {w : World} (h : RdAt g ar l mv w) (hs : Str s p) :
    Calls Tryd.prog 45 #[.pointer (some ⟨g, 0, none⟩), .string s] w fun e w' => e = .returned (.bool (litP p l).isSome) ∧ RdAt g ar ((litP p l).getD l) mv w' ∧ Fg g w w' := by
  have c1 := h.c1
  have f1 := h.f1 1
  obtain rfl := hs.eq
  have hc := Tryd.strings_CutPrefix (strOf l) (strOf p) w
  obtain ⟨e1, e2⟩ := cut_lit hs.dig h.1
  rw [e1, e2] at hc
  have hput := h.put (l' := (litP p l).getD l) (by
    cases e : litP p l with
    | none => exact h.1
    | some r => exact litP_dig h.1 e)
  obtain ⟨s1, hs1⟩ : ∃ s, s = strOf l := ⟨_, rfl⟩
  obtain ⟨s2, hs2⟩ : ∃ s, s = strOf ((litP p l).getD l) := ⟨_, rfl⟩
  obtain ⟨b, hb⟩ : ∃ b, b = (litP p l).isSome := ⟨_, rfl⟩
  rw [← hs1] at c1
  rw [← hs1, ← hs2, ← hb] at hc
  rw [← hs2] at hput
  rw [← hb]
  clear e1 e2 hs1 hs2 hb hs
  go_enter Tryd.func45, Tryd.ntmps45
  go_wp2_with fail
  refine hc.mono ?_
  rintro e w1 ⟨rfl, rfl⟩
  go_wp2
  go_ret
  exact ⟨rfl, hput, (Fg.refl _ _).set 1 _⟩
theorem gapL_drop : ∀ l : List Nat, gapL l = l.dropWhile blankB
  | [] => rfl
  | c :: l => by
    unfold gapL
    rw [List.dropWhile_cons]
    split <;> simp_all [gapL_drop l]
theorem trim_gap {l : List Nat} (hl : Dig l) : (⟨(Lib.trimLeftS (strOf l).data.toList (ByteArray.mk #[32, 9, 10, 13]).data.toList).toArray⟩ : ByteArray) = strOf (gapL l) := by
  rw [gapL_drop, strOf_list, strOf_arr]
  congr 2
  have : ∀ l : List Nat, (∀ c ∈ l, c < 256) → Lib.trimLeftS (l.map UInt8.ofNat) [32, 9, 10, 13] = (l.dropWhile blankB).map UInt8.ofNat := by
    intro l
    induction l with
    | nil => intro _; rfl
    | cons c l ih =>
      intro h
      have hc : c < 256 := h c (by simp)
      have e : ([32, 9, 10, 13] : List UInt8).contains (UInt8.ofNat c) = blankB c := by
        have : ∀ c, c < 256 → ([32, 9, 10, 13] : List UInt8).contains (UInt8.ofNat c) = blankB c := by decide +kernel
        exact this c hc
      have ih := ih (fun x hx => h x (by simp [hx]))
      unfold Lib.trimLeftS at ih ⊢
      rw [List.map_cons, List.dropWhile_cons, List.dropWhile_cons, e]
      split
      · exact ih
      · rfl
  exact this l (mem_of_dig hl)
theorem zero93 : ∀ w, (zeroValue 93).run Tryd.prog w = .ok (.agg (Array.replicate 256 (.bool false))) w := fun w => by kernel_rfl
theorem blanks36 {g ar : Nat} {l : List Nat} {mv : Value} {w : World} (h : RdAt g ar l mv w) :
    Calls Tryd.prog 36 #[.pointer (some ⟨g, 0, none⟩)] w fun e w' => e = .returned (.tuple #[]) ∧ RdAt g ar (gapL l) mv w' ∧ Fg g w w' := by
  have c1 := h.c1
  have f1 := h.f1 1
  have ht := Any.strings_TrimLeft_ascii Tryd.lays161 zero93 (by kernel_rfl) (strOf l) (ByteArray.mk #[32, 9, 10, 13]) w (by decide) (ascii_of_all (by decide))
  rw [trim_gap h.1] at ht
  have hg : Dig (gapL l) := by
    rw [gapL_drop]
    exact dig_lt fun x hx => mem_of_dig h.1 x (List.dropWhile_sublist _ |>.mem hx)
  obtain ⟨s1, hs1⟩ : ∃ s, s = strOf l := ⟨_, rfl⟩
  obtain ⟨s2, hs2⟩ : ∃ s, s = strOf (gapL l) := ⟨_, rfl⟩
  rw [← hs1] at c1
  rw [← hs1, ← hs2] at ht
  have HS2 : Hid _ := hs2
  clear hs1 hs2
  go_enter Tryd.func36, Tryd.ntmps36
  go_wp2_with fail
  refine ht.mono ?_
  rintro e w1 ⟨rfl, hb⟩
  have hR1 := h.new hb
  have c2 := hR1.c1
  have f2 := hR1.f1 1
  clear c1 f1
  go_wp2
  go_end0
  refine ⟨rfl, ?_, (Fg.new hb).set 1 _⟩
  rw [HS2.out]
  exact hR1.put hg
end Go.Proofs.YtljgnpneeecafaaDoor
set_option linter.unusedVariables false
namespace Go.Proofs.YtljgnpneeecafaaDoor
open Go.RowKit Go.Sort Go.BigFrame
set_option maxRecDepth 100000
set_option maxHeartbeats 2000000
theorem results_cell_tmp {P : Program} {fn : Func} {p q : Tmp} {ty : TypeId} (h : fn.results = #[.cell p ty, .tmp q]) (tmps : Array Value) (w : World) (g : Nat) (t : TypeId) (cs : Array Value) (fr : Nat × Nat) (d : TypeDesc) (v : Value)
    (hp : tmps.getD p undef = .pointer (some ⟨g, 0, none⟩)) (hq : tmps.getD q undef = v) (hg : w.heap[g]? = some (.cells cs t fr))
    (hu : P.underlying ty = some d) (hd : (match d with | .struct _ | .array _ _ => true | _ => false) = true) (hi : (P.info? ty).map (·.size) = some cs.size) :
    (results fn tmps).run P w = .ok (.tuple #[.agg cs, v]) w := by
  have hp' : tmps[p]?.getD undef = .pointer (some ⟨g, 0, none⟩) := by simpa using hp
  have hq' : tmps[q]?.getD undef = v := by simpa using hq
  simp [results, h, hp', hq', asAddr, run_loadVar_row w g t ty cs fr d hg hu hd hi]
def zero5 : Array Value := #[.int .i64 0, .int .i64 0, .string ⟨#[]⟩, .slice none 0 0, .slice none 0 0]
theorem size25 : (Tryd.prog.info? 25).map (·.size) = some 5 := by kernel_rfl
/-- Five cells and an error tell what is read; or what is left begins with a digit, where nothing may. -/
def RdM (w : World) (cs : Array Value) (er : Int) (l' : List Nat) {n : Nat} (x : Rd (J n)) (w' : World) : Prop :=
  match x with
  | .ok (j, r) => er = 0 ∧ l' = r ∧ JM (fun b => w.heap.size ≤ b) n j cs.toList w'
  | .error e0 => (er = e0 ∧ e0 ≠ 0) ∨ (e0 = 13 ∧ er = 0 ∧ ∃ c t, l' = c :: t ∧ isD c = true)
theorem RdM.ok {w : World} {cs : Array Value} {er : Int} {l' : List Nat} {n : Nat} {x : Rd (J n)} {w' : World} {j : J n} {r : List Nat} (h : x = .ok (j, r)) (h1 : er = 0) (h2 : l' = r) (h3 : JM (fun b => w.heap.size ≤ b) n j cs.toList w') : RdM w cs er l' x w' := by rw [h]; exact ⟨h1, h2, h3⟩
theorem RdM.err {w : World} {cs : Array Value} {er : Int} {l' : List Nat} {n : Nat} {x : Rd (J n)} {w' : World} {e0 : Int} (h : x = .error e0) (h1 : (er = e0 ∧ e0 ≠ 0) ∨ (e0 = 13 ∧ er = 0 ∧ ∃ c t, l' = c :: t ∧ isD c = true)) : RdM w cs er l' x w' := by rw [h]; exact h1
/-- What a reading call leaves: five cells and an error; the reader behind what was taken. -/
def RdR (g ar : Nat) (mv : Value) (w : World) {n : Nat} (x : Rd (J n)) (e : Ending) (w' : World) : Prop :=
  ∃ (cs : Array Value) (er : Int) (l' : List Nat), e = .returned (.tuple #[.agg cs, .int .i64 er]) ∧ cs.size = 5 ∧ cs.all (·.oneCell') = true ∧ Fg g w w' ∧ RdAt g ar l' mv w' ∧ RdM w cs er l' x w'
theorem jm_zero (S : Nat → Prop) {n : Nat} (ki m : Int) (s : ByteArray) (t : List Nat) (w : World) (hs : Str s t) (h1 : -9223372036854775808 ≤ ki ∧ ki ≤ 9223372036854775807) (h2 : -9223372036854775808 ≤ m ∧ m ≤ 9223372036854775807) : JM S (n + 1) (⟨ki, m, t, [], []⟩ : JN (J n)) [.int .i64 ki, .int .i64 m, .string s, .slice none 0 0, .slice none 0 0] w :=
  ⟨s, _, _, rfl, hs, ⟨none, 0, rfl, Nat.le_refl _, by decide, fun h => absurd h (by simp)⟩, ⟨none, 0, rfl, Nat.le_refl _, by decide, fun h => absurd h (by simp)⟩, h1, h2⟩
theorem str_none : Str (⟨#[]⟩ : ByteArray) [] := str_strOf (E := []) (fun j => by simp)
theorem one5 (k m : Int) (s : ByteArray) : (#[Value.int .i64 k, .int .i64 m, .string s, .slice none 0 0, .slice none 0 0] : Array Value).all (·.oneCell') = true := by simp [Value.oneCell']
theorem one50 : zero5.all (·.oneCell') = true := one5 0 0 _
/-- A row of one's own is written. -/
theorem Fg.trans_new {g k : Nat} {w w' : World} {cs : Array Value} (h : Fg g w w') (hk : w.heap.size ≤ k) : Fg g w (w'.setRow k cs) :=
  ⟨h.1.trans ⟨rfl, rfl, rfl, by simp, fun b hb => absurd hb (by omega)⟩, fun b hb hg => (setRow_other _ _ _ _ (by omega)).trans (h.2 b hb hg)⟩
theorem word_yes {g ar : Nat} {l p : List Nat} {s : ByteArray} {mv d0 d1 d2 d3 d4 : Value} {w : World} (h : RdAt g ar l mv w) (hs : Str s p) (h5 : (#[d0, d1, d2, d3, d4] : Array Value).all (·.oneCell') = true) {r : List Nat} (hl : litP p l = some r) :
    Calls Tryd.prog 44 #[.pointer (some ⟨g, 0, none⟩), .string s, .agg #[d0, d1, d2, d3, d4]] w fun e w' => e = .returned (.tuple #[.agg #[d0, d1, d2, d3, d4], .int .i64 0]) ∧ RdAt g ar r mv w' ∧ Fg g w w' := by
  obtain ⟨w1, hw1⟩ : ∃ w1, w1 = (w.alloc (.cells #[d0, d1, d2, d3, d4] 25)).alloc (.cells zero5 25) := ⟨_, rfl⟩
  have hB1 : Below w.heap.size w w1 := by rw [hw1]; exact ((Below.refl _ _).alloc (Nat.le_refl _) _).alloc (by simp) _
  have hX1 : w1.heap[w.heap.size]? = some (.cells #[d0, d1, d2, d3, d4] 25 (0, 0)) := by rw [hw1, Lib.alloc_old _ _ _ (by simp)]; exact heap_alloc_new _ _
  have hZ1 : w1.heap[w.heap.size + 1]? = some (.cells zero5 25 (0, 0)) := by
    rw [hw1]
    have := heap_alloc_new (w.alloc (.cells #[d0, d1, d2, d3, d4] 25)) (.cells zero5 25)
    simpa using this
  have hR1 := h.new hB1
  have hsk := skip45 hR1 hs
  rw [hl] at hsk
  have hgl := h.lt
  rw [hw1] at hsk
  unfold zero5 at hsk
  go_enter Tryd.func44, Tryd.ntmps44
  go_wp2_with fail
  refine hsk.mono ?_
  rintro e w2 ⟨rfl, hR2, hF2⟩
  have hF2 : Fg g w1 w2 := by rw [hw1]; exact hF2
  have hX2 := hF2.block hX1 (by omega)
  have hZ2 := hF2.block hZ1 (by omega)
  have hFw := (Fg.new (g := g) hB1).trans hF2
  clear hsk hw1 hX1 hZ1 hR1 hB1
  have x0 : w2.cell? ⟨w.heap.size, 0, none⟩ = some d0 := (cell_of_row _ _ _ _ _ _ hX2).trans rfl
  have x1 : w2.cell? ⟨w.heap.size, 1, none⟩ = some d1 := (cell_of_row _ _ _ _ _ _ hX2).trans rfl
  have x2 : w2.cell? ⟨w.heap.size, 2, none⟩ = some d2 := (cell_of_row _ _ _ _ _ _ hX2).trans rfl
  have x3 : w2.cell? ⟨w.heap.size, 3, none⟩ = some d3 := (cell_of_row _ _ _ _ _ _ hX2).trans rfl
  have x4 : w2.cell? ⟨w.heap.size, 4, none⟩ = some d4 := (cell_of_row _ _ _ _ _ _ hX2).trans rfl
  go_wp2_with (refine wpList_store_row rfl 25 (.tmp 6) (.tmp 13) rfl (w.heap.size + 1) #[d0, d1, d2, d3, d4] rfl rfl 25 zero5 hZ2 size25 rfl h5 ?_)
  refine bodyPost_ret (v := .tuple #[.agg #[d0, d1, d2, d3, d4], .int .i64 0]) ?_ rfl ⟨rfl, ⟨hR2.1, (setRow_other _ _ _ _ (by omega)).trans hR2.2⟩, hFw.trans_new (by omega)⟩
  exact results_cell_tmp Tryd.results44 _ _ _ 25 _ (0, 0) _ _ rfl rfl (setRow_heap _ _ _ _ _ _ hZ2) Tryd.underlying25 rfl size25
theorem word_no {g ar : Nat} {l p : List Nat} {s : ByteArray} {mv d0 d1 d2 d3 d4 : Value} {w : World} (h : RdAt g ar l mv w) (hs : Str s p) (h5 : (#[d0, d1, d2, d3, d4] : Array Value).all (·.oneCell') = true) (hl : litP p l = none) :
    Calls Tryd.prog 44 #[.pointer (some ⟨g, 0, none⟩), .string s, .agg #[d0, d1, d2, d3, d4]] w fun e w' => e = .returned (.tuple #[.agg zero5, .int .i64 13]) ∧ RdAt g ar l mv w' ∧ Fg g w w' := by
  obtain ⟨w1, hw1⟩ : ∃ w1, w1 = (w.alloc (.cells #[d0, d1, d2, d3, d4] 25)).alloc (.cells zero5 25) := ⟨_, rfl⟩
  have hB1 : Below w.heap.size w w1 := by rw [hw1]; exact ((Below.refl _ _).alloc (Nat.le_refl _) _).alloc (by simp) _
  have hX1 : w1.heap[w.heap.size]? = some (.cells #[d0, d1, d2, d3, d4] 25 (0, 0)) := by rw [hw1, Lib.alloc_old _ _ _ (by simp)]; exact heap_alloc_new _ _
  have hZ1 : w1.heap[w.heap.size + 1]? = some (.cells zero5 25 (0, 0)) := by
    rw [hw1]
    have := heap_alloc_new (w.alloc (.cells #[d0, d1, d2, d3, d4] 25)) (.cells zero5 25)
    simpa using this
  have hR1 := h.new hB1
  have hsk := skip45 hR1 hs
  rw [hl] at hsk
  have hgl := h.lt
  rw [hw1] at hsk
  unfold zero5 at hsk
  go_enter Tryd.func44, Tryd.ntmps44
  go_wp2_with fail
  refine hsk.mono ?_
  rintro e w2 ⟨rfl, hR2, hF2⟩
  have hF2 : Fg g w1 w2 := by rw [hw1]; exact hF2
  have hX2 := hF2.block hX1 (by omega)
  have hZ2 := hF2.block hZ1 (by omega)
  have hFw := (Fg.new (g := g) hB1).trans hF2
  clear hsk hw1 hX1 hZ1 hR1 hB1

  go_wp2_with (refine wpList_store_row rfl 25 (.tmp 6) (.tmp 12) rfl (w.heap.size + 1) zero5 rfl rfl 25 zero5 hZ2 size25 rfl one50 ?_)
  refine bodyPost_ret (v := .tuple #[.agg zero5, .int .i64 13]) ?_ rfl ⟨rfl, ⟨hR2.1, (setRow_other _ _ _ _ (by omega)).trans hR2.2⟩, hFw.trans_new (by omega)⟩
  exact results_cell_tmp Tryd.results44 _ _ _ 25 _ (0, 0) _ _ rfl rfl (setRow_heap _ _ _ _ _ _ hZ2) Tryd.underlying25 rfl size25
theorem null29 {n g ar : Nat} {l : List Nat} {mv : Value} {w : World} (h : RdAt g ar l mv w) :
    Calls Tryd.prog 29 #[.pointer (some ⟨g, 0, none⟩)] w (RdR g ar mv w (n := n + 1) (match litP [110, 117, 108, 108] l with | some r => .ok ((⟨0, 0, [], [], []⟩ : JN (J n)), r) | none => .error 13)) := by
  obtain ⟨w1, hw1⟩ : ∃ w1, w1 = w.alloc (.cells zero5 25) := ⟨_, rfl⟩
  have hB1 : Below w.heap.size w w1 := by rw [hw1]; exact below1 _ _
  have hZ1 : w1.heap[w.heap.size]? = some (.cells zero5 25 (0, 0)) := by rw [hw1]; exact heap_alloc_new _ _
  have hR1 := h.new hB1
  have hgl := h.lt
  have hs := str_lit (bs := [110, 117, 108, 108]) (by decide)
  rw [show strOf [110, 117, 108, 108] = ByteArray.mk #[110, 117, 108, 108] by decide] at hs
  cases hl : litP [110, 117, 108, 108] l with
  | some r =>
    have hc := word_yes (d0 := .int .i64 0) (d1 := .int .i64 0) (d2 := .string ⟨#[]⟩) (d3 := .slice none 0 0) (d4 := .slice none 0 0) hR1 hs (one5 _ _ _) hl
    rw [hw1] at hc
    unfold zero5 at hc
    clear hl
    go_enter Tryd.func29, Tryd.ntmps29
    go_wp2_with fail
    refine hc.mono ?_
    rintro e w2 ⟨rfl, hR2, hF2⟩
    have hF2 : Fg g w1 w2 := by rw [hw1]; exact hF2
    have hZ2 := hF2.block hZ1 (by omega)
    have hFw := (Fg.new (g := g) hB1).trans hF2
    clear hc hw1 hZ1 hR1 hB1
    go_wp2_with (refine wpList_store_row rfl 25 (.tmp 2) (.tmp 7) rfl w.heap.size #[.int .i64 0, .int .i64 0, .string ⟨#[]⟩, .slice none 0 0, .slice none 0 0] rfl rfl 25 zero5 hZ2 size25 rfl (one5 _ _ _) ?_)
    refine bodyPost_ret (v := .tuple #[.agg #[.int .i64 0, .int .i64 0, .string ⟨#[]⟩, .slice none 0 0, .slice none 0 0], .int .i64 0]) ?_ rfl ⟨_, _, _, rfl, rfl, one5 _ _ _, hFw.trans_new (Nat.le_refl _), ⟨hR2.1, (setRow_other _ _ _ _ (by omega)).trans hR2.2⟩, RdM.ok rfl rfl rfl (jm_zero _ 0 0 _ [] _ str_none (by decide) (by decide))⟩
    exact results_cell_tmp Tryd.results29 _ _ _ 25 _ (0, 0) _ _ rfl rfl (setRow_heap _ _ _ _ _ _ hZ2) Tryd.underlying25 rfl size25
  | none =>
    have hc := word_no (d0 := .int .i64 0) (d1 := .int .i64 0) (d2 := .string ⟨#[]⟩) (d3 := .slice none 0 0) (d4 := .slice none 0 0) hR1 hs (one5 _ _ _) hl
    rw [hw1] at hc
    unfold zero5 at hc
    clear hl
    go_enter Tryd.func29, Tryd.ntmps29
    go_wp2_with fail
    refine hc.mono ?_
    rintro e w2 ⟨rfl, hR2, hF2⟩
    have hF2 : Fg g w1 w2 := by rw [hw1]; exact hF2
    have hZ2 := hF2.block hZ1 (by omega)
    have hFw := (Fg.new (g := g) hB1).trans hF2
    clear hc hw1 hZ1 hR1 hB1
    go_wp2_with (refine wpList_store_row rfl 25 (.tmp 2) (.tmp 7) rfl w.heap.size #[.int .i64 0, .int .i64 0, .string ⟨#[]⟩, .slice none 0 0, .slice none 0 0] rfl rfl 25 zero5 hZ2 size25 rfl (one5 _ _ _) ?_)
    refine bodyPost_ret (v := .tuple #[.agg #[.int .i64 0, .int .i64 0, .string ⟨#[]⟩, .slice none 0 0, .slice none 0 0], .int .i64 13]) ?_ rfl ⟨_, _, _, rfl, rfl, one5 _ _ _, hFw.trans_new (Nat.le_refl _), ⟨hR2.1, (setRow_other _ _ _ _ (by omega)).trans hR2.2⟩, RdM.err rfl (.inl ⟨rfl, by decide⟩)⟩
    exact results_cell_tmp Tryd.results29 _ _ _ 25 _ (0, 0) _ _ rfl rfl (setRow_heap _ _ _ _ _ _ hZ2) Tryd.underlying25 rfl size25
theorem yes30 {n g ar : Nat} {l : List Nat} {mv : Value} {w : World} (h : RdAt g ar l mv w) :
    Calls Tryd.prog 30 #[.pointer (some ⟨g, 0, none⟩)] w (RdR g ar mv w (n := n + 1) (match litP [116, 114, 117, 101] l with | some r => .ok ((⟨1, 1, [], [], []⟩ : JN (J n)), r) | none => .error 13)) := by
  obtain ⟨w1, hw1⟩ : ∃ w1, w1 = w.alloc (.cells zero5 25) := ⟨_, rfl⟩
  have hB1 : Below w.heap.size w w1 := by rw [hw1]; exact below1 _ _
  have hZ1 : w1.heap[w.heap.size]? = some (.cells zero5 25 (0, 0)) := by rw [hw1]; exact heap_alloc_new _ _
  have hR1 := h.new hB1
  have hgl := h.lt
  have hs := str_lit (bs := [116, 114, 117, 101]) (by decide)
  rw [show strOf [116, 114, 117, 101] = ByteArray.mk #[116, 114, 117, 101] by decide] at hs
  cases hl : litP [116, 114, 117, 101] l with
  | some r =>
    have hc := word_yes (d0 := .int .i64 1) (d1 := .int .i64 1) (d2 := .string ⟨#[]⟩) (d3 := .slice none 0 0) (d4 := .slice none 0 0) hR1 hs (one5 _ _ _) hl
    rw [hw1] at hc
    unfold zero5 at hc
    clear hl
    go_enter Tryd.func30, Tryd.ntmps30
    go_wp2_with fail
    refine hc.mono ?_
    rintro e w2 ⟨rfl, hR2, hF2⟩
    have hF2 : Fg g w1 w2 := by rw [hw1]; exact hF2
    have hZ2 := hF2.block hZ1 (by omega)
    have hFw := (Fg.new (g := g) hB1).trans hF2
    clear hc hw1 hZ1 hR1 hB1
    go_wp2_with (refine wpList_store_row rfl 25 (.tmp 2) (.tmp 7) rfl w.heap.size #[.int .i64 1, .int .i64 1, .string ⟨#[]⟩, .slice none 0 0, .slice none 0 0] rfl rfl 25 zero5 hZ2 size25 rfl (one5 _ _ _) ?_)
    refine bodyPost_ret (v := .tuple #[.agg #[.int .i64 1, .int .i64 1, .string ⟨#[]⟩, .slice none 0 0, .slice none 0 0], .int .i64 0]) ?_ rfl ⟨_, _, _, rfl, rfl, one5 _ _ _, hFw.trans_new (Nat.le_refl _), ⟨hR2.1, (setRow_other _ _ _ _ (by omega)).trans hR2.2⟩, RdM.ok rfl rfl rfl (jm_zero _ 1 1 _ [] _ str_none (by decide) (by decide))⟩
    exact results_cell_tmp Tryd.results30 _ _ _ 25 _ (0, 0) _ _ rfl rfl (setRow_heap _ _ _ _ _ _ hZ2) Tryd.underlying25 rfl size25
  | none =>
    have hc := word_no (d0 := .int .i64 1) (d1 := .int .i64 1) (d2 := .string ⟨#[]⟩) (d3 := .slice none 0 0) (d4 := .slice none 0 0) hR1 hs (one5 _ _ _) hl
    rw [hw1] at hc
    unfold zero5 at hc
    clear hl
    go_enter Tryd.func30, Tryd.ntmps30
    go_wp2_with fail
    refine hc.mono ?_
    rintro e w2 ⟨rfl, hR2, hF2⟩
    have hF2 : Fg g w1 w2 := by rw [hw1]; exact hF2
    have hZ2 := hF2.block hZ1 (by omega)
    have hFw := (Fg.new (g := g) hB1).trans hF2
    clear hc hw1 hZ1 hR1 hB1
    go_wp2_with (refine wpList_store_row rfl 25 (.tmp 2) (.tmp 7) rfl w.heap.size #[.int .i64 0, .int .i64 0, .string ⟨#[]⟩, .slice none 0 0, .slice none 0 0] rfl rfl 25 zero5 hZ2 size25 rfl (one5 _ _ _) ?_)
    refine bodyPost_ret (v := .tuple #[.agg #[.int .i64 0, .int .i64 0, .string ⟨#[]⟩, .slice none 0 0, .slice none 0 0], .int .i64 13]) ?_ rfl ⟨_, _, _, rfl, rfl, one5 _ _ _, hFw.trans_new (Nat.le_refl _), ⟨hR2.1, (setRow_other _ _ _ _ (by omega)).trans hR2.2⟩, RdM.err rfl (.inl ⟨rfl, by decide⟩)⟩
    exact results_cell_tmp Tryd.results30 _ _ _ 25 _ (0, 0) _ _ rfl rfl (setRow_heap _ _ _ _ _ _ hZ2) Tryd.underlying25 rfl size25
theorem no31 {n g ar : Nat} {l : List Nat} {mv : Value} {w : World} (h : RdAt g ar l mv w) :
    Calls Tryd.prog 31 #[.pointer (some ⟨g, 0, none⟩)] w (RdR g ar mv w (n := n + 1) (match litP [102, 97, 108, 115, 101] l with | some r => .ok ((⟨1, 0, [], [], []⟩ : JN (J n)), r) | none => .error 13)) := by
  obtain ⟨w1, hw1⟩ : ∃ w1, w1 = w.alloc (.cells zero5 25) := ⟨_, rfl⟩
  have hB1 : Below w.heap.size w w1 := by rw [hw1]; exact below1 _ _
  have hZ1 : w1.heap[w.heap.size]? = some (.cells zero5 25 (0, 0)) := by rw [hw1]; exact heap_alloc_new _ _
  have hR1 := h.new hB1
  have hgl := h.lt
  have hs := str_lit (bs := [102, 97, 108, 115, 101]) (by decide)
  rw [show strOf [102, 97, 108, 115, 101] = ByteArray.mk #[102, 97, 108, 115, 101] by decide] at hs
  cases hl : litP [102, 97, 108, 115, 101] l with
  | some r =>
    have hc := word_yes (d0 := .int .i64 1) (d1 := .int .i64 0) (d2 := .string ⟨#[]⟩) (d3 := .slice none 0 0) (d4 := .slice none 0 0) hR1 hs (one5 _ _ _) hl
    rw [hw1] at hc
    unfold zero5 at hc
    clear hl
    go_enter Tryd.func31, Tryd.ntmps31
    go_wp2_with fail
    refine hc.mono ?_
    rintro e w2 ⟨rfl, hR2, hF2⟩
    have hF2 : Fg g w1 w2 := by rw [hw1]; exact hF2
    have hZ2 := hF2.block hZ1 (by omega)
    have hFw := (Fg.new (g := g) hB1).trans hF2
    clear hc hw1 hZ1 hR1 hB1
    go_wp2_with (refine wpList_store_row rfl 25 (.tmp 2) (.tmp 7) rfl w.heap.size #[.int .i64 1, .int .i64 0, .string ⟨#[]⟩, .slice none 0 0, .slice none 0 0] rfl rfl 25 zero5 hZ2 size25 rfl (one5 _ _ _) ?_)
    refine bodyPost_ret (v := .tuple #[.agg #[.int .i64 1, .int .i64 0, .string ⟨#[]⟩, .slice none 0 0, .slice none 0 0], .int .i64 0]) ?_ rfl ⟨_, _, _, rfl, rfl, one5 _ _ _, hFw.trans_new (Nat.le_refl _), ⟨hR2.1, (setRow_other _ _ _ _ (by omega)).trans hR2.2⟩, RdM.ok rfl rfl rfl (jm_zero _ 1 0 _ [] _ str_none (by decide) (by decide))⟩
    exact results_cell_tmp Tryd.results31 _ _ _ 25 _ (0, 0) _ _ rfl rfl (setRow_heap _ _ _ _ _ _ hZ2) Tryd.underlying25 rfl size25
  | none =>
    have hc := word_no (d0 := .int .i64 1) (d1 := .int .i64 0) (d2 := .string ⟨#[]⟩) (d3 := .slice none 0 0) (d4 := .slice none 0 0) hR1 hs (one5 _ _ _) hl
    rw [hw1] at hc
    unfold zero5 at hc
    clear hl
    go_enter Tryd.func31, Tryd.ntmps31
    go_wp2_with fail
    refine hc.mono ?_
    rintro e w2 ⟨rfl, hR2, hF2⟩
    have hF2 : Fg g w1 w2 := by rw [hw1]; exact hF2
    have hZ2 := hF2.block hZ1 (by omega)
    have hFw := (Fg.new (g := g) hB1).trans hF2
    clear hc hw1 hZ1 hR1 hB1
    go_wp2_with (refine wpList_store_row rfl 25 (.tmp 2) (.tmp 7) rfl w.heap.size #[.int .i64 0, .int .i64 0, .string ⟨#[]⟩, .slice none 0 0, .slice none 0 0] rfl rfl 25 zero5 hZ2 size25 rfl (one5 _ _ _) ?_)
    refine bodyPost_ret (v := .tuple #[.agg #[.int .i64 0, .int .i64 0, .string ⟨#[]⟩, .slice none 0 0, .slice none 0 0], .int .i64 13]) ?_ rfl ⟨_, _, _, rfl, rfl, one5 _ _ _, hFw.trans_new (Nat.le_refl _), ⟨hR2.1, (setRow_other _ _ _ _ (by omega)).trans hR2.2⟩, RdM.err rfl (.inl ⟨rfl, by decide⟩)⟩
    exact results_cell_tmp Tryd.results31 _ _ _ 25 _ (0, 0) _ _ rfl rfl (setRow_heap _ _ _ _ _ _ hZ2) Tryd.underlying25 rfl size25
end Go.Proofs.YtljgnpneeecafaaDoor
