/-
  The walk of the reference's Mul.
-/
import Derived.Test.YtomfnkbghlpkeaaDoorRM3
import Derived.Test.YtomfnkbghlpkeaaDoorR3
set_option linter.unusedVariables false
namespace Go.Proofs.YtomfnkbghlpkeaaDoor
open Go.RowKit Go.Sort Go.BigFrame
set_option maxRecDepth 100000
set_option maxHeartbeats 600000
def Ints (w : World) (g n : Nat) (l : List Nat) : Prop := ∀ i, i < n → w.cell? ⟨g, i, none⟩ = some (.int .i64 ((l.getD i 0 : Nat) : Int))
theorem Ints.on {w w1 : World} {g n : Nat} {l : List Nat} (h : Ints w g n l) (hb : Below w.heap.size w w1) : Ints w1 g n l :=
  fun j hj => (hb.cell (p := ⟨g, j, none⟩) (block_lt_of_cell (a := ⟨g, j, none⟩) (h j hj))).trans (h j hj)
theorem ints_row {w : World} {g t : Nat} {l : List Nat} (h : w.heap[g]? = some (.cells (ints .i64 l) t (0, 0))) : Ints w g l.length l := fun i hi => cell_ints h i hi
theorem digit_lt {l : List Nat} (h : ∀ d ∈ l, d < 65536) (j : Nat) : l.getD j 0 < 65536 := by
  by_cases hj : j < l.length
  · rw [List.getD_eq_getElem?_getD, List.getElem?_eq_getElem hj]; exact h _ (List.getElem_mem hj)
  · rw [List.getD_eq_getElem?_getD, List.getElem?_eq_none (by omega)]; decide
theorem mul_step {u b : List Nat} {i j c uo ai v : Nat} {vo : Nat} (hl : i + j < u.length) (huo : uo = u.getD (i + j) 0) (hv : v = uo + ai * b.getD j 0 + c)
    (h : val u + 65536 ^ (i + j) * c = vo + 65536 ^ i * (ai * val (b.take j))) (hj : j < b.length) :
    val (u.set (i + j) (v % 65536)) + 65536 ^ (i + (j + 1)) * (v / 65536) = vo + 65536 ^ i * (ai * val (b.take (j + 1))) := by
  have h1 := val_set u (i + j) (v % 65536) hl
  rw [← huo] at h1
  have e1 : 65536 ^ (i + (j + 1)) = 65536 ^ (i + j) * 65536 := by rw [← Nat.add_assoc, Nat.pow_succ]
  have e2 : 65536 ^ i * (ai * val (b.take (j + 1))) = 65536 ^ i * (ai * val (b.take j)) + 65536 ^ (i + j) * (ai * b.getD j 0) := by
    rw [val_take b j hj, Nat.mul_add, Nat.mul_add, Nat.pow_add]
    congr 1
    rw [Nat.mul_assoc, Nat.mul_left_comm ai]
  have e3 : 65536 ^ (i + j) * v = 65536 ^ (i + j) * (v % 65536) + 65536 ^ (i + j) * 65536 * (v / 65536) := by
    rw [Nat.mul_assoc, ← Nat.mul_add, Nat.mod_add_div]
  have e4 : 65536 ^ (i + j) * v = 65536 ^ (i + j) * uo + 65536 ^ (i + j) * (ai * b.getD j 0) + 65536 ^ (i + j) * c := by
    rw [hv, Nat.mul_add, Nat.mul_add]
  rw [e1, e2]
  omega

def zi10 : List Nat := List.replicate 10 0
theorem mul5_5 (ga ca gb cb : Nat) (a b : List Nat) (w : World) (hla : a.length = 5) (hlb : b.length = 5) (hda : ∀ d ∈ a, d < 65536) (hdb : ∀ d ∈ b, d < 65536)
    (ha : Ints w ga 5 a) (hb : Ints w gb 5 b) :
    Calls Tryd.prog 33 #[.slice (some ⟨ga, 0, none⟩) 5 ca, .slice (some ⟨gb, 0, none⟩) 5 cb] w fun e w' => ∃ v, e = .returned v ∧ ∃ g c, v = .slice (some ⟨g, 0, none⟩) 10 10 ∧ Below w.heap.size w w' ∧ w'.heap[g]? = some (.cells (ints .i64 c) 3 (0, 0)) ∧ c.length = 10 ∧ (∀ d ∈ c, d < 65536) ∧ val c = val a * val b := by
  have hmk : ∀ w, (Instr.makeSlice 34 (.int .i64 10) (.int .i64 10)).run Tryd.prog w = .ok (.slice (some ⟨w.heap.size, 0, none⟩) 10 10) (w.alloc (.cells (ints .i64 zi10) 3)) := fun _ => by kernel_rfl
  have HLA : Hid (a.length = 5) := hla
  have HLB : Hid (b.length = 5) := hlb
  clear hla hlb
  go_enter Tryd.func33, Tryd.ntmps33
  go_wp2_with fail
  go_loopw [6] (fun iv wr => ∃ i : Nat, ∃ o : List Nat, i ≤ 5 ∧ iv = .int .i64 (i : Int) ∧ Below w.heap.size w wr ∧ wr.heap[w.heap.size]? = some (.cells (ints .i64 o) 3 (0, 0)) ∧ o.length = 10 ∧ (∀ d ∈ o, d < 65536) ∧ (∀ j, i + 5 ≤ j → o.getD j 0 = 0) ∧ val o = val (a.take i) * val b) (fun iv _ => 5 - (intOf iv).toNat)
  case atStart => exact ⟨0, zi10, by omega, rfl, below1 _ _, heap_alloc_new _ _, rfl, fun d hd => by rw [List.eq_of_mem_replicate hd]; decide, fun j _ => by rw [List.getD_eq_getElem?_getD, zi10, List.getElem?_replicate]; split <;> rfl, by rw [show a.take 0 = [] from rfl, val, Nat.zero_mul]; exact val_zero 10⟩
  case round =>
    obtain ⟨i, o, hi, rfl, hB, hr, hol, hod, hoz, hov⟩ := hrel
    have HO : Hid (val o = val (a.take i) * val b) := hov
    have HOL : Hid (o.length = 10) := hol
    have HOZ : Hid (∀ j, i + 5 ≤ j → o.getD j 0 = 0) := hoz
    have HOD : Hid (∀ d ∈ o, d < 65536) := hod
    clear hov hol hoz hod
    by_cases hlt : i < 5
    · obtain ⟨ai, hai⟩ : ∃ x, x = a.getD i 0 := ⟨_, rfl⟩
      have bai : ai < 65536 := by rw [hai]; exact digit_lt hda _
      have HAI : Hid (ai = a.getD i 0) := hai
      clear hai
      go_wp2_with fail
      go_loopw [8, 7] (fun jv cv wr => ∃ j c : Nat, ∃ u : List Nat, j ≤ 5 ∧ jv = .int .i64 (j : Int) ∧ cv = .int .i64 (c : Int) ∧ c ≤ 65535 ∧ Below w.heap.size w wr ∧ wr.heap[w.heap.size]? = some (.cells (ints .i64 u) 3 (0, 0)) ∧ u.length = 10 ∧ (∀ d ∈ u, d < 65536) ∧ (∀ k, i + 5 ≤ k → u.getD k 0 = 0) ∧
          val u + 65536 ^ (i + j) * c = val o + 65536 ^ i * (ai * val (b.take j))) (fun jv _ _ => 5 - (intOf jv).toNat)
      case atStart => exact ⟨0, 0, o, by omega, rfl, rfl, by omega, hB, hr, HOL.out, HOD.out, HOZ.out, by simp [val]⟩
      case round =>
        obtain ⟨j, c, u, hj, rfl, rfl, hc, hBu, hru, hul, hud, huz, huv⟩ := hrel
        have HUV : Hid (val u + 65536 ^ (i + j) * c = val o + 65536 ^ i * (ai * val (b.take j))) := huv
        have HUL : Hid (u.length = 10) := hul
        have HUD : Hid (∀ d ∈ u, d < 65536) := hud
        have HUZ : Hid (∀ k, i + 5 ≤ k → u.getD k 0 = 0) := huz
        clear huv hul hud huz
        by_cases hlt2 : j < 5
        · obtain ⟨bj, hbj⟩ : ∃ x, x = b.getD j 0 := ⟨_, rfl⟩
          obtain ⟨uo, huo⟩ : ∃ x, x = u.getD (i + j) 0 := ⟨_, rfl⟩
          have bbj : bj < 65536 := by rw [hbj]; exact digit_lt hdb _
          have buo : uo < 65536 := by rw [huo]; exact digit_lt HUD.out _
          have k1 : wr.cell? ⟨w.heap.size, i + j, none⟩ = some (.int .i64 (uo : Int)) := by rw [huo]; exact cell_ints hru (i + j) (by rw [HUL.out]; omega)
          have k2 : wr.cell? ⟨ga, i, none⟩ = some (.int .i64 (ai : Int)) := by rw [HAI.out]; exact (hBu.cell (p := ⟨ga, i, none⟩) (block_lt_of_cell (a := ⟨ga, 0, none⟩) (ha 0 (by omega)))).trans (ha i hlt)
          have k3 : wr.cell? ⟨gb, j, none⟩ = some (.int .i64 (bj : Int)) := by rw [hbj]; exact (hBu.cell (p := ⟨gb, j, none⟩) (block_lt_of_cell (a := ⟨gb, 0, none⟩) (hb 0 (by omega)))).trans (hb j hlt2)
          have f1 := free_ints hru (i + j)
          obtain ⟨m, hm⟩ : ∃ x, x = ai * bj := ⟨_, rfl⟩
          have bm : m ≤ 65535 * 65535 := by rw [hm]; exact Nat.mul_le_mul (by omega) (by omega)
          have hmI : (ai : Int) * (bj : Int) = (m : Int) := by rw [hm]; simp
          obtain ⟨v, hv⟩ : ∃ x, x = uo + m + c := ⟨_, rfl⟩
          have hvI : (uo : Int) + (m : Int) + (c : Int) = (v : Int) := by rw [hv]; simp
          have bv : v < 4294967296 := by omega
          have HN : Hid (∀ n, Below w.heap.size w ((wr.drewN n).setCell ⟨w.heap.size, i + j, none⟩ (.int .i64 ((v : Int) % 65536))) ∧ ((wr.drewN n).setCell ⟨w.heap.size, i + j, none⟩ (.int .i64 ((v : Int) % 65536))).heap[w.heap.size]? = some (.cells (ints .i64 (u.set (i + j) (v % 65536))) 3 (0, 0))) := fun n => by
            have h : ((v : Int) % 65536) = ((v % 65536 : Nat) : Int) := by omega
            rw [h]
            exact ⟨(below_drewN hBu n).setCell (Nat.le_refl _) _, set_ints (w := wr.drewN n) hru _ _⟩
          have HV : Hid (val (u.set (i + j) (v % 65536)) + 65536 ^ (i + (j + 1)) * (v / 65536) = val o + 65536 ^ i * (ai * val (b.take (j + 1)))) := by
            refine mul_step (u := u) (c := c) (by rw [HUL.out]; omega) huo ?_ HUV.out (by rw [HLB.out]; omega)
            rw [hv, hm, hbj]
          have HZ : Hid (∀ k, i + 5 ≤ k → (u.set (i + j) (v % 65536)).getD k 0 = 0) := fun k hk => by
            rw [List.getD_eq_getElem?_getD, List.getElem?_set_ne (by omega), ← List.getD_eq_getElem?_getD]; exact HUZ.out k hk
          have HD : Hid (∀ d ∈ u.set (i + j) (v % 65536), d < 65536) := fun d hd => by
            rcases List.mem_or_eq_of_mem_set hd with h | h
            · exact HUD.out d h
            · rw [h]; exact Nat.mod_lt _ (by decide)
          clear hv hm huo hbj hru hBu
          go_wp2_with fail
          go_quiet (fail)
          go_wp2_with fail
          go_roundw
          case rel => exact ⟨j + 1, v / 65536, u.set (i + j) (v % 65536), by omega, by go_num, by go_num, by omega, (HN.out _).1, (HN.out _).2, by rw [List.length_set]; exact HUL.out, HD.out, HZ.out, HV.out⟩
          case measure => simp [intOf]; omega
        · obtain rfl : j = 5 := by omega
          have k1 : wr.cell? ⟨w.heap.size, i + 5, none⟩ = some (.int .i64 (0 : Int)) := by
            have := cell_ints hru (i + 5) (by rw [HUL.out]; omega)
            rw [HUZ.out _ (Nat.le_refl _)] at this; exact this
          have f1 := free_ints hru (i + 5)
          have HN : Hid (Below w.heap.size w (wr.setCell ⟨w.heap.size, i + 5, none⟩ (.int .i64 (c : Int))) ∧ (wr.setCell ⟨w.heap.size, i + 5, none⟩ (.int .i64 (c : Int))).heap[w.heap.size]? = some (.cells (ints .i64 (u.set (i + 5) c)) 3 (0, 0))) :=
            ⟨hBu.setCell (Nat.le_refl _) _, set_ints hru _ _⟩
          have HV : Hid (val (u.set (i + 5) c) = val (a.take (i + 1)) * val b) := by
            show val (u.set (i + 5) c) = val (a.take (i + 1)) * val b
            have h1 := val_set u (i + 5) c (by rw [HUL.out]; omega)
            rw [HUZ.out _ (Nat.le_refl _)] at h1
            have h2 := HUV.out
            rw [List.take_of_length_le (by rw [HLB.out]; omega)] at h2
            rw [val_take a i (by rw [HLA.out]; omega), ← HAI.out, Nat.add_mul, ← HO.out, Nat.mul_assoc]
            omega
          have HZ : Hid (∀ k, i + 1 + 5 ≤ k → (u.set (i + 5) c).getD k 0 = 0) := fun k hk => by
            rw [List.getD_eq_getElem?_getD, List.getElem?_set_ne (by omega), ← List.getD_eq_getElem?_getD]; exact HUZ.out k (by omega)
          have HD : Hid (∀ d ∈ u.set (i + 5) c, d < 65536) := fun d hd => by
            rcases List.mem_or_eq_of_mem_set hd with h | h
            · exact HUD.out d h
            · rw [h]; omega
          clear hru hBu
          go_wp2_with fail
          go_roundw
          case rel => exact ⟨i + 1, u.set (i + 5) c, by omega, by go_num, HN.out.1, HN.out.2, by rw [List.length_set]; exact HUL.out, HD.out, HZ.out, HV.out⟩
          case measure => simp [intOf]; omega
    · obtain rfl : i = 5 := by omega
      go_wp2_with fail
      go_ret
      exact ⟨_, rfl, w.heap.size, o, rfl, hB, hr, HOL.out, HOD.out, by have := HO.out; rwa [List.take_of_length_le (by rw [HLA.out]; omega)] at this⟩

def zi15 : List Nat := List.replicate 15 0
theorem mul10_5 (ga ca gb cb : Nat) (a b : List Nat) (w : World) (hla : a.length = 10) (hlb : b.length = 5) (hda : ∀ d ∈ a, d < 65536) (hdb : ∀ d ∈ b, d < 65536)
    (ha : Ints w ga 10 a) (hb : Ints w gb 5 b) :
    Calls Tryd.prog 33 #[.slice (some ⟨ga, 0, none⟩) 10 ca, .slice (some ⟨gb, 0, none⟩) 5 cb] w fun e w' => ∃ v, e = .returned v ∧ ∃ g c, v = .slice (some ⟨g, 0, none⟩) 15 15 ∧ Below w.heap.size w w' ∧ w'.heap[g]? = some (.cells (ints .i64 c) 3 (0, 0)) ∧ c.length = 15 ∧ (∀ d ∈ c, d < 65536) ∧ val c = val a * val b := by
  have hmk : ∀ w, (Instr.makeSlice 34 (.int .i64 15) (.int .i64 15)).run Tryd.prog w = .ok (.slice (some ⟨w.heap.size, 0, none⟩) 15 15) (w.alloc (.cells (ints .i64 zi15) 3)) := fun _ => by kernel_rfl
  have HLA : Hid (a.length = 10) := hla
  have HLB : Hid (b.length = 5) := hlb
  clear hla hlb
  go_enter Tryd.func33, Tryd.ntmps33
  go_wp2_with fail
  go_loopw [6] (fun iv wr => ∃ i : Nat, ∃ o : List Nat, i ≤ 10 ∧ iv = .int .i64 (i : Int) ∧ Below w.heap.size w wr ∧ wr.heap[w.heap.size]? = some (.cells (ints .i64 o) 3 (0, 0)) ∧ o.length = 15 ∧ (∀ d ∈ o, d < 65536) ∧ (∀ j, i + 5 ≤ j → o.getD j 0 = 0) ∧ val o = val (a.take i) * val b) (fun iv _ => 10 - (intOf iv).toNat)
  case atStart => exact ⟨0, zi15, by omega, rfl, below1 _ _, heap_alloc_new _ _, rfl, fun d hd => by rw [List.eq_of_mem_replicate hd]; decide, fun j _ => by rw [List.getD_eq_getElem?_getD, zi15, List.getElem?_replicate]; split <;> rfl, by rw [show a.take 0 = [] from rfl, val, Nat.zero_mul]; exact val_zero 15⟩
  case round =>
    obtain ⟨i, o, hi, rfl, hB, hr, hol, hod, hoz, hov⟩ := hrel
    have HO : Hid (val o = val (a.take i) * val b) := hov
    have HOL : Hid (o.length = 15) := hol
    have HOZ : Hid (∀ j, i + 5 ≤ j → o.getD j 0 = 0) := hoz
    have HOD : Hid (∀ d ∈ o, d < 65536) := hod
    clear hov hol hoz hod
    by_cases hlt : i < 10
    · obtain ⟨ai, hai⟩ : ∃ x, x = a.getD i 0 := ⟨_, rfl⟩
      have bai : ai < 65536 := by rw [hai]; exact digit_lt hda _
      have HAI : Hid (ai = a.getD i 0) := hai
      clear hai
      go_wp2_with fail
      go_loopw [8, 7] (fun jv cv wr => ∃ j c : Nat, ∃ u : List Nat, j ≤ 5 ∧ jv = .int .i64 (j : Int) ∧ cv = .int .i64 (c : Int) ∧ c ≤ 65535 ∧ Below w.heap.size w wr ∧ wr.heap[w.heap.size]? = some (.cells (ints .i64 u) 3 (0, 0)) ∧ u.length = 15 ∧ (∀ d ∈ u, d < 65536) ∧ (∀ k, i + 5 ≤ k → u.getD k 0 = 0) ∧
          val u + 65536 ^ (i + j) * c = val o + 65536 ^ i * (ai * val (b.take j))) (fun jv _ _ => 5 - (intOf jv).toNat)
      case atStart => exact ⟨0, 0, o, by omega, rfl, rfl, by omega, hB, hr, HOL.out, HOD.out, HOZ.out, by simp [val]⟩
      case round =>
        obtain ⟨j, c, u, hj, rfl, rfl, hc, hBu, hru, hul, hud, huz, huv⟩ := hrel
        have HUV : Hid (val u + 65536 ^ (i + j) * c = val o + 65536 ^ i * (ai * val (b.take j))) := huv
        have HUL : Hid (u.length = 15) := hul
        have HUD : Hid (∀ d ∈ u, d < 65536) := hud
        have HUZ : Hid (∀ k, i + 5 ≤ k → u.getD k 0 = 0) := huz
        clear huv hul hud huz
        by_cases hlt2 : j < 5
        · obtain ⟨bj, hbj⟩ : ∃ x, x = b.getD j 0 := ⟨_, rfl⟩
          obtain ⟨uo, huo⟩ : ∃ x, x = u.getD (i + j) 0 := ⟨_, rfl⟩
          have bbj : bj < 65536 := by rw [hbj]; exact digit_lt hdb _
          have buo : uo < 65536 := by rw [huo]; exact digit_lt HUD.out _
          have k1 : wr.cell? ⟨w.heap.size, i + j, none⟩ = some (.int .i64 (uo : Int)) := by rw [huo]; exact cell_ints hru (i + j) (by rw [HUL.out]; omega)
          have k2 : wr.cell? ⟨ga, i, none⟩ = some (.int .i64 (ai : Int)) := by rw [HAI.out]; exact (hBu.cell (p := ⟨ga, i, none⟩) (block_lt_of_cell (a := ⟨ga, 0, none⟩) (ha 0 (by omega)))).trans (ha i hlt)
          have k3 : wr.cell? ⟨gb, j, none⟩ = some (.int .i64 (bj : Int)) := by rw [hbj]; exact (hBu.cell (p := ⟨gb, j, none⟩) (block_lt_of_cell (a := ⟨gb, 0, none⟩) (hb 0 (by omega)))).trans (hb j hlt2)
          have f1 := free_ints hru (i + j)
          obtain ⟨m, hm⟩ : ∃ x, x = ai * bj := ⟨_, rfl⟩
          have bm : m ≤ 65535 * 65535 := by rw [hm]; exact Nat.mul_le_mul (by omega) (by omega)
          have hmI : (ai : Int) * (bj : Int) = (m : Int) := by rw [hm]; simp
          obtain ⟨v, hv⟩ : ∃ x, x = uo + m + c := ⟨_, rfl⟩
          have hvI : (uo : Int) + (m : Int) + (c : Int) = (v : Int) := by rw [hv]; simp
          have bv : v < 4294967296 := by omega
          have HN : Hid (∀ n, Below w.heap.size w ((wr.drewN n).setCell ⟨w.heap.size, i + j, none⟩ (.int .i64 ((v : Int) % 65536))) ∧ ((wr.drewN n).setCell ⟨w.heap.size, i + j, none⟩ (.int .i64 ((v : Int) % 65536))).heap[w.heap.size]? = some (.cells (ints .i64 (u.set (i + j) (v % 65536))) 3 (0, 0))) := fun n => by
            have h : ((v : Int) % 65536) = ((v % 65536 : Nat) : Int) := by omega
            rw [h]
            exact ⟨(below_drewN hBu n).setCell (Nat.le_refl _) _, set_ints (w := wr.drewN n) hru _ _⟩
          have HV : Hid (val (u.set (i + j) (v % 65536)) + 65536 ^ (i + (j + 1)) * (v / 65536) = val o + 65536 ^ i * (ai * val (b.take (j + 1)))) := by
            refine mul_step (u := u) (c := c) (by rw [HUL.out]; omega) huo ?_ HUV.out (by rw [HLB.out]; omega)
            rw [hv, hm, hbj]
          have HZ : Hid (∀ k, i + 5 ≤ k → (u.set (i + j) (v % 65536)).getD k 0 = 0) := fun k hk => by
            rw [List.getD_eq_getElem?_getD, List.getElem?_set_ne (by omega), ← List.getD_eq_getElem?_getD]; exact HUZ.out k hk
          have HD : Hid (∀ d ∈ u.set (i + j) (v % 65536), d < 65536) := fun d hd => by
            rcases List.mem_or_eq_of_mem_set hd with h | h
            · exact HUD.out d h
            · rw [h]; exact Nat.mod_lt _ (by decide)
          clear hv hm huo hbj hru hBu
          go_wp2_with fail
          go_quiet (fail)
          go_wp2_with fail
          go_roundw
          case rel => exact ⟨j + 1, v / 65536, u.set (i + j) (v % 65536), by omega, by go_num, by go_num, by omega, (HN.out _).1, (HN.out _).2, by rw [List.length_set]; exact HUL.out, HD.out, HZ.out, HV.out⟩
          case measure => simp [intOf]; omega
        · obtain rfl : j = 5 := by omega
          have k1 : wr.cell? ⟨w.heap.size, i + 5, none⟩ = some (.int .i64 (0 : Int)) := by
            have := cell_ints hru (i + 5) (by rw [HUL.out]; omega)
            rw [HUZ.out _ (Nat.le_refl _)] at this; exact this
          have f1 := free_ints hru (i + 5)
          have HN : Hid (Below w.heap.size w (wr.setCell ⟨w.heap.size, i + 5, none⟩ (.int .i64 (c : Int))) ∧ (wr.setCell ⟨w.heap.size, i + 5, none⟩ (.int .i64 (c : Int))).heap[w.heap.size]? = some (.cells (ints .i64 (u.set (i + 5) c)) 3 (0, 0))) :=
            ⟨hBu.setCell (Nat.le_refl _) _, set_ints hru _ _⟩
          have HV : Hid (val (u.set (i + 5) c) = val (a.take (i + 1)) * val b) := by
            show val (u.set (i + 5) c) = val (a.take (i + 1)) * val b
            have h1 := val_set u (i + 5) c (by rw [HUL.out]; omega)
            rw [HUZ.out _ (Nat.le_refl _)] at h1
            have h2 := HUV.out
            rw [List.take_of_length_le (by rw [HLB.out]; omega)] at h2
            rw [val_take a i (by rw [HLA.out]; omega), ← HAI.out, Nat.add_mul, ← HO.out, Nat.mul_assoc]
            omega
          have HZ : Hid (∀ k, i + 1 + 5 ≤ k → (u.set (i + 5) c).getD k 0 = 0) := fun k hk => by
            rw [List.getD_eq_getElem?_getD, List.getElem?_set_ne (by omega), ← List.getD_eq_getElem?_getD]; exact HUZ.out k (by omega)
          have HD : Hid (∀ d ∈ u.set (i + 5) c, d < 65536) := fun d hd => by
            rcases List.mem_or_eq_of_mem_set hd with h | h
            · exact HUD.out d h
            · rw [h]; omega
          clear hru hBu
          go_wp2_with fail
          go_roundw
          case rel => exact ⟨i + 1, u.set (i + 5) c, by omega, by go_num, HN.out.1, HN.out.2, by rw [List.length_set]; exact HUL.out, HD.out, HZ.out, HV.out⟩
          case measure => simp [intOf]; omega
    · obtain rfl : i = 10 := by omega
      go_wp2_with fail
      go_ret
      exact ⟨_, rfl, w.heap.size, o, rfl, hB, hr, HOL.out, HOD.out, by have := HO.out; rwa [List.take_of_length_le (by rw [HLA.out]; omega)] at this⟩
end Go.Proofs.YtomfnkbghlpkeaaDoor
