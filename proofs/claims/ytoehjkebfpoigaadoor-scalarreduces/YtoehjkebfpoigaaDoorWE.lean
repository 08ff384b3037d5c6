/-
  The walk of read.
-/
import Derived.Test.YtoehjkebfpoigaaDoorWD
set_option linter.unusedVariables false
namespace Go.Proofs.YtoehjkebfpoigaaDoor
open Go.RowKit Go.Sort Go.BigFrame
set_option maxRecDepth 100000
set_option maxHeartbeats 2000000
theorem pow28 (a s k : Nat) (h : 28 * a + s = 8 * k) : (268435456 : Int) ^ a * 2 ^ s = ((256 ^ k : Nat) : Int) := by
  have : 268435456 ^ a * 2 ^ s = 256 ^ k := by
    rw [show (268435456 : Nat) = 2 ^ 28 from rfl, ← Nat.pow_mul, ← Nat.pow_add, pow256, h]
  rw [← this]; simp
theorem read20 (g : Nat) (a : Option Addr) (len cap : Nat) (bs : List Nat) (most n : Nat) (w0 w : World) (hn : (n = len ∧ len ≤ most) ∨ (n = most ∧ most < len)) (hlen : Hid (bs.length = len)) (hcap : len ≤ cap) (hcap2 : cap ≤ 9223372036854775807) (hm : most ≤ 64) (hd : Dig bs) (hv : View w0 a bs) (hB : Below w0.heap.size w0 w) (hgB : w0.heap.size ≤ g)
    (hg : w.heap[g]? = some (.cells (zints (List.replicate 19 0)) 35 (0, 0))) :
    Calls Tryd.prog 20 #[.pointer (some ⟨g, 0, none⟩), .slice a len cap, .int .i64 most] w fun e w' => e = .returned (.tuple #[]) ∧ WRow w w' g (row 18 ((valD (bs.take most) : Nat) : Int)) := by
  have hR0 : WRow w w g (List.replicate 19 0) := ⟨Frm.refl _ _, hg⟩
  clear hg
  have hnl : n ≤ len ∧ n ≤ 64 := by omega
  have HT : Hid (bs.take most = bs.take n) := by
    show _ = _
    rcases hn with ⟨h1, h2⟩ | ⟨h1, h2⟩
    · rw [List.take_of_length_le (by rw [hlen.out]; exact h2), List.take_of_length_le (by rw [hlen.out]; omega)]
    · rw [h1]
  rw [HT.out]
  clear HT
  have hmin : min (len : Int) (most : Int) = (n : Int) := by omega
  have key : ∀ wr : World, ∀ k : Nat, k < n → Frm g w wr → ∃ gb off c, a = some ⟨gb, off, none⟩ ∧ c < 256 ∧ c = bs.getD k 0 ∧ gb ≠ g ∧ wr.cell? ⟨gb, off + k, none⟩ = some (.int .u8 ((c : Nat) : Int)) := fun wr k hk hf => by
    obtain ⟨gb, off, rfl, hc⟩ := hv (by rw [hlen.out]; omega)
    have h1 := hc k (by rw [hlen.out]; omega)
    have hlt := block_lt_of_cell h1
    have h2 : Below w0.heap.size w0 wr := hf.below hB hgB
    refine ⟨gb, off, bs.getD k 0, rfl, hd k, rfl, by simp at hlt; omega, ?_⟩
    exact (h2.cell (p := ⟨gb, off + k, none⟩) hlt).trans h1
  clear hv hB hgB hd
  rcases hn with ⟨rfl, hn⟩ | ⟨rfl, hn⟩
  all_goals
    go_enter Tryd.func20, Tryd.ntmps20
    go_wp2_with fail
    go_loopw [11] (fun i wr => ∃ k : Nat, k ≤ n ∧ i = .int .i64 k ∧ ∃ l' : List Int, l'.length = 19 ∧ (∀ j, 0 ≤ l'.getD j 0 ∧ l'.getD j 0 ≤ 4278190080 * (k : Int)) ∧ valW l' = ((valD (bs.take k) : Nat) : Int) ∧ WRow w wr g l') (fun i _ => n - (intOf i).toNat)
    case atStart => exact ⟨0, by omega, rfl, List.replicate 19 0, by simp, fun j => by rw [List.getD_eq_getElem?_getD, List.getElem?_replicate]; split <;> simp, by rw [valW_rep]; rfl, hR0⟩
    case round =>
      obtain ⟨k, hk, rfl, l', hl', hb', hv', hR⟩ := hrel
      clear hR0 hmin
      by_cases hlt : k < n
      · obtain ⟨gb, off, c, rfl, hcl, hcc, hne, c2⟩ := key wr k hlt hR.1
        obtain ⟨at', hat⟩ : ∃ t, t = 8 * k / 28 := ⟨_, rfl⟩
        obtain ⟨s, hs⟩ : ∃ t, t = 8 * k % 28 := ⟨_, rfl⟩
        have iat : 8 * (k : Int) / 28 = (at' : Int) := by omega
        have ish : 8 * (k : Int) % 28 = (s : Int) := by omega
        have hat18 : at' ≤ 18 := by omega
        have hs24 : s ≤ 24 := by omega
        have c1 := hR.at at' (by omega)
        have f1 := hR.free at'
        have hbx := hb' at'
        obtain ⟨x, hx⟩ : ∃ x, x = l'.getD at' 0 := ⟨_, rfl⟩
        rw [← hx] at c1 hbx
        have hcs : 0 ≤ (c : Int) * 2 ^ s ∧ (c : Int) * 2 ^ s ≤ 4278190080 := by
          have hp : 2 ^ s ≤ 2 ^ 24 := Nat.pow_le_pow_right (by decide) hs24
          have hy : c * 2 ^ s ≤ 255 * 2 ^ 24 := Nat.mul_le_mul (by omega) hp
          have e2 : ((c : Int) * 2 ^ s) = ((c * 2 ^ s : Nat) : Int) := by simp
          rw [e2]; omega
        have HN : Hid (∃ l2 : List Int, l2.length = 19 ∧ (∀ j, 0 ≤ l2.getD j 0 ∧ l2.getD j 0 ≤ 4278190080 * ((k + 1 : Nat) : Int)) ∧ valW l2 = ((valD (bs.take (k + 1)) : Nat) : Int) ∧ WRow w (wr.setCell ⟨g, at', none⟩ (.int .i64 (x + (c : Int) * 2 ^ s))).drew g l2) := by
          refine ⟨_, by rw [List.length_set]; exact hl', fun j => ?_, ?_, (hR.set at' (x + (c : Int) * 2 ^ s)).drew⟩
          · have := hb' j
            rw [set_getD]
            split <;> omega
          · rw [valW_set _ _ _ (by omega), hv', ← hx, show x + (c : Int) * 2 ^ s - x = 2 ^ s * (c : Int) by rw [Int.mul_comm]; omega, ← Int.mul_assoc, pow28 at' s k (by omega), valD_take_succ, ← hcc]
            simp
        have hbx2 : x ≤ 300000000000 := by omega
        clear hx hcc hb' hv' hR hl' key hat hs
        go_wp2_with fail
        go_big_region
        go_wp2
        go_roundw
        case rel => exact ⟨k + 1, by omega, by go_num, HN.out⟩
        case measure => simp [intOf]; omega
      · obtain rfl : k = n := by omega
        have hc := settle30 g 18 l' wr hl' (by omega) (fun j => by have := hb' j; omega) hR.2
        rw [stl18 hl', hv'] at hc
        have hF := hR.1
        clear hb' hv' hR hl' key
        go_wp2_with fail
        refine hc.mono ?_
        rintro e w1 ⟨rfl, hR1⟩
        go_wp2
        go_end0
        exact ⟨rfl, hF.trans hR1.1, hR1.2⟩
end Go.Proofs.YtoehjkebfpoigaaDoor
