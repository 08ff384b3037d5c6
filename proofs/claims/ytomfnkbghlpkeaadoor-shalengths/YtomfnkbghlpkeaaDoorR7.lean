/-
  The walk of the reference's Root.
-/
import Derived.Test.YtomfnkbghlpkeaaDoorRM4
import Derived.Test.YtomfnkbghlpkeaaDoorR6
set_option linter.unusedVariables false
namespace Go.Proofs.YtomfnkbghlpkeaaDoor
open Go.RowKit Go.Sort Go.BigFrame
set_option maxRecDepth 100000
set_option maxHeartbeats 600000
def zi5 : List Nat := List.replicate 5 0

def zi9 : List Nat := List.replicate 9 0
theorem root2 (p : Nat) (w : World) (hp : p < 512) :
    Calls Tryd.prog 27 #[.int .i64 (p : Int), .int .i64 2] w fun e w' => ∃ X, e = .returned (.int .u64 ((X % 18446744073709551616 : Nat) : Int)) ∧ X ^ 2 ≤ p * 2 ^ 128 ∧ p * 2 ^ 128 < (X + 1) ^ 2 ∧ Below w.heap.size w w' := by
  have hmk : ∀ w, (Instr.makeSlice 34 (.int .i64 9) (.int .i64 9)).run Tryd.prog w = .ok (.slice (some ⟨w.heap.size, 0, none⟩) 9 9) (w.alloc (.cells (ints .i64 zi9) 3)) := fun _ => by kernel_rfl
  have hmk5 : ∀ w, (Instr.makeSlice 34 (.int .i64 5) (.int .i64 5)).run Tryd.prog w = .ok (.slice (some ⟨w.heap.size, 0, none⟩) 5 5) (w.alloc (.cells (ints .i64 zi5) 3)) := fun _ => by kernel_rfl
  obtain ⟨tg, htg⟩ : ∃ x, x = zi9.set 8 p := ⟨_, rfl⟩
  have htl : tg.length = 9 := by rw [htg]; rfl
  have htd : ∀ d ∈ tg, d < 65536 := fun d hd => by
    rw [htg] at hd
    rcases List.mem_or_eq_of_mem_set hd with h | h
    · rw [List.eq_of_mem_replicate h]; decide
    · omega
  have htv : val tg = p * 2 ^ 128 := by
    have h := val_add zi9 8 p (by decide)
    rw [show zi9.getD 8 0 = 0 from rfl, Nat.zero_add, ← htg, show val zi9 = 0 from val_zero 9, Nat.zero_add] at h
    rw [h, Nat.mul_comm, show (65536 : Nat) ^ 8 = 2 ^ 128 by decide]
  have HTG : Hid (tg = zi9.set 8 p) := htg
  have HTV : Hid (val tg = p * 2 ^ 128) := htv
  clear htg htv
  have hst : (ints .i64 zi9).setIfInBounds 8 (.int .i64 (p : Int)) = ints .i64 tg := by rw [HTG.out]; exact ints_set .i64 zi9 8 p
  have HST : Hid ((ints .i64 zi9).setIfInBounds 8 (.int .i64 (p : Int)) = ints .i64 tg) := hst
  clear hst
  have k0 : (w.alloc (.cells (ints .i64 zi9) 3)).cell? ⟨w.heap.size, 8, none⟩ = some (.int .i64 0) := cell_ints (heap_alloc_new _ _) 8 (by decide)
  have f0 := free_ints (heap_alloc_new w (.cells (ints .i64 zi9) 3)) 8
  go_enter Tryd.func27, Tryd.ntmps27
  go_wp2_with fail
  clear k0 f0
  rw [HST.out]
  go_loopw [7] (fun bv wr => ∃ m : Nat, ∃ xs : List Nat, m ≤ 69 ∧ bv = .int .i64 ((m : Int) - 1) ∧ Below w.heap.size w wr ∧ wr.heap[w.heap.size]? = some (.cells (ints .i64 tg) 3 (0, 0)) ∧ wr.heap[w.heap.size + 1]? = some (.cells (ints .i64 xs) 3 (0, 0)) ∧ xs.length = 5 ∧ (∀ d ∈ xs, d < 65536) ∧
      2 ^ m ∣ val xs ∧ val xs ^ 2 ≤ val tg ∧ val tg < (val xs + 2 ^ m) ^ 2) (fun bv _ => (intOf bv + 1).toNat)
  case atStart =>
    refine ⟨69, zi5, by omega, rfl, below2 _ _ _, heap_alloc2_old _ _ _, heap_alloc2_new _ _ _, rfl, fun d hd => by rw [List.eq_of_mem_replicate hd]; decide, ?_, ?_, ?_⟩
    · rw [show val zi5 = 0 from val_zero 5]; exact Nat.dvd_zero _
    · rw [show val zi5 = 0 from val_zero 5]; exact Nat.zero_le _
    · rw [show val zi5 = 0 from val_zero 5, HTV.out, Nat.zero_add]
      have h1 : p * 2 ^ 128 < 512 * 2 ^ 128 := Nat.mul_lt_mul_of_pos_right hp (by decide)
      exact Nat.lt_of_lt_of_le h1 (by decide)
  case round =>
    obtain ⟨m, xs, hm, rfl, hB, hrt, hrx, hxl, hxd, hdv, hlo, hhi⟩ := hrel
    have HXL : Hid (xs.length = 5) := hxl
    have HXD : Hid (∀ d ∈ xs, d < 65536) := hxd
    have HDV : Hid (2 ^ m ∣ val xs) := hdv
    have HLO : Hid (val xs ^ 2 ≤ val tg) := hlo
    have HHI : Hid (val tg < (val xs + 2 ^ m) ^ 2) := hhi
    clear hxl hxd hdv hlo hhi
    by_cases hlt : 0 < m
    · obtain ⟨b, rfl⟩ : ∃ b, m = b + 1 := ⟨m - 1, by omega⟩
      have e0 : ((b + 1 : Nat) : Int) - 1 = (b : Int) := by omega
      rw [e0]
      clear e0
      go_wp2_with fail
      go_loop [9, 8] (fun iv dv => ∃ i : Nat, i ≤ b % 16 ∧ iv = .int .i64 (i : Int) ∧ dv = .int .i64 ((2 ^ i : Nat) : Int)) (fun iv _ => b % 16 - (intOf iv).toNat)
      case atStart => exact ⟨0, by omega, rfl, rfl⟩
      case round =>
        obtain ⟨i, hi, rfl, rfl⟩ := hrel
        have hb16 : b % 16 < 16 := Nat.mod_lt _ (by decide)
        by_cases hlt2 : i < b % 16
        · have hpi : 2 ^ i ≤ 2 ^ 15 := Nat.pow_le_pow_right (by decide) (by omega)
          obtain ⟨y, hy⟩ : ∃ y, y = 2 ^ i := ⟨_, rfl⟩
          have HY : Hid (2 ^ (i + 1) = 2 * y) := by rw [hy]; show 2 ^ (i + 1) = 2 * 2 ^ i; rw [Nat.pow_succ, Nat.mul_comm]
          rw [← hy] at hpi ⊢
          have hpi' : y ≤ 32768 := hpi
          clear hy hpi
          go_wp2_with fail
          go_round
          case rel => exact ⟨i + 1, by omega, by go_num, by rw [HY.out]; go_num⟩
          case measure => simp [intOf]; omega
        · obtain rfl : i = b % 16 := by omega
          obtain ⟨q, hq⟩ : ∃ q, q = b / 16 := ⟨_, rfl⟩
          obtain ⟨pd, hpd⟩ : ∃ y, y = 2 ^ (b % 16) := ⟨_, rfl⟩
          obtain ⟨dg, hdg⟩ : ∃ y, y = xs.getD q 0 := ⟨_, rfl⟩
          have hq5 : q < 5 := by omega
          have hroom : dg + pd < 65536 := by
            rw [hdg, hpd, val_digit xs HXD.out]
            refine digit_room _ q (b % 16) hb16 ?_
            have e : 16 * q + b % 16 + 1 = b + 1 := by omega
            rw [e]; exact HDV.out
          have kx : wr.cell? ⟨w.heap.size + 1, b / 16, none⟩ = some (.int .i64 (dg : Int)) := by rw [hdg, hq]; exact cell_ints hrx (b / 16) (by rw [HXL.out]; omega)
          have fx := free_ints hrx (b / 16)
          obtain ⟨ys, hys⟩ : ∃ y, y = xs.set q (dg + pd) := ⟨_, rfl⟩
          have hrw : (wr.setCell ⟨w.heap.size + 1, b / 16, none⟩ (.int .i64 ((dg + pd : Nat) : Int))).heap[w.heap.size + 1]? = some (.cells (ints .i64 ys) 3 (0, 0)) := by rw [hys, hq]; exact set_ints hrx _ _
          have hrtw : (wr.setCell ⟨w.heap.size + 1, b / 16, none⟩ (.int .i64 ((dg + pd : Nat) : Int))).heap[w.heap.size]? = some (.cells (ints .i64 tg) 3 (0, 0)) := by rw [heap_setCell_other _ _ _ _ (by simp)]; exact hrt
          have hBw : Below w.heap.size w (wr.setCell ⟨w.heap.size + 1, b / 16, none⟩ (.int .i64 ((dg + pd : Nat) : Int))) := hB.setCell (by simp) _
          obtain ⟨W1, hW1⟩ : ∃ W1, W1 = wr.setCell ⟨w.heap.size + 1, b / 16, none⟩ (.int .i64 ((dg + pd : Nat) : Int)) := ⟨_, rfl⟩
          rw [← hW1] at hrw hrtw hBw
          have hyl : ys.length = 5 := by rw [hys, List.length_set]; exact HXL.out
          have hyd : ∀ d ∈ ys, d < 65536 := fun d hd => by
            rw [hys] at hd
            rcases List.mem_or_eq_of_mem_set hd with h | h
            · exact HXD.out d h
            · omega
          have hyv : val ys = val xs + 2 ^ b := by rw [hys, hdg, val_add xs q pd (by rw [HXL.out]; omega), hpd, hq, pow_place]
          have HYV : Hid (val ys = val xs + 2 ^ b) := hyv
          have hback : ys.set (b / 16) dg = xs := by
            rw [hys, hq, List.set_set, hdg, hq, List.getD_eq_getElem?_getD, List.getElem?_eq_getElem (by rw [HXL.out]; omega)]
            simp
          have HBK : Hid (ys.set (b / 16) dg = xs) := hback
          have kyv : ys.getD (b / 16) 0 = dg + pd := by rw [hys, hq, List.getD_eq_getElem?_getD, List.getElem?_set_self (by rw [HXL.out]; omega)]; rfl
          have HKY : Hid (ys.getD (b / 16) 0 = dg + pd) := kyv
          have HYL : Hid (ys.length = 5) := hyl
          clear hq hdg hys hyv hback kyv hrx hrt hB
          rw [← hpd]
          clear hpd
          have hgo : wr.setCell ⟨w.heap.size + 1, b / 16, none⟩ (.int .i64 ((dg : Int) + (pd : Int))) = W1 := by rw [hW1]; rfl
          clear hW1
          have HGO : Hid (wr.setCell ⟨w.heap.size + 1, b / 16, none⟩ (.int .i64 ((dg : Int) + (pd : Int))) = W1) := hgo
          clear hgo
          go_wp2_with fail
          rw [HGO.out]
          clear kx fx HGO
          have hyI : ∀ w', Below W1.heap.size W1 w' → Ints w' (w.heap.size + 1) 5 ys := fun w' hb => Ints.on (by have := ints_row hrw; rwa [HYL.out] at this) hb
          have htI : ∀ w', Below W1.heap.size W1 w' → Ints w' w.heap.size 9 tg := fun w' hb => Ints.on (by have := ints_row hrtw; rwa [htl] at this) hb
          refine (mul5_5 (w.heap.size + 1) 5 (w.heap.size + 1) 5 ys ys W1 hyl hyl hyd hyd (hyI W1 (Below.refl _ _)) (hyI W1 (Below.refl _ _))).mono ?_
          rintro e w2 ⟨_, rfl, gp, pw, rfl, hb2, hpr, hpl, hpd, hpv⟩
          go_wp2_with fail

          refine (less9_10 w.heap.size 9 gp 10 tg pw w2 htl hpl htd hpd (htI w2 hb2) (by have := ints_row hpr; rwa [hpl] at this)).mono ?_
          rintro e w4 ⟨rfl, rfl⟩
          have hpw : val pw = val ys ^ 2 := by rw [hpv, Nat.pow_two]
          have hBf := hb2

          have hrow := block_below hBf (lt_of_heap hrw) hrw
          have hrtf := block_below hBf (lt_of_heap hrtw) hrtw
          have hBg : Below w.heap.size w w4 := hBw.trans (hBf.mono hBw.size)
          have HPW : Hid (val pw = val ys ^ 2) := hpw
          clear hpw hrw hrtw hBw hyI htI hBf hb2 hpr hpl hpd hpv
          have hdvb : 2 ^ b ∣ val xs := Nat.dvd_trans ⟨2, by rw [Nat.pow_succ]⟩ HDV.out
          have HDB : Hid (2 ^ b ∣ val xs) := hdvb
          clear hdvb
          by_cases hmore : val tg < val pw
          · have hdc : decide (val tg < val pw) = true := decide_eq_true hmore
            rw [hdc]
            have HMO : Hid (val tg < val pw) := hmore
            clear hdc hmore
            have kq : w4.cell? ⟨w.heap.size + 1, b / 16, none⟩ = some (.int .i64 ((dg : Int) + (pd : Int))) := by
              have := cell_ints hrow (b / 16) (by rw [HYL.out]; omega)
              rw [HKY.out] at this; exact this
            have fq := free_ints hrow (b / 16)
            have hset := set_ints hrow (b / 16) dg
            rw [HBK.out] at hset
            have hsett : (w4.setCell ⟨w.heap.size + 1, b / 16, none⟩ (.int .i64 (dg : Int))).heap[w.heap.size]? = some (.cells (ints .i64 tg) 3 (0, 0)) := by rw [heap_setCell_other _ _ _ _ (by simp)]; exact hrtf
            have hBs : Below w.heap.size w (w4.setCell ⟨w.heap.size + 1, b / 16, none⟩ (.int .i64 (dg : Int))) := hBg.setCell (by simp) _
            have hnew : val tg < (val xs + 2 ^ b) ^ 2 := by rw [← HYV.out, ← HPW.out]; exact HMO.out
            have HNEW : Hid (val tg < (val xs + 2 ^ b) ^ 2) := hnew
            clear hnew hrow hrtf hBg
            go_wp2_with fail
            go_roundw
            case rel => first | exact ⟨b, xs, by omega, by go_num, hBs, hsett, hset, HXL.out, HXD.out, HDB.out, HLO.out, HNEW.out⟩ | ((repeat apply Exists.intro); exact ⟨⟨b, xs, by omega, by go_num, hBs, hsett, hset, HXL.out, HXD.out, HDB.out, HLO.out, HNEW.out⟩, rfl⟩)
            case measure => simp [intOf]
          · have hdc : decide (val tg < val pw) = false := decide_eq_false hmore
            rw [hdc]
            have hle : val ys ^ 2 ≤ val tg := by rw [← HPW.out]; omega
            have HLE : Hid (val ys ^ 2 ≤ val tg) := hle
            have HUP : Hid (val tg < (val ys + 2 ^ b) ^ 2) := by
              show val tg < (val ys + 2 ^ b) ^ 2
              rw [HYV.out, Nat.add_assoc, show 2 ^ b + 2 ^ b = 2 ^ (b + 1) by rw [Nat.pow_succ]; omega]
              exact HHI.out
            have HDY : Hid (2 ^ b ∣ val ys) := by
              show 2 ^ b ∣ val ys
              rw [HYV.out]; exact Nat.dvd_add HDB.out (Nat.dvd_refl _)
            clear hdc hmore hle
            go_wp2_with fail
            go_roundw
            case rel => first | exact ⟨b, ys, by omega, by go_num, hBg, hrtf, hrow, hyl, hyd, HDY.out, HLE.out, HUP.out⟩ | ((repeat apply Exists.intro); exact ⟨⟨b, ys, by omega, by go_num, hBg, hrtf, hrow, hyl, hyd, HDY.out, HLE.out, HUP.out⟩, rfl⟩)
            case measure => simp [intOf]
    · obtain rfl : m = 0 := by omega
      rw [show ((0 : Nat) : Int) - 1 = -1 from rfl]
      obtain ⟨d0, e0⟩ : ∃ x, x = xs.getD 0 0 := ⟨_, rfl⟩
      obtain ⟨d1, e1⟩ : ∃ x, x = xs.getD 1 0 := ⟨_, rfl⟩
      obtain ⟨d2, e2⟩ : ∃ x, x = xs.getD 2 0 := ⟨_, rfl⟩
      obtain ⟨d3, e3⟩ : ∃ x, x = xs.getD 3 0 := ⟨_, rfl⟩
      have b0 : d0 < 65536 := by rw [e0]; exact digit_lt HXD.out 0
      have b1 : d1 < 65536 := by rw [e1]; exact digit_lt HXD.out 1
      have b2 : d2 < 65536 := by rw [e2]; exact digit_lt HXD.out 2
      have b3 : d3 < 65536 := by rw [e3]; exact digit_lt HXD.out 3
      have k0 : wr.cell? ⟨w.heap.size + 1, 0, none⟩ = some (.int .i64 (d0 : Int)) := by rw [e0]; exact cell_ints hrx 0 (by rw [HXL.out]; decide)
      have k1 : wr.cell? ⟨w.heap.size + 1, 1, none⟩ = some (.int .i64 (d1 : Int)) := by rw [e1]; exact cell_ints hrx 1 (by rw [HXL.out]; decide)
      have k2 : wr.cell? ⟨w.heap.size + 1, 2, none⟩ = some (.int .i64 (d2 : Int)) := by rw [e2]; exact cell_ints hrx 2 (by rw [HXL.out]; decide)
      have k3 : wr.cell? ⟨w.heap.size + 1, 3, none⟩ = some (.int .i64 (d3 : Int)) := by rw [e3]; exact cell_ints hrx 3 (by rw [HXL.out]; decide)
      have HV : Hid (val xs % 18446744073709551616 = d0 + 65536 * d1 + 4294967296 * d2 + 281474976710656 * d3) := by
        show val xs % 18446744073709551616 = d0 + 65536 * d1 + 4294967296 * d2 + 281474976710656 * d3
        rw [val5 xs HXL.out, ← e0, ← e1, ← e2, ← e3]; omega
      have hlo2 := HLO.out
      have hhi2 := HHI.out
      rw [HTV.out] at hlo2 hhi2
      have HL2 : Hid (val xs ^ 2 ≤ p * 2 ^ 128) := hlo2
      have HH2 : Hid (p * 2 ^ 128 < (val xs + 2 ^ 0) ^ 2) := hhi2
      clear e0 e1 e2 e3 hlo2 hhi2 hrx hrt
      go_wp2_with fail
      go_quiet (fail)
      go_wp2_with fail
      go_ret
      exact ⟨val xs, by rw [HV.out]; go_num, HL2.out, HH2.out, below_drewN hB _⟩

def zi13 : List Nat := List.replicate 13 0
theorem root3 (p : Nat) (w : World) (hp : p < 512) :
    Calls Tryd.prog 27 #[.int .i64 (p : Int), .int .i64 3] w fun e w' => ∃ X, e = .returned (.int .u64 ((X % 18446744073709551616 : Nat) : Int)) ∧ X ^ 3 ≤ p * 2 ^ 192 ∧ p * 2 ^ 192 < (X + 1) ^ 3 ∧ Below w.heap.size w w' := by
  have hmk : ∀ w, (Instr.makeSlice 34 (.int .i64 13) (.int .i64 13)).run Tryd.prog w = .ok (.slice (some ⟨w.heap.size, 0, none⟩) 13 13) (w.alloc (.cells (ints .i64 zi13) 3)) := fun _ => by kernel_rfl
  have hmk5 : ∀ w, (Instr.makeSlice 34 (.int .i64 5) (.int .i64 5)).run Tryd.prog w = .ok (.slice (some ⟨w.heap.size, 0, none⟩) 5 5) (w.alloc (.cells (ints .i64 zi5) 3)) := fun _ => by kernel_rfl
  obtain ⟨tg, htg⟩ : ∃ x, x = zi13.set 12 p := ⟨_, rfl⟩
  have htl : tg.length = 13 := by rw [htg]; rfl
  have htd : ∀ d ∈ tg, d < 65536 := fun d hd => by
    rw [htg] at hd
    rcases List.mem_or_eq_of_mem_set hd with h | h
    · rw [List.eq_of_mem_replicate h]; decide
    · omega
  have htv : val tg = p * 2 ^ 192 := by
    have h := val_add zi13 12 p (by decide)
    rw [show zi13.getD 12 0 = 0 from rfl, Nat.zero_add, ← htg, show val zi13 = 0 from val_zero 13, Nat.zero_add] at h
    rw [h, Nat.mul_comm, show (65536 : Nat) ^ 12 = 2 ^ 192 by decide]
  have HTG : Hid (tg = zi13.set 12 p) := htg
  have HTV : Hid (val tg = p * 2 ^ 192) := htv
  clear htg htv
  have hst : (ints .i64 zi13).setIfInBounds 12 (.int .i64 (p : Int)) = ints .i64 tg := by rw [HTG.out]; exact ints_set .i64 zi13 12 p
  have HST : Hid ((ints .i64 zi13).setIfInBounds 12 (.int .i64 (p : Int)) = ints .i64 tg) := hst
  clear hst
  have k0 : (w.alloc (.cells (ints .i64 zi13) 3)).cell? ⟨w.heap.size, 12, none⟩ = some (.int .i64 0) := cell_ints (heap_alloc_new _ _) 12 (by decide)
  have f0 := free_ints (heap_alloc_new w (.cells (ints .i64 zi13) 3)) 12
  go_enter Tryd.func27, Tryd.ntmps27
  go_wp2_with fail
  clear k0 f0
  rw [HST.out]
  go_loopw [7] (fun bv wr => ∃ m : Nat, ∃ xs : List Nat, m ≤ 69 ∧ bv = .int .i64 ((m : Int) - 1) ∧ Below w.heap.size w wr ∧ wr.heap[w.heap.size]? = some (.cells (ints .i64 tg) 3 (0, 0)) ∧ wr.heap[w.heap.size + 1]? = some (.cells (ints .i64 xs) 3 (0, 0)) ∧ xs.length = 5 ∧ (∀ d ∈ xs, d < 65536) ∧
      2 ^ m ∣ val xs ∧ val xs ^ 3 ≤ val tg ∧ val tg < (val xs + 2 ^ m) ^ 3) (fun bv _ => (intOf bv + 1).toNat)
  case atStart =>
    refine ⟨69, zi5, by omega, rfl, below2 _ _ _, heap_alloc2_old _ _ _, heap_alloc2_new _ _ _, rfl, fun d hd => by rw [List.eq_of_mem_replicate hd]; decide, ?_, ?_, ?_⟩
    · rw [show val zi5 = 0 from val_zero 5]; exact Nat.dvd_zero _
    · rw [show val zi5 = 0 from val_zero 5]; exact Nat.zero_le _
    · rw [show val zi5 = 0 from val_zero 5, HTV.out, Nat.zero_add]
      have h1 : p * 2 ^ 192 < 512 * 2 ^ 192 := Nat.mul_lt_mul_of_pos_right hp (by decide)
      exact Nat.lt_of_lt_of_le h1 (by decide)
  case round =>
    obtain ⟨m, xs, hm, rfl, hB, hrt, hrx, hxl, hxd, hdv, hlo, hhi⟩ := hrel
    have HXL : Hid (xs.length = 5) := hxl
    have HXD : Hid (∀ d ∈ xs, d < 65536) := hxd
    have HDV : Hid (2 ^ m ∣ val xs) := hdv
    have HLO : Hid (val xs ^ 3 ≤ val tg) := hlo
    have HHI : Hid (val tg < (val xs + 2 ^ m) ^ 3) := hhi
    clear hxl hxd hdv hlo hhi
    by_cases hlt : 0 < m
    · obtain ⟨b, rfl⟩ : ∃ b, m = b + 1 := ⟨m - 1, by omega⟩
      have e0 : ((b + 1 : Nat) : Int) - 1 = (b : Int) := by omega
      rw [e0]
      clear e0
      go_wp2_with fail
      go_loop [9, 8] (fun iv dv => ∃ i : Nat, i ≤ b % 16 ∧ iv = .int .i64 (i : Int) ∧ dv = .int .i64 ((2 ^ i : Nat) : Int)) (fun iv _ => b % 16 - (intOf iv).toNat)
      case atStart => exact ⟨0, by omega, rfl, rfl⟩
      case round =>
        obtain ⟨i, hi, rfl, rfl⟩ := hrel
        have hb16 : b % 16 < 16 := Nat.mod_lt _ (by decide)
        by_cases hlt2 : i < b % 16
        · have hpi : 2 ^ i ≤ 2 ^ 15 := Nat.pow_le_pow_right (by decide) (by omega)
          obtain ⟨y, hy⟩ : ∃ y, y = 2 ^ i := ⟨_, rfl⟩
          have HY : Hid (2 ^ (i + 1) = 2 * y) := by rw [hy]; show 2 ^ (i + 1) = 2 * 2 ^ i; rw [Nat.pow_succ, Nat.mul_comm]
          rw [← hy] at hpi ⊢
          have hpi' : y ≤ 32768 := hpi
          clear hy hpi
          go_wp2_with fail
          go_round
          case rel => exact ⟨i + 1, by omega, by go_num, by rw [HY.out]; go_num⟩
          case measure => simp [intOf]; omega
        · obtain rfl : i = b % 16 := by omega
          obtain ⟨q, hq⟩ : ∃ q, q = b / 16 := ⟨_, rfl⟩
          obtain ⟨pd, hpd⟩ : ∃ y, y = 2 ^ (b % 16) := ⟨_, rfl⟩
          obtain ⟨dg, hdg⟩ : ∃ y, y = xs.getD q 0 := ⟨_, rfl⟩
          have hq5 : q < 5 := by omega
          have hroom : dg + pd < 65536 := by
            rw [hdg, hpd, val_digit xs HXD.out]
            refine digit_room _ q (b % 16) hb16 ?_
            have e : 16 * q + b % 16 + 1 = b + 1 := by omega
            rw [e]; exact HDV.out
          have kx : wr.cell? ⟨w.heap.size + 1, b / 16, none⟩ = some (.int .i64 (dg : Int)) := by rw [hdg, hq]; exact cell_ints hrx (b / 16) (by rw [HXL.out]; omega)
          have fx := free_ints hrx (b / 16)
          obtain ⟨ys, hys⟩ : ∃ y, y = xs.set q (dg + pd) := ⟨_, rfl⟩
          have hrw : (wr.setCell ⟨w.heap.size + 1, b / 16, none⟩ (.int .i64 ((dg + pd : Nat) : Int))).heap[w.heap.size + 1]? = some (.cells (ints .i64 ys) 3 (0, 0)) := by rw [hys, hq]; exact set_ints hrx _ _
          have hrtw : (wr.setCell ⟨w.heap.size + 1, b / 16, none⟩ (.int .i64 ((dg + pd : Nat) : Int))).heap[w.heap.size]? = some (.cells (ints .i64 tg) 3 (0, 0)) := by rw [heap_setCell_other _ _ _ _ (by simp)]; exact hrt
          have hBw : Below w.heap.size w (wr.setCell ⟨w.heap.size + 1, b / 16, none⟩ (.int .i64 ((dg + pd : Nat) : Int))) := hB.setCell (by simp) _
          obtain ⟨W1, hW1⟩ : ∃ W1, W1 = wr.setCell ⟨w.heap.size + 1, b / 16, none⟩ (.int .i64 ((dg + pd : Nat) : Int)) := ⟨_, rfl⟩
          rw [← hW1] at hrw hrtw hBw
          have hyl : ys.length = 5 := by rw [hys, List.length_set]; exact HXL.out
          have hyd : ∀ d ∈ ys, d < 65536 := fun d hd => by
            rw [hys] at hd
            rcases List.mem_or_eq_of_mem_set hd with h | h
            · exact HXD.out d h
            · omega
          have hyv : val ys = val xs + 2 ^ b := by rw [hys, hdg, val_add xs q pd (by rw [HXL.out]; omega), hpd, hq, pow_place]
          have HYV : Hid (val ys = val xs + 2 ^ b) := hyv
          have hback : ys.set (b / 16) dg = xs := by
            rw [hys, hq, List.set_set, hdg, hq, List.getD_eq_getElem?_getD, List.getElem?_eq_getElem (by rw [HXL.out]; omega)]
            simp
          have HBK : Hid (ys.set (b / 16) dg = xs) := hback
          have kyv : ys.getD (b / 16) 0 = dg + pd := by rw [hys, hq, List.getD_eq_getElem?_getD, List.getElem?_set_self (by rw [HXL.out]; omega)]; rfl
          have HKY : Hid (ys.getD (b / 16) 0 = dg + pd) := kyv
          have HYL : Hid (ys.length = 5) := hyl
          clear hq hdg hys hyv hback kyv hrx hrt hB
          rw [← hpd]
          clear hpd
          have hgo : wr.setCell ⟨w.heap.size + 1, b / 16, none⟩ (.int .i64 ((dg : Int) + (pd : Int))) = W1 := by rw [hW1]; rfl
          clear hW1
          have HGO : Hid (wr.setCell ⟨w.heap.size + 1, b / 16, none⟩ (.int .i64 ((dg : Int) + (pd : Int))) = W1) := hgo
          clear hgo
          go_wp2_with fail
          rw [HGO.out]
          clear kx fx HGO
          have hyI : ∀ w', Below W1.heap.size W1 w' → Ints w' (w.heap.size + 1) 5 ys := fun w' hb => Ints.on (by have := ints_row hrw; rwa [HYL.out] at this) hb
          have htI : ∀ w', Below W1.heap.size W1 w' → Ints w' w.heap.size 13 tg := fun w' hb => Ints.on (by have := ints_row hrtw; rwa [htl] at this) hb
          refine (mul5_5 (w.heap.size + 1) 5 (w.heap.size + 1) 5 ys ys W1 hyl hyl hyd hyd (hyI W1 (Below.refl _ _)) (hyI W1 (Below.refl _ _))).mono ?_
          rintro e w2 ⟨_, rfl, gp, pw, rfl, hb2, hpr, hpl, hpd, hpv⟩
          go_wp2_with fail

          refine (mul10_5 gp 10 (w.heap.size + 1) 5 pw ys w2 hpl hyl hpd hyd (by have := ints_row hpr; rwa [hpl] at this) (hyI w2 hb2)).mono ?_
          rintro e w3 ⟨_, rfl, gp3, pw3, rfl, hb3, hpr3, hpl3, hpd3, hpv3⟩
          have hB3 := hb2.trans (hb3.mono hb2.size)
          go_wp2_with fail
          refine (less13_15 w.heap.size 13 gp3 15 tg pw3 w3 htl hpl3 htd hpd3 (htI w3 hB3) (by have := ints_row hpr3; rwa [hpl3] at this)).mono ?_
          rintro e w4 ⟨rfl, rfl⟩
          have hpw : val pw3 = val ys ^ 3 := by rw [hpv3, hpv, Nat.pow_succ, Nat.pow_two]
          have hBf := hB3

          have hrow := block_below hBf (lt_of_heap hrw) hrw
          have hrtf := block_below hBf (lt_of_heap hrtw) hrtw
          have hBg : Below w.heap.size w w4 := hBw.trans (hBf.mono hBw.size)
          have HPW : Hid (val pw3 = val ys ^ 3) := hpw
          clear hpw hrw hrtw hBw hyI htI hBf hb2 hb3 hpr3 hpl3 hpd3 hpv3 hB3 hpr hpl hpd hpv
          have hdvb : 2 ^ b ∣ val xs := Nat.dvd_trans ⟨2, by rw [Nat.pow_succ]⟩ HDV.out
          have HDB : Hid (2 ^ b ∣ val xs) := hdvb
          clear hdvb
          by_cases hmore : val tg < val pw3
          · have hdc : decide (val tg < val pw3) = true := decide_eq_true hmore
            rw [hdc]
            have HMO : Hid (val tg < val pw3) := hmore
            clear hdc hmore
            have kq : w4.cell? ⟨w.heap.size + 1, b / 16, none⟩ = some (.int .i64 ((dg : Int) + (pd : Int))) := by
              have := cell_ints hrow (b / 16) (by rw [HYL.out]; omega)
              rw [HKY.out] at this; exact this
            have fq := free_ints hrow (b / 16)
            have hset := set_ints hrow (b / 16) dg
            rw [HBK.out] at hset
            have hsett : (w4.setCell ⟨w.heap.size + 1, b / 16, none⟩ (.int .i64 (dg : Int))).heap[w.heap.size]? = some (.cells (ints .i64 tg) 3 (0, 0)) := by rw [heap_setCell_other _ _ _ _ (by simp)]; exact hrtf
            have hBs : Below w.heap.size w (w4.setCell ⟨w.heap.size + 1, b / 16, none⟩ (.int .i64 (dg : Int))) := hBg.setCell (by simp) _
            have hnew : val tg < (val xs + 2 ^ b) ^ 3 := by rw [← HYV.out, ← HPW.out]; exact HMO.out
            have HNEW : Hid (val tg < (val xs + 2 ^ b) ^ 3) := hnew
            clear hnew hrow hrtf hBg
            go_wp2_with fail
            go_roundw
            case rel => first | exact ⟨b, xs, by omega, by go_num, hBs, hsett, hset, HXL.out, HXD.out, HDB.out, HLO.out, HNEW.out⟩ | ((repeat apply Exists.intro); exact ⟨⟨b, xs, by omega, by go_num, hBs, hsett, hset, HXL.out, HXD.out, HDB.out, HLO.out, HNEW.out⟩, rfl⟩)
            case measure => simp [intOf]
          · have hdc : decide (val tg < val pw3) = false := decide_eq_false hmore
            rw [hdc]
            have hle : val ys ^ 3 ≤ val tg := by rw [← HPW.out]; omega
            have HLE : Hid (val ys ^ 3 ≤ val tg) := hle
            have HUP : Hid (val tg < (val ys + 2 ^ b) ^ 3) := by
              show val tg < (val ys + 2 ^ b) ^ 3
              rw [HYV.out, Nat.add_assoc, show 2 ^ b + 2 ^ b = 2 ^ (b + 1) by rw [Nat.pow_succ]; omega]
              exact HHI.out
            have HDY : Hid (2 ^ b ∣ val ys) := by
              show 2 ^ b ∣ val ys
              rw [HYV.out]; exact Nat.dvd_add HDB.out (Nat.dvd_refl _)
            clear hdc hmore hle
            go_wp2_with fail
            go_roundw
            case rel => first | exact ⟨b, ys, by omega, by go_num, hBg, hrtf, hrow, hyl, hyd, HDY.out, HLE.out, HUP.out⟩ | ((repeat apply Exists.intro); exact ⟨⟨b, ys, by omega, by go_num, hBg, hrtf, hrow, hyl, hyd, HDY.out, HLE.out, HUP.out⟩, rfl⟩)
            case measure => simp [intOf]
    · obtain rfl : m = 0 := by omega
      rw [show ((0 : Nat) : Int) - 1 = -1 from rfl]
      obtain ⟨d0, e0⟩ : ∃ x, x = xs.getD 0 0 := ⟨_, rfl⟩
      obtain ⟨d1, e1⟩ : ∃ x, x = xs.getD 1 0 := ⟨_, rfl⟩
      obtain ⟨d2, e2⟩ : ∃ x, x = xs.getD 2 0 := ⟨_, rfl⟩
      obtain ⟨d3, e3⟩ : ∃ x, x = xs.getD 3 0 := ⟨_, rfl⟩
      have b0 : d0 < 65536 := by rw [e0]; exact digit_lt HXD.out 0
      have b1 : d1 < 65536 := by rw [e1]; exact digit_lt HXD.out 1
      have b2 : d2 < 65536 := by rw [e2]; exact digit_lt HXD.out 2
      have b3 : d3 < 65536 := by rw [e3]; exact digit_lt HXD.out 3
      have k0 : wr.cell? ⟨w.heap.size + 1, 0, none⟩ = some (.int .i64 (d0 : Int)) := by rw [e0]; exact cell_ints hrx 0 (by rw [HXL.out]; decide)
      have k1 : wr.cell? ⟨w.heap.size + 1, 1, none⟩ = some (.int .i64 (d1 : Int)) := by rw [e1]; exact cell_ints hrx 1 (by rw [HXL.out]; decide)
      have k2 : wr.cell? ⟨w.heap.size + 1, 2, none⟩ = some (.int .i64 (d2 : Int)) := by rw [e2]; exact cell_ints hrx 2 (by rw [HXL.out]; decide)
      have k3 : wr.cell? ⟨w.heap.size + 1, 3, none⟩ = some (.int .i64 (d3 : Int)) := by rw [e3]; exact cell_ints hrx 3 (by rw [HXL.out]; decide)
      have HV : Hid (val xs % 18446744073709551616 = d0 + 65536 * d1 + 4294967296 * d2 + 281474976710656 * d3) := by
        show val xs % 18446744073709551616 = d0 + 65536 * d1 + 4294967296 * d2 + 281474976710656 * d3
        rw [val5 xs HXL.out, ← e0, ← e1, ← e2, ← e3]; omega
      have hlo2 := HLO.out
      have hhi2 := HHI.out
      rw [HTV.out] at hlo2 hhi2
      have HL2 : Hid (val xs ^ 3 ≤ p * 2 ^ 192) := hlo2
      have HH2 : Hid (p * 2 ^ 192 < (val xs + 2 ^ 0) ^ 3) := hhi2
      clear e0 e1 e2 e3 hlo2 hhi2 hrx hrt
      go_wp2_with fail
      go_quiet (fail)
      go_wp2_with fail
      go_ret
      exact ⟨val xs, by rw [HV.out]; go_num, HL2.out, HH2.out, below_drewN hB _⟩
end Go.Proofs.YtomfnkbghlpkeaaDoor
