/-
  The walk of bytes. The walk of read. The walk of addProduct. The walks of Reduce, MulAdd, Is. The plain mathematics of both digests (numbers and lists): nothing of the program stands here. The walks of turn, turns, turnsShift and spread, at words of 32 bits. The walk of spread, at words of 32 bits. The walk of takeBlock, at words of 32 bits. The walk of takeBlocks, at words of 32 bits. The walk of lastBlocks, at words of 32 bits. The walk of stateBytes, at words of 32 bits. The walk of digest, at words of 32 bits. The walks of turn, turns, turnsShift and spread, at words of 64 bits. The walk of spread, at words of 64 bits. The walk of takeBlock, at words of 64 bits. The walk of takeBlocks, at words of 64 bits. The walk of lastBlocks, at words of 64 bits. The walk of stateBytes, at words of 64 bits.
-/
import Derived.Test.YtabgihjffjlfiaaGreatDoorC5
import Derived.WalkKit
import Derived.Test.YtabgihjffjlfiaaGreatDoorProg
import Derived.Test.YtabgihjffjlfiaaGreatDoorC0
import Derived.BigQuiet
import Derived.WalkSmall
import Derived.Lib.QuietBelow
import Derived.StillTail
import Derived.StillTactics
import Derived.Deep.MidRow
import Derived.Laws.CopyOwn
set_option linter.unusedVariables false
namespace Go.Proofs.YtabgihjffjlfiaaGreatDoor
namespace EN
open Go.RowKit Go.Sort Go.BigFrame
set_option maxRecDepth 100000
set_option maxHeartbeats 2000000
theorem i64_or_nat (a b : Nat) (ha : a < 4611686018427387904) (hb : b < 4611686018427387904) : bits .or .i64 (a : Int) (b : Int) = ((a ||| b : Nat) : Int) := by
  have hx : a ||| b < 2 ^ 62 := Nat.or_lt_two_pow (by omega) (by omega)
  have e : ∀ n : Nat, n < 4611686018427387904 → (BitVec.ofInt 64 (n : Int)).toNat = n := fun n hn => by rw [BitVec.toNat_ofInt]; omega
  show IntKind.i64.wrap ((BitVec.ofInt 64 (a : Int) ||| BitVec.ofInt 64 (b : Int)).toNat : Int) = _
  rw [BitVec.toNat_or, e a ha, e b hb, IntKind.wrap_i64]
  omega
theorem or_add (X Y k : Nat) (hX : X < 2 ^ k) (hY : Y % 2 ^ k = 0) : X ||| Y = X + Y := by
  have h1 : Y = 2 ^ k * (Y / 2 ^ k) := by have := Nat.div_add_mod Y (2 ^ k); omega
  rw [Nat.or_comm, h1, ← Nat.two_pow_add_eq_or_of_lt hX, Nat.add_comm]
/-- A row of a natural number. -/
theorem rowN_lt {top j : Nat} (R : Nat) (h : j < top) : (row top (R : Int)).getD j 0 = ((R / 268435456 ^ j % 268435456 : Nat) : Int) := by
  rw [row_get_lt _ h]; simp
theorem rowN_top (top R : Nat) : (row top (R : Int)).getD top 0 = ((R / 268435456 ^ top : Nat) : Int) := by
  rw [row_get_top]; simp
/-- One byte of a number, out of two digits. -/
theorem byte_w (P s x y : Nat) (hs : s = 0 ∨ s = 4 ∨ s = 8 ∨ s = 12 ∨ s = 16 ∨ s = 20 ∨ s = 24) (hxy : (x < 268435456 ∧ x = P % 268435456 ∧ y % 268435456 = P / 268435456 % 268435456 ∧ y ≤ 268435456) ∨ (x = P ∧ y = 0 ∧ x ≤ 268435456)) :
    bits .or .i64 ((x : Int) / 2 ^ s) ((y : Int) * 2 ^ (28 - s)) % 256 = ((P / 2 ^ s % 256 : Nat) : Int) := by
  have w8 : ∀ n : Nat, (n : Int) % 256 = ((n % 256 : Nat) : Int) := fun n => by simp
  have e1 : ((x : Int) / 2 ^ s) = ((x / 2 ^ s : Nat) : Int) := by simp
  have e2 : ((y : Int) * 2 ^ (28 - s)) = ((y * 2 ^ (28 - s) : Nat) : Int) := by simp
  rw [e1, e2]
  have hx : x / 2 ^ s ≤ x := Nat.div_le_self _ _
  have hp : 2 ^ (28 - s) ≤ 2 ^ 28 := Nat.pow_le_pow_right (by decide) (by omega)
  have hy : y * 2 ^ (28 - s) ≤ 268435456 * 2 ^ 28 := Nat.mul_le_mul (by omega) hp
  rw [i64_or_nat _ _ (by omega) (by omega)]
  rcases hxy with ⟨h1, h2, h3, h4⟩ | ⟨h1, h2, h4⟩
  · rw [or_add _ _ (28 - s) ?_ (Nat.mul_mod_left _ _), w8]
    · congr 1
      rcases hs with rfl | rfl | rfl | rfl | rfl | rfl | rfl <;> simp only [Nat.reducePow, Nat.reduceSub] <;> omega
    · rcases hs with rfl | rfl | rfl | rfl | rfl | rfl | rfl <;> simp only [Nat.reducePow, Nat.reduceSub] <;> omega
  · subst h2
    rw [Nat.zero_mul, Nat.or_zero, w8, h1]
def RelB (w wr : World) (g gb : Nat) (l : List Int) (bl : List Nat) : Prop :=
  Below w.heap.size w wr ∧ w.heap.size ≤ gb ∧ g ≠ gb ∧ wr.heap[g]? = some (.cells (zints l) 69 (0, 0)) ∧ wr.heap[gb]? = some (.cells (ints .u8 bl) 5 (0, 0))
theorem RelB.set {w wr : World} {g gb : Nat} {l : List Int} {bl : List Nat} (h : RelB w wr g gb l bl) (k v : Nat) : RelB w (wr.setCell ⟨gb, k, none⟩ (.int .u8 (v : Int))) g gb l (bl.set k v) :=
  ⟨h.1.setCell h.2.1 _, h.2.1, h.2.2.1, (heap_setCell_other _ _ _ _ h.2.2.1).trans h.2.2.2.1, set_ints h.2.2.2.2 _ _⟩
theorem RelB.drew {w wr : World} {g gb : Nat} {l : List Int} {bl : List Nat} (h : RelB w wr g gb l bl) : RelB w wr.drew g gb l bl := ⟨h.1.drew, h.2⟩
theorem pow256 (k : Nat) : 256 ^ k = 2 ^ (8 * k) := by rw [Nat.pow_mul]
theorem bytes22 (g R : Nat) (w : World) (hR : R < LL) (hg : w.heap[g]? = some (.cells (zints (row 8 (R : Int))) 69 (0, 0))) :
    Calls Tryz.prog 45 #[.pointer (some ⟨g, 0, none⟩)] w fun e w' => ∃ gb, e = .returned (.slice (some ⟨gb, 0, none⟩) 32 32) ∧ w.heap.size ≤ gb ∧ Below w.heap.size w w' ∧ w'.heap[gb]? = some (.cells (ints .u8 (digs 32 R)) 5 (0, 0)) := by
  have hmk := make32
  have hgl := lt_of_heap hg
  have hR0 : RelB w (w.alloc (.cells (ints .u8 (digs 32 0)) 5)) g w.heap.size (row 8 (R : Int)) (digs 32 (R % 256 ^ 0)) :=
    ⟨below1 _ _, Nat.le_refl _, by omega, block_below (below1 _ _) hgl hg, by rw [Nat.pow_zero, Nat.mod_one]; exact heap_alloc_new _ _⟩
  have hb8 : R / 268435456 ^ 8 ≤ 268435456 := by
    have : R < 26959946667150639794667015087019630673637144422540572481103610249216 * 268435457 := Nat.lt_trans hR (by decide)
    have e : 268435456 ^ 8 = 26959946667150639794667015087019630673637144422540572481103610249216 := by decide
    rw [e]; omega
  have HR : Hid (R < LL) := hR
  clear hg hgl hR
  go_enter Tryz.func45, Tryz.ntmps45
  go_wp2_with fail
  generalize w.heap.size = gb at hR0 ⊢
  go_loopw [8] (fun i wr => ∃ k : Nat, k ≤ 32 ∧ i = .int .i64 k ∧ RelB w wr g gb (row 8 (R : Int)) (digs 32 (R % 256 ^ k))) (fun i _ => 32 - (intOf i).toNat)
  case atStart => exact ⟨0, by omega, rfl, hR0⟩
  case round =>
    obtain ⟨k, hk, rfl, hR⟩ := hrel
    clear hR0 hmk
    by_cases hlt : k < 32
    · obtain ⟨at', hat⟩ : ∃ t, t = 8 * k / 28 := ⟨_, rfl⟩
      obtain ⟨s, hs⟩ : ∃ t, t = 8 * k % 28 := ⟨_, rfl⟩
      have iat : 8 * (k : Int) / 28 = (at' : Int) := by omega
      have ish : 8 * (k : Int) % 28 = (s : Int) := by omega
      have hat8 : at' ≤ 8 := by omega
      have hs7 : s = 0 ∨ s = 4 ∨ s = 8 ∨ s = 12 ∨ s = 16 ∨ s = 20 ∨ s = 24 := by omega
      have hs28 : s < 28 := by omega
      have c1 := cell_z hR.2.2.2.1 at' (by rw [row_len (by omega)]; omega)
      have c2 := cell_z hR.2.2.2.1 (at' + 1) (by rw [row_len (by omega)]; omega)
      have f1 := free_ints hR.2.2.2.2 k
      have c3 := cell_ints hR.2.2.2.2 k (by rw [digs_len]; omega)
      obtain ⟨x, y, hx, hy, hxy⟩ : ∃ x y : Nat, (row 8 (R : Int)).getD at' 0 = (x : Int) ∧ (row 8 (R : Int)).getD (at' + 1) 0 = (y : Int) ∧ ((x < 268435456 ∧ x = (R / 268435456 ^ at') % 268435456 ∧ y % 268435456 = R / 268435456 ^ at' / 268435456 % 268435456 ∧ y ≤ 268435456) ∨ (x = R / 268435456 ^ at' ∧ y = 0 ∧ x ≤ 268435456)) := by
        by_cases h8 : at' = 8
        · subst h8
          exact ⟨_, 0, rowN_top 8 R, row_get_gt _ (by omega), .inr ⟨rfl, rfl, hb8⟩⟩
        · have e1 : R / 268435456 ^ at' / 268435456 = R / 268435456 ^ (at' + 1) := by rw [Nat.div_div_eq_div_mul, ← Nat.pow_succ]
          by_cases h7 : at' = 7
          · subst h7
            exact ⟨_, _, rowN_lt R (by omega), rowN_top 8 R, .inl ⟨by omega, rfl, by rw [e1], hb8⟩⟩
          · refine ⟨_, _, rowN_lt R (by omega), rowN_lt R (by omega), .inl ⟨by omega, rfl, by rw [e1]; omega, by omega⟩⟩
      rw [hx] at c1
      rw [hy] at c2
      have hbyte := byte_w (R / 268435456 ^ at') s x y hs7 hxy
      have hpe : R / 268435456 ^ at' / 2 ^ s = R / 256 ^ k := by
        rw [Nat.div_div_eq_div_mul, show (268435456 : Nat) = 2 ^ 28 from rfl, ← Nat.pow_mul, ← Nat.pow_add, pow256, show 28 * at' + s = 8 * k by omega]
      rw [hpe] at hbyte
      have hxl : x ≤ 268435456 ∧ y ≤ 268435456 := by omega
      have hyb : (y : Int) * 2 ^ (28 - s) ≤ 72057594037927936 := by
        have hp : 2 ^ (28 - s) ≤ 2 ^ 28 := Nat.pow_le_pow_right (by decide) (by omega)
        have hy : y * 2 ^ (28 - s) ≤ 268435456 * 2 ^ 28 := Nat.mul_le_mul (by omega) hp
        have e2 : ((y : Int) * 2 ^ (28 - s)) = ((y * 2 ^ (28 - s) : Nat) : Int) := by simp
        rw [e2]; omega
      have hyb0 : 0 ≤ (y : Int) * 2 ^ (28 - s) := by
        have e2 : ((y : Int) * 2 ^ (28 - s)) = ((y * 2 ^ (28 - s) : Nat) : Int) := by simp
        rw [e2]; omega
      have HN : Hid (RelB w (wr.setCell ⟨gb, k, none⟩ (.int .u8 (bits .or .i64 ((x : Int) / 2 ^ s) ((y : Int) * 2 ^ (28 - s)) % 256))).drew g gb (row 8 (R : Int)) (digs 32 (R % 256 ^ (k + 1)))) := by
        show RelB _ _ _ _ _ _
        rw [hbyte]
        have := digs_set (N := 32) (Y := R % 256 ^ k) (k := k) (d := R / 256 ^ k % 256) (Nat.mod_lt _ (pos256 k)) (Nat.mod_lt _ (by decide)) (by omega)
        rw [Nat.pow_succ, Nat.mod_mul, ← this]
        exact (hR.set _ _).drew
      clear hx hy hxy hbyte hpe hR hat hs
      go_wp2_with fail
      go_region
      go_wp2
      go_roundw
      case rel => exact ⟨k + 1, by omega, by go_num, HN.out⟩
      case measure => simp [intOf]; omega
    · obtain rfl : k = 32 := by omega
      rw [Nat.mod_eq_of_lt (Nat.lt_trans HR.out (by decide))] at hR
      go_wp2
      go_ret
      exact ⟨gb, rfl, hR.2.1, hR.1, hR.2.2.2.2⟩
end EN
end Go.Proofs.YtabgihjffjlfiaaGreatDoor
set_option linter.unusedVariables false
namespace Go.Proofs.YtabgihjffjlfiaaGreatDoor
namespace EN
open Go.RowKit Go.Sort Go.BigFrame
set_option maxRecDepth 100000
set_option maxHeartbeats 2000000
theorem pow28 (a s k : Nat) (h : 28 * a + s = 8 * k) : (268435456 : Int) ^ a * 2 ^ s = ((256 ^ k : Nat) : Int) := by
  have : 268435456 ^ a * 2 ^ s = 256 ^ k := by
    rw [show (268435456 : Nat) = 2 ^ 28 from rfl, ← Nat.pow_mul, ← Nat.pow_add, pow256, h]
  rw [← this]; simp
theorem read20 (g : Nat) (a : Option Addr) (len cap : Nat) (bs : List Nat) (most n : Nat) (w0 w : World) (hn : (n = len ∧ len ≤ most) ∨ (n = most ∧ most < len)) (hlen : Hid (bs.length = len)) (hcap : len ≤ cap) (hcap2 : cap ≤ 9223372036854775807) (hm : most ≤ 64) (hd : Dig bs) (hv : View w0 a bs) (hB : Below w0.heap.size w0 w) (hgB : w0.heap.size ≤ g)
    (hg : w.heap[g]? = some (.cells (zints (List.replicate 19 0)) 69 (0, 0))) :
    Calls Tryz.prog 42 #[.pointer (some ⟨g, 0, none⟩), .slice a len cap, .int .i64 most] w fun e w' => e = .returned (.tuple #[]) ∧ WRow w w' g (row 18 ((valD (bs.take most) : Nat) : Int)) := by
  have hR0 : WRow w w g (List.replicate 19 0) := ⟨Frm.refl _ _, hg⟩
  clear hg
  have hnl : n ≤ len ∧ n ≤ 64 := by omega
  have HT : Hid (bs.take most = bs.take n) := by
    show _ = _
    rcases hn with ⟨h1, h2⟩ | ⟨h1, h2⟩
    · rw [List.take_of_length_le (by rw [hlen.out]; exact h2), List.take_of_length_le (by rw [hlen.out]; omega)]
    · rw [h1]
  rw [HT.out]
  clear HT
  have hmin : min (len : Int) (most : Int) = (n : Int) := by omega
  have key : ∀ wr : World, ∀ k : Nat, k < n → Frm g w wr → ∃ gb off c, a = some ⟨gb, off, none⟩ ∧ c < 256 ∧ c = bs.getD k 0 ∧ gb ≠ g ∧ wr.cell? ⟨gb, off + k, none⟩ = some (.int .u8 ((c : Nat) : Int)) := fun wr k hk hf => by
    obtain ⟨gb, off, rfl, hc⟩ := hv (by rw [hlen.out]; omega)
    have h1 := hc k (by rw [hlen.out]; omega)
    have hlt := block_lt_of_cell h1
    have h2 : Below w0.heap.size w0 wr := hf.below hB hgB
    refine ⟨gb, off, bs.getD k 0, rfl, hd k, rfl, by simp at hlt; omega, ?_⟩
    exact (h2.cell (p := ⟨gb, off + k, none⟩) hlt).trans h1
  clear hv hB hgB hd
  rcases hn with ⟨rfl, hn⟩ | ⟨rfl, hn⟩
  all_goals
    go_enter Tryz.func42, Tryz.ntmps42
    go_wp2_with fail
    go_loopw [11] (fun i wr => ∃ k : Nat, k ≤ n ∧ i = .int .i64 k ∧ ∃ l' : List Int, l'.length = 19 ∧ (∀ j, 0 ≤ l'.getD j 0 ∧ l'.getD j 0 ≤ 4278190080 * (k : Int)) ∧ valW l' = ((valD (bs.take k) : Nat) : Int) ∧ WRow w wr g l') (fun i _ => n - (intOf i).toNat)
    case atStart => exact ⟨0, by omega, rfl, List.replicate 19 0, by simp, fun j => by rw [List.getD_eq_getElem?_getD, List.getElem?_replicate]; split <;> simp, by rw [valW_rep]; rfl, hR0⟩
    case round =>
      obtain ⟨k, hk, rfl, l', hl', hb', hv', hR⟩ := hrel
      clear hR0 hmin
      by_cases hlt : k < n
      · obtain ⟨gb, off, c, rfl, hcl, hcc, hne, c2⟩ := key wr k hlt hR.1
        obtain ⟨at', hat⟩ : ∃ t, t = 8 * k / 28 := ⟨_, rfl⟩
        obtain ⟨s, hs⟩ : ∃ t, t = 8 * k % 28 := ⟨_, rfl⟩
        have iat : 8 * (k : Int) / 28 = (at' : Int) := by omega
        have ish : 8 * (k : Int) % 28 = (s : Int) := by omega
        have hat18 : at' ≤ 18 := by omega
        have hs24 : s ≤ 24 := by omega
        have c1 := hR.at at' (by omega)
        have f1 := hR.free at'
        have hbx := hb' at'
        obtain ⟨x, hx⟩ : ∃ x, x = l'.getD at' 0 := ⟨_, rfl⟩
        rw [← hx] at c1 hbx
        have hcs : 0 ≤ (c : Int) * 2 ^ s ∧ (c : Int) * 2 ^ s ≤ 4278190080 := by
          have hp : 2 ^ s ≤ 2 ^ 24 := Nat.pow_le_pow_right (by decide) hs24
          have hy : c * 2 ^ s ≤ 255 * 2 ^ 24 := Nat.mul_le_mul (by omega) hp
          have e2 : ((c : Int) * 2 ^ s) = ((c * 2 ^ s : Nat) : Int) := by simp
          rw [e2]; omega
        have HN : Hid (∃ l2 : List Int, l2.length = 19 ∧ (∀ j, 0 ≤ l2.getD j 0 ∧ l2.getD j 0 ≤ 4278190080 * ((k + 1 : Nat) : Int)) ∧ valW l2 = ((valD (bs.take (k + 1)) : Nat) : Int) ∧ WRow w (wr.setCell ⟨g, at', none⟩ (.int .i64 (x + (c : Int) * 2 ^ s))).drew g l2) := by
          refine ⟨_, by rw [List.length_set]; exact hl', fun j => ?_, ?_, (hR.set at' (x + (c : Int) * 2 ^ s)).drew⟩
          · have := hb' j
            rw [set_getD]
            split <;> omega
          · rw [valW_set _ _ _ (by omega), hv', ← hx, show x + (c : Int) * 2 ^ s - x = 2 ^ s * (c : Int) by rw [Int.mul_comm]; omega, ← Int.mul_assoc, pow28 at' s k (by omega), valD_take_succ, ← hcc]
            simp
        have hbx2 : x ≤ 300000000000 := by omega
        clear hx hcc hb' hv' hR hl' key hat hs
        go_wp2_with fail
        go_big_region
        go_wp2
        go_roundw
        case rel => exact ⟨k + 1, by omega, by go_num, HN.out⟩
        case measure => simp [intOf]; omega
      · obtain rfl : k = n := by omega
        have hc := settle30 g 18 l' wr hl' (by omega) (fun j => by have := hb' j; omega) hR.2
        rw [stl18 hl', hv'] at hc
        have hF := hR.1
        clear hb' hv' hR hl' key
        go_wp2_with fail
        refine hc.mono ?_
        rintro e w1 ⟨rfl, hR1⟩
        go_wp2
        go_end0
        exact ⟨rfl, hF.trans hR1.1, hR1.2⟩
end EN
end Go.Proofs.YtabgihjffjlfiaaGreatDoor
set_option linter.unusedVariables false
namespace Go.Proofs.YtabgihjffjlfiaaGreatDoor
namespace EN
open Go.RowKit Go.Sort Go.BigFrame
set_option maxRecDepth 100000
set_option maxHeartbeats 2000000
theorem row18_bound {X : Nat} (h : X < 256 ^ 64) (j : Nat) : 0 ≤ (row 18 (X : Int)).getD j 0 ∧ (row 18 (X : Int)).getD j 0 ≤ 268435455 := by
  rcases Nat.lt_trichotomy j 18 with h1 | h1 | h1
  · rw [rowN_lt X h1]; omega
  · subst h1
    rw [rowN_top]
    have : X / 268435456 ^ 18 < 268435456 := (Nat.div_lt_iff_lt_mul (by decide)).2 (Nat.lt_trans h (by decide))
    omega
  · rw [row_get_gt _ h1]; omega
theorem row_take10 {X : Nat} (h : X < 256 ^ 32) : valW ((row 18 (X : Int)).take 10) = (X : Int) := by
  have h1 := valW_append ((row 18 (X : Int)).take 10) ((row 18 (X : Int)).drop 10)
  rw [List.take_append_drop, valW_row] at h1
  have hz : (row 18 (X : Int)).drop 10 = List.replicate 9 0 := by
    apply List.ext_getElem
    · rw [List.length_drop, row_len (by omega)]; simp
    · intro i h2 h3
      have hi : i < 9 := by simpa using h3
      have h4 : 10 + i < (row 18 (X : Int)).length := by rw [row_len (by omega)]; omega
      have h5 : (row 18 (X : Int)).getD (10 + i) 0 = 0 := by
        have hz : X / 268435456 ^ (10 + i) = 0 := Nat.div_eq_of_lt (Nat.lt_of_lt_of_le h (Nat.le_trans (by decide : 256 ^ 32 ≤ 268435456 ^ 10) (Nat.pow_le_pow_right (by decide) (by omega))))
        by_cases h18 : 10 + i < 18
        · rw [rowN_lt X h18, hz]; rfl
        · have : 10 + i = 18 := by omega
          rw [this] at hz ⊢
          rw [rowN_top, hz]; rfl
      rw [List.getElem_drop, List.getElem_replicate]
      rw [List.getD_eq_getElem?_getD, List.getElem?_eq_getElem h4] at h5
      exact h5
  rw [hz, valW_rep] at h1
  omega
/-- What the row under work has come to. -/
def AInv (l : List Int) (n : Nat) (V : Int) : Prop := l.length = 19 ∧ (∀ j, 0 ≤ l.getD j 0 ∧ l.getD j 0 ≤ 268435456 + 72057594037927936 * (n : Int)) ∧ valW l = V
theorem AInv.step {l : List Int} {n i j : Nat} {V x y : Int} (h : AInv l n V) (hi : i + j < 19) (hx0 : 0 ≤ x) (hx : x ≤ 268435455) (hy0 : 0 ≤ y) (hy : y ≤ 268435455) : AInv (l.set (i + j) (l.getD (i + j) 0 + x * y)) (n + 1) (V + 268435456 ^ i * x * (268435456 ^ j * y)) := by
  obtain ⟨h1, h2, h3⟩ := h
  have hp0 : 0 ≤ x * y := Int.mul_nonneg hx0 hy0
  have hp : x * y ≤ 268435455 * 268435455 := Int.mul_le_mul hx hy hy0 (by decide)
  refine ⟨by rw [List.length_set]; exact h1, fun k => ?_, ?_⟩
  · have a := h2 k
    have b := h2 (i + j)
    rw [set_getD]
    split <;> omega
  · rw [valW_set _ _ _ (by omega), h3, show l.getD (i + j) 0 + x * y - l.getD (i + j) 0 = x * y by omega, Int.pow_add]
    congr 1
    rw [Int.mul_assoc, Int.mul_assoc, Int.mul_left_comm (268435456 ^ j)]
theorem addProduct25 (g gx gy : Nat) (C X Y : Nat) (w : World) (hC : C < 256 ^ 32) (hX : X < 256 ^ 32) (hY : Y < 256 ^ 32) (hgx : gx ≠ g) (hgy : gy ≠ g)
    (hg : w.heap[g]? = some (.cells (zints (row 18 (C : Int))) 69 (0, 0))) (hx : w.heap[gx]? = some (.cells (zints (row 18 (X : Int))) 69 (0, 0))) (hy : w.heap[gy]? = some (.cells (zints (row 18 (Y : Int))) 69 (0, 0))) :
    Calls Tryz.prog 43 #[.pointer (some ⟨g, 0, none⟩), .pointer (some ⟨gx, 0, none⟩), .pointer (some ⟨gy, 0, none⟩)] w fun e w' => e = .returned (.tuple #[]) ∧ WRow w w' g (row 18 ((X * Y + C : Nat) : Int)) := by
  have hbx := row18_bound (Nat.lt_trans hX (by decide))
  have hby := row18_bound (Nat.lt_trans hY (by decide))
  have hbc := row18_bound (Nat.lt_trans hC (by decide))
  have hvx := row_take10 hX
  have hvy := row_take10 hY
  obtain ⟨xs, hxs⟩ : ∃ l, l = row 18 (X : Int) := ⟨_, rfl⟩
  obtain ⟨ys, hys⟩ : ∃ l, l = row 18 (Y : Int) := ⟨_, rfl⟩
  have hlx : xs.length = 19 := by rw [hxs, row_len (by omega)]
  have hly : ys.length = 19 := by rw [hys, row_len (by omega)]
  rw [← hxs] at hx hbx hvx
  rw [← hys] at hy hby hvy
  have cx : ∀ wr k, Frm g w wr → k < 19 → wr.cell? ⟨gx, k, none⟩ = some (.int .i64 (xs.getD k 0)) := fun wr k hf hk => cell_z ((hf.block gx hgx).trans hx) k (by omega)
  have cy : ∀ wr k, Frm g w wr → k < 19 → wr.cell? ⟨gy, k, none⟩ = some (.int .i64 (ys.getD k 0)) := fun wr k hf hk => cell_z ((hf.block gy hgy).trans hy) k (by omega)
  have HVX : Hid (valW (xs.take 10) = (X : Int)) := hvx
  have HVY : Hid (valW (ys.take 10) = (Y : Int)) := hvy
  have hA0 : Hid (AInv (row 18 (C : Int)) 0 ((C : Int) + valW (xs.take 0) * (Y : Int))) := ⟨row_len (by omega) _, fun j => by have := hbc j; omega, by rw [valW_row]; simp [valW]⟩
  have hR0 : WRow w w g (row 18 (C : Int)) := ⟨Frm.refl _ _, hg⟩
  clear hxs hys hlx hly hx hy hvx hvy hX hY hC hbc hg
  go_enter Tryz.func43, Tryz.ntmps43
  go_wp2_with fail
  go_loopw [8] (fun i wr => ∃ k : Nat, k ≤ 10 ∧ i = .int .i64 k ∧ ∃ l', AInv l' (10 * k) ((C : Int) + valW (xs.take k) * (Y : Int)) ∧ WRow w wr g l') (fun i _ => 10 - (intOf i).toNat)
  case atStart => exact ⟨0, by omega, rfl, _, hA0.out, hR0⟩
  case round =>
    obtain ⟨k, hk, rfl, l', hA, hR⟩ := hrel
    clear hR0 hA0
    by_cases hlt : k < 10
    · have hxk := hbx k
      have HXS : Hid (valW (xs.take (k + 1)) = valW (xs.take k) + 268435456 ^ k * xs.getD k 0) := valW_take_succ _ _
      have hA1 : Hid (AInv l' (10 * k + 0) ((C : Int) + valW (xs.take k) * (Y : Int) + 268435456 ^ k * xs.getD k 0 * valW (ys.take 0))) := by
        have : (C : Int) + valW (xs.take k) * (Y : Int) + 268435456 ^ k * xs.getD k 0 * valW (ys.take 0) = (C : Int) + valW (xs.take k) * (Y : Int) := by simp [valW]
        show AInv _ _ _
        rw [this]; exact hA
      have cxk : ∀ wr, Frm g w wr → wr.cell? ⟨gx, k, none⟩ = some (.int .i64 (xs.getD k 0)) := fun wr hf => cx wr k hf (by omega)
      obtain ⟨x, hxe⟩ : ∃ x, x = xs.getD k 0 := ⟨_, rfl⟩
      rw [← hxe] at hxk HXS hA1 cxk
      clear hA hxe
      go_wp2_with fail
      go_loopw [11] (fun i wr => ∃ j : Nat, j ≤ 10 ∧ i = .int .i64 j ∧ ∃ l', AInv l' (10 * k + j) ((C : Int) + valW (xs.take k) * (Y : Int) + 268435456 ^ k * x * valW (ys.take j)) ∧ WRow w wr g l') (fun i _ => 10 - (intOf i).toNat)
      case atStart => exact ⟨0, by omega, rfl, _, hA1.out, hR⟩
      case round =>
        obtain ⟨j, hj, rfl, l2, hA2, hR2⟩ := hrel
        clear hR hA1
        by_cases hlt2 : j < 10
        · have hyj := hby j
          have cyj := cy wr j hR2.1 (by omega)
          have cxj := cxk wr hR2.1
          have hl2 := hA2.1
          have hb2 := hA2.2.1 (k + j)
          have c1 := hR2.at (k + j) (by omega)
          have f1 := hR2.free (k + j)
          have hst := hA2.step (i := k) (j := j) (x := x) (y := ys.getD j 0) (by omega) hxk.1 hxk.2 hyj.1 hyj.2
          have hRn := (hR2.set (k + j) (l2.getD (k + j) 0 + x * ys.getD j 0)).drew
          have hys := valW_take_succ ys j
          obtain ⟨y, hye⟩ : ∃ y, y = ys.getD j 0 := ⟨_, rfl⟩
          obtain ⟨z, hze⟩ : ∃ z, z = l2.getD (k + j) 0 := ⟨_, rfl⟩
          rw [← hye] at hyj cyj hst hRn hys
          rw [← hze] at hb2 c1 hst hRn
          have hp0 : 0 ≤ x * y := Int.mul_nonneg hxk.1 hyj.1
          have hp : x * y ≤ 268435455 * 268435455 := Int.mul_le_mul hxk.2 hyj.2 hyj.1 (by decide)
          have HN : Hid (∃ l3, AInv l3 (10 * k + (j + 1)) ((C : Int) + valW (xs.take k) * (Y : Int) + 268435456 ^ k * x * valW (ys.take (j + 1))) ∧ WRow w (wr.setCell ⟨g, k + j, none⟩ (.int .i64 (z + x * y))).drew g l3) := by
            refine ⟨_, ?_, hRn⟩
            rw [hys, Int.mul_add, ← Int.add_assoc, ← Nat.add_assoc]
            exact hst
          have hzl : 0 ≤ z ∧ z ≤ 8000000000000000000 := by omega
          clear hst hRn hys hye hze hb2 hA2 hR2 cx cy cxk hbx hby hl2
          go_wp2_with fail
          go_big_region
          go_wp2
          go_roundw
          case rel => exact ⟨j + 1, by omega, by go_num, HN.out⟩
          case measure => simp [intOf]; omega
        · obtain rfl : j = 10 := by omega
          have HN : Hid (∃ l3, AInv l3 (10 * (k + 1)) ((C : Int) + valW (xs.take (k + 1)) * (Y : Int)) ∧ WRow w wr g l3) := by
            refine ⟨l2, ?_, hR2⟩
            rw [HXS.out, Int.add_mul, ← Int.add_assoc, ← HVY.out]
            rw [← HVY.out] at hA2
            exact hA2
          clear hA2 hR2 cx cy cxk hbx hby
          go_wp2
          go_roundw
          case rel => exact ⟨k + 1, by omega, by go_num, HN.out⟩
          case measure => simp [intOf]; omega
    · obtain rfl : k = 10 := by omega
      have hc := settle30 g 18 l' wr hA.1 (by omega) (fun j => by have := hA.2.1 j; omega) hR.2
      rw [stl18 hA.1, hA.2.2, HVX.out, show (C : Int) + (X : Int) * (Y : Int) = ((X * Y + C : Nat) : Int) by simp; omega] at hc
      have hF := hR.1
      clear hA hR cx cy hbx hby
      go_wp2_with fail
      refine hc.mono ?_
      rintro e w1 ⟨rfl, hR1⟩
      go_wp2
      go_end0
      exact ⟨rfl, hF.trans hR1.1, hR1.2⟩
end EN
end Go.Proofs.YtabgihjffjlfiaaGreatDoor
set_option linter.unusedVariables false
namespace Go.Proofs.YtabgihjffjlfiaaGreatDoor
namespace EN
open Go.RowKit Go.Sort Go.BigFrame
set_option maxRecDepth 100000
set_option maxHeartbeats 2000000
theorem LL_pos : 0 < LL := by decide
theorem modLI (N : Nat) : (N : Int) % LI = ((N % LL : Nat) : Int) := by rw [LI_LL]; simp
/-- A new row of 32 bytes. -/
def New32 (w w' : World) (v : Value) (R : Nat) : Prop := ∃ gb, v = .slice (some ⟨gb, 0, none⟩) 32 32 ∧ w.heap.size ≤ gb ∧ Below w.heap.size w w' ∧ w'.heap[gb]? = some (.cells (ints .u8 (digs 32 R)) 5 (0, 0))
theorem take_min (most len : Nat) : ∃ n, (n = len ∧ len ≤ most) ∨ (n = most ∧ most < len) := by
  by_cases h : len ≤ most
  · exact ⟨len, .inl ⟨rfl, h⟩⟩
  · exact ⟨most, .inr ⟨rfl, by omega⟩⟩
theorem reduce9 (a : Option Addr) (len cap : Nat) (bs : List Nat) (w : World) (hlen : Hid (bs.length = len)) (hcap : len ≤ cap) (hcap2 : cap ≤ 9223372036854775807) (hd : Dig bs) (hv : View w a bs) (hT : ETab w) :
    Calls Tryz.prog 40 #[.slice a len cap] w fun e w' => ∃ v, e = .returned v ∧ New32 w w' v (valD (bs.take 64) % LL) := by
  obtain ⟨n, hn⟩ := take_min 64 len
  have h0 : (w.alloc (.cells (zints (List.replicate 19 0)) 69)).heap[w.heap.size]? = some (.cells (zints (List.replicate 19 0)) 69 (0, 0)) := heap_alloc_new _ _
  have cR := read20 w.heap.size a len cap bs 64 n w (w.alloc (.cells (zints (List.replicate 19 0)) 69)) hn hlen hcap hcap2 (by omega) hd hv (below1 _ _) (Nat.le_refl _) h0
  have hN := valD_take_lt hd 64
  have hpos := hT.pos
  have hT1 : ETab (w.alloc (.cells (zints (List.replicate 19 0)) 69)) := hT.below (below1 _ _)
  have hB1 : Below w.heap.size w (w.alloc (.cells (zints (List.replicate 19 0)) 69)) := below1 _ _
  obtain ⟨N, hNe⟩ : ∃ N, N = valD (bs.take 64) := ⟨_, rfl⟩
  rw [← hNe] at cR hN ⊢
  have hN2 : (N : Int) < 268435456 ^ 19 := by
    have : N < 268435456 ^ 19 := Nat.lt_trans hN (by decide)
    have e : ((268435456 ^ 19 : Nat) : Int) = (268435456 : Int) ^ 19 := by decide
    rw [← e]; exact_mod_cast this
  have HN2 : Hid ((N : Int) < 268435456 ^ 19) := hN2
  clear hNe hn hlen hv hT hN hN2 h0 hd
  have ez : zints (List.replicate 19 0) = #[.int .i64 0, .int .i64 0, .int .i64 0, .int .i64 0, .int .i64 0, .int .i64 0, .int .i64 0, .int .i64 0, .int .i64 0, .int .i64 0, .int .i64 0, .int .i64 0, .int .i64 0, .int .i64 0, .int .i64 0, .int .i64 0, .int .i64 0, .int .i64 0, .int .i64 0] := rfl
  rw [ez] at cR hT1 hB1
  clear ez
  go_enter Tryz.func40, Tryz.ntmps40
  go_wp2_with fail
  generalize (w.alloc (.cells #[.int .i64 0, .int .i64 0, .int .i64 0, .int .i64 0, .int .i64 0, .int .i64 0, .int .i64 0, .int .i64 0, .int .i64 0, .int .i64 0, .int .i64 0, .int .i64 0, .int .i64 0, .int .i64 0, .int .i64 0, .int .i64 0, .int .i64 0, .int .i64 0, .int .i64 0] 69)) = w1 at cR hT1 hB1 ⊢
  simp only [Int.cast_ofNat_Int] at cR
  refine cR.mono ?_
  rintro e w2 ⟨rfl, hR2⟩
  have cD := reduce21 w.heap.size (N : Int) w2 (by omega) HN2.out hR2.2 (hT1.frm hR2.1 (by omega)) (by omega)
  rw [modLI] at cD
  go_wp2_with fail
  refine cD.mono ?_
  rintro e w3 ⟨rfl, hR3⟩
  have cB := bytes22 w.heap.size (N % LL) w3 (Nat.mod_lt _ LL_pos) hR3.2
  have hB3 : Below w.heap.size w w3 := hR3.1.below (hR2.1.below hB1 (Nat.le_refl _)) (Nat.le_refl _)
  go_wp2_with fail
  refine cB.mono ?_
  rintro e w4 ⟨gb, rfl, hgb, hB4, hrow⟩
  go_wp2
  go_ret
  exact ⟨_, rfl, gb, rfl, by have := hB3.size; omega, hB3.trans (hB4.mono hB3.size), hrow⟩

theorem mulAdd12 (a : Option Addr) (la ca : Nat) (x : List Nat) (b : Option Addr) (lb cb : Nat) (y : List Nat) (c : Option Addr) (lc cc : Nat) (z : List Nat) (w : World) (hla : Hid (x.length = la)) (hlb : Hid (y.length = lb)) (hlc : Hid (z.length = lc)) (hca : la ≤ ca) (hca2 : ca ≤ 9223372036854775807) (hcb : lb ≤ cb) (hcb2 : cb ≤ 9223372036854775807) (hcc : lc ≤ cc) (hcc2 : cc ≤ 9223372036854775807)
    (dx : Dig x) (dy : Dig y) (dz : Dig z) (hx : View w a x) (hy : View w b y) (hz : View w c z) (hT : ETab w) :
    Calls Tryz.prog 16 #[.slice a la ca, .slice b lb cb, .slice c lc cc] w fun e w' => ∃ v, e = .returned v ∧ New32 w w' v ((valD (x.take 32) * valD (y.take 32) + valD (z.take 32)) % LL) := by
  obtain ⟨n1, hn1⟩ := take_min 32 la
  obtain ⟨n2, hn2⟩ := take_min 32 lb
  obtain ⟨n3, hn3⟩ := take_min 32 lc
  obtain ⟨Z, hZ⟩ : ∃ Z, Z = zints (List.replicate 19 0) := ⟨_, rfl⟩
  have i0 : (((w.alloc (.cells Z 69)).alloc (.cells Z 69)).alloc (.cells Z 69)).heap[w.heap.size]? = some (.cells Z 69 (0, 0)) := heap3_0 _ _ _ _
  have i1 : (((w.alloc (.cells Z 69)).alloc (.cells Z 69)).alloc (.cells Z 69)).heap[w.heap.size + 1]? = some (.cells Z 69 (0, 0)) := heap3_1 _ _ _ _
  have i2 : (((w.alloc (.cells Z 69)).alloc (.cells Z 69)).alloc (.cells Z 69)).heap[w.heap.size + 1 + 1]? = some (.cells Z 69 (0, 0)) := heap3_2 _ _ _ _
  have hB1 : Below w.heap.size w (((w.alloc (.cells Z 69)).alloc (.cells Z 69)).alloc (.cells Z 69)) := below3 _ _ _ _
  have cR1 := fun w1 (hB : Below w.heap.size w w1) (hg : w1.heap[w.heap.size]? = some (.cells Z 69 (0, 0))) => read20 w.heap.size a la ca x 32 n1 w w1 hn1 hla hca hca2 (by omega) dx hx hB (Nat.le_refl _) (by rw [← hZ]; exact hg)
  have cR2 := fun w1 (hB : Below w.heap.size w w1) (hg : w1.heap[w.heap.size + 1]? = some (.cells Z 69 (0, 0))) => read20 (w.heap.size + 1) b lb cb y 32 n2 w w1 hn2 hlb hcb hcb2 (by omega) dy hy hB (by omega) (by rw [← hZ]; exact hg)
  have cR3 := fun w1 (hB : Below w.heap.size w w1) (hg : w1.heap[w.heap.size + 1 + 1]? = some (.cells Z 69 (0, 0))) => read20 (w.heap.size + 1 + 1) c lc cc z 32 n3 w w1 hn3 hlc hcc hcc2 (by omega) dz hz hB (by omega) (by rw [← hZ]; exact hg)
  simp only [Int.cast_ofNat_Int] at cR1 cR2 cR3
  have hpos := hT.pos
  have hX := valD_take_lt dx 32
  have hY := valD_take_lt dy 32
  have hZ3 := valD_take_lt dz 32
  obtain ⟨X, hXe⟩ : ∃ N, N = valD (x.take 32) := ⟨_, rfl⟩
  obtain ⟨Y, hYe⟩ : ∃ N, N = valD (y.take 32) := ⟨_, rfl⟩
  obtain ⟨C, hCe⟩ : ∃ N, N = valD (z.take 32) := ⟨_, rfl⟩
  rw [← hXe] at cR1 hX ⊢
  rw [← hYe] at cR2 hY ⊢
  rw [← hCe] at cR3 hZ3 ⊢
  have HN2 : Hid (((X * Y + C : Nat) : Int) < 268435456 ^ 19) := by
    have h1 : X * Y ≤ 256 ^ 32 * 256 ^ 32 := Nat.mul_le_mul (by omega) (by omega)
    have h2 : X * Y + C < 268435456 ^ 19 := by
      have : 256 ^ 32 * 256 ^ 32 + 256 ^ 32 < 268435456 ^ 19 := by decide
      omega
    have e : ((268435456 ^ 19 : Nat) : Int) = (268435456 : Int) ^ 19 := by decide
    show _ < _
    rw [← e]; exact_mod_cast h2
  have HX : Hid (X < 256 ^ 32) := hX
  have HY : Hid (Y < 256 ^ 32) := hY
  have HC : Hid (C < 256 ^ 32) := hZ3
  have hT1 : ETab (((w.alloc (.cells Z 69)).alloc (.cells Z 69)).alloc (.cells Z 69)) := hT.below (below3 _ _ _ _)
  clear hXe hYe hCe hn1 hn2 hn3 hla hlb hlc hx hy hz hT hX hY hZ3 dx dy dz
  have ez : Z = #[.int .i64 0, .int .i64 0, .int .i64 0, .int .i64 0, .int .i64 0, .int .i64 0, .int .i64 0, .int .i64 0, .int .i64 0, .int .i64 0, .int .i64 0, .int .i64 0, .int .i64 0, .int .i64 0, .int .i64 0, .int .i64 0, .int .i64 0, .int .i64 0, .int .i64 0] := hZ
  clear hZ
  subst ez
  go_enter Tryz.func16, Tryz.ntmps16
  go_wp2_with fail
  generalize (((w.alloc (.cells #[.int .i64 0, .int .i64 0, .int .i64 0, .int .i64 0, .int .i64 0, .int .i64 0, .int .i64 0, .int .i64 0, .int .i64 0, .int .i64 0, .int .i64 0, .int .i64 0, .int .i64 0, .int .i64 0, .int .i64 0, .int .i64 0, .int .i64 0, .int .i64 0, .int .i64 0] 69)).alloc (.cells #[.int .i64 0, .int .i64 0, .int .i64 0, .int .i64 0, .int .i64 0, .int .i64 0, .int .i64 0, .int .i64 0, .int .i64 0, .int .i64 0, .int .i64 0, .int .i64 0, .int .i64 0, .int .i64 0, .int .i64 0, .int .i64 0, .int .i64 0, .int .i64 0, .int .i64 0] 69)).alloc (.cells #[.int .i64 0, .int .i64 0, .int .i64 0, .int .i64 0, .int .i64 0, .int .i64 0, .int .i64 0, .int .i64 0, .int .i64 0, .int .i64 0, .int .i64 0, .int .i64 0, .int .i64 0, .int .i64 0, .int .i64 0, .int .i64 0, .int .i64 0, .int .i64 0, .int .i64 0] 69)) = w1 at i0 i1 i2 hB1 hT1 ⊢
  refine (cR1 w1 hB1 i0).mono ?_
  rintro e w2 ⟨rfl, hR2⟩
  have j1 := (hR2.1.block (w.heap.size + 1) (by omega)).trans i1
  have j2 := (hR2.1.block (w.heap.size + 1 + 1) (by omega)).trans i2
  have hB2 := hR2.1.below hB1 (Nat.le_refl _)
  have hT2 := hT1.frm hR2.1 (by omega)
  clear i0 i1 i2 hB1 hT1 cR1
  go_wp2_with fail
  refine (cR2 w2 hB2 j1).mono ?_
  rintro e w3 ⟨rfl, hR3⟩
  have k0 := (hR3.1.block w.heap.size (by omega)).trans hR2.2
  have k2 := (hR3.1.block (w.heap.size + 1 + 1) (by omega)).trans j2
  have hB3 := hR3.1.below hB2 (by omega)
  have hT3 := hT2.frm hR3.1 (by omega)
  clear j1 j2 hB2 hT2 cR2 hR2
  go_wp2_with fail
  refine (cR3 w3 hB3 k2).mono ?_
  rintro e w4 ⟨rfl, hR4⟩
  have l0 := (hR4.1.block w.heap.size (by omega)).trans k0
  have l1 := (hR4.1.block (w.heap.size + 1) (by omega)).trans hR3.2
  have hB4 := hR4.1.below hB3 (by omega)
  have hT4 := hT3.frm hR4.1 (by omega)
  have cP := addProduct25 (w.heap.size + 1 + 1) w.heap.size (w.heap.size + 1) C X Y w4 HC.out HX.out HY.out (by omega) (by omega) hR4.2 l0 l1
  clear k0 k2 hB3 hT3 cR3 hR3 hR4
  go_wp2_with fail
  refine cP.mono ?_
  rintro e w5 ⟨rfl, hR5⟩
  have hB5 := hR5.1.below hB4 (by omega)
  have hT5 := hT4.frm hR5.1 (by omega)
  have cD := reduce21 (w.heap.size + 1 + 1) ((X * Y + C : Nat) : Int) w5 (by omega) HN2.out hR5.2 hT5 (by omega)
  rw [modLI] at cD
  go_wp2_with fail
  refine cD.mono ?_
  rintro e w6 ⟨rfl, hR6⟩
  have hB6 := hR6.1.below hB5 (by omega)
  have cB := bytes22 (w.heap.size + 1 + 1) ((X * Y + C) % LL) w6 (Nat.mod_lt _ LL_pos) hR6.2
  go_wp2_with fail
  refine cB.mono ?_
  rintro e w7 ⟨gb, rfl, hgb, hB7, hrow⟩
  go_wp2
  go_ret
  exact ⟨_, rfl, gb, rfl, by have := hB6.size; omega, hB6.trans (hB7.mono hB6.size), hrow⟩
theorem New32.view {w w' : World} {v : Value} {R : Nat} (h : New32 w w' v R) : ∃ gb, v = .slice (some ⟨gb, 0, none⟩) 32 32 ∧ View w' (some ⟨gb, 0, none⟩) (digs 32 R) := by
  obtain ⟨gb, h1, h2, h3, h4⟩ := h
  exact ⟨gb, h1, fun _ => ⟨gb, 0, rfl, bytes_row h4⟩⟩
/-- Whether bytes are those of what is left. -/
def isL (bs : List Nat) : Bool := decide (bs.length = 32 ∧ valD bs < LL)
theorem isL_eq {bs : List Nat} (hd : Dig bs) : decide (digs 32 (valD (bs.take 64) % LL) = bs) = isL bs := by
  unfold isL
  rw [decide_eq_decide]
  constructor
  · intro h
    have h1 : bs.length = 32 := by rw [← h, digs_len]
    rw [List.take_of_length_le (by omega)] at h
    refine ⟨h1, ?_⟩
    have h2 := congrArg valD h
    rw [valD_digs_lt (Nat.lt_trans (Nat.mod_lt _ LL_pos) (by decide))] at h2
    rw [← h2]; exact Nat.mod_lt _ LL_pos
  · rintro ⟨h1, h2⟩
    rw [List.take_of_length_le (by omega), Nat.mod_eq_of_lt h2, ← h1]
    exact digs_valD hd
theorem is14 (a : Option Addr) (len cap : Nat) (bs : List Nat) (w : World) (hlen : Hid (bs.length = len)) (hcap : len ≤ cap) (hcap2 : cap ≤ 9223372036854775807) (hd : Dig bs) (hv : View w a bs) (hT : ETab w) :
    Calls Tryz.prog 32 #[.slice a len cap] w fun e w' => e = .returned (.bool (isL bs)) ∧ Below w.heap.size w w' := by
  have cR := reduce9 a len cap bs w hlen hcap hcap2 hd hv hT
  have cE := fun w1 (hB : Below w.heap.size w w1) gb (h : View w1 (some ⟨gb, 0, none⟩) (digs 32 (valD (bs.take 64) % LL))) => equal35 (some ⟨gb, 0, none⟩) 32 32 (digs 32 (valD (bs.take 64) % LL)) a len cap bs w1 (digs_len _ _) hlen.out h (hv.below hB) (digs_dig _ _) hd
  rw [isL_eq hd] at cE
  clear hlen hv hT hd
  go_enter Tryz.func32, Tryz.ntmps32
  go_wp2_with fail
  refine cR.mono ?_
  rintro e w1 ⟨v, rfl, hN⟩
  obtain ⟨gb, rfl, hvw⟩ := hN.view
  have hB1 : Below w.heap.size w w1 := by obtain ⟨_, _, _, h, _⟩ := hN; exact h
  go_wp2_with fail
  refine (cE w1 hB1 gb hvw).mono ?_
  rintro e w2 ⟨rfl, rfl⟩
  go_wp2
  go_ret
  exact ⟨rfl, hB1⟩
end EN
end Go.Proofs.YtabgihjffjlfiaaGreatDoor
namespace Go.Proofs.YtabgihjffjlfiaaGreatDoor

/-- A word turned to the right. -/
def rot (W x b : Nat) : Nat := x >>> b ||| (x <<< (W - b)) % 2 ^ W
def tn (W x a b c : Nat) : Nat := rot W x a ^^^ rot W x b ^^^ rot W x c
def ts (W x a b c : Nat) : Nat := rot W x a ^^^ rot W x b ^^^ x >>> c

structure Sh where
  W : Nat
  n : Nat
  A0 : Nat
  A1 : Nat
  A2 : Nat
  B0 : Nat
  B1 : Nat
  B2 : Nat
  C0 : Nat
  C1 : Nat
  C2 : Nat
  D0 : Nat
  D1 : Nat
  D2 : Nat
def sh64 : Sh := ⟨64, 80, 28, 34, 39, 14, 18, 41, 1, 8, 7, 19, 61, 6⟩

theorem shr_lt {x b M : Nat} (h : x < M) : x >>> b < M := by
  rw [Nat.shiftRight_eq_div_pow]; exact Nat.lt_of_le_of_lt (Nat.div_le_self _ _) h
theorem rot_lt {W x b : Nat} (h : x < 2 ^ W) : rot W x b < 2 ^ W :=
  Nat.or_lt_two_pow (shr_lt h) (Nat.mod_lt _ (Nat.two_pow_pos _))
theorem tn_lt {W x a b c : Nat} (h : x < 2 ^ W) : tn W x a b c < 2 ^ W :=
  Nat.xor_lt_two_pow (Nat.xor_lt_two_pow (rot_lt h) (rot_lt h)) (rot_lt h)
theorem ts_lt {W x a b c : Nat} (h : x < 2 ^ W) : ts W x a b c < 2 ^ W :=
  Nat.xor_lt_two_pow (Nat.xor_lt_two_pow (rot_lt h) (rot_lt h)) (shr_lt h)

/-- One byte into its word. -/
def put1 (s : Sh) (ws : List Nat) (k b : Nat) : List Nat :=
  ws.set (k / (s.W / 8)) ((ws.getD (k / (s.W / 8)) 0 <<< 8) % 2 ^ s.W ||| b)
/-- The words behind the first k bytes. -/
def P1 (s : Sh) (bs : List Nat) : Nat → List Nat
  | 0 => List.replicate 80 0
  | k + 1 => put1 s (P1 s bs k) k (bs.getD k 0)
/-- One word more (word number t). -/
def put2 (s : Sh) (ws : List Nat) (t : Nat) : List Nat :=
  ws.set t ((ws.getD (t - 16) 0 + ts s.W (ws.getD (t - 15) 0) s.C0 s.C1 s.C2 + ws.getD (t - 7) 0 + ts s.W (ws.getD (t - 2) 0) s.D0 s.D1 s.D2) % 2 ^ s.W)
def P2 (s : Sh) (ws : List Nat) : Nat → List Nat
  | 0 => ws
  | k + 1 => put2 s (P2 s ws k) (16 + k)
/-- The words of a block. -/
def spr (s : Sh) (bs : List Nat) : List Nat := P2 s (P1 s bs (2 * s.W)) (s.n - 16)

theorem P1_len (s : Sh) (bs : List Nat) : ∀ k, (P1 s bs k).length = 80
  | 0 => by simp [P1]
  | k + 1 => by simp [P1, put1, P1_len s bs k]
theorem P2_len (s : Sh) (ws : List Nat) (h : ws.length = 80) : ∀ k, (P2 s ws k).length = 80
  | 0 => h
  | k + 1 => by simp [P2, put2, P2_len s ws h k]
theorem spr_len (s : Sh) (bs : List Nat) : (spr s bs).length = 80 := P2_len _ _ (P1_len _ _ _) _

theorem getD_set_lt {l : List Nat} {i v M : Nat} (h : ∀ j, l.getD j 0 < M) (hv : v < M) (j : Nat) : (l.set i v).getD j 0 < M := by
  have hj := h j
  simp only [List.getD_eq_getElem?_getD, List.getElem?_set] at *
  split
  · split <;> simp
    · exact hv
    · omega
  · exact hj
theorem P1_lt (s : Sh) (hs : 8 ≤ s.W) (bs : List Nat) (hb : ∀ j, bs.getD j 0 < 256) : ∀ k j, (P1 s bs k).getD j 0 < 2 ^ s.W
  | 0, j => by
    have hp := Nat.two_pow_pos s.W
    simp only [P1, List.getD_eq_getElem?_getD, List.getElem?_replicate]
    split <;> simp <;> omega
  | k + 1, j => by
    refine getD_set_lt (P1_lt s hs bs hb k) (Nat.or_lt_two_pow (Nat.mod_lt _ (Nat.two_pow_pos _)) ?_) j
    have : 2 ^ 8 ≤ 2 ^ s.W := Nat.pow_le_pow_right (by decide) hs
    have := hb k
    omega
theorem P2_lt (s : Sh) (ws : List Nat) (h : ∀ j, ws.getD j 0 < 2 ^ s.W) : ∀ k j, (P2 s ws k).getD j 0 < 2 ^ s.W
  | 0, j => h j
  | k + 1, j => getD_set_lt (P2_lt s ws h k) (Nat.mod_lt _ (Nat.two_pow_pos _)) j
theorem spr_lt (s : Sh) (hs : 8 ≤ s.W) (bs : List Nat) (hb : ∀ j, bs.getD j 0 < 256) (j : Nat) : (spr s bs).getD j 0 < 2 ^ s.W :=
  P2_lt s _ (P1_lt s hs bs hb _) _ j

structure S8 where
  a : Nat
  b : Nat
  c : Nat
  d : Nat
  e : Nat
  f : Nat
  g : Nat
  h : Nat
/-- One step, with the word of the step k and the block's word w. -/
def rnd (s : Sh) (k w : Nat) (q : S8) : S8 :=
  let x := (q.h + tn s.W q.e s.B0 s.B1 s.B2 + ((q.e &&& q.f) ^^^ ((2 ^ s.W - 1 - q.e) &&& q.g)) + k + w) % 2 ^ s.W
  let y := (tn s.W q.a s.A0 s.A1 s.A2 + ((q.a &&& q.b) ^^^ (q.a &&& q.c) ^^^ (q.b &&& q.c))) % 2 ^ s.W
  ⟨(x + y) % 2 ^ s.W, q.a, q.b, q.c, (q.d + x) % 2 ^ s.W, q.e, q.f, q.g⟩
def R (s : Sh) (ks ws : List Nat) (q : S8) : Nat → S8
  | 0 => q
  | t + 1 => rnd s (ks.getD t 0 >>> (64 - s.W)) (ws.getD t 0) (R s ks ws q t)
def S8.lt (q : S8) (M : Nat) : Prop := q.a < M ∧ q.b < M ∧ q.c < M ∧ q.d < M ∧ q.e < M ∧ q.f < M ∧ q.g < M ∧ q.h < M
theorem R_lt (s : Sh) (ks ws : List Nat) (q : S8) (h : q.lt (2 ^ s.W)) : ∀ t, (R s ks ws q t).lt (2 ^ s.W)
  | 0 => h
  | t + 1 => by
    obtain ⟨h1, h2, h3, h4, h5, h6, h7, h8⟩ := R_lt s ks ws q h t
    exact ⟨Nat.mod_lt _ (Nat.two_pow_pos _), h1, h2, h3, Nat.mod_lt _ (Nat.two_pow_pos _), h5, h6, h7⟩
def S8.list (q : S8) : List Nat := [q.a, q.b, q.c, q.d, q.e, q.f, q.g, q.h]
def ofL (l : List Nat) : S8 := ⟨l.getD 0 0, l.getD 1 0, l.getD 2 0, l.getD 3 0, l.getD 4 0, l.getD 5 0, l.getD 6 0, l.getD 7 0⟩
/-- The state behind a block. -/
def blk (s : Sh) (ks : List Nat) (st : List Nat) (bs : List Nat) : List Nat :=
  let q := R s ks (spr s bs) (ofL st) s.n
  List.zipWith (fun x y => (x + y) % 2 ^ s.W) st q.list
def addN (W : Nat) (st ql : List Nat) : Nat → List Nat
  | 0 => st
  | i + 1 => (addN W st ql i).set i (((addN W st ql i).getD i 0 + ql.getD i 0) % 2 ^ W)
theorem addN_len (W : Nat) (st ql : List Nat) : ∀ i, (addN W st ql i).length = st.length
  | 0 => rfl
  | i + 1 => by simp [addN, addN_len W st ql i]
theorem addN_8 (W : Nat) (st ql : List Nat) (h : st.length = 8) (h' : ql.length = 8) : addN W st ql 8 = List.zipWith (fun x y => (x + y) % 2 ^ W) st ql := by
  match st, h with
  | [a, b, c, d, e, f, g, i], _ =>
    match ql, h' with
    | [a', b', c', d', e', f', g', i'], _ => rfl
theorem blk_len (s : Sh) (ks st bs : List Nat) (h : st.length = 8) : (blk s ks st bs).length = 8 := by
  simp [blk, S8.list, h]
theorem blk_lt (s : Sh) (ks st bs : List Nat) (j : Nat) : (blk s ks st bs).getD j 0 < 2 ^ s.W := by
  have hp := Nat.two_pow_pos s.W
  simp only [blk, List.getD_eq_getElem?_getD, List.getElem?_zipWith]
  split
  · simp; exact Nat.mod_lt _ hp
  · simp; omega
/-- The state behind the first k blocks. -/
def blks (s : Sh) (ks st bs : List Nat) : Nat → List Nat
  | 0 => st
  | k + 1 => blk s ks (blks s ks st bs k) ((bs.drop (2 * s.W * k)).take (2 * s.W))
theorem blks_len (s : Sh) (ks st bs : List Nat) (h : st.length = 8) : ∀ k, (blks s ks st bs k).length = 8
  | 0 => h
  | k + 1 => blk_len _ _ _ _ (blks_len s ks st bs h k)
theorem blks_lt (s : Sh) (ks st bs : List Nat) (h : ∀ j, st.getD j 0 < 2 ^ s.W) : ∀ k j, (blks s ks st bs k).getD j 0 < 2 ^ s.W
  | 0, j => h j
  | _ + 1, _ => blk_lt _ _ _ _ _
theorem sub_getD (bs : List Nat) (a n j : Nat) (h : j < n) : ((bs.drop a).take n).getD j 0 = bs.getD (a + j) 0 := by
  simp [h]
theorem sub_lt (bs : List Nat) (a n : Nat) (hb : ∀ j, bs.getD j 0 < 256) (j : Nat) : ((bs.drop a).take n).getD j 0 < 256 := by
  by_cases h : j < n
  · rw [sub_getD bs a n j h]; exact hb _
  · have : ((bs.drop a).take n)[j]? = none := by rw [List.getElem?_eq_none]; simp; omega
    rw [List.getD_eq_getElem?_getD, this]; simp
def tailN (size bits : Nat) (base : List Nat) : Nat → List Nat
  | 0 => base
  | i + 1 => (tailN size bits base i).set (size - 1 - i) ((bits >>> (8 * i)) % 256)
def padB (size : Nat) (rest : List Nat) : List Nat := (rest ++ List.replicate (size - rest.length) 0).set rest.length 128
/-- The last blocks: what is left of a message, filled up. -/
def lastB (s : Sh) (rest : List Nat) (length : Nat) : List Nat :=
  let size := if 2 * s.W < rest.length + 1 + s.W / 4 then 4 * s.W else 2 * s.W
  tailN size (length * 8) (padB size rest) 8
theorem tailN_len (size bits : Nat) (base : List Nat) : ∀ i, (tailN size bits base i).length = base.length
  | 0 => rfl
  | i + 1 => by simp [tailN, tailN_len size bits base i]
theorem padB_len (size : Nat) (rest : List Nat) (h : rest.length ≤ size) : (padB size rest).length = size := by
  simp [padB]; omega
theorem tailN_lt (size bits : Nat) (base : List Nat) (h : ∀ j, base.getD j 0 < 256) : ∀ i j, (tailN size bits base i).getD j 0 < 256
  | 0, j => h j
  | i + 1, j => getD_set_lt (tailN_lt size bits base h i) (Nat.mod_lt _ (by decide)) j
theorem padB_lt (size : Nat) (rest : List Nat) (h : ∀ j, rest.getD j 0 < 256) (j : Nat) : (padB size rest).getD j 0 < 256 := by
  refine getD_set_lt (fun j => ?_) (by decide) j
  have hj := h j
  simp only [List.getD_eq_getElem?_getD, List.getElem?_append, List.getElem?_replicate] at *
  split
  · exact hj
  · split <;> simp
theorem lastB_lt (s : Sh) (rest : List Nat) (length : Nat) (h : ∀ j, rest.getD j 0 < 256) (j : Nat) : (lastB s rest length).getD j 0 < 256 :=
  tailN_lt _ _ _ (padB_lt _ _ h) _ _
theorem lastB_len (s : Sh) (rest : List Nat) (length : Nat) (h : rest.length ≤ 2 * s.W) : (lastB s rest length).length = if 2 * s.W < rest.length + 1 + s.W / 4 then 4 * s.W else 2 * s.W := by
  unfold lastB
  rw [tailN_len, padB_len]
  split <;> omega
theorem ones_xor (W e : Nat) (h : e < 2 ^ W) : (2 ^ W - 1) ^^^ e = 2 ^ W - 1 - e := by
  apply Nat.eq_of_testBit_eq
  intro i
  rw [Nat.testBit_xor, Nat.testBit_two_pow_sub_one, show 2 ^ W - 1 - e = 2 ^ W - (e + 1) by omega, Nat.testBit_two_pow_sub_succ h]
  by_cases hi : i < W
  · simp [hi]
  · simp [hi]
    exact Nat.testBit_lt_two_pow (Nat.lt_of_lt_of_le h (Nat.pow_le_pow_right (by decide) (by omega)))
end Go.Proofs.YtabgihjffjlfiaaGreatDoor
namespace Go.Proofs.YtabgihjffjlfiaaGreatDoor
open Go.RowKit Go.Sort
end Go.Proofs.YtabgihjffjlfiaaGreatDoor
set_option linter.unusedVariables false
namespace Go.Proofs.YtabgihjffjlfiaaGreatDoor
open Go.RowKit Go.Sort Go.BigFrame
def z80 : List Nat := List.replicate 80 0
end Go.Proofs.YtabgihjffjlfiaaGreatDoor
set_option linter.unusedVariables false
namespace Go.Proofs.YtabgihjffjlfiaaGreatDoor
open Go.RowKit Go.Sort Go.BigFrame
/-- The table of the steps' words, as it lies in memory. -/
def TabAt (w : World) (g : Nat) (ks : List Nat) : Prop := ∀ i, i < ks.length → w.cell? ⟨g, i, none⟩ = some (.int .u64 ((ks.getD i 0 : Nat) : Int))
theorem TabAt.below {w w' : World} {g B : Nat} {ks : List Nat} (h : TabAt w g ks) (hb : Below B w w') (hlt : g < B) : TabAt w' g ks :=
  fun i hi => (hb.cell (p := ⟨g, i, none⟩) hlt).trans (h i hi)
end Go.Proofs.YtabgihjffjlfiaaGreatDoor
set_option linter.unusedVariables false
namespace Go.Proofs.YtabgihjffjlfiaaGreatDoor
open Go.RowKit Go.Sort Go.BigFrame
theorem sub_bytes {w : World} {b off : Nat} {bs : List Nat} (h : BytesAt w b off bs) (a n : Nat) (hn : a + n ≤ bs.length) : BytesAt w b (off + a) ((bs.drop a).take n) := by
  intro i hi
  have hi' : i < n := by simp at hi; omega
  rw [sub_getD bs a n i hi', Nat.add_assoc]
  exact h (a + i) (by omega)
end Go.Proofs.YtabgihjffjlfiaaGreatDoor
set_option linter.unusedVariables false
namespace Go.Proofs.YtabgihjffjlfiaaGreatDoor
open Go.RowKit Go.Sort Go.BigFrame
def z128 : List Nat := List.replicate 128 0
def HCopyFrom (w : World) (a : Option Addr) (rest : List Nat) : Prop := 0 < (ints .u8 rest).toList.length → ∃ ad, a = some ad ∧ ∀ j v, (ints .u8 rest).toList[j]? = some v → w.cell? (ad.add j) = some v
theorem shr8 (L k : Nat) : (L : Int) * (8 : Int) / 2 ^ (8 * k) % (256 : Int) = ((((L * 8) >>> (8 * k)) % 256 : Nat) : Int) := by
  rw [Nat.shiftRight_eq_div_pow]; simp
theorem splice_pad (z : List Nat) (sz : Nat) (hz : z = List.replicate sz 0) (rest : List Nat) : (splice (ints .u8 z).toList 0 (ints .u8 rest).toList).toArray = ints .u8 (rest ++ List.replicate (sz - rest.length) 0) := by
  subst hz
  simp [splice, ints, List.drop_replicate]
theorem after_copy (z : List Nat) (sz : Nat) (hz : z = List.replicate sz 0) (rest : List Nat) (rl : Nat) (hlen : Hid (rest.length = rl)) (hr : rl < sz) {w2 : World} {g : Nat} (h : Hid (w2.heap[g]? = some (.cells (splice (ints .u8 z).toList 0 (ints .u8 rest).toList).toArray 5 (0, 0)))) :
    ∃ v, w2.cell? ⟨g, rl, none⟩ = some v ∧ w2.frozen? ⟨g, rl, none⟩ = false := by
  have h' := h.out
  rw [splice_pad z sz hz] at h'
  exact ⟨_, cell_ints h' rl (by have := hlen.out; simp; omega), free_ints h' rl⟩
theorem after_row (z : List Nat) (sz : Nat) (hz : z = List.replicate sz 0) (rest : List Nat) (rl : Nat) (hlen : Hid (rest.length = rl)) (hr : rl < sz) {w2 : World} {g : Nat} (h : Hid (w2.heap[g]? = some (.cells (splice (ints .u8 z).toList 0 (ints .u8 rest).toList).toArray 5 (0, 0)))) :
    (w2.setCell ⟨g, rl, none⟩ (.int .u8 128)).heap[g]? = some (.cells (ints .u8 (padB sz rest)) 5 (0, 0)) := by
  have h' := h.out
  rw [splice_pad z sz hz] at h'
  have := set_ints h' rl 128
  refine this.trans ?_; rw [← hlen.out]; rfl
set_option maxRecDepth 100000
set_option maxHeartbeats 2000000

end Go.Proofs.YtabgihjffjlfiaaGreatDoor
set_option linter.unusedVariables false
namespace Go.Proofs.YtabgihjffjlfiaaGreatDoor
open Go.RowKit Go.Sort Go.BigFrame
set_option maxRecDepth 100000
set_option maxHeartbeats 2000000
/-- The bytes of a word, the first n of them, the highest first. -/
def wb (W x : Nat) : Nat → List Nat
  | 0 => []
  | n + 1 => wb W x n ++ [(x >>> (W - 8 * n - 8)) % 256]
def stB (W : Nat) (st : List Nat) : Nat → List Nat
  | 0 => []
  | k + 1 => stB W st k ++ wb W (st.getD k 0) (W / 8)
def Hbv (l : List Nat) : List Value := l.map fun (x : Nat) => Value.int .u8 (x : Int)
theorem Hnews_one (w : World) (v : Value) (t : TypeId) : ∀ (j : Nat) u, [v][j]? = some u → (w.alloc (.cells #[v] t)).cell? ((⟨w.heap.size, 0, none⟩ : Addr).add j) = some u := by
  intro j u hj
  match j, hj with
  | 0, hj =>
    obtain rfl : v = u := by simpa using hj
    rw [Addr.add_mid, cell_of_row _ _ _ _ _ _ (heap_alloc_new _ _)]; rfl
theorem Hone_byte {n : Int} : ∀ u ∈ [Value.int .u8 n], u.oneCell' = true := fun u hu => by rw [List.mem_singleton.1 hu]; rfl
end Go.Proofs.YtabgihjffjlfiaaGreatDoor
set_option linter.unusedVariables false
namespace Go.Proofs.YtabgihjffjlfiaaGreatDoor
open Go.RowKit Go.Sort Go.BigFrame
set_option maxRecDepth 100000
set_option maxHeartbeats 800000
def initN (W : Nat) (hs : List Nat) : Nat → List Nat
  | 0 => List.replicate 8 0
  | k + 1 => (initN W hs k).set k (hs.getD k 0 >>> (64 - W))
theorem initN_len (W : Nat) (hs : List Nat) : ∀ k, (initN W hs k).length = 8
  | 0 => rfl
  | k + 1 => by simp [initN, initN_len W hs k]
/-- The digest of a message, with the words of the state hs and those of the steps ks. -/
def dig (s : Sh) (hs ks bs : List Nat) : List Nat :=
  let whole := bs.length - bs.length % (2 * s.W)
  let last := lastB s (bs.drop whole) bs.length
  stB s.W (blks s ks (blks s ks (initN s.W hs 8) (bs.take whole) (whole / (2 * s.W))) last (last.length / (2 * s.W))) 8
def cutA (a : Option Addr) (l m : Nat) : Option Addr := if m = l then a else a.map (·.add l)
theorem size5 : ∀ w, (sizeOf 5).run Tryz.prog w = .ok 1 w := fun _ => by kernel_rfl
theorem elem22 : Tryz.prog.elem 22 = 5 := by kernel_rfl
theorem run_cut_h (a : Option Addr) (len cap h : Nat) (w : World) (hh : h ≤ cap) : (Instr.sliceAt 22 (.slice a len cap) none (some (.int .i64 (h : Int))) none).run Tryz.prog w = .ok (.slice (cutA a 0 cap) h cap) w := by
  have hu : Tryz.prog.underlying 22 = some (.slice (Tryz.prog.elem 22)) := by rw [elem22]; exact Tryz.underlying22
  rw [run_sliceAt_slice w 22 _ _ _ _ hu, run_slice_h w 22 a len cap hu .i64 _ (by omega) (by omega), elem22, size5]
  simp [Result.andThen, sliced, cutA]
theorem run_cut_l (a : Option Addr) (len cap l : Nat) (w : World) (hl : l ≤ len) : (Instr.sliceAt 22 (.slice a len cap) (some (.int .i64 (l : Int))) none none).run Tryz.prog w = .ok (.slice (cutA a l cap) (len - l) (cap - l)) w := by
  have hu : Tryz.prog.underlying 22 = some (.slice (Tryz.prog.elem 22)) := by rw [elem22]; exact Tryz.underlying22
  rw [run_sliceAt_slice w 22 _ _ _ _ hu, run_slice_l w 22 a len cap hu .i64 _ (by omega) (by omega), elem22, size5]
  simp [Result.andThen, sliced, cutA]
theorem View.cut {w : World} {a : Option Addr} {bs : List Nat} (h : View w a bs) (l n cap : Nat) (hn : l + n ≤ bs.length) (hc : bs.length ≤ cap) : View w (cutA a l cap) ((bs.drop l).take n) := fun hp => by
  have hn0 : 0 < n := by simp at hp; omega
  obtain ⟨b, off, rfl, hb⟩ := h (by omega)
  refine ⟨b, off + l, ?_, sub_bytes hb l n hn⟩
  unfold cutA
  rw [if_neg (by omega)]
  simp [Addr.add_mid]
theorem Hrun_lenO {ρ : Operand → Value} {o : Oper} {x : Operand} {a : Option Addr} {len cap : Nat} {w : World} (ho : o.op = .call { callee := .builtin .len, args := #[x], argTypes := #[22] }) (hx : ρ x = .slice a len cap) :
    (execOp ρ o).run Tryz.prog w = .ok (.value (.int .i64 (len : Int))) w := by
  simp [execOp, ho, resolve, invoke, hx, go_sem]
theorem Hrun_sliceO {ρ : Operand → Value} {t : TypeId} {x : Operand} {lo hi mx : Option Operand} {w : World} {v : Value} {o : Oper}
    (hr : (Instr.sliceAt t (ρ x) (lo.map ρ) (hi.map ρ) (mx.map ρ)).run Tryz.prog w = .ok v w) (ho : o.op = .slice t x lo hi mx) : (execOp ρ o).run Tryz.prog w = .ok (.value v) w := by
  unfold execOp
  rw [ho]
  simp only [Sem.run_bind, hr, Result.andThen_ok, Sem.run_pure]
theorem take_lt (bs : List Nat) (n : Nat) (hb : ∀ j, bs.getD j 0 < 256) (j : Nat) : (bs.take n).getD j 0 < 256 := by
  have := sub_lt bs 0 n hb j
  rwa [List.drop_zero] at this
end Go.Proofs.YtabgihjffjlfiaaGreatDoor
namespace Go.Proofs.YtabgihjffjlfiaaGreatDoor
open Go.RowKit Go.Sort
theorem rot64_eq (x b : Nat) (hx : x < 18446744073709551616) : bits BinOp.or IntKind.u64 (↑x / 2 ^ b) (↑x * 2 ^ (64 - b) % 18446744073709551616) = ((rot 64 x b : Nat) : Int) := by
  have h1 : ((x : Int) / 2 ^ b) = ((x >>> b : Nat) : Int) := by rw [Nat.shiftRight_eq_div_pow]; simp
  have h2 : ((x : Int) * 2 ^ (64 - b) % 18446744073709551616) = (((x <<< (64 - b)) % 2 ^ 64 : Nat) : Int) := by rw [Nat.shiftLeft_eq]; simp
  rw [h1, h2, u64_or_nat _ _ (shr_lt hx) (by omega)]
  rfl
theorem turn64 (x b : Nat) (w : World) (hx : x < 18446744073709551616) (hb : 0 < b) (hb2 : b < 64) :
    Calls Tryz.prog 123 #[.int .u64 x, .int .u64 b, .int .u64 64] w fun e w' => e = .returned (.int .u64 (rot 64 x b : Nat)) ∧ w' = w := by
  go_enter Tryz.func123, Tryz.ntmps123
  go_wp2
  go_ret
  exact ⟨ret_int (rot64_eq x b hx), rfl⟩
theorem xor3_64 (a b c : Nat) (ha : a < 18446744073709551616) (hb : b < 18446744073709551616) (hc : c < 18446744073709551616) :
    bits BinOp.xor IntKind.u64 (bits BinOp.xor IntKind.u64 (a : Int) (b : Int)) (c : Int) = ((a ^^^ b ^^^ c : Nat) : Int) := by
  rw [u64_xor_nat _ _ ha hb, u64_xor_nat _ _ (Nat.xor_lt_two_pow (n := 64) ha hb) hc]
theorem turns64 (x a b c : Nat) (w : World) (hx : x < 18446744073709551616) (ha : 0 < a) (ha2 : a < 64) (hb : 0 < b) (hb2 : b < 64) (hc : 0 < c) (hc2 : c < 64) :
    Calls Tryz.prog 120 #[.int .u64 x, .agg #[.int .u64 a, .int .u64 b, .int .u64 c], .int .u64 64] w fun e w' => e = .returned (.int .u64 (tn 64 x a b c : Nat)) ∧ Below w.heap.size w w' := by
  go_enter Tryz.func120, Tryz.ntmps120
  go_wp2
  go_quiet ((go_at_call 123; exact Calls.quiet_of_same (turn64 _ _ _ (by assumption) (by assumption) (by assumption))))
  go_wp2
  go_ret
  exact ⟨ret_int (xor3_64 _ _ _ (rot_lt (W := 64) hx) (rot_lt (W := 64) hx) (rot_lt (W := 64) hx)), below_drewN ((Below.refl _ _).alloc (Nat.le_refl _) _) _⟩
theorem turnsShift64 (x a b c : Nat) (w : World) (hx : x < 18446744073709551616) (ha : 0 < a) (ha2 : a < 64) (hb : 0 < b) (hb2 : b < 64) (hc : 0 < c) (hc2 : c < 64) :
    Calls Tryz.prog 122 #[.int .u64 x, .agg #[.int .u64 a, .int .u64 b, .int .u64 c], .int .u64 64] w fun e w' => e = .returned (.int .u64 (ts 64 x a b c : Nat)) ∧ Below w.heap.size w w' := by
  go_enter Tryz.func122, Tryz.ntmps122
  go_wp2
  go_quiet ((go_at_call 123; exact Calls.quiet_of_same (turn64 _ _ _ (by assumption) (by assumption) (by assumption))))
  go_wp2
  go_ret
  refine ⟨ret_int ?_, below_drewN ((Below.refl _ _).alloc (Nat.le_refl _) _) _⟩
  have h1 : ((x : Int) / 2 ^ c) = ((x >>> c : Nat) : Int) := by rw [Nat.shiftRight_eq_div_pow]; simp
  rw [h1]
  exact xor3_64 _ _ _ (rot_lt (W := 64) hx) (rot_lt (W := 64) hx) (shr_lt hx)
end Go.Proofs.YtabgihjffjlfiaaGreatDoor
set_option linter.unusedVariables false
namespace Go.Proofs.YtabgihjffjlfiaaGreatDoor
open Go.RowKit Go.Sort Go.BigFrame
def shpA64 : Array Value := #[.int .u64 64, .int .i64 80, .int .u64 28, .int .u64 34, .int .u64 39, .int .u64 14, .int .u64 18, .int .u64 41, .int .u64 1, .int .u64 8, .int .u64 7, .int .u64 19, .int .u64 61, .int .u64 6]
theorem shp_at64 {w : World} {g : Nat} (h : w.heap[g]? = some (.cells shpA64 97 (0, 0))) (j : Nat) (v : Value) (hv : shpA64[j]? = some v) : w.cell? ⟨g, j, none⟩ = some v := by
  rw [cell_of_row w g j _ _ _ h]; exact hv
theorem put1_64 (x b : Nat) (hb : b < 256) : bits BinOp.or IntKind.u64 (IntKind.u64.wrap ((x : Int) * (256 : Int))) (b : Int) = (((x <<< 8) % 2 ^ 64 ||| b : Nat) : Int) := by
  have h2 : IntKind.u64.wrap ((x : Int) * (256 : Int)) = (((x <<< 8) % 2 ^ 64 : Nat) : Int) := by rw [IntKind.wrap_u64, Nat.shiftLeft_eq]; omega
  rw [h2]
  exact u64_or_nat _ _ (by omega) (by omega)
theorem put2_64 (a b c d : Nat) : IntKind.u64.wrap (IntKind.u64.wrap (IntKind.u64.wrap ((a : Int) + (b : Int)) + (c : Int)) + (d : Int)) = (((a + b + c + d) % 2 ^ 64 : Nat) : Int) := by
  simp only [IntKind.wrap_u64]; omega
def Rel64 (w : World) (wr : World) (ws : List Nat) : Prop :=
  Below w.heap.size w wr ∧ wr.heap[w.heap.size]? = some (.cells shpA64 97 (0, 0)) ∧ wr.heap[w.heap.size + 1]? = some (.cells (ints .u64 z80) 131 (0, 0)) ∧ wr.heap[w.heap.size + 1 + 1]? = some (.cells (ints .u64 ws) 131 (0, 0))
theorem Rel64.start (w : World) (bs : List Nat) : Rel64 w (((w.alloc (.cells shpA64 97)).alloc (.cells (ints .u64 z80) 131)).alloc (.cells (ints .u64 z80) 131)) (P1 sh64 bs 0) :=
  ⟨below3 _ _ _ _, heap3_0 _ _ _ _, heap3_1 _ _ _ _, heap3_2 _ _ _ _⟩
theorem Rel64.store {w wr : World} {ws : List Nat} (h : Rel64 w wr ws) (j v : Nat) : Rel64 w (wr.setCell ⟨w.heap.size + 1 + 1, j, none⟩ (.int .u64 (v : Int))) (ws.set j v) := by
  obtain ⟨h1, h2, h3, h4⟩ := h
  exact ⟨h1.setCell (by simp; omega) _, by rw [heap_setCell_other _ _ _ _ (by simp; omega)]; exact h2, by rw [heap_setCell_other _ _ _ _ (by simp)]; exact h3, set_ints h4 j v⟩
theorem Rel64.drew {w wr : World} {ws : List Nat} (h : Rel64 w wr ws) : Rel64 w wr.drew ws := ⟨h.1.drew, h.2.1, h.2.2.1, h.2.2.2⟩
theorem Rel64.on {w wr w1 : World} {ws : List Nat} (h : Rel64 w wr ws) (hb : Below wr.heap.size wr w1) : Rel64 w w1 ws :=
  ⟨h.1.trans (hb.mono h.1.size), block_below hb (lt_of_heap h.2.1) h.2.1, block_below hb (lt_of_heap h.2.2.1) h.2.2.1, block_below hb (lt_of_heap h.2.2.2) h.2.2.2⟩
set_option maxRecDepth 100000 in
set_option maxHeartbeats 1000000 in
theorem spread64 (b off : Nat) (cap : Nat) (bs : List Nat) (w : World) (hlen0 : bs.length = 128) (hb256 : ∀ j, bs.getD j 0 < 256) (hcap : 128 ≤ cap) (hcap2 : cap ≤ maxLen)
    (hc : BytesAt w b off bs) :
    Calls Tryz.prog 119 #[.slice (some ⟨b, off, none⟩) 128 cap, .agg shpA64] w fun e w' => e = .returned (.agg (ints .u64 (spr sh64 bs))) ∧ Below w.heap.size w w' := by
  have hlen : Hid (bs.length = 128) := hlen0
  have hz : ∀ w, (zeroValue 131).run Tryz.prog w = .ok (.agg (ints .u64 z80)) w := fun _ => by kernel_rfl
  have hbB : b < w.heap.size := block_lt_of_cell (hc 0 (by omega))
  clear hlen0
  unfold maxLen at hcap2
  unfold shpA64
  go_enter Tryz.func119, Tryz.ntmps119
  go_wp2
  go_loopw [18] (fun i wr => ∃ k : Nat, k ≤ 128 ∧ i = .int .i64 k ∧ Rel64 w wr (P1 sh64 bs k)) (fun i _ => 128 - (intOf i).toNat)
  case atStart => exact ⟨0, by omega, rfl, Rel64.start w bs⟩
  case round =>
    obtain ⟨k, hk, rfl, hR⟩ := hrel
    by_cases hlt : k < 128
    · obtain ⟨Hbv, hbv⟩ : ∃ x, x = bs.getD k 0 := ⟨_, rfl⟩
      obtain ⟨wv, hwv⟩ : ∃ x, x = (P1 sh64 bs k).getD (k / 8) 0 := ⟨_, rfl⟩
      have c1 : wr.cell? ⟨b, off + k, none⟩ = some (.int .u8 (Hbv : Int)) := by rw [hbv]; exact (hR.1.cell (p := ⟨b, off + k, none⟩) hbB).trans (hc k (by rw [hlen.out]; omega))
      have c2 : wr.cell? ⟨w.heap.size + 1 + 1, k / 8, none⟩ = some (.int .u64 (wv : Int)) := by rw [hwv]; exact cell_ints hR.2.2.2 (k / 8) (by rw [P1_len]; omega)
      have f2 := free_ints hR.2.2.2 (k / 8)
      have hbv256 : Hbv < 256 := by rw [hbv]; exact hb256 k
      have HS : Hid (Rel64 w (wr.setCell ⟨w.heap.size + 1 + 1, k / 8, none⟩ (.int .u64 (((wv <<< 8) % 2 ^ 64 ||| Hbv : Nat) : Int))) (P1 sh64 bs (k + 1))) := by
        rw [hwv, hbv]; exact hR.store (k / 8) _
      clear hbv hwv hR
      go_wp2
      go_region
      all_goals
        go_wp2
        go_roundw
        case rel => exact ⟨k + 1, by omega, by go_num, by rw [put1_64 _ _ hbv256]; exact (HS.out).drew⟩
        case measure => simp [intOf]; omega
    · obtain rfl : k = 128 := by omega
      go_wp2
      go_loopw [9] (fun i wr => ∃ t : Nat, 16 ≤ t ∧ t ≤ 80 ∧ i = .int .i64 t ∧ Rel64 w wr (P2 sh64 (P1 sh64 bs 128) (t - 16))) (fun i _ => 80 - (intOf i).toNat)
      case atStart => exact ⟨16, by omega, by omega, rfl, hR⟩
      case round =>
        obtain ⟨t, ht16, ht, rfl, hR⟩ := hrel
        have s1 := shp_at64 hR.2.1 1 (.int .i64 80) rfl
        by_cases hlt : t < 80
        · obtain ⟨ws, hws⟩ : ∃ x, x = P2 sh64 (P1 sh64 bs 128) (t - 16) := ⟨_, rfl⟩
          rw [← hws] at hR
          have hwl : ws.length = 80 := by rw [hws]; exact P2_len _ _ (P1_len _ _ _) _
          have hwt : ∀ j, ws.getD j 0 < 18446744073709551616 := by rw [hws]; exact P2_lt sh64 _ (P1_lt sh64 (by decide) bs hb256 _) _
          have HS : Hid (P2 sh64 (P1 sh64 bs 128) (t + 1 - 16) = put2 sh64 ws t) := by
            rw [hws, show t + 1 - 16 = (t - 16) + 1 by omega]; show put2 _ _ (16 + (t - 16)) = _; rw [show 16 + (t - 16) = t by omega]
          obtain ⟨x2, hx2⟩ : ∃ x, x = ws.getD (t - 2) 0 := ⟨_, rfl⟩
          obtain ⟨x15, hx15⟩ : ∃ x, x = ws.getD (t - 15) 0 := ⟨_, rfl⟩
          obtain ⟨x16, hx16⟩ : ∃ x, x = ws.getD (t - 16) 0 := ⟨_, rfl⟩
          obtain ⟨x7, hx7⟩ : ∃ x, x = ws.getD (t - 7) 0 := ⟨_, rfl⟩
          have HT : Hid (put2 sh64 ws t = ws.set t ((x16 + ts 64 x15 1 8 7 + x7 + ts 64 x2 19 61 6) % 2 ^ 64)) := by rw [hx2, hx15, hx16, hx7]; rfl
          have l2 : x2 < 18446744073709551616 := by rw [hx2]; exact hwt _
          have l15 : x15 < 18446744073709551616 := by rw [hx15]; exact hwt _
          have HX2 : Hid (ws.getD (t - 2) 0 = x2) := hx2.symm
          have HX15 : Hid (ws.getD (t - 15) 0 = x15) := hx15.symm
          have HX16 : Hid (ws.getD (t - 16) 0 = x16) := hx16.symm
          have HX7 : Hid (ws.getD (t - 7) 0 = x7) := hx7.symm
          clear hws hwt hx2 hx15 hx16 hx7
          go_wp2_with fail
          have q2 := cell_regrown (w := wr) (a := ⟨w.heap.size + 1 + 1, t - 2, none⟩) (v := .int .u64 (x2 : Int)) (by rw [← HX2.out]; exact cell_ints hR.2.2.2 (t - 2) (by omega))
          have q11 := cell_regrown (shp_at64 hR.2.1 11 (.int .u64 19) rfl)
          have q12 := cell_regrown (shp_at64 hR.2.1 12 (.int .u64 61) rfl)
          have q13 := cell_regrown (shp_at64 hR.2.1 13 (.int .u64 6) rfl)
          have q0 := cell_regrown (shp_at64 hR.2.1 0 (.int .u64 64) rfl)
          have cQ : ∀ d os, Calls Tryz.prog 122 #[.int .u64 (x2 : Int), .agg #[.int .u64 19, .int .u64 61, .int .u64 6], .int .u64 64] (grow (redrawn wr d) os) fun e w'' => e = .returned (.int .u64 (ts 64 x2 19 61 6 : Nat)) ∧ ∃ p : Regrown, w'' = grow (redrawn wr p.d) p.os :=
            fun d os => Calls.regrown_of (turnsShift64 x2 19 61 6 _ l2 (by decide) (by decide) (by decide) (by decide) (by decide) (by decide))
          refine wp_region_quiet_below (by kernel_rfl) (by kernel_rfl) ?_
          repeat (go_big_quiet_step (exact cQ _ _))
          refine wpQuiet_nil ?_
          intro w1 hw'
          have hb1 : Below wr.heap.size wr w1 := by obtain ⟨p, rfl⟩ := hw'; exact below_regrown _ _ _
          have hR1 := hR.on hb1
          clear hw' q2 q11 q12 q13 q0 cQ s1 hR
          go_wp2_with fail
          have q2 := cell_regrown (w := w1) (a := ⟨w.heap.size + 1 + 1, t - 15, none⟩) (v := .int .u64 (x15 : Int)) (by rw [← HX15.out]; exact cell_ints hR1.2.2.2 (t - 15) (by omega))
          have q11 := cell_regrown (shp_at64 hR1.2.1 8 (.int .u64 1) rfl)
          have q12 := cell_regrown (shp_at64 hR1.2.1 9 (.int .u64 8) rfl)
          have q13 := cell_regrown (shp_at64 hR1.2.1 10 (.int .u64 7) rfl)
          have q0 := cell_regrown (shp_at64 hR1.2.1 0 (.int .u64 64) rfl)
          have cQ : ∀ d os, Calls Tryz.prog 122 #[.int .u64 (x15 : Int), .agg #[.int .u64 1, .int .u64 8, .int .u64 7], .int .u64 64] (grow (redrawn w1 d) os) fun e w'' => e = .returned (.int .u64 (ts 64 x15 1 8 7 : Nat)) ∧ ∃ p : Regrown, w'' = grow (redrawn w1 p.d) p.os :=
            fun d os => Calls.regrown_of (turnsShift64 x15 1 8 7 _ l15 (by decide) (by decide) (by decide) (by decide) (by decide) (by decide))
          refine wp_region_quiet_below (by kernel_rfl) (by kernel_rfl) ?_
          repeat (go_big_quiet_step (exact cQ _ _))
          refine wpQuiet_nil ?_
          intro w2 hw'
          have hb2 : Below w1.heap.size w1 w2 := by obtain ⟨p, rfl⟩ := hw'; exact below_regrown _ _ _
          have hR2 := hR1.on hb2
          clear hw' q2 q11 q12 q13 q0 cQ hb1 hR1 hb2
          have c16 : w2.cell? ⟨w.heap.size + 1 + 1, t - 16, none⟩ = some (.int .u64 (x16 : Int)) := by rw [← HX16.out]; exact cell_ints hR2.2.2.2 (t - 16) (by omega)
          have c7 : w2.cell? ⟨w.heap.size + 1 + 1, t - 7, none⟩ = some (.int .u64 (x7 : Int)) := by rw [← HX7.out]; exact cell_ints hR2.2.2.2 (t - 7) (by omega)
          have c0 : ∃ v, w2.cell? ⟨w.heap.size + 1 + 1, t, none⟩ = some v := ⟨_, cell_ints hR2.2.2.2 t (by omega)⟩
          obtain ⟨v0, c0⟩ := c0
          have f2 := free_ints hR2.2.2.2 t
          have HR : Hid (Rel64 w (w2.setCell ⟨w.heap.size + 1 + 1, t, none⟩ (.int .u64 (((x16 + ts 64 x15 1 8 7 + x7 + ts 64 x2 19 61 6) % 2 ^ 64 : Nat) : Int))) (P2 sh64 (P1 sh64 bs 128) (t + 1 - 16))) := by
            rw [HS.out, HT.out]; exact hR2.store t _
          clear hR2
          go_wp2
          go_region
          all_goals
            go_wp2
            go_roundw
            case rel => exact ⟨t + 1, by omega, by omega, by go_num, by rw [put2_64]; exact (HR.out).drew⟩
            case measure => simp [intOf]; omega
        · obtain rfl : t = 80 := by omega
          obtain ⟨ws, hws⟩ : ∃ x, x = ints .u64 (spr sh64 bs) := ⟨_, rfl⟩
          have hwl : ws.size = 80 := by rw [hws, ints_size, spr_len]
          have hw1 : ws.all (·.oneCell') = true := by rw [hws]; exact ints_one _ _
          have h5 : wr.heap[w.heap.size + 1 + 1]? = some (.cells ws 131 (0, 0)) := by rw [hws]; exact hR.2.2.2
          have h4 := hR.2.2.1
          have h80 : (Tryz.prog.info? 131).map (·.size) = some 80 := by kernel_rfl
          have hzl : (ints .u64 z80).size = 80 := by rw [ints_size]; rfl
          go_wp2_with (first
            | (refine wpList_load_row rfl 131 (.tmp 5) rfl _ rfl 131 ws (0, 0) _ h5 Tryz.underlying131 rfl (by rw [hwl]; exact h80) ?_)
            | (refine wpList_store_row rfl 131 (.tmp 4) (.tmp 76) rfl _ ws rfl rfl 131 _ h4 (by rw [hwl]; exact h80) (by rw [hwl]; exact hzl) hw1 ?_))
          refine bodyPost_ret (v := .agg ws) ?_ rfl ⟨by rw [hws], setRow_below hR.1 (by omega) _⟩
          exact results_cell_row Tryz.results119 _ _ _ 131 ws (0, 0) _ rfl (setRow_heap _ _ _ _ _ _ h4) Tryz.underlying131 rfl (by rw [hwl]; exact h80)
end Go.Proofs.YtabgihjffjlfiaaGreatDoor
set_option linter.unusedVariables false
namespace Go.Proofs.YtabgihjffjlfiaaGreatDoor
open Go.RowKit Go.Sort Go.BigFrame
theorem ch64 (e f g : Nat) (he : e < 18446744073709551616) (hf : f < 18446744073709551616) (hg : g < 18446744073709551616) :
    bits BinOp.xor IntKind.u64 (bits BinOp.and IntKind.u64 (e : Int) (f : Int)) (bits BinOp.and IntKind.u64 (bits BinOp.xor IntKind.u64 (if IntKind.u64.signed = true then -1 else IntKind.u64.max) (e : Int)) (g : Int)) =
      (((e &&& f) ^^^ ((2 ^ 64 - 1 - e) &&& g) : Nat) : Int) := by
  have h1 : (if IntKind.u64.signed = true then -1 else IntKind.u64.max) = ((2 ^ 64 - 1 : Nat) : Int) := by decide
  rw [h1, u64_xor_nat _ _ (by decide) he, ones_xor 64 e he, u64_and_nat _ _ he hf, u64_and_nat _ _ (by omega) hg, u64_xor_nat _ _ (Nat.and_lt_two_pow (n := 64) _ hf) (Nat.and_lt_two_pow (n := 64) _ hg)]
theorem maj64 (a b c : Nat) (ha : a < 18446744073709551616) (hb : b < 18446744073709551616) (hc : c < 18446744073709551616) :
    bits BinOp.xor IntKind.u64 (bits BinOp.xor IntKind.u64 (bits BinOp.and IntKind.u64 (a : Int) (b : Int)) (bits BinOp.and IntKind.u64 (a : Int) (c : Int))) (bits BinOp.and IntKind.u64 (b : Int) (c : Int)) =
      (((a &&& b) ^^^ (a &&& c) ^^^ (b &&& c) : Nat) : Int) := by
  rw [u64_and_nat _ _ ha hb, u64_and_nat _ _ ha hc, u64_and_nat _ _ hb hc]
  exact xor3_64 _ _ _ (Nat.and_lt_two_pow (n := 64) _ hb) (Nat.and_lt_two_pow (n := 64) _ hc) (Nat.and_lt_two_pow (n := 64) _ hc)
theorem sum5_64 (a b c d e : Nat) : IntKind.u64.wrap (IntKind.u64.wrap (IntKind.u64.wrap (IntKind.u64.wrap ((a : Int) + (b : Int)) + (c : Int)) + (d : Int)) + (e : Int)) = (((a + b + c + d + e) % 2 ^ 64 : Nat) : Int) := by
  simp only [IntKind.wrap_u64]; omega
theorem sum2_64 (a b : Nat) : IntKind.u64.wrap ((a : Int) + (b : Int)) = (((a + b) % 2 ^ 64 : Nat) : Int) := by
  simp only [IntKind.wrap_u64]; omega
def z8_64 : Array Value := #[.int .u64 0, .int .u64 0, .int .u64 0, .int .u64 0, .int .u64 0, .int .u64 0, .int .u64 0, .int .u64 0]
def RelC64 (w : World) (sv : Array Value) (wr : World) : Prop :=
  Below w.heap.size w wr ∧ wr.heap[w.heap.size]? = some (.cells sv 114 (0, 0)) ∧ wr.heap[w.heap.size + 1]? = some (.cells shpA64 97 (0, 0)) ∧ wr.heap[w.heap.size + 1 + 1]? = some (.cells z8_64 114 (0, 0))
theorem RelC64.start (w : World) (sv : Array Value) : RelC64 w sv (((w.alloc (.cells sv 114)).alloc (.cells shpA64 97)).alloc (.cells z8_64 114)) :=
  ⟨below3 _ _ _ _, heap3_0 _ _ _ _, heap3_1 _ _ _ _, heap3_2 _ _ _ _⟩
theorem RelC64.on {w wr w1 : World} {sv : Array Value} (h : RelC64 w sv wr) (hb : Below wr.heap.size wr w1) : RelC64 w sv w1 :=
  ⟨h.1.trans (hb.mono h.1.size), block_below hb (lt_of_heap h.2.1) h.2.1, block_below hb (lt_of_heap h.2.2.1) h.2.2.1, block_below hb (lt_of_heap h.2.2.2) h.2.2.2⟩
theorem RelC64.drewN {w wr : World} {sv : Array Value} (h : RelC64 w sv wr) (n : Nat) : RelC64 w sv (wr.drewN n) := ⟨below_drewN h.1 n, h.2.1, h.2.2.1, h.2.2.2⟩
theorem RelC64.setRow {w wr : World} {sv : Array Value} (h : RelC64 w sv wr) {g : Nat} (hg : w.heap.size + 1 + 1 < g) (cs : Array Value) : RelC64 w sv (wr.setRow g cs) :=
  ⟨setRow_below h.1 (by omega) _, (setRow_other _ _ _ _ (by omega)).trans h.2.1, (setRow_other _ _ _ _ (by omega)).trans h.2.2.1, (setRow_other _ _ _ _ (by omega)).trans h.2.2.2⟩
theorem RelC64.setRow0 {w wr : World} {sv : Array Value} (h : RelC64 w sv wr) (cs : Array Value) : RelC64 w cs (wr.setRow w.heap.size cs) :=
  ⟨setRow_below h.1 (Nat.le_refl _) _, setRow_heap _ _ _ _ _ _ h.2.1, (setRow_other _ _ _ _ (by omega)).trans h.2.2.1, (setRow_other _ _ _ _ (by omega)).trans h.2.2.2⟩
theorem RelC64.store {w wr : World} {l : List Nat} (h : RelC64 w (ints .u64 l) wr) (j v : Nat) : RelC64 w (ints .u64 (l.set j v)) (wr.setCell ⟨w.heap.size, j, none⟩ (.int .u64 (v : Int))) := by
  obtain ⟨h1, h2, h3, h4⟩ := h
  exact ⟨h1.setCell (by simp) _, set_ints h2 j v, by rw [heap_setCell_other _ _ _ _ (by simp)]; exact h3, by rw [heap_setCell_other _ _ _ _ (by simp; omega)]; exact h4⟩
theorem index8_64 (a b c d e f g h k : Nat) (hk : k < 8) (w : World) : (Instr.index 114 (.agg #[.int .u64 (a : Int), .int .u64 (b : Int), .int .u64 (c : Int), .int .u64 (d : Int), .int .u64 (e : Int), .int .u64 (f : Int), .int .u64 (g : Int), .int .u64 (h : Int)]) (.int .i64 (k : Int))).run Tryz.prog w =
    .ok (.int .u64 (([a, b, c, d, e, f, g, h].getD k 0 : Nat) : Int)) w := by
  have h8 : k = 0 ∨ k = 1 ∨ k = 2 ∨ k = 3 ∨ k = 4 ∨ k = 5 ∨ k = 6 ∨ k = 7 := by omega
  rcases h8 with rfl | rfl | rfl | rfl | rfl | rfl | rfl | rfl <;> (show _ = _; kernel_rfl)
set_option maxRecDepth 100000 in
set_option maxHeartbeats 2000000 in
theorem takeBlock64 (st : List Nat) (b off cap : Nat) (bs ks : List Nat) (w : World) (hst : st.length = 8) (hsl : ∀ j, st.getD j 0 < 18446744073709551616) (hlen : bs.length = 128) (hb256 : ∀ j, bs.getD j 0 < 256) (hcap : 128 ≤ cap) (hcap2 : cap ≤ maxLen)
    (hc : BytesAt w b off bs) (hkl : ks.length = 80) (hkb : ∀ j, ks.getD j 0 < 18446744073709551616) (hK : TabAt w 7 ks) :
    Calls Tryz.prog 114 #[.agg (ints .u64 st), .slice (some ⟨b, off, none⟩) 128 cap, .agg shpA64] w fun e w' => e = .returned (.agg (ints .u64 (blk sh64 ks st bs))) ∧ Below w.heap.size w w' := by
  obtain ⟨sv, hsv⟩ : ∃ x, x = ints .u64 st := ⟨_, rfl⟩
  rw [← hsv]
  have HSV : Hid (sv = ints .u64 st) := hsv
  have hsz : sv.size = 8 := by rw [hsv, ints_size, hst]
  clear hsv
  unfold shpA64
  have hzw : ∀ w, (zeroValue 131).run Tryz.prog w = .ok (.agg (ints .u64 z80)) w := fun _ => by kernel_rfl
  have h80 : (Tryz.prog.info? 131).map (·.size) = some 80 := by kernel_rfl
  have hzl : (ints .u64 z80).size = 80 := by rw [ints_size]; rfl
  obtain ⟨wv, hwv⟩ : ∃ x, x = ints .u64 (spr sh64 bs) := ⟨_, rfl⟩
  have HWV : Hid (wv = ints .u64 (spr sh64 bs)) := hwv
  have hwz : wv.size = 80 := by rw [hwv, ints_size, spr_len]
  have hw1 : wv.all (·.oneCell') = true := by rw [hwv]; exact ints_one _ _
  have hbB : b < w.heap.size := block_lt_of_cell (hc 0 (by omega))
  have hS := spread64 b off cap bs (((w.alloc (.cells sv 114)).alloc (.cells shpA64 97)).alloc (.cells z8_64 114)) hlen hb256 hcap hcap2 (hc.below (below3 _ _ _ _) hbB)
  rw [← hwv] at hS
  clear hwv
  go_enter Tryz.func114, Tryz.ntmps114
  go_wp2_with fail
  refine hS.mono ?_
  rintro e w1 ⟨rfl, hb1⟩
  have hR1 := (RelC64.start w sv).on hb1
  have hg0 : w.heap.size + 1 + 1 < w1.heap.size := lt_of_heap hR1.2.2.2
  clear hS hb1
  obtain ⟨g, hg⟩ : ∃ g, g = w1.heap.size := ⟨_, rfl⟩
  have hgn : (w1.alloc (.cells (ints .u64 z80) 131)).heap[w1.heap.size]? = some (.cells (ints .u64 z80) 131 (0, 0)) := heap_alloc_new _ _
  go_wp2_with (refine wpList_store_row rfl 131 (.tmp 7) (.tmp 24) rfl _ wv rfl rfl 131 _ hgn (by rw [hwz]; exact h80) (by rw [hwz]; exact hzl) hw1 ?_)
  simp only [Act.put]
  obtain ⟨w2, hw2⟩ : ∃ x, x = (w1.alloc (.cells (ints .u64 z80) 131)).setRow w1.heap.size wv := ⟨_, rfl⟩
  rw [← hw2]
  have hR2 : RelC64 w sv w2 := by rw [hw2]; exact (hR1.on (below1 _ _)).setRow hg0 _
  have hG2 : w2.heap[g]? = some (.cells (ints .u64 (spr sh64 bs)) 131 (0, 0)) := by rw [hw2, hg, ← HWV.out]; exact setRow_heap _ _ _ _ _ _ hgn
  have hgB : w.heap.size + 1 + 1 < g := by rw [hg]; exact hg0
  rw [← hg]
  clear hw2 hR1 hg0 hgn hg
  obtain ⟨x0, hx0⟩ : ∃ x, x = st.getD 0 0 := ⟨_, rfl⟩
  obtain ⟨x1, hx1⟩ : ∃ x, x = st.getD 1 0 := ⟨_, rfl⟩
  obtain ⟨x2, hx2⟩ : ∃ x, x = st.getD 2 0 := ⟨_, rfl⟩
  obtain ⟨x3, hx3⟩ : ∃ x, x = st.getD 3 0 := ⟨_, rfl⟩
  obtain ⟨x4, hx4⟩ : ∃ x, x = st.getD 4 0 := ⟨_, rfl⟩
  obtain ⟨x5, hx5⟩ : ∃ x, x = st.getD 5 0 := ⟨_, rfl⟩
  obtain ⟨x6, hx6⟩ : ∃ x, x = st.getD 6 0 := ⟨_, rfl⟩
  obtain ⟨x7, hx7⟩ : ∃ x, x = st.getD 7 0 := ⟨_, rfl⟩
  have hq : ofL st = ⟨x0, x1, x2, x3, x4, x5, x6, x7⟩ := by rw [hx0, hx1, hx2, hx3, hx4, hx5, hx6, hx7]; rfl
  have hqlt : S8.lt ⟨x0, x1, x2, x3, x4, x5, x6, x7⟩ 18446744073709551616 := by rw [hx0, hx1, hx2, hx3, hx4, hx5, hx6, hx7]; exact ⟨hsl _, hsl _, hsl _, hsl _, hsl _, hsl _, hsl _, hsl _⟩
  have HQ : Hid (ofL st = ⟨x0, x1, x2, x3, x4, x5, x6, x7⟩) := hq
  have c0 : w2.cell? ⟨w.heap.size, 0, none⟩ = some (.int .u64 (x0 : Int)) := by rw [hx0]; exact cell_ints (HSV.out ▸ hR2.2.1) 0 (by omega)
  have c1 : w2.cell? ⟨w.heap.size, 1, none⟩ = some (.int .u64 (x1 : Int)) := by rw [hx1]; exact cell_ints (HSV.out ▸ hR2.2.1) 1 (by omega)
  have c2 : w2.cell? ⟨w.heap.size, 2, none⟩ = some (.int .u64 (x2 : Int)) := by rw [hx2]; exact cell_ints (HSV.out ▸ hR2.2.1) 2 (by omega)
  have c3 : w2.cell? ⟨w.heap.size, 3, none⟩ = some (.int .u64 (x3 : Int)) := by rw [hx3]; exact cell_ints (HSV.out ▸ hR2.2.1) 3 (by omega)
  have c4 : w2.cell? ⟨w.heap.size, 4, none⟩ = some (.int .u64 (x4 : Int)) := by rw [hx4]; exact cell_ints (HSV.out ▸ hR2.2.1) 4 (by omega)
  have c5 : w2.cell? ⟨w.heap.size, 5, none⟩ = some (.int .u64 (x5 : Int)) := by rw [hx5]; exact cell_ints (HSV.out ▸ hR2.2.1) 5 (by omega)
  have c6 : w2.cell? ⟨w.heap.size, 6, none⟩ = some (.int .u64 (x6 : Int)) := by rw [hx6]; exact cell_ints (HSV.out ▸ hR2.2.1) 6 (by omega)
  have c7 : w2.cell? ⟨w.heap.size, 7, none⟩ = some (.int .u64 (x7 : Int)) := by rw [hx7]; exact cell_ints (HSV.out ▸ hR2.2.1) 7 (by omega)
  clear hq hx0 hx1 hx2 hx3 hx4 hx5 hx6 hx7
  have s1 := shp_at64 hR2.2.2.1 1 (.int .i64 80) rfl
  go_quiet (fail)
  go_wp2_with fail
  go_quiet (fail)
  go_wp2_with fail
  go_loopw [43, 8, 9, 10, 11, 12, 13, 14, 15] (fun i va vb vc vd ve vf vg vh wr => ∃ t : Nat, ∃ q : S8, t ≤ 80 ∧ i = .int .i64 t ∧ q = R sh64 ks (spr sh64 bs) ⟨x0, x1, x2, x3, x4, x5, x6, x7⟩ t ∧ va = .int .u64 q.a ∧ vb = .int .u64 q.b ∧ vc = .int .u64 q.c ∧ vd = .int .u64 q.d ∧
      ve = .int .u64 q.e ∧ vf = .int .u64 q.f ∧ vg = .int .u64 q.g ∧ vh = .int .u64 q.h ∧ RelC64 w sv wr ∧ wr.heap[g]? = some (.cells (ints .u64 (spr sh64 bs)) 131 (0, 0))) (fun i _ _ _ _ _ _ _ _ _ => 80 - (intOf i).toNat)
  case atStart => exact ⟨0, _, by omega, rfl, rfl, rfl, rfl, rfl, rfl, rfl, rfl, rfl, rfl, hR2.drewN _, hG2⟩
  case round =>
    obtain ⟨t, ⟨qa, qb, qc, qd, qe, qf, qg, qh⟩, ht, rfl, hq, rfl, rfl, rfl, rfl, rfl, rfl, rfl, rfl, hR, hG⟩ := hrel
    have HQT : Hid ((⟨qa, qb, qc, qd, qe, qf, qg, qh⟩ : S8) = R sh64 ks (spr sh64 bs) ⟨x0, x1, x2, x3, x4, x5, x6, x7⟩ t) := hq
    clear hq
    by_cases hlt : t < 80
    · obtain ⟨kt, hkt⟩ : ∃ x, x = ks.getD t 0 := ⟨_, rfl⟩
      obtain ⟨wt, hwt⟩ : ∃ x, x = (spr sh64 bs).getD t 0 := ⟨_, rfl⟩
      have cK : wr.cell? ⟨7, t, none⟩ = some (.int .u64 (kt : Int)) := by rw [hkt]; exact hK.below hR.1 (block_lt_of_cell (hK 0 (by omega))) t (by omega)
      have cW : wr.cell? ⟨g, t, none⟩ = some (.int .u64 (wt : Int)) := by rw [hwt]; exact cell_ints hG t (by rw [spr_len]; omega)
      have z0 := shp_at64 hR.2.2.1 0 (.int .u64 64) rfl
      have bk : kt < 18446744073709551616 := by rw [hkt]; exact hkb _
      have bw : wt < 18446744073709551616 := by rw [hwt]; exact spr_lt sh64 (by decide) bs hb256 t
      have HB : Hid ((R sh64 ks (spr sh64 bs) ⟨x0, x1, x2, x3, x4, x5, x6, x7⟩ (t + 1)) = rnd sh64 (kt >>> 0) wt ⟨qa, qb, qc, qd, qe, qf, qg, qh⟩) := by rw [hkt, hwt, HQT.out]; rfl
      obtain ⟨ba, bb, bc, bd, be, bf, bg, bh⟩ : S8.lt ⟨qa, qb, qc, qd, qe, qf, qg, qh⟩ 18446744073709551616 := by rw [HQT.out]; exact R_lt sh64 ks _ _ hqlt t
      clear hkt hwt
      go_wp2_with fail
      go_quiet (fail)
      go_wp2_with fail
      have hb0 : Below wr.heap.size wr (wr.drewN nq) := below_drewN (Below.refl _ _) _
      have hR0 := hR.on hb0
      have hG0 : (wr.drewN nq).heap[g]? = some (.cells (ints .u64 (spr sh64 bs)) 131 (0, 0)) := hG
      have q0 := cell_regrown (shp_at64 hR0.2.2.1 0 (.int .u64 64) rfl)
      have q1 := cell_regrown (shp_at64 hR0.2.2.1 5 (.int .u64 14) rfl)
      have q2 := cell_regrown (shp_at64 hR0.2.2.1 6 (.int .u64 18) rfl)
      have q3 := cell_regrown (shp_at64 hR0.2.2.1 7 (.int .u64 41) rfl)
      have q4 := cell_regrown (w := wr.drewN nq) (a := ⟨g, t, none⟩) (v := .int .u64 (wt : Int)) cW
      have cQ : ∀ d os, Calls Tryz.prog 120 #[.int .u64 (qe : Int), .agg #[.int .u64 14, .int .u64 18, .int .u64 41], .int .u64 64] (grow (redrawn (wr.drewN nq) d) os) fun e w'' => e = .returned (.int .u64 (tn 64 qe 14 18 41 : Nat)) ∧ ∃ p : Regrown, w'' = grow (redrawn (wr.drewN nq) p.d) p.os :=
        fun d os => Calls.regrown_of (turns64 qe 14 18 41 _ be (by decide) (by decide) (by decide) (by decide) (by decide) (by decide))
      refine wp_region_quiet_below (by kernel_rfl) (by kernel_rfl) ?_
      repeat (go_big_quiet_step (exact cQ _ _))
      refine wpQuiet_nil ?_
      intro w3 hw'
      have hb1 : Below (wr.drewN nq).heap.size (wr.drewN nq) w3 := by obtain ⟨p, rfl⟩ := hw'; exact below_regrown _ _ _
      have hR1 := hR0.on hb1
      have hG1 := block_below hb1 (lt_of_heap hG0) hG0
      clear hw' q0 q1 q2 q3 q4 cQ hR hG hR0 hG0 hb0 hb1 cK cW z0
      have q0 := shp_at64 hR1.2.2.1 0 (.int .u64 64) rfl
      have q1 := shp_at64 hR1.2.2.1 2 (.int .u64 28) rfl
      have q2 := shp_at64 hR1.2.2.1 3 (.int .u64 34) rfl
      have q3 := shp_at64 hR1.2.2.1 4 (.int .u64 39) rfl
      go_wp2_with (go_at_call 120; refine (turns64 qa 28 34 39 _ ba (by decide) (by decide) (by decide) (by decide) (by decide) (by decide)).mono ?_; rintro e w4 ⟨rfl, hb4⟩)
      go_roundw
      case rel =>
        rw [ch64 _ _ _ be bf bg, maj64 _ _ _ ba bb bc, sum5_64, sum2_64, sum2_64, sum2_64]
        exact ⟨t + 1, _, by omega, by go_num, HB.out.symm, rfl, rfl, rfl, rfl, rfl, rfl, rfl, rfl, hR1.on hb4, block_below hb4 (lt_of_heap hG1) hG1⟩
      case measure => simp [intOf]; omega
    · obtain rfl : t = 80 := by omega
      clear c0 c1 c2 c3 c4 c5 c6 c7 s1 hR2 hG2
      go_wp2_with fail
      obtain ⟨ql, hql⟩ : ∃ x, x = [qa, qb, qc, qd, qe, qf, qg, qh] := ⟨_, rfl⟩
      have HQL : Hid (ql = [qa, qb, qc, qd, qe, qf, qg, qh]) := hql
      clear hql
      have hR8 : RelC64 w (ints .u64 (addN 64 st ql 0)) wr := by rw [show addN 64 st ql 0 = st from rfl, ← HSV.out]; exact hR
      clear hR
      go_loopw [116] (fun i wr => ∃ k : Nat, k ≤ 8 ∧ i = .int .i64 k ∧ RelC64 w (ints .u64 (addN 64 st ql k)) wr) (fun i _ => 8 - (intOf i).toNat)
      case atStart => exact ⟨0, by omega, rfl, hR8⟩
      case round =>
        obtain ⟨k, hk, rfl, hR⟩ := hrel
        clear hR8 hG
        by_cases hlt : k < 8
        · obtain ⟨y, hy⟩ : ∃ x, x = ql.getD k 0 := ⟨_, rfl⟩
          obtain ⟨sk, hsk⟩ : ∃ x, x = (addN 64 st ql k).getD k 0 := ⟨_, rfl⟩
          have hix : ∀ w', (Instr.index 114 (.agg #[.int .u64 (qa : Int), .int .u64 (qb : Int), .int .u64 (qc : Int), .int .u64 (qd : Int), .int .u64 (qe : Int), .int .u64 (qf : Int), .int .u64 (qg : Int), .int .u64 (qh : Int)]) (.int .i64 (k : Int))).run Tryz.prog w' = .ok (.int .u64 (y : Int)) w' := by
            rw [hy, HQL.out]; exact index8_64 qa qb qc qd qe qf qg qh k hlt
          have cS : wr.cell? ⟨w.heap.size, k, none⟩ = some (.int .u64 (sk : Int)) := by rw [hsk]; exact cell_ints hR.2.1 k (by rw [addN_len, hst]; omega)
          have fS := free_ints hR.2.1 k
          have HN : Hid (RelC64 w (ints .u64 (addN 64 st ql (k + 1))) (wr.setCell ⟨w.heap.size, k, none⟩ (.int .u64 (((sk + y) % 2 ^ 64 : Nat) : Int)))) := by rw [hsk, hy]; exact hR.store k _
          clear hy hsk hR
          go_wp2
          go_roundw
          case rel => exact ⟨k + 1, by omega, by go_num, by rw [sum2_64]; exact HN.out⟩
          case measure => simp [intOf]; omega
        · obtain rfl : k = 8 := by omega
          obtain ⟨rv, hrv⟩ : ∃ x, x = ints .u64 (blk sh64 ks st bs) := ⟨_, rfl⟩
          have hblk : addN 64 st ql 8 = blk sh64 ks st bs := by
            rw [addN_8 64 st ql hst (by rw [HQL.out]; rfl)]
            show List.zipWith _ st ql = List.zipWith _ st (R sh64 ks (spr sh64 bs) (ofL st) 80).list
            rw [HQ.out, ← HQT.out, HQL.out]; rfl
          rw [hblk, ← hrv] at hR
          have hrl : rv.size = 8 := by rw [hrv, ints_size, blk_len _ _ _ _ hst]
          have hr1 : rv.all (·.oneCell') = true := by rw [hrv]; exact ints_one _ _
          have h5 := hR.2.1
          have h4 := hR.2.2.2
          have h8 : (Tryz.prog.info? 114).map (·.size) = some 8 := by kernel_rfl
          have hzl : z8_64.size = 8 := rfl
          go_wp2_with (first
            | (refine wpList_load_row rfl 114 (.tmp 3) rfl _ rfl 114 rv (0, 0) _ h5 Tryz.underlying114 rfl (by rw [hrl]; exact h8) ?_)
            | (refine wpList_store_row rfl 114 (.tmp 6) (.tmp 127) rfl _ rv rfl rfl 114 _ h4 (by rw [hrl]; exact h8) (by rw [hrl]; exact hzl) hr1 ?_))
          refine bodyPost_ret (v := .agg rv) ?_ rfl ⟨by rw [hrv], setRow_below hR.1 (by omega) _⟩
          exact results_cell_row Tryz.results114 _ _ _ 114 rv (0, 0) _ rfl (setRow_heap _ _ _ _ _ _ h4) Tryz.underlying114 rfl (by rw [hrl]; exact h8)
end Go.Proofs.YtabgihjffjlfiaaGreatDoor
set_option linter.unusedVariables false
namespace Go.Proofs.YtabgihjffjlfiaaGreatDoor
open Go.RowKit Go.Sort Go.BigFrame
theorem blockBytes64 (w : World) : Calls Tryz.prog 100 #[.agg shpA64] w fun e w' => e = .returned (.int .i64 128) ∧ Below w.heap.size w w' := by
  unfold shpA64
  go_enter Tryz.func100, Tryz.ntmps100
  go_wp2
  go_ret
  exact ⟨rfl, below1 _ _⟩
set_option maxRecDepth 100000 in
set_option maxHeartbeats 2000000 in
theorem takeBlocks64_more (st : List Nat) (b off len cap : Nat) (bs ks : List Nat) (w : World) (hst : st.length = 8) (hsl : ∀ j, st.getD j 0 < 18446744073709551616) (hlen0 : bs.length = len) (h64 : 128 ≤ len) (hb256 : ∀ j, bs.getD j 0 < 256) (hcap : len ≤ cap) (hcap2 : cap ≤ 9223372036854775807) (hlen9 : len ≤ 100000000000000)
    (hc : BytesAt w b off bs) (hkl : ks.length = 80) (hkb : ∀ j, ks.getD j 0 < 18446744073709551616) (hK : TabAt w 7 ks) :
    Calls Tryz.prog 101 #[.agg (ints .u64 st), .slice (some ⟨b, off, none⟩) len cap, .agg shpA64] w fun e w' => e = .returned (.agg (ints .u64 (blks sh64 ks st bs (len / 128)))) ∧ Below w.heap.size w w' := by
  have hlen : Hid (bs.length = len) := hlen0
  clear hlen0
  obtain ⟨sv, hsv⟩ : ∃ x, x = ints .u64 st := ⟨_, rfl⟩
  rw [← hsv]
  have HSV : Hid (sv = ints .u64 st) := hsv
  clear hsv
  have hbB : b < w.heap.size := block_lt_of_cell (hc 0 (by have := hlen.out; omega))
  have h1B : 7 < w.heap.size := block_lt_of_cell (hK 0 (by omega))
  have hBB := blockBytes64 (((w.alloc (.cells sv 114)).alloc (.cells shpA64 97)).alloc (.cells z8_64 114))
  unfold shpA64 at hBB ⊢
  go_enter Tryz.func101, Tryz.ntmps101
  go_wp2_with fail
  refine hBB.mono ?_
  rintro e w1 ⟨rfl, hb1⟩
  have hR1 := (RelC64.start w sv).on hb1
  clear hBB hb1
  go_wp2_with fail
  go_loopw [8] (fun i wr => ∃ m : Nat, m ≤ len ∧ m % 128 = 0 ∧ i = .int .i64 (m : Int) ∧ RelC64 w (ints .u64 (blks sh64 ks st bs (m / 128))) wr) (fun i _ => len - (intOf i).toNat)
  case atStart => exact ⟨0, by omega, by omega, rfl, by rw [show blks sh64 ks st bs (0 / 128) = st from rfl, ← HSV.out]; exact hR1⟩
  case round =>
    obtain ⟨m, hk, hm, rfl, hR⟩ := hrel
    have HM : Hid (m % 128 = 0) := hm
    clear hm
    by_cases hlt : m + 128 ≤ len
    · obtain ⟨cs, hcs⟩ : ∃ x, x = ints .u64 (blks sh64 ks st bs (m / 128)) := ⟨_, rfl⟩
      rw [← hcs] at hR
      have HCS : Hid (cs = ints .u64 (blks sh64 ks st bs (m / 128))) := hcs
      have hcl : cs.size = 8 := by rw [hcs, ints_size, blks_len _ _ _ _ hst]
      clear hcs
      have h8 : (Tryz.prog.info? 114).map (·.size) = some 8 := by kernel_rfl
      have h14 : (Tryz.prog.info? 97).map (·.size) = some shpA64.size := by kernel_rfl
      have hr0 : wr.drew.heap[w.heap.size]? = some (.cells cs 114 (0, 0)) := hR.2.1
      have hr1 : wr.drew.heap[w.heap.size + 1]? = some (.cells shpA64 97 (0, 0)) := hR.2.2.1
      go_wp2_with fail
      have a1 : IntKind.i64.wrap (↑m + 128) = ↑m + 128 := by simp [IntKind.wrap, IntKind.bits, IntKind.signed]; omega
      have a2 : (0 : Int) ≤ ↑m + 128 := by omega
      have a3 : (↑m + 128 : Int) ≤ ↑cap := by omega
      have a4 : ¬ cap = m := by omega
      have a5 : m ≤ ((m : Int) + 128).toNat := by omega
      have a6 : ((m : Int) + 128).toNat - m = 128 := by omega
      refine wp_region_still_tail 8 (by kernel_rfl) (by kernel_rfl) ?_
      simp only [List.take_succ_cons, List.take_zero, List.drop_succ_cons, List.drop_zero]
      show wpStill _ _ wr.drew (fun a' => wpList _ _ _ _ a' wr.drew) _ _
      refine wpStill_load_row rfl 114 (.tmp 3) rfl _ rfl 114 cs (0, 0) _ hr0 Tryz.underlying114 rfl (by rw [hcl]; exact h8) ?_
      simp only [Act.put, List.setIfInBounds_toArray, List.set_cons_succ, List.set_cons_zero]
      iterate 6 still_step
      refine wpStill_load_row rfl 97 (.tmp 5) rfl _ rfl 97 shpA64 (0, 0) _ hr1 Tryz.underlying97 rfl h14 ?_
      simp only [Act.put, List.setIfInBounds_toArray, List.set_cons_succ, List.set_cons_zero]
      refine wpStill_nil ?_
      have hTw : Below w.heap.size w wr.drew := hR.1.drew
      have hT := takeBlock64 (blks sh64 ks st bs (m / 128)) b (off + m) (cap - m) ((bs.drop m).take 128) ks wr.drew (blks_len _ _ _ _ hst _) (blks_lt sh64 _ _ _ hsl _) (by have := hlen.out; simp; omega) (sub_lt _ _ _ hb256) (by omega) (by unfold maxLen; omega)
        (sub_bytes (hc.below hTw hbB) m 128 (by have := hlen.out; omega)) hkl hkb (hK.below hTw h1B)
      rw [← HCS.out] at hT
      obtain ⟨nv, hnv⟩ : ∃ x, x = ints .u64 (blk sh64 ks (blks sh64 ks st bs (m / 128)) ((bs.drop m).take 128)) := ⟨_, rfl⟩
      rw [← hnv] at hT
      have hnl : nv.size = 8 := by rw [hnv, ints_size, blk_len _ _ _ _ (blks_len _ _ _ _ hst _)]
      have hn1 : nv.all (·.oneCell') = true := by rw [hnv]; exact ints_one _ _
      have HN : Hid (nv = ints .u64 (blks sh64 ks st bs ((m + 128) / 128))) := by
        show nv = _
        rw [hnv, show (m + 128) / 128 = m / 128 + 1 by omega]
        show ints .u64 (blk _ _ _ _) = ints .u64 (blk _ _ _ ((bs.drop (2 * 64 * (m / 128))).take (2 * 64)))
        rw [show 2 * 64 * (m / 128) = m by have := HM.out; omega]
      clear hnv
      go_wp2_with fail
      refine hT.mono ?_
      rintro e w2 ⟨rfl, hb2⟩
      have hR2 : RelC64 w cs w2 := RelC64.on (wr := wr.drew) ⟨hR.1.drew, hR.2.1, hR.2.2.1, hR.2.2.2⟩ hb2
      have hr2 := hR2.2.1
      clear hT hb2 hr0 hr1
      go_wp2_with (refine wpList_store_row rfl 114 (.tmp 3) (.tmp 28) rfl _ nv rfl rfl 114 _ hr2 (by rw [hnl]; exact h8) (by rw [hnl]; exact hcl) hn1 ?_)
      go_roundw
      case rel => exact ⟨m + 128, by omega, by have := HM.out; omega, by go_num, by rw [← HN.out]; exact hR2.setRow0 nv⟩
      case measure => simp [intOf]; omega
    · obtain ⟨rv, hrv⟩ : ∃ x, x = ints .u64 (blks sh64 ks st bs (len / 128)) := ⟨_, rfl⟩
      rw [show m / 128 = len / 128 by have := HM.out; omega, ← hrv] at hR
      have hrl : rv.size = 8 := by rw [hrv, ints_size, blks_len _ _ _ _ hst]
      have hr1 : rv.all (·.oneCell') = true := by rw [hrv]; exact ints_one _ _
      have h5 := hR.2.1
      have h4 := hR.2.2.2
      have h8 : (Tryz.prog.info? 114).map (·.size) = some 8 := by kernel_rfl
      have hzl : z8_64.size = 8 := rfl
      go_wp2_with (first
        | (refine wpList_load_row rfl 114 (.tmp 3) rfl _ rfl 114 rv (0, 0) _ h5 Tryz.underlying114 rfl (by rw [hrl]; exact h8) ?_)
        | (refine wpList_store_row rfl 114 (.tmp 6) (.tmp 29) rfl _ rv rfl rfl 114 _ h4 (by rw [hrl]; exact h8) (by rw [hrl]; exact hzl) hr1 ?_))
      refine bodyPost_ret (v := .agg rv) ?_ rfl ⟨by rw [hrv], setRow_below hR.1 (by omega) _⟩
      exact results_cell_row Tryz.results101 _ _ _ 114 rv (0, 0) _ rfl (setRow_heap _ _ _ _ _ _ h4) Tryz.underlying114 rfl (by rw [hrl]; exact h8)
set_option maxRecDepth 100000 in
set_option maxHeartbeats 2000000 in
theorem takeBlocks64_none (st : List Nat) (a : Option Addr) (len cap : Nat) (w : World) (hst : st.length = 8) (h64 : len < 128) :
    Calls Tryz.prog 101 #[.agg (ints .u64 st), .slice a len cap, .agg shpA64] w fun e w' => e = .returned (.agg (ints .u64 st)) ∧ Below w.heap.size w w' := by
  obtain ⟨rv, hrv⟩ : ∃ x, x = ints .u64 st := ⟨_, rfl⟩
  rw [← hrv]
  have hrl : rv.size = 8 := by rw [hrv, ints_size, hst]
  have hr1 : rv.all (·.oneCell') = true := by rw [hrv]; exact ints_one _ _
  clear hrv
  have h8 : (Tryz.prog.info? 114).map (·.size) = some 8 := by kernel_rfl
  have hzl : z8_64.size = 8 := rfl
  have hBB := blockBytes64 (((w.alloc (.cells rv 114)).alloc (.cells shpA64 97)).alloc (.cells z8_64 114))
  unfold shpA64 at hBB ⊢
  go_enter Tryz.func101, Tryz.ntmps101
  go_wp2_with fail
  refine hBB.mono ?_
  rintro e w1 ⟨rfl, hb1⟩
  have hR := (RelC64.start w rv).on hb1
  clear hBB hb1
  have h5 := hR.2.1
  have h4 := hR.2.2.2
  go_wp2_with fail
  refine wp_loop_rounds 1 ?_
  rw [rounds_succ]
  go_wp2_with (first
    | (refine wpList_load_row rfl 114 (.tmp 3) rfl _ rfl 114 rv (0, 0) _ h5 Tryz.underlying114 rfl (by rw [hrl]; exact h8) ?_)
    | (refine wpList_store_row rfl 114 (.tmp 6) (.tmp 29) rfl _ rv rfl rfl 114 _ h4 (by rw [hrl]; exact h8) (by rw [hrl]; exact hzl) hr1 ?_))
  refine bodyPost_ret (v := .agg rv) ?_ rfl ⟨rfl, setRow_below hR.1 (by omega) _⟩
  exact results_cell_row Tryz.results101 _ _ _ 114 rv (0, 0) _ rfl (setRow_heap _ _ _ _ _ _ h4) Tryz.underlying114 rfl (by rw [hrl]; exact h8)
end Go.Proofs.YtabgihjffjlfiaaGreatDoor
set_option linter.unusedVariables false
namespace Go.Proofs.YtabgihjffjlfiaaGreatDoor
open Go.RowKit Go.Sort Go.BigFrame
def z256 : List Nat := List.replicate 256 0
set_option maxRecDepth 100000
set_option maxHeartbeats 2000000

theorem lastBlocks64_128 (a : Option Addr) (rc : Nat) (rest : List Nat) (L : Nat) (w : World) (rl : Nat) (hrl0 : rest.length = rl) (hrl : rl < 128) (hsz : rl + 17 ≤ 128) (hb256 : ∀ j, rest.getD j 0 < 256) (hv : View w a rest) (hL : L ≤ 100000000000000) :
    Calls Tryz.prog 102 #[.slice a rl rc, .int .i64 (L : Int), .agg shpA64] w fun e w' => ∃ g, e = .returned (.slice (some ⟨g, 0, none⟩) 128 128) ∧ Below w.heap.size w w' ∧ w'.heap[g]? = some (.cells (ints .u8 (lastB sh64 rest L)) 5 (0, 0)) := by
  have hlen : Hid (rest.length = rl) := hrl0
  clear hrl0
  have HL : Hid (lastB sh64 rest L = tailN 128 (L * 8) (padB 128 rest) 8) := by
    show lastB sh64 rest L = _
    unfold lastB
    simp only [sh64, hlen.out]
    rw [if_neg (by omega)]
  have hmk : ∀ w, (Instr.makeSlice 22 (.int .i64 128) (.int .i64 128)).run Tryz.prog w = .ok (.slice (some ⟨w.heap.size, 0, none⟩) 128 128) (w.alloc (.cells (ints .u8 z128) 5)) := fun _ => by kernel_rfl
  have hBB := blockBytes64 (w.alloc (.cells shpA64 97))
  have h1 : (Tryz.prog.info? 5).map (·.size) = some 1 := by kernel_rfl
  unfold shpA64 at hBB ⊢
  go_enter Tryz.func102, Tryz.ntmps102
  go_wp2_with fail
  refine hBB.mono ?_
  rintro e w1 ⟨rfl, hb1⟩
  have hr1 : w1.heap[w.heap.size]? = some (.cells shpA64 97 (0, 0)) := block_below hb1 (by simp) (heap_alloc_new _ _)
  have hB1 : Below w.heap.size w w1 := (below1 w _).trans (hb1.mono (by simp))
  have c0 := shp_at64 hr1 0 (.int .u64 64) rfl
  clear hBB hb1
  have hBg : w.heap.size ≤ w1.heap.size := hB1.size
  have hgn : (w1.alloc (.cells (ints .u8 z128) 5)).heap[w1.heap.size]? = some (.cells (ints .u8 z128).toList.toArray 5 (0, 0)) := heap_alloc_new _ _
  have hB2 : Below w.heap.size w (w1.alloc (.cells (ints .u8 z128) 5)) := hB1.alloc hB1.size _
  have hz : (ints .u8 z128).toList.length = 128 := by simp [ints, z128]
  have hcl : (ints .u8 rest).toList.length = Nat.min rl 128 := by rw [ints_list, List.length_map, hlen.out]; show rl = min rl 128; omega
  have h1c : ∀ v ∈ (ints .u8 rest).toList, v.oneCell' = true := fun v hv => by rw [ints_list] at hv; obtain ⟨x, _, rfl⟩ := List.mem_map.1 hv; rfl
  have hfit : 0 + (ints .u8 rest).toList.length ≤ (ints .u8 z128).toList.length := by rw [hcl, hz]; show 0 + min rl 128 ≤ 128; omega
  have hpos : HCopyFrom (w1.alloc (.cells (ints .u8 z128) 5)) a rest := by
    intro h0
    obtain ⟨b, off, ha, hc⟩ := hv (by simpa [ints] using h0)
    refine ⟨_, ha, fun j v hj => ?_⟩
    have hb0 : b < w.heap.size := block_lt_of_cell (hc 0 (by simpa [ints] using h0))
    have hj' : j < rest.length := by
      by_cases h : j < rest.length
      · exact h
      · rw [ints_list, List.getElem?_eq_none (by simp; omega)] at hj; cases hj
    rw [Addr.add_mid, (hc.below hB2 hb0) j hj']
    rw [← hj, ints_list]
    simp [hj']
  go_wp2_with (refine wpList_copy_splice rfl (.tmp 27) (.tmp 28) 22 22 rfl 5 Tryz.underlying22 h1 _ _ _ _ _ _ rfl rfl w1.heap.size 0 (ints .u8 z128).toList 5 hgn (ints .u8 rest).toList hcl (fun h => ⟨rfl, hpos h⟩) hfit h1c w.heap.size w hB2 hBg ?_; intro w2 hw2 hB3; obtain ⟨v2, c2, f2⟩ := after_copy z128 128 rfl rest rl hlen (by omega) hw2)
  have hr2 := after_row z128 128 rfl rest rl hlen (by omega) hw2
  go_loopw [37] (fun i wr => ∃ k : Nat, k ≤ 8 ∧ i = .int .i64 (k : Int) ∧ Below w.heap.size w wr ∧ wr.heap[w1.heap.size]? = some (.cells (ints .u8 (tailN 128 (L * 8) (padB 128 rest) k)) 5 (0, 0))) (fun i _ => 8 - (intOf i).toNat)
  case atStart => exact ⟨0, by omega, rfl, hB3.setCell hBg _, hr2⟩
  case round =>
    obtain ⟨k, hk, rfl, hBr, hrr⟩ := hrel
    by_cases hlt : k < 8
    · obtain ⟨v3, c3⟩ : ∃ v, wr.cell? ⟨w1.heap.size, 128 - 1 - k, none⟩ = some v := ⟨_, cell_ints hrr (128 - 1 - k) (by rw [tailN_len, padB_len _ _ (by rw [hlen.out]; omega)]; omega)⟩
      have f3 := free_ints hrr (128 - 1 - k)
      have HN : Hid (Below w.heap.size w (wr.setCell ⟨w1.heap.size, 128 - 1 - k, none⟩ (.int .u8 ((((L * 8) >>> (8 * k)) % 256 : Nat) : Int))) ∧ (wr.setCell ⟨w1.heap.size, 128 - 1 - k, none⟩ (.int .u8 ((((L * 8) >>> (8 * k)) % 256 : Nat) : Int))).heap[w1.heap.size]? = some (.cells (ints .u8 (tailN 128 (L * 8) (padB 128 rest) (k + 1))) 5 (0, 0))) :=
        ⟨hBr.setCell hBg _, set_ints hrr _ _⟩
      clear hBr hrr c2 f2 hr2
      go_wp2
      go_roundw
      case rel => exact ⟨k + 1, by omega, by go_num, by rw [shr8]; exact HN.out.1, by rw [shr8]; exact HN.out.2⟩
      case measure => simp [intOf]; omega
    · obtain rfl : k = 8 := by omega
      clear c2 f2 hr2
      go_wp2
      go_ret
      exact ⟨w1.heap.size, rfl, hBr, by rw [HL.out]; exact hrr⟩

theorem lastBlocks64_256 (a : Option Addr) (rc : Nat) (rest : List Nat) (L : Nat) (w : World) (rl : Nat) (hrl0 : rest.length = rl) (hrl : rl < 128) (hsz : 128 < rl + 17) (hb256 : ∀ j, rest.getD j 0 < 256) (hv : View w a rest) (hL : L ≤ 100000000000000) :
    Calls Tryz.prog 102 #[.slice a rl rc, .int .i64 (L : Int), .agg shpA64] w fun e w' => ∃ g, e = .returned (.slice (some ⟨g, 0, none⟩) 256 256) ∧ Below w.heap.size w w' ∧ w'.heap[g]? = some (.cells (ints .u8 (lastB sh64 rest L)) 5 (0, 0)) := by
  have hlen : Hid (rest.length = rl) := hrl0
  clear hrl0
  have HL : Hid (lastB sh64 rest L = tailN 256 (L * 8) (padB 256 rest) 8) := by
    show lastB sh64 rest L = _
    unfold lastB
    simp only [sh64, hlen.out]
    rw [if_pos (by omega)]
  have hmk : ∀ w, (Instr.makeSlice 22 (.int .i64 256) (.int .i64 256)).run Tryz.prog w = .ok (.slice (some ⟨w.heap.size, 0, none⟩) 256 256) (w.alloc (.cells (ints .u8 z256) 5)) := fun _ => by kernel_rfl
  have hBB := blockBytes64 (w.alloc (.cells shpA64 97))
  have h1 : (Tryz.prog.info? 5).map (·.size) = some 1 := by kernel_rfl
  unfold shpA64 at hBB ⊢
  go_enter Tryz.func102, Tryz.ntmps102
  go_wp2_with fail
  refine hBB.mono ?_
  rintro e w1 ⟨rfl, hb1⟩
  have hr1 : w1.heap[w.heap.size]? = some (.cells shpA64 97 (0, 0)) := block_below hb1 (by simp) (heap_alloc_new _ _)
  have hB1 : Below w.heap.size w w1 := (below1 w _).trans (hb1.mono (by simp))
  have c0 := shp_at64 hr1 0 (.int .u64 64) rfl
  clear hBB hb1
  have hBg : w.heap.size ≤ w1.heap.size := hB1.size
  have hgn : (w1.alloc (.cells (ints .u8 z256) 5)).heap[w1.heap.size]? = some (.cells (ints .u8 z256).toList.toArray 5 (0, 0)) := heap_alloc_new _ _
  have hB2 : Below w.heap.size w (w1.alloc (.cells (ints .u8 z256) 5)) := hB1.alloc hB1.size _
  have hz : (ints .u8 z256).toList.length = 256 := by simp [ints, z256]
  have hcl : (ints .u8 rest).toList.length = Nat.min rl 256 := by rw [ints_list, List.length_map, hlen.out]; show rl = min rl 256; omega
  have h1c : ∀ v ∈ (ints .u8 rest).toList, v.oneCell' = true := fun v hv => by rw [ints_list] at hv; obtain ⟨x, _, rfl⟩ := List.mem_map.1 hv; rfl
  have hfit : 0 + (ints .u8 rest).toList.length ≤ (ints .u8 z256).toList.length := by rw [hcl, hz]; show 0 + min rl 256 ≤ 256; omega
  have hpos : HCopyFrom (w1.alloc (.cells (ints .u8 z256) 5)) a rest := by
    intro h0
    obtain ⟨b, off, ha, hc⟩ := hv (by simpa [ints] using h0)
    refine ⟨_, ha, fun j v hj => ?_⟩
    have hb0 : b < w.heap.size := block_lt_of_cell (hc 0 (by simpa [ints] using h0))
    have hj' : j < rest.length := by
      by_cases h : j < rest.length
      · exact h
      · rw [ints_list, List.getElem?_eq_none (by simp; omega)] at hj; cases hj
    rw [Addr.add_mid, (hc.below hB2 hb0) j hj']
    rw [← hj, ints_list]
    simp [hj']
  go_wp2_with (refine wpList_copy_splice rfl (.tmp 27) (.tmp 28) 22 22 rfl 5 Tryz.underlying22 h1 _ _ _ _ _ _ rfl rfl w1.heap.size 0 (ints .u8 z256).toList 5 hgn (ints .u8 rest).toList hcl (fun h => ⟨rfl, hpos h⟩) hfit h1c w.heap.size w hB2 hBg ?_; intro w2 hw2 hB3; obtain ⟨v2, c2, f2⟩ := after_copy z256 256 rfl rest rl hlen (by omega) hw2)
  have hr2 := after_row z256 256 rfl rest rl hlen (by omega) hw2
  go_loopw [37] (fun i wr => ∃ k : Nat, k ≤ 8 ∧ i = .int .i64 (k : Int) ∧ Below w.heap.size w wr ∧ wr.heap[w1.heap.size]? = some (.cells (ints .u8 (tailN 256 (L * 8) (padB 256 rest) k)) 5 (0, 0))) (fun i _ => 8 - (intOf i).toNat)
  case atStart => exact ⟨0, by omega, rfl, hB3.setCell hBg _, hr2⟩
  case round =>
    obtain ⟨k, hk, rfl, hBr, hrr⟩ := hrel
    by_cases hlt : k < 8
    · obtain ⟨v3, c3⟩ : ∃ v, wr.cell? ⟨w1.heap.size, 256 - 1 - k, none⟩ = some v := ⟨_, cell_ints hrr (256 - 1 - k) (by rw [tailN_len, padB_len _ _ (by rw [hlen.out]; omega)]; omega)⟩
      have f3 := free_ints hrr (256 - 1 - k)
      have HN : Hid (Below w.heap.size w (wr.setCell ⟨w1.heap.size, 256 - 1 - k, none⟩ (.int .u8 ((((L * 8) >>> (8 * k)) % 256 : Nat) : Int))) ∧ (wr.setCell ⟨w1.heap.size, 256 - 1 - k, none⟩ (.int .u8 ((((L * 8) >>> (8 * k)) % 256 : Nat) : Int))).heap[w1.heap.size]? = some (.cells (ints .u8 (tailN 256 (L * 8) (padB 256 rest) (k + 1))) 5 (0, 0))) :=
        ⟨hBr.setCell hBg _, set_ints hrr _ _⟩
      clear hBr hrr c2 f2 hr2
      go_wp2
      go_roundw
      case rel => exact ⟨k + 1, by omega, by go_num, by rw [shr8]; exact HN.out.1, by rw [shr8]; exact HN.out.2⟩
      case measure => simp [intOf]; omega
    · obtain rfl : k = 8 := by omega
      clear c2 f2 hr2
      go_wp2
      go_ret
      exact ⟨w1.heap.size, rfl, hBr, by rw [HL.out]; exact hrr⟩

end Go.Proofs.YtabgihjffjlfiaaGreatDoor
set_option linter.unusedVariables false
namespace Go.Proofs.YtabgihjffjlfiaaGreatDoor
open Go.RowKit Go.Sort Go.BigFrame
set_option maxRecDepth 100000
set_option maxHeartbeats 2000000
def z64b : List Nat := List.replicate 64 0
def RelS64 (w : World) (wr : World) (n : Nat) (xs : List Nat) : Prop :=
  Below w.heap.size w wr ∧ wr.heap[w.heap.size + 1]? = some (.cells shpA64 97 (0, 0)) ∧ wr.ownsRow (w.heap.size + 1 + 1) 5 1 (.slice (some ⟨w.heap.size + 1 + 1, 0, none⟩) n 64) n (Hbv xs)
theorem index_st64 (st : List Nat) (hst : st.length = 8) (k : Nat) (hk : k < 8) (w : World) : (Instr.index 114 (.agg (ints .u64 st)) (.int .i64 (k : Int))).run Tryz.prog w = .ok (.int .u64 ((st.getD k 0 : Nat) : Int)) w := by
  match st, hst with
  | [a, b, c, d, e, f, g, h], _ => exact index8_64 a b c d e f g h k hk w
theorem stateBytes64 (st : List Nat) (w : World) (hst : st.length = 8) :
    Calls Tryz.prog 103 #[.agg (ints .u64 st), .agg shpA64] w fun e w' => ∃ g, e = .returned (.slice (some ⟨g, 0, none⟩) 64 64) ∧ Below w.heap.size w w' ∧ w'.ownsRow (w.heap.size + 1 + 1) 5 1 (.slice (some ⟨g, 0, none⟩) 64 64) 64 (Hbv (stB 64 st 8)) := by
  obtain ⟨sv, hsv⟩ : ∃ x, x = ints .u64 st := ⟨_, rfl⟩
  rw [← hsv]
  have HSV : Hid (sv = ints .u64 st) := hsv
  have hsz : sv.size = 8 := by rw [hsv, ints_size, hst]
  clear hsv
  have hmk : ∀ w, (Instr.makeSlice 22 (.int .i64 0) (.int .u64 64)).run Tryz.prog w = .ok (.slice (some ⟨w.heap.size, 0, none⟩) 0 64) (w.alloc (.cells (ints .u8 z64b) 5)) := fun _ => by kernel_rfl
  have h8 : (Tryz.prog.info? 114).map (·.size) = some 8 := by kernel_rfl
  have h5i : (Tryz.prog.info? 5).map (fun i => (i.zero, i.size, i.bytes)) = some (some (.int .u8 0), 1, 1) := by kernel_rfl
  obtain ⟨i0, hi, hz0, hz1, hz2⟩ := info_parts h5i
  have h5 := heap3_0 w (.cells sv 114) (.cells shpA64 97) (.cells (ints .u8 z64b) 5)
  have hR0 : RelS64 w (((w.alloc (.cells sv 114)).alloc (.cells shpA64 97)).alloc (.cells (ints .u8 z64b) 5)) 0 (stB 64 st 0) :=
    ⟨below3 _ _ _ _, heap3_1 _ _ _ _, rfl, .inr ⟨_, 64, ints .u8 z64b, rfl, Nat.le_refl _, heap3_2 _ _ _ _, by omega, by unfold maxLen; omega, by rw [ints_size]; rfl, rfl⟩⟩
  unfold shpA64
  go_enter Tryz.func103, Tryz.ntmps103
  go_wp2_with (refine wpList_load_row rfl 114 (.tmp 2) rfl _ rfl 114 sv (0, 0) _ h5 Tryz.underlying114 rfl (by rw [hsz]; exact h8) ?_)
  try simp only [Act.put, List.setIfInBounds_toArray, List.set_cons_succ, List.set_cons_zero]
  go_loopw [13, 5] (fun i v5 wr => ∃ k : Nat, k ≤ 8 ∧ i = .int .i64 (k : Int) ∧ ∃ n : Nat, n = 8 * k ∧ v5 = .slice (some ⟨w.heap.size + 1 + 1, 0, none⟩) n 64 ∧ RelS64 w wr n (stB 64 st k)) (fun i _ _ => 8 - (intOf i).toNat)
  case atStart => exact ⟨0, by omega, rfl, 0, rfl, rfl, hR0⟩
  case round =>
    obtain ⟨k, hk, rfl, n, hn, rfl, hR⟩ := hrel
    clear h5 hR0
    by_cases hlt : k < 8
    · obtain ⟨x, hx⟩ : ∃ x, x = st.getD k 0 := ⟨_, rfl⟩
      have hix : ∀ w', (Instr.index 114 (.agg sv) (.int .i64 (k : Int))).run Tryz.prog w' = .ok (.int .u64 (x : Int)) w' := by
        rw [hx, HSV.out]; exact index_st64 st hst k hlt
      have HX : Hid (x = st.getD k 0) := hx
      have HN : Hid (n = 8 * k) := hn
      clear hx hn
      have c0 := shp_at64 hR.2.1 0 (.int .u64 64) rfl
      go_wp2_with fail
      have hdk : decide ((k : Int) < 8) = true := decide_eq_true (by omega)
      simp only [hdk]
      clear c0 hix hdk
      go_loopw [8, 5] (fun lv v5 wr => ∃ j : Nat, j ≤ 8 ∧ ∃ l : Nat, l + 8 * j = 64 ∧ lv = .int .u64 (l : Int) ∧ ∃ m : Nat, m = n + j ∧ v5 = .slice (some ⟨w.heap.size + 1 + 1, 0, none⟩) m 64 ∧ RelS64 w wr m (stB 64 st k ++ wb 64 x j)) (fun lv _ _ => (intOf lv).toNat)
      case atStart => exact ⟨0, by omega, 64, rfl, rfl, n, rfl, rfl, by rw [show wb 64 x 0 = [] from rfl, List.append_nil]; exact hR⟩
      case round =>
        obtain ⟨j, hj, l, hl, rfl, m, hm, rfl, hR⟩ := hrel
        have HM : Hid (m = n + j) := hm
        have HLj : Hid (l + 8 * j = 64) := hl
        have hl32 : l ≤ 64 := by omega
        have hm31 : m ≤ 64 := by have := HN.out; omega
        clear hm
        by_cases hlt2 : 8 ≤ l
        · clear hl
          have hb1 : m + 1 ≤ 64 := by have h1 := HM.out; have h2 := HN.out; have h3 := HLj.out; omega
          have hnv : (((x >>> (l - 8)) % 256 : Nat) : Int) = (x : Int) / 2 ^ (l - 8) % (256 : Int) := by rw [Nat.shiftRight_eq_div_pow]; simp
          have HNV : Hid ((((x >>> (l - 8)) % 256 : Nat) : Int) = (x : Int) / 2 ^ (l - 8) % (256 : Int)) := hnv
          clear hnv
          have hown := hR.2.2.alloc (.cells #[.int .u8 ((x : Int) / 2 ^ (l - 8) % (256 : Int))] 5)
          go_wp2_with (at_builtin; refine wpList_append_fits _ rfl (.tmp 22) (.tmp 28) 22 rfl (w.heap.size + 1 + 1) 5 i0 1 Tryz.underlying22 hi hz1 (w.heap.size + 1 + 1) m 64 (Hbv (stB 64 st k ++ wb 64 x j)) rfl hown ⟨wr.heap.size, 0, none⟩ 1 1 [.int .u8 ((x : Int) / 2 ^ (l - 8) % (256 : Int))] rfl rfl (Hnews_one _ _ _) Hone_byte hb1 ?_; intro w2 hown2 hgrow)
          have e : Hbv (stB 64 st k ++ wb 64 x j) ++ [.int .u8 ((x : Int) / 2 ^ (l - 8) % (256 : Int))] = Hbv (stB 64 st k ++ wb 64 x (j + 1)) := by
            rw [← HNV.out, show wb 64 x (j + 1) = wb 64 x j ++ [(x >>> (64 - 8 * j - 8)) % 256] from rfl, show 64 - 8 * j - 8 = l - 8 by have := HLj.out; omega]
            simp [Hbv]
          have hRn : RelS64 w w2 (m + 1) (stB 64 st k ++ wb 64 x (j + 1)) :=
            ⟨(hR.1.alloc hR.1.size _).grown hgrow (Nat.le_trans hR.1.size (by simp)) (by intro k hk; cases hk; omega),
              (hgrow.block _ (by have := lt_of_heap hR.2.1; simp; omega) (by simp)).trans ((heap_alloc_old _ _ (lt_of_heap hR.2.1)).trans hR.2.1), by rw [← e]; exact hown2⟩
          have hj1 : j + 1 ≤ 8 := by have := HLj.out; omega
          have hl1 : l - 8 + 8 * (j + 1) = 64 := by have := HLj.out; omega
          have hm1 : m + 1 = n + (j + 1) := by have := HM.out; omega
          have hv1 : Value.int .u64 ((l : Int) - 8) = .int .u64 ((l - 8 : Nat) : Int) := by go_num
          go_roundw
          case rel => first | exact ⟨j + 1, hj1, l - 8, hl1, hv1, m + 1, hm1, rfl, hRn⟩ | ((repeat apply Exists.intro); exact ⟨⟨j + 1, hj1, l - 8, hl1, hv1, m + 1, hm1, rfl, hRn⟩, rfl⟩)
          case measure => simp [intOf]; omega
        · obtain rfl : l = 0 := by omega
          go_wp2_with fail
          go_roundw
          case rel =>
            refine ⟨k + 1, by omega, by go_num, m, by have h1 := HM.out; have h2 := HN.out; omega, rfl, ?_⟩
            have e : stB 64 st (k + 1) = stB 64 st k ++ wb 64 x j := by
              rw [HX.out, show j = 8 by omega]; rfl
            rw [e]; exact hR
          case measure => simp [intOf]; omega
    · obtain rfl : k = 8 := by omega
      obtain rfl : n = 64 := by omega
      go_wp2_with fail
      go_ret
      exact ⟨_, rfl, hR.1, hR.2.2⟩
end Go.Proofs.YtabgihjffjlfiaaGreatDoor
