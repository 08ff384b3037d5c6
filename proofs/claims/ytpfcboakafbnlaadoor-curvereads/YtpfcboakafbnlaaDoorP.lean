/-
  The walk of Pow.
-/
import Derived.Test.YtpfcboakafbnlaaDoorG
set_option linter.unusedVariables false
namespace Go.Proofs.YtpfcboakafbnlaaDoor
open Go.RowKit Go.Sort Go.BigFrame
set_option maxRecDepth 100000
set_option maxHeartbeats 2000000
def RelP (w wr : World) (g : Nat) (a : E5) (N : Nat) : Prop :=
  ∃ pw : E5, pw.wf ∧ pw.val % pp = a.val ^ N % pp ∧ Below w.heap.size w wr ∧ w.heap.size + 1 < g ∧ wr.heap[w.heap.size]? = some (.cells (elc a) 27 (0, 0)) ∧ wr.heap[w.heap.size + 1]? = some (.cells z5 27 (0, 0)) ∧ wr.heap[g]? = some (.cells (elc pw) 27 (0, 0))
theorem pow_dbl (a N p : Nat) {x y : Nat} (h : x % p = a ^ N % p) (h2 : y % p = x * x % p) : y % p = a ^ (2 * N) % p := by
  rw [h2, Nat.mul_mod, h, ← Nat.mul_mod, Nat.two_mul, Nat.pow_add]
theorem pow_one (a N p : Nat) {x y : Nat} (h : x % p = a ^ N % p) (h2 : y % p = x * a % p) : y % p = a ^ (N + 1) % p := by
  rw [h2, Nat.mul_mod, h, ← Nat.mul_mod, Nat.pow_succ]
theorem and1_8 (x : Nat) (h : x < 256) : bits .and .u8 (x : Int) 1 = ((x % 2 : Nat) : Int) := by
  have : ∀ y < 256, bits .and .u8 ((y : Nat) : Int) 1 = ((y % 2 : Nat) : Int) := by decide
  exact this x h
theorem int1_pow (a : Nat) : (intE 1).val % pp = a ^ 0 % pp := by
  rw [Nat.pow_zero]; decide
theorem RelP.on {w wr w2 : World} {g : Nat} {a : E5} {pw : E5} (h : wr.heap[g]? = some (.cells (elc pw) 27 (0, 0))) (hB : Below w.heap.size w wr) (hb : Below wr.heap.size wr w2) : Below w.heap.size w w2 ∧ w2.heap[g]? = some (.cells (elc pw) 27 (0, 0)) :=
  ⟨hB.trans (hb.mono hB.size), block_below hb (lt_of_heap h) h⟩
theorem bit_step (c t : Nat) : c / 2 ^ t = 2 * (c / 2 ^ (t + 1)) + c / 2 ^ t % 2 := by
  rw [Nat.pow_succ, ← Nat.div_div_eq_div_mul]; omega
theorem drop_val (l : List Nat) (j : Nat) : valD (l.drop j) = l.getD j 0 + 256 * valD (l.drop (j + 1)) := by
  by_cases h : j < l.length
  · rw [List.drop_eq_getElem_cons h, valD]; simp [h]
  · rw [List.drop_of_length_le (by omega), List.drop_of_length_le (by omega), List.getD_eq_getElem?_getD, List.getElem?_eq_none (by omega)]; rfl
theorem pow30 (a : E5) (ad : Option Addr) (len cap : Nat) (bs : List Nat) (w : World) (ha : a.wf) (hlen : Hid (bs.length = len)) (hcap : len ≤ cap) (hcap2 : cap ≤ 9223372036854775807) (h64 : len ≤ 64) (hb : Dig bs) (hv : View w ad bs) :
    Calls Tryd.prog 61 #[.agg (elc a), .slice ad len cap] w fun e w' => ∃ r : E5, r.wf ∧ r.val % pp = a.val ^ valD bs % pp ∧ e = .returned (.agg (elc r)) ∧ Below w.heap.size w w' := by
  have h1 := fun w1 => int17 1 w1 (by decide) (by decide)
  have hmi : ¬ (64 < (len : Int)) := by omega
  have hwf1 : Hid (intE 1).wf := intE_wf (by decide) (by decide)
  have hi1 : Hid ((intE 1).val % pp = a.val ^ 0 % pp) := int1_pow _
  obtain ⟨va, hva⟩ : ∃ l, l = elc a := ⟨_, rfl⟩
  have HVA : Hid (va = elc a) := hva
  have hsa : va.size = 5 := by rw [hva]; rfl
  rw [← hva]
  clear hva
  go_enter Tryd.func61, Tryd.ntmps61
  go_wp2_with fail
  refine (h1 _).mono ?_
  rintro e w1 ⟨rfl, hb1⟩
  have hB : Below w.heap.size w w1 := (below2 _ _ _).trans (hb1.mono (by simp; omega))
  have hx : w1.heap[w.heap.size]? = some (.cells va 27 (0, 0)) := block_below hb1 (by simp; omega) (heap2_0 _ _ _)
  have hz : w1.heap[w.heap.size + 1]? = some (.cells z5 27 (0, 0)) := block_below hb1 (by simp) (heap_alloc2_new _ _ _)
  clear hb1 h1
  have hal : (w1.alloc (.cells #[.int .u64 0, .int .u64 0, .int .u64 0, .int .u64 0, .int .u64 0] 27)).heap[w1.heap.size]? = some (.cells #[.int .u64 0, .int .u64 0, .int .u64 0, .int .u64 0, .int .u64 0] 27 (0, 0)) := heap_alloc_new _ _
  obtain ⟨e1, he1⟩ : ∃ e, e = intE 1 := ⟨_, rfl⟩
  rw [← he1] at hwf1 hi1 ⊢
  clear he1
  go_wp2_with (refine wpList_store_row rfl 27 (.tmp 5) (.tmp 8) rfl _ (elc e1) rfl rfl 27 _ hal info26 rfl (elc_one _) ?_)
  have hR0 : Hid (RelP w ((w1.alloc (.cells #[.int .u64 0, .int .u64 0, .int .u64 0, .int .u64 0, .int .u64 0] 27)).setRow w1.heap.size (elc e1)) w1.heap.size a (valD (bs.drop len))) := by
    have hg := lt_of_heap hz
    refine ⟨e1, hwf1.out, ?_, setRow_below (hB.alloc hB.size _) hB.size _, hg, ?_, ?_, setRow_heap _ _ _ _ _ _ hal⟩
    · rw [List.drop_of_length_le (by rw [hlen.out]; exact Nat.le_refl _)]; exact hi1.out
    · rw [← HVA.out]; exact (setRow_other _ _ _ _ (by omega)).trans ((heap_alloc_old _ _ (by omega)).trans hx)
    · exact (setRow_other _ _ _ _ (by omega)).trans ((heap_alloc_old _ _ hg).trans hz)
  generalize ((w1.alloc (.cells #[.int .u64 0, .int .u64 0, .int .u64 0, .int .u64 0, .int .u64 0] 27)).setRow w1.heap.size (elc e1)) = u0 at hR0 ⊢
  clear hal hz hx hB
  generalize w1.heap.size = g at hR0 ⊢
  clear hwf1 hi1
  go_loopw [6] (fun i wr => ∃ j : Nat, j ≤ len ∧ i = .int .i64 ((j : Int) - 1) ∧ RelP w wr g a (valD (bs.drop j))) (fun i _ => (intOf i + 1).toNat)
  case atStart => exact ⟨len, Nat.le_refl _, rfl, hR0.out⟩
  case round =>
    obtain ⟨j, hj, rfl, hR⟩ := hrel
    clear hR0
    by_cases hj0 : j = 0
    · subst hj0
      obtain ⟨pw, hpw, hpe, hB, hg, hx, hz, hp⟩ := hR
      have HPE : Hid (pw.val % pp = a.val ^ valD (bs.drop 0) % pp) := hpe
      clear hpe
      go_wp2_with (first
        | (refine wpList_load_row rfl 27 (.tmp 5) rfl _ rfl 27 (elc pw) (0, 0) _ hp Tryd.underlying27 rfl info26 ?_)
        | (refine wpList_store_row rfl 27 (.tmp 4) (.tmp 35) rfl _ (elc pw) rfl rfl 27 _ hz info26 rfl (elc_one _) ?_))
      refine bodyPost_ret (v := .agg (elc pw)) ?_ rfl ⟨pw, hpw, HPE.out, rfl, setRow_below hB (by omega) _⟩
      exact results_cell_row Tryd.results61 _ _ _ 27 _ (0, 0) _ rfl (setRow_heap _ _ _ _ _ _ hz) Tryd.underlying27 rfl info26
    · obtain ⟨i, rfl⟩ : ∃ i, j = i + 1 := ⟨j - 1, by omega⟩
      have eI : (((i + 1 : Nat) : Int) - 1) = (i : Int) := by omega
      rw [eI]
      obtain ⟨gx, off, rfl, hc⟩ := hv (by rw [hlen.out]; omega)
      have hci := hc i (by rw [hlen.out]; omega)
      have hgx := block_lt_of_cell hci
      obtain ⟨c, hcc⟩ : ∃ c, c = bs.getD i 0 := ⟨_, rfl⟩
      have hcl : c < 256 := by rw [hcc]; exact hb i
      rw [← hcc] at hci
      have HD : Hid (valD (bs.drop i) = c + 256 * valD (bs.drop (i + 1))) := by show _ = _; rw [hcc]; exact drop_val bs i
      obtain ⟨E, hE⟩ : ∃ E, E = valD (bs.drop (i + 1)) := ⟨_, rfl⟩
      rw [← hE] at HD hR
      clear hcc hE hc eI
      have hR0 : RelP w wr g a (E * 2 ^ (8 - 8) + c / 2 ^ 8) := by
        rw [Nat.div_eq_of_lt hcl, Nat.sub_self, Nat.pow_zero, Nat.mul_one, Nat.add_zero]; exact hR
      clear hR
      go_wp2_with fail
      go_loopw [7] (fun b wr => ∃ t : Nat, t ≤ 8 ∧ b = .int .i64 ((t : Int) - 1) ∧ RelP w wr g a (E * 2 ^ (8 - t) + c / 2 ^ t)) (fun b _ => (intOf b + 1).toNat)
      case atStart => exact ⟨8, Nat.le_refl _, rfl, hR0⟩
      case round =>
        obtain ⟨t, ht, rfl, hR⟩ := hrel
        clear hR0
        by_cases ht0 : t = 0
        · subst ht0
          have HR : Hid (RelP w wr g a (valD (bs.drop i))) := by
            show RelP _ _ _ _ _
            rw [HD.out]
            have e : E * 2 ^ (8 - 0) + c / 2 ^ 0 = c + 256 * E := by simp; omega
            rw [← e]; exact hR
          clear hR
          go_wp2
          go_roundw
          case rel => exact ⟨i, by omega, rfl, HR.out⟩
          case measure => simp [intOf]
        · obtain ⟨b, rfl⟩ : ∃ b, t = b + 1 := ⟨t - 1, by omega⟩
          have eB : (((b + 1 : Nat) : Int) - 1) = (b : Int) := by omega
          rw [eB]
          clear eB
          obtain ⟨pw, hpw, hpe, hB, hg, hx, hz, hp⟩ := hR
          have hci2 := (hB.cell (p := ⟨gx, off + i, none⟩) hgx).trans hci
          obtain ⟨N, hN⟩ : ∃ N, N = E * 2 ^ (8 - (b + 1)) + c / 2 ^ (b + 1) := ⟨_, rfl⟩
          have HN : Hid (E * 2 ^ (8 - b) + c / 2 ^ b = 2 * N + c / 2 ^ b % 2) := by
            show _ = _
            rw [hN, Nat.mul_add, show 8 - b = 8 - (b + 1) + 1 by omega, Nat.pow_succ]
            have := bit_step c b
            have h3 : E * (2 ^ (8 - (b + 1)) * 2) = 2 * (E * 2 ^ (8 - (b + 1))) := by rw [← Nat.mul_assoc, Nat.mul_comm]
            omega
          rw [← hN] at hpe
          have hm := fun w1 => mul24 pw pw w1 hpw hpw
          have hq := mulE_wf hpw hpw
          have hqe := pow_dbl a.val N pp hpe (mulE_mod pw pw)
          obtain ⟨q, hqq⟩ : ∃ q, q = mulE pw pw := ⟨_, rfl⟩
          rw [← hqq] at hm hq hqe
          have HQE : Hid (q.val % pp = a.val ^ (2 * N) % pp) := hqe
          clear hqe hqq hN hpe hpw ht0
          have hcb : c / 2 ^ b < 256 := Nat.lt_of_le_of_lt (Nat.div_le_self _ _) hcl
          have hand := and1_8 (c / 2 ^ b) hcb
          simp only [Int.natCast_ediv, Int.natCast_pow, Int.cast_ofNat_Int] at hand
          go_wp2_with (refine wpList_load_row rfl 27 (.tmp 5) rfl _ rfl 27 (elc pw) (0, 0) _ hp Tryd.underlying27 rfl info26 ?_)
          refine (hm _).mono ?_
          rintro e w2 ⟨rfl, hb2⟩
          have hp2 := block_below hb2 (lt_of_heap hp) hp
          have hx2 := block_below hb2 (lt_of_heap hx) hx
          have hz2 := block_below hb2 (lt_of_heap hz) hz
          have hB2 := hB.trans (hb2.mono hB.size)
          have hcell : (w2.setRow g (elc q)).cell? ⟨gx, off + i, none⟩ = some (.int .u8 (c : Int)) := by
            rw [cell_setRow_other _ _ _ _ (by show gx ≠ g; omega)]
            exact (hB2.cell (p := ⟨gx, off + i, none⟩) hgx).trans hci
          have HR2 : Hid (Below w.heap.size w (w2.setRow g (elc q)) ∧ (w2.setRow g (elc q)).heap[w.heap.size]? = some (.cells (elc a) 27 (0, 0)) ∧ (w2.setRow g (elc q)).heap[w.heap.size + 1]? = some (.cells z5 27 (0, 0)) ∧ (w2.setRow g (elc q)).heap[g]? = some (.cells (elc q) 27 (0, 0))) :=
            ⟨setRow_below hB2 (by omega) _, (setRow_other _ _ _ _ (by omega)).trans hx2, (setRow_other _ _ _ _ (by omega)).trans hz2, setRow_heap _ _ _ _ _ _ hp2⟩
          clear hb2 hm hp hx hz hB hx2 hz2 hB2 hci2
          by_cases hodd : c / 2 ^ b % 2 = 1
          · have ho2 : bits BinOp.and IntKind.u8 ((c : Int) / 2 ^ b) 1 = 1 := by rw [hand, hodd]; rfl
            have HO : Hid (c / 2 ^ b % 2 = 1) := hodd
            clear hodd hand
            obtain ⟨hB3, hx3, hz3, hp3⟩ := HR2.out
            have hm := fun w1 => mul24 q a w1 hq ha
            have hr := mulE_wf hq ha
            have hre : Hid ((mulE q a).val % pp = a.val ^ (2 * N + 1) % pp) := pow_one a.val (2 * N) pp HQE.out (mulE_mod q a)
            obtain ⟨r, hrr⟩ : ∃ r, r = mulE q a := ⟨_, rfl⟩
            rw [← hrr] at hm hr hre
            clear hrr
            go_wp2_with (first
              | (refine wpList_store_row rfl 27 (.tmp 5) (.tmp 23) rfl _ (elc q) rfl rfl 27 _ hp2 info26 rfl (elc_one _) ?_)
              | (refine wpList_load_row rfl 27 (.tmp 5) rfl _ rfl 27 (elc q) (0, 0) _ hp3 Tryd.underlying27 rfl info26 ?_)
              | (refine wpList_load_row rfl 27 (.tmp 2) rfl _ rfl 27 (elc a) (0, 0) _ hx3 Tryd.underlying27 rfl info26 ?_))
            refine (hm _).mono ?_
            rintro e w4 ⟨rfl, hb4⟩
            have hp4 := block_below hb4 (lt_of_heap hp3) hp3
            have hx4 := block_below hb4 (lt_of_heap hx3) hx3
            have hz4 := block_below hb4 (lt_of_heap hz3) hz3
            have hB4 := hB3.trans (hb4.mono hB3.size)
            clear hb4 hB3 hx3 hz3 hp3 hm HR2 hp2 hcell
            go_wp2_with (refine wpList_store_row rfl 27 (.tmp 5) (.tmp 34) rfl _ (elc r) rfl rfl 27 _ hp4 info26 rfl (elc_one _) ?_)
            go_roundw
            case rel => exact ⟨b, by omega, rfl, r, hr, by rw [HN.out, HO.out]; exact hre.out, setRow_below hB4 (by omega) _, hg, (setRow_other _ _ _ _ (by omega)).trans hx4, (setRow_other _ _ _ _ (by omega)).trans hz4, setRow_heap _ _ _ _ _ _ hp4⟩
            case measure => simp [intOf]
          · have ho2 : bits BinOp.and IntKind.u8 ((c : Int) / 2 ^ b) 1 = 0 := by rw [hand, show c / 2 ^ b % 2 = 0 by omega]; rfl
            have HO : Hid (c / 2 ^ b % 2 = 0) := by show _ = _; omega
            clear hodd hand
            go_wp2_with (refine wpList_store_row rfl 27 (.tmp 5) (.tmp 23) rfl _ (elc q) rfl rfl 27 _ hp2 info26 rfl (elc_one _) ?_)
            go_roundw
            case rel => exact ⟨b, by omega, rfl, q, hq, by rw [HN.out, HO.out]; exact HQE.out, HR2.out.1, hg, HR2.out.2.1, HR2.out.2.2.1, HR2.out.2.2.2⟩
            case measure => simp [intOf]
end Go.Proofs.YtpfcboakafbnlaaDoor
