/-
  The walk of digest, at words of 32 bits.
-/
import Derived.Test.YtomfnkbghlpkeaaDoorF32
import Derived.Test.YtomfnkbghlpkeaaDoorMoves
set_option linter.unusedVariables false
namespace Go.Proofs.YtomfnkbghlpkeaaDoor
open Go.RowKit Go.Sort Go.BigFrame
set_option maxRecDepth 100000
set_option maxHeartbeats 800000
def initN (W : Nat) (hs : List Nat) : Nat → List Nat
  | 0 => List.replicate 8 0
  | k + 1 => (initN W hs k).set k (hs.getD k 0 >>> (64 - W))
theorem initN_len (W : Nat) (hs : List Nat) : ∀ k, (initN W hs k).length = 8
  | 0 => rfl
  | k + 1 => by simp [initN, initN_len W hs k]
/-- The digest of a message, with the words of the state hs and those of the steps ks. -/
def dig (s : Sh) (hs ks bs : List Nat) : List Nat :=
  let whole := bs.length - bs.length % (2 * s.W)
  let last := lastB s (bs.drop whole) bs.length
  stB s.W (blks s ks (blks s ks (initN s.W hs 8) (bs.take whole) (whole / (2 * s.W))) last (last.length / (2 * s.W))) 8
def RelD32 (w : World) (l : List Nat) (wr : World) : Prop :=
  Below w.heap.size w wr ∧ wr.heap[w.heap.size]? = some (.cells shpA32 33 (0, 0)) ∧ wr.heap[w.heap.size + 1]? = some (.cells (ints .u32 l) 40 (0, 0))
theorem RelD32.start (w : World) : RelD32 w (List.replicate 8 0) ((w.alloc (.cells shpA32 33)).alloc (.cells z8_32 40)) :=
  ⟨below2 _ _ _, heap_alloc2_old _ _ _, heap_alloc2_new _ _ _⟩
theorem RelD32.on {w wr w1 : World} {l : List Nat} (h : RelD32 w l wr) (hb : Below wr.heap.size wr w1) : RelD32 w l w1 :=
  ⟨h.1.trans (hb.mono h.1.size), block_below hb (lt_of_heap h.2.1) h.2.1, block_below hb (lt_of_heap h.2.2) h.2.2⟩
theorem RelD32.store {w wr : World} {l : List Nat} (h : RelD32 w l wr) (j v : Nat) : RelD32 w (l.set j v) (wr.setCell ⟨w.heap.size + 1, j, none⟩ (.int .u32 (v : Int))) :=
  ⟨h.1.setCell (by simp) _, by rw [heap_setCell_other _ _ _ _ (by simp)]; exact h.2.1, set_ints h.2.2 j v⟩
theorem RelD32.setRow {w wr : World} {l : List Nat} (h : RelD32 w l wr) (l' : List Nat) : RelD32 w l' (wr.setRow (w.heap.size + 1) (ints .u32 l')) :=
  ⟨setRow_below h.1 (by omega) _, (setRow_other _ _ _ _ (by omega)).trans h.2.1, setRow_heap _ _ _ _ _ _ h.2.2⟩
theorem k32' (kt : Nat) (h : kt < 18446744073709551616) : (kt : Int) / (4294967296 : Int) = ((kt >>> (64 - 32) : Nat) : Int) := by rw [Nat.shiftRight_eq_div_pow]; omega
def cutA (a : Option Addr) (l m : Nat) : Option Addr := if m = l then a else a.map (·.add l)
theorem size5 : ∀ w, (sizeOf 5).run Tryd.prog w = .ok 1 w := fun _ => by kernel_rfl
theorem elem22 : Tryd.prog.elem 22 = 5 := by kernel_rfl
theorem run_cut_h (a : Option Addr) (len cap h : Nat) (w : World) (hh : h ≤ cap) : (Instr.sliceAt 22 (.slice a len cap) none (some (.int .i64 (h : Int))) none).run Tryd.prog w = .ok (.slice (cutA a 0 cap) h cap) w := by
  have hu : Tryd.prog.underlying 22 = some (.slice (Tryd.prog.elem 22)) := by rw [elem22]; exact Tryd.underlying22
  rw [run_sliceAt_slice w 22 _ _ _ _ hu, run_slice_h w 22 a len cap hu .i64 _ (by omega) (by omega), elem22, size5]
  simp [Result.andThen, sliced, cutA]
theorem run_cut_l (a : Option Addr) (len cap l : Nat) (w : World) (hl : l ≤ len) : (Instr.sliceAt 22 (.slice a len cap) (some (.int .i64 (l : Int))) none none).run Tryd.prog w = .ok (.slice (cutA a l cap) (len - l) (cap - l)) w := by
  have hu : Tryd.prog.underlying 22 = some (.slice (Tryd.prog.elem 22)) := by rw [elem22]; exact Tryd.underlying22
  rw [run_sliceAt_slice w 22 _ _ _ _ hu, run_slice_l w 22 a len cap hu .i64 _ (by omega) (by omega), elem22, size5]
  simp [Result.andThen, sliced, cutA]
theorem View.cut {w : World} {a : Option Addr} {bs : List Nat} (h : View w a bs) (l n cap : Nat) (hn : l + n ≤ bs.length) (hc : bs.length ≤ cap) : View w (cutA a l cap) ((bs.drop l).take n) := fun hp => by
  have hn0 : 0 < n := by simp at hp; omega
  obtain ⟨b, off, rfl, hb⟩ := h (by omega)
  refine ⟨b, off + l, ?_, sub_bytes hb l n hn⟩
  unfold cutA
  rw [if_neg (by omega)]
  simp [Addr.add_mid]
theorem run_lenO {ρ : Operand → Value} {o : Oper} {x : Operand} {a : Option Addr} {len cap : Nat} {w : World} (ho : o.op = .call { callee := .builtin .len, args := #[x], argTypes := #[22] }) (hx : ρ x = .slice a len cap) :
    (execOp ρ o).run Tryd.prog w = .ok (.value (.int .i64 (len : Int))) w := by
  simp [execOp, ho, resolve, invoke, hx, go_sem]
theorem run_sliceO {ρ : Operand → Value} {t : TypeId} {x : Operand} {lo hi mx : Option Operand} {w : World} {v : Value} {o : Oper}
    (hr : (Instr.sliceAt t (ρ x) (lo.map ρ) (hi.map ρ) (mx.map ρ)).run Tryd.prog w = .ok v w) (ho : o.op = .slice t x lo hi mx) : (execOp ρ o).run Tryd.prog w = .ok (.value v) w := by
  unfold execOp
  rw [ho]
  simp only [Sem.run_bind, hr, Result.andThen_ok, Sem.run_pure]
theorem initN_lt (hs : List Nat) (h : ∀ j, hs.getD j 0 < 18446744073709551616) : ∀ k j, (initN 32 hs k).getD j 0 < 4294967296
  | 0, j => by simp only [initN, List.getD_eq_getElem?_getD, List.getElem?_replicate]; split <;> simp
  | k + 1, j => getD_set_lt (initN_lt hs h k) (by rw [Nat.shiftRight_eq_div_pow]; have := h k; omega) j
theorem take_lt (bs : List Nat) (n : Nat) (hb : ∀ j, bs.getD j 0 < 256) (j : Nat) : (bs.take n).getD j 0 < 256 := by
  have := sub_lt bs 0 n hb j
  rwa [List.drop_zero] at this
theorem takeBlocks32 (st : List Nat) (a : Option Addr) (len cap : Nat) (bs ks : List Nat) (w : World) (hst : st.length = 8) (hsl : ∀ j, st.getD j 0 < 4294967296) (hlen0 : bs.length = len) (hb256 : ∀ j, bs.getD j 0 < 256) (hcap : len ≤ cap) (hcap2 : cap ≤ 9223372036854775807) (hlen9 : len ≤ 100000000000000)
    (hv : View w a bs) (hkl : ks.length = 80) (hkb : ∀ j, ks.getD j 0 < 18446744073709551616) (hK : TabAt w 1 ks) :
    Calls Tryd.prog 22 #[.agg (ints .u32 st), .slice a len cap, .agg shpA32] w fun e w' => e = .returned (.agg (ints .u32 (blks sh32 ks st bs (len / 64)))) ∧ Below w.heap.size w w' := by
  by_cases h : 64 ≤ len
  · obtain ⟨b, off, rfl, hb⟩ := hv (by omega)
    exact takeBlocks32_more st b off len cap bs ks w hst hsl hlen0 h hb256 hcap hcap2 hlen9 hb hkl hkb hK
  · rw [show len / 64 = 0 by omega]
    exact takeBlocks32_none st a len cap w hst (by omega)
theorem lastBlocks32 (a : Option Addr) (rc : Nat) (rest : List Nat) (L : Nat) (w : World) (rl : Nat) (hrl0 : rest.length = rl) (hrl : rl < 64) (hb256 : ∀ j, rest.getD j 0 < 256) (hv : View w a rest) (hL : L ≤ 100000000000000) :
    Calls Tryd.prog 23 #[.slice a rl rc, .int .i64 (L : Int), .agg shpA32] w fun e w' => ∃ v, e = .returned v ∧ ∃ g n, v = .slice (some ⟨g, 0, none⟩) n n ∧ n = (lastB sh32 rest L).length ∧ Below w.heap.size w w' ∧ w'.heap[g]? = some (.cells (ints .u8 (lastB sh32 rest L)) 5 (0, 0)) := by
  by_cases h : rl + 9 ≤ 64
  · refine (lastBlocks32_64 a rc rest L w rl hrl0 hrl h hb256 hv hL).mono ?_
    rintro e w' ⟨g, rfl, hb, hg⟩
    refine ⟨_, rfl, g, 64, rfl, ?_, hb, hg⟩
    rw [lastB_len _ _ _ (by rw [hrl0]; show rl ≤ 64; omega), if_neg (by rw [hrl0]; show ¬ 64 < rl + 1 + 8; omega)]; rfl
  · refine (lastBlocks32_128 a rc rest L w rl hrl0 hrl (by omega) hb256 hv hL).mono ?_
    rintro e w' ⟨g, rfl, hb, hg⟩
    refine ⟨_, rfl, g, 128, rfl, ?_, hb, hg⟩
    rw [lastB_len _ _ _ (by rw [hrl0]; show rl ≤ 64; omega), if_pos (by rw [hrl0]; show 64 < rl + 1 + 8; omega)]; rfl
theorem digest32 (a : Option Addr) (len cap : Nat) (bs hs ks : List Nat) (w : World) (hlen0 : bs.length = len) (hb256 : ∀ j, bs.getD j 0 < 256) (hcap : len ≤ cap) (hcap2 : cap ≤ 9223372036854775807) (hlen2 : len ≤ 100000000000000)
    (hv : View w a bs) (hhl : hs.length = 8) (hhb : ∀ j, hs.getD j 0 < 18446744073709551616) (hH : TabAt w 0 hs) (hkl : ks.length = 80) (hkb : ∀ j, ks.getD j 0 < 18446744073709551616) (hK : TabAt w 1 ks) :
    Calls Tryd.prog 16 #[.slice a len cap, .agg shpA32] w fun e w' => ∃ g B, e = .returned (.slice (some ⟨g, 0, none⟩) 32 32) ∧ Below w.heap.size w w' ∧ w.heap.size ≤ B ∧ w'.ownsRow B 5 1 (.slice (some ⟨g, 0, none⟩) 32 32) 32 (bv (dig sh32 hs ks bs)) := by
  have hlen : Hid (bs.length = len) := hlen0
  clear hlen0
  have h0B : 0 < w.heap.size := block_lt_of_cell (hH 0 (by omega))
  have h1B : 1 < w.heap.size := block_lt_of_cell (hK 0 (by omega))
  unfold shpA32
  go_enter Tryd.func16, Tryd.ntmps16
  go_wp2_with fail
  go_loopw [8] (fun i wr => ∃ k : Nat, k ≤ 8 ∧ i = .int .i64 (k : Int) ∧ RelD32 w (initN 32 hs k) wr) (fun i _ => 8 - (intOf i).toNat)
  case atStart => exact ⟨0, by omega, rfl, RelD32.start w⟩
  case round =>
    obtain ⟨k, hk, rfl, hR⟩ := hrel
    by_cases hlt : k < 8
    · obtain ⟨kt, hkt⟩ : ∃ x, x = hs.getD k 0 := ⟨_, rfl⟩
      have bk : kt < 18446744073709551616 := by rw [hkt]; exact hhb _
      have cK : wr.cell? ⟨0, k, none⟩ = some (.int .u64 (kt : Int)) := by rw [hkt]; exact hH.below hR.1 h0B k (by omega)
      have c0 := shp_at32 hR.2.1 0 (.int .u64 32) rfl
      obtain ⟨v0, cS⟩ : ∃ v, wr.cell? ⟨w.heap.size + 1, k, none⟩ = some v := ⟨_, cell_ints hR.2.2 k (by rw [initN_len]; omega)⟩
      have fS := free_ints hR.2.2 k
      have HN : Hid (RelD32 w (initN 32 hs (k + 1)) (wr.setCell ⟨w.heap.size + 1, k, none⟩ (.int .u32 ((kt >>> (64 - 32) : Nat) : Int)))) := by rw [hkt]; exact hR.store k _
      clear hkt hR
      go_wp2_with fail
      go_region
      all_goals
        go_wp2_with fail
        go_roundw
        case rel => exact ⟨k + 1, by omega, by go_num, by rw [k32' _ bk]; exact ⟨HN.out.1.drew, HN.out.2.1, HN.out.2.2⟩⟩
        case measure => simp [intOf]; omega
    · obtain rfl : k = 8 := by omega
      have h14 : (Tryd.prog.info? 33).map (·.size) = some shpA32.size := by kernel_rfl
      have h8 : (Tryd.prog.info? 40).map (·.size) = some 8 := by kernel_rfl
      have h0 := hR.2.1
      go_wp2_with (refine wpList_load_row rfl 33 (.tmp 3) rfl _ rfl 33 shpA32 (0, 0) _ h0 Tryd.underlying33 rfl h14 ?_)
      refine (blockBytes32 _).mono ?_
      rintro e w1 ⟨rfl, hb1⟩
      have hR1 := hR.on hb1
      clear hR hb1 h0
      obtain ⟨wh, hwh⟩ : ∃ x, x = len - len % 64 := ⟨_, rfl⟩
      have hwI : (len : Int) - (len : Int) % 64 = (wh : Int) := by omega
      have HWH : Hid (wh = len - len % 64) := hwh
      have hwl : wh ≤ len := by omega
      clear hwh
      go_wp2_with fail
      obtain ⟨st0, hst0⟩ : ∃ x, x = initN 32 hs 8 := ⟨_, rfl⟩
      rw [← hst0] at hR1
      have hl0 : st0.length = 8 := by rw [hst0]; exact initN_len _ _ _
      have hs0 : ∀ j, st0.getD j 0 < 4294967296 := by rw [hst0]; exact initN_lt hs hhb 8
      have hv1 : View w1 (cutA a 0 cap) (bs.take wh) := by
        have := (hv.below hR1.1).cut 0 wh cap (by rw [hlen.out]; omega) (by rw [hlen.out]; omega)
        rwa [List.drop_zero] at this
      have hT := takeBlocks32 st0 (cutA a 0 cap) wh cap (bs.take wh) ks w1.drew hl0 hs0 (by have := hlen.out; simp; omega) (take_lt _ _ hb256) (by omega) hcap2 (by omega) (hv1.below (Below.refl _ _).drew) hkl hkb (hK.below hR1.1.drew h1B)
      obtain ⟨st1, hst1⟩ : ∃ x, x = blks sh32 ks st0 (bs.take wh) (wh / 64) := ⟨_, rfl⟩
      have hl1 : st1.length = 8 := by rw [hst1]; exact blks_len _ _ _ _ hl0 _
      have hs1 : ∀ j, st1.getD j 0 < 4294967296 := by rw [hst1]; exact blks_lt sh32 _ _ _ hs0 _
      rw [← hst1] at hT
      have HST1 : Hid (st1 = blks sh32 ks st0 (bs.take wh) (wh / 64)) := hst1
      have HST0 : Hid (st0 = initN 32 hs 8) := hst0
      obtain ⟨v0, hv0⟩ : ∃ x, x = ints .u32 st0 := ⟨_, rfl⟩
      obtain ⟨v1, hvv1⟩ : ∃ x, x = ints .u32 st1 := ⟨_, rfl⟩
      have z0 : v0.size = 8 := by rw [hv0, ints_size, hl0]
      have z1 : v1.size = 8 := by rw [hvv1, ints_size, hl1]
      have o1 : v1.all (·.oneCell') = true := by rw [hvv1]; exact ints_one _ _
      have hr0 : w1.drew.heap[w.heap.size + 1]? = some (.cells v0 40 (0, 0)) := by rw [hv0]; exact hR1.2.2
      have hr1 : w1.drew.heap[w.heap.size]? = some (.cells shpA32 33 (0, 0)) := hR1.2.1
      rw [← hv0, ← hvv1] at hT
      have HV0 : Hid (v0 = ints .u32 st0) := hv0
      have HV1 : Hid (v1 = ints .u32 st1) := hvv1
      clear hst1 hst0 hv0 hvv1
      refine wp_region_still_tail 5 (by kernel_rfl) (by kernel_rfl) ?_
      simp only [List.take_succ_cons, List.take_zero, List.drop_succ_cons, List.drop_zero]
      show wpStill _ _ w1.drew (fun a' => wpList _ _ _ _ a' w1.drew) _ _
      refine wpStill_load_row rfl 40 (.tmp 5) rfl _ rfl 40 v0 (0, 0) _ hr0 Tryd.underlying40 rfl (by rw [z0]; exact h8) ?_
      simp only [Act.put, List.setIfInBounds_toArray, List.set_cons_succ, List.set_cons_zero]
      refine wpStill_run _ rfl (run_move (.tmp 0) rfl _) ?_
      simp only [Act.put, List.setIfInBounds_toArray, List.set_cons_succ, List.set_cons_zero]
      refine wpStill_run _ rfl (run_move (.tmp 7) rfl _) ?_
      simp only [Act.put, List.setIfInBounds_toArray, List.set_cons_succ, List.set_cons_zero]
      refine wpStill_run (.slice (cutA a 0 cap) wh cap) rfl ?c1 ?_
      case c1 => exact run_sliceO (run_cut_h a len cap wh _ (by omega)) rfl
      simp only [Act.put, List.setIfInBounds_toArray, List.set_cons_succ, List.set_cons_zero]
      refine wpStill_load_row rfl 33 (.tmp 3) rfl _ rfl 33 shpA32 (0, 0) _ hr1 Tryd.underlying33 rfl h14 ?_
      simp only [Act.put, List.setIfInBounds_toArray, List.set_cons_succ, List.set_cons_zero]
      refine wpStill_nil ?_
      go_wp2_with fail
      refine hT.mono ?_
      rintro e w2 ⟨rfl, hb2⟩
      have hR2 : RelD32 w st0 w2 := RelD32.on (wr := w1.drew) ⟨hR1.1.drew, hR1.2.1, hR1.2.2⟩ hb2
      have hr2 : w2.heap[w.heap.size + 1]? = some (.cells v0 40 (0, 0)) := by rw [HV0.out]; exact hR2.2.2
      clear hT hb2 hr0 hr1 hR1 hv1
      go_wp2_with (refine wpList_store_row rfl 40 (.tmp 5) (.tmp 35) rfl _ v1 rfl rfl 40 _ hr2 (by rw [z1]; exact h8) (by rw [z0, z1]) o1 ?_)
      simp only [Act.put]
      have hR3 : RelD32 w st1 (w2.setRow (w.heap.size + 1) v1) := by rw [HV1.out]; exact hR2.setRow st1
      obtain ⟨w3, hw3⟩ : ∃ x, x = w2.setRow (w.heap.size + 1) v1 := ⟨_, rfl⟩
      rw [← hw3] at hR3 ⊢
      clear hw3 hR2 hr2
      have hdl : (bs.drop wh).length = len - wh := by rw [List.length_drop, hlen.out]
      have hdb : ∀ j, (bs.drop wh).getD j 0 < 256 := fun j => by
        have := hb256 (wh + j)
        simpa using this
      have hv3 : View w3.drew (cutA a wh cap) (bs.drop wh) := by
        have := ((hv.below hR3.1).cut wh (len - wh) cap (by rw [hlen.out]; omega) (by rw [hlen.out]; omega)).below (Below.refl _ _).drew
        rwa [List.take_of_length_le (by rw [hdl]; omega)] at this
      have hLB := lastBlocks32 (cutA a wh cap) (cap - wh) (bs.drop wh) len w3.drew (len - wh) hdl (by have := HWH.out; omega) hdb hv3 hlen2
      have hlast : (lastB sh32 (bs.drop wh) len).length ≤ 128 := by
        rw [lastB_len _ _ _ (by rw [hdl]; have := HWH.out; show len - wh ≤ 64; omega)]
        split <;> decide
      have hr3 : w3.drew.heap[w.heap.size + 1]? = some (.cells v1 40 (0, 0)) := by rw [HV1.out]; exact hR3.2.2
      refine wp_region_held (S := fun w' => w'.heap[w.heap.size]? = some (.cells shpA32 33 (0, 0))) (by kernel_rfl) ?_
      show wpAnyH _ _ _ _ _ 11 (Array.replicate 11 false) _ w3.drew
      refine take_at (i := 1) (some 37) _ rfl rfl (by kernel_rfl) (by kernel_rfl) (by kernel_rfl) (fun _ _ _ h => h) (yields_move rfl (.tmp 0) rfl) hR3.2.1 ?_
      simp only [Act.put, List.setIfInBounds_toArray, List.set_cons_succ, List.set_cons_zero]
      refine take_at (i := 2) (some 38) _ rfl rfl (by kernel_rfl) (by kernel_rfl) (by kernel_rfl) (fun _ _ _ h => h) (yields_move rfl (.tmp 7) rfl) hR3.2.1 ?_
      simp only [Act.put, List.setIfInBounds_toArray, List.set_cons_succ, List.set_cons_zero]
      refine take_at (i := 3) (some 39) _ rfl rfl (by kernel_rfl) (by kernel_rfl) (by kernel_rfl) (fun _ _ _ h => h) (yields_run (v := .slice (cutA a wh cap) (len - wh) (cap - wh)) rfl fun w' _ => run_sliceO (run_cut_l a len cap wh w' hwl) rfl) hR3.2.1 ?_
      simp only [Act.put, List.setIfInBounds_toArray, List.set_cons_succ, List.set_cons_zero]
      refine take_at (i := 4) (some 40) _ rfl rfl (by kernel_rfl) (by kernel_rfl) (by kernel_rfl) (fun _ _ _ h => h) (yields_move rfl (.tmp 0) rfl) hR3.2.1 ?_
      simp only [Act.put, List.setIfInBounds_toArray, List.set_cons_succ, List.set_cons_zero]
      refine take_at (i := 5) (some 41) _ rfl rfl (by kernel_rfl) (by kernel_rfl) (by kernel_rfl) (fun _ _ _ h => h) (yields_run (v := .int .i64 (len : Int)) rfl fun w' _ => run_lenO (a := a) (cap := cap) rfl rfl) hR3.2.1 ?_
      simp only [Act.put, List.setIfInBounds_toArray, List.set_cons_succ, List.set_cons_zero]
      refine take_at (i := 6) (some 42) _ rfl rfl (by kernel_rfl) (by kernel_rfl) (by kernel_rfl) (fun _ _ _ h => h) (yields_load_row rfl 33 (.tmp 3) rfl _ rfl 33 shpA32 (0, 0) _ (fun w' h => h) Tryd.underlying33 rfl h14) hR3.2.1 ?_
      simp only [Act.put, List.setIfInBounds_toArray, List.set_cons_succ, List.set_cons_zero]
      refine take_at (i := 8) (some 44) _ rfl rfl (by kernel_rfl) (by kernel_rfl) (by kernel_rfl) (fun _ _ _ h => h) (yields_load_row rfl 33 (.tmp 3) rfl _ rfl 33 shpA32 (0, 0) _ (fun w' h => h) Tryd.underlying33 rfl h14) hR3.2.1 ?_
      simp only [Act.put, List.setIfInBounds_toArray, List.set_cons_succ, List.set_cons_zero]
      refine two_at (i := 0) (j := 7) (by kernel_rfl) ?_ ?_
      · refine load_at (some 36) rfl rfl rfl 40 (.tmp 5) rfl (w.heap.size + 1) rfl 40 v1 (0, 0) _ hr3 Tryd.underlying40 rfl (by rw [z1]; exact h8) ?_
        refine ⟨hR3.2.1, ?_⟩
        simp only [Act.put, List.setIfInBounds_toArray, List.set_cons_succ, List.set_cons_zero]
        refine one_at (i := 7) (by kernel_rfl) ?_
        refine call_at (some 43) rfl rfl rfl 23 #[.slice (cutA a wh cap) (len - wh) (cap - wh), .int .i64 (len : Int), .agg shpA32] (R := fun v w' => ∃ g n, v = .slice (some ⟨g, 0, none⟩) n n ∧ n = (lastB sh32 (bs.drop wh) len).length ∧ Below w3.drew.heap.size w3.drew w' ∧ w'.heap[g]? = some (.cells (ints .u8 (lastB sh32 (bs.drop wh) len)) 5 (0, 0))) (by kernel_rfl) hLB ?_
        rintro v4 w4 ⟨g, n, rfl, hn, hb4, hg4⟩
        have hR4 : RelD32 w st1 w4 := RelD32.on (wr := w3.drew) ⟨hR3.1.drew, hR3.2.1, hR3.2.2⟩ hb4
        refine ⟨hR4.2.1, ?_⟩
        simp only [Act.put, List.setIfInBounds_toArray, List.set_cons_succ, List.set_cons_zero]
        have hT2 := takeBlocks32 st1 (some ⟨g, 0, none⟩) n n (lastB sh32 (bs.drop wh) len) ks w4 hl1 hs1 hn.symm (lastB_lt _ _ _ hdb) (Nat.le_refl _) (by rw [hn]; have := hlast; omega) (by rw [hn]; have := hlast; omega) (fun _ => ⟨g, 0, rfl, bytes_row hg4⟩) hkl hkb (hK.below hR4.1 h1B)
        rw [← HV1.out] at hT2
        obtain ⟨st2, hst2⟩ : ∃ x, x = blks sh32 ks st1 (lastB sh32 (bs.drop wh) len) (n / 64) := ⟨_, rfl⟩
        rw [← hst2] at hT2
        have hl2 : st2.length = 8 := by rw [hst2]; exact blks_len _ _ _ _ hl1 _
        obtain ⟨v2, hv2⟩ : ∃ x, x = ints .u32 st2 := ⟨_, rfl⟩
        have z2 : v2.size = 8 := by rw [hv2, ints_size, hl2]
        have o2 : v2.all (·.oneCell') = true := by rw [hv2]; exact ints_one _ _
        rw [← hv2] at hT2
        refine one_at (i := 9) (by kernel_rfl) ?_
        refine call_at (some 45) rfl rfl rfl 22 #[.agg v1, .slice (some ⟨g, 0, none⟩) n n, .agg shpA32] (R := fun v w' => v = .agg v2 ∧ Below w4.heap.size w4 w') (by kernel_rfl) (hT2.mono fun e w' h => ⟨_, h.1, rfl, h.2⟩) ?_
        rintro v5 w5 ⟨rfl, hb5⟩
        have hR5 := hR4.on hb5
        refine ⟨hR5.2.1, ?_⟩
        simp only [Act.put, List.setIfInBounds_toArray, List.set_cons_succ, List.set_cons_zero]
        have hr5 : w5.heap[w.heap.size + 1]? = some (.cells v1 40 (0, 0)) := by rw [HV1.out]; exact hR5.2.2
        refine one_at (i := 10) (by kernel_rfl) ?_
        refine store_at rfl rfl rfl 40 (.tmp 5) (.tmp 45) rfl (w.heap.size + 1) v2 rfl rfl 40 v1 hr5 (by rw [z2]; exact h8) (by rw [z1, z2]) o2 ?_
        have hR6 : RelD32 w st2 (w5.setRow (w.heap.size + 1) v2) := by rw [hv2]; exact hR5.setRow st2
        refine ⟨hR6.2.1, wpAnyH_done (by kernel_rfl) ?_ _⟩
        have HDIG : Hid (dig sh32 hs ks bs = stB 32 st2 8) := by
          show dig sh32 hs ks bs = _
          unfold dig
          rw [hst2, HST1.out, HST0.out, hn]
          have e1 : bs.length - bs.length % (2 * sh32.W) = wh := by rw [HWH.out, hlen.out]; rfl
          rw [e1, hlen.out]; rfl
        obtain ⟨w6, hw6⟩ : ∃ x, x = w5.setRow (w.heap.size + 1) v2 := ⟨_, rfl⟩
        rw [← hw6] at hR6 ⊢
        have HV2 : Hid (v2 = ints .u32 st2) := hv2
        clear hw6 hR5 hr5 hb5 hT2 hR4 hg4 hb4 hn hst2 hv2 hR3
        have h60 := hR6.2.1
        have h61 : w6.heap[w.heap.size + 1]? = some (.cells v2 40 (0, 0)) := by rw [HV2.out]; exact hR6.2.2
        go_wp2_with (first
          | (refine wpList_load_row rfl 33 (.tmp 3) rfl _ rfl 33 shpA32 (0, 0) _ h60 Tryd.underlying33 rfl h14 ?_)
          | (refine wpList_load_row rfl 40 (.tmp 5) rfl _ rfl 40 v2 (0, 0) _ h61 Tryd.underlying40 rfl (by rw [z2]; exact h8) ?_))
        rw [HV2.out]
        refine (stateBytes32 st2 w6 hl2).mono ?_
        rintro e w7 ⟨g7, rfl, hb7, ho7⟩
        go_wp2_with fail
        go_ret
        exact ⟨g7, w6.heap.size + 1 + 1, rfl, hR6.1.trans (hb7.mono hR6.1.size), by have := hR6.1.size; omega, by rw [HDIG.out]; exact ho7⟩
      · refine call_at (some 43) rfl rfl rfl 23 #[.slice (cutA a wh cap) (len - wh) (cap - wh), .int .i64 (len : Int), .agg shpA32] (R := fun v w' => ∃ g n, v = .slice (some ⟨g, 0, none⟩) n n ∧ n = (lastB sh32 (bs.drop wh) len).length ∧ Below w3.drew.heap.size w3.drew w' ∧ w'.heap[g]? = some (.cells (ints .u8 (lastB sh32 (bs.drop wh) len)) 5 (0, 0))) (by kernel_rfl) hLB ?_
        rintro v4 w4 ⟨g, n, rfl, hn, hb4, hg4⟩
        have hR4 : RelD32 w st1 w4 := RelD32.on (wr := w3.drew) ⟨hR3.1.drew, hR3.2.1, hR3.2.2⟩ hb4
        refine ⟨hR4.2.1, ?_⟩
        simp only [Act.put, List.setIfInBounds_toArray, List.set_cons_succ, List.set_cons_zero]
        have hr4 : w4.heap[w.heap.size + 1]? = some (.cells v1 40 (0, 0)) := by rw [HV1.out]; exact hR4.2.2
        refine one_at (i := 0) (by kernel_rfl) ?_
        refine load_at (some 36) rfl rfl rfl 40 (.tmp 5) rfl (w.heap.size + 1) rfl 40 v1 (0, 0) _ hr4 Tryd.underlying40 rfl (by rw [z1]; exact h8) ?_
        refine ⟨hR4.2.1, ?_⟩
        simp only [Act.put, List.setIfInBounds_toArray, List.set_cons_succ, List.set_cons_zero]
        have hT2 := takeBlocks32 st1 (some ⟨g, 0, none⟩) n n (lastB sh32 (bs.drop wh) len) ks w4 hl1 hs1 hn.symm (lastB_lt _ _ _ hdb) (Nat.le_refl _) (by rw [hn]; have := hlast; omega) (by rw [hn]; have := hlast; omega) (fun _ => ⟨g, 0, rfl, bytes_row hg4⟩) hkl hkb (hK.below hR4.1 h1B)
        rw [← HV1.out] at hT2
        obtain ⟨st2, hst2⟩ : ∃ x, x = blks sh32 ks st1 (lastB sh32 (bs.drop wh) len) (n / 64) := ⟨_, rfl⟩
        rw [← hst2] at hT2
        have hl2 : st2.length = 8 := by rw [hst2]; exact blks_len _ _ _ _ hl1 _
        obtain ⟨v2, hv2⟩ : ∃ x, x = ints .u32 st2 := ⟨_, rfl⟩
        have z2 : v2.size = 8 := by rw [hv2, ints_size, hl2]
        have o2 : v2.all (·.oneCell') = true := by rw [hv2]; exact ints_one _ _
        rw [← hv2] at hT2
        refine one_at (i := 9) (by kernel_rfl) ?_
        refine call_at (some 45) rfl rfl rfl 22 #[.agg v1, .slice (some ⟨g, 0, none⟩) n n, .agg shpA32] (R := fun v w' => v = .agg v2 ∧ Below w4.heap.size w4 w') (by kernel_rfl) (hT2.mono fun e w' h => ⟨_, h.1, rfl, h.2⟩) ?_
        rintro v5 w5 ⟨rfl, hb5⟩
        have hR5 := hR4.on hb5
        refine ⟨hR5.2.1, ?_⟩
        simp only [Act.put, List.setIfInBounds_toArray, List.set_cons_succ, List.set_cons_zero]
        have hr5 : w5.heap[w.heap.size + 1]? = some (.cells v1 40 (0, 0)) := by rw [HV1.out]; exact hR5.2.2
        refine one_at (i := 10) (by kernel_rfl) ?_
        refine store_at rfl rfl rfl 40 (.tmp 5) (.tmp 45) rfl (w.heap.size + 1) v2 rfl rfl 40 v1 hr5 (by rw [z2]; exact h8) (by rw [z1, z2]) o2 ?_
        have hR6 : RelD32 w st2 (w5.setRow (w.heap.size + 1) v2) := by rw [hv2]; exact hR5.setRow st2
        refine ⟨hR6.2.1, wpAnyH_done (by kernel_rfl) ?_ _⟩
        have HDIG : Hid (dig sh32 hs ks bs = stB 32 st2 8) := by
          show dig sh32 hs ks bs = _
          unfold dig
          rw [hst2, HST1.out, HST0.out, hn]
          have e1 : bs.length - bs.length % (2 * sh32.W) = wh := by rw [HWH.out, hlen.out]; rfl
          rw [e1, hlen.out]; rfl
        obtain ⟨w6, hw6⟩ : ∃ x, x = w5.setRow (w.heap.size + 1) v2 := ⟨_, rfl⟩
        rw [← hw6] at hR6 ⊢
        have HV2 : Hid (v2 = ints .u32 st2) := hv2
        clear hw6 hR5 hr5 hb5 hT2 hR4 hg4 hb4 hn hst2 hv2 hR3
        have h60 := hR6.2.1
        have h61 : w6.heap[w.heap.size + 1]? = some (.cells v2 40 (0, 0)) := by rw [HV2.out]; exact hR6.2.2
        go_wp2_with (first
          | (refine wpList_load_row rfl 33 (.tmp 3) rfl _ rfl 33 shpA32 (0, 0) _ h60 Tryd.underlying33 rfl h14 ?_)
          | (refine wpList_load_row rfl 40 (.tmp 5) rfl _ rfl 40 v2 (0, 0) _ h61 Tryd.underlying40 rfl (by rw [z2]; exact h8) ?_))
        rw [HV2.out]
        refine (stateBytes32 st2 w6 hl2).mono ?_
        rintro e w7 ⟨g7, rfl, hb7, ho7⟩
        go_wp2_with fail
        go_ret
        exact ⟨g7, w6.heap.size + 1 + 1, rfl, hR6.1.trans (hb7.mono hR6.1.size), by have := hR6.1.size; omega, by rw [HDIG.out]; exact ho7⟩
end Go.Proofs.YtomfnkbghlpkeaaDoor
