/-
  The law's of.
-/
import Derived.Test.YtghmcaliahjdhaaT
set_option linter.unusedVariables false
namespace Go.Proofs.Ytghmcaliahjdhaa
open Go.RowKit Go.Sort Go.BigFrame
set_option maxRecDepth 100000
set_option maxHeartbeats 2000000
/-- A slice whose block is a new one. -/
def FreshV (w : World) (v : Value) : Prop := ∀ b off n c, v = .slice (some ⟨b, off, none⟩) n c → w.heap.size ≤ b
theorem of19m (a : Option Addr) (len cap n : Nat) (bs : List Nat) (w : World) (hn : (31 < len ∧ n = 31) ∨ (len ≤ 31 ∧ n = len)) (hlen : Hid (bs.length = n)) (hcap : len ≤ cap) (hcap2 : cap ≤ 9223372036854775807) (hd : Dig bs) (hv : View w a bs) :
    Calls Try.prog 19 #[.slice a len cap] w fun e w' => ∃ v, e = .returned (.tuple #[.agg (elc (splitE (valD bs))), v]) ∧ Below w.heap.size w w' ∧ IRow w' v (digs 32 (valD bs)) ∧ FreshV w v := by
  obtain ⟨i0, hi, hz0, hz1, hz2⟩ := info3
  have hn31 : n ≤ 31 := by omega
  have cD := fun w1 (hB : Below w.heap.size w w1) => digits11 a n cap bs w1 hlen (by omega) (by omega) hd (hv.below hB)
  have hVn : valD bs < 256 ^ n := by have := valD_lt hd; rwa [hlen.out] at this
  have hbn : bs = digs n (valD bs) := by have := digs_valD hd; rw [hlen.out] at this; exact this.symm
  obtain ⟨V, hV⟩ : ∃ V, V = valD bs := ⟨_, rfl⟩
  have hV31 : V < 256 ^ 31 := by rw [hV]; exact Nat.lt_of_lt_of_le hVn (Nat.pow_le_pow_right (by decide) hn31)
  have hVp : V < pp := Nat.lt_trans hV31 (by decide)
  have hV32 : valD (digs 32 V) = V := valD_digs_lt (Nat.lt_trans hV31 (by decide))
  have HD : Hid (∀ k, n ≤ k → digs (k + 1) V = digs k V ++ [0]) := fun k hk => by
    rw [← digs_snoc, Nat.div_eq_of_lt (Nat.lt_of_lt_of_le (by rw [hV]; exact hVn) (Nat.pow_le_pow_right (by decide) hk))]
  rw [← hV] at hbn hVn ⊢
  rw [hbn] at cD
  clear hV hbn hv hd hVn
  obtain ⟨s, hs⟩ : ∃ s, s = splitE V := ⟨_, rfl⟩
  have cB := fun b c k w1 (hk : k = 32) (h : IView w1 b (digs 32 V)) => bytes31 b k c (digs 32 V) w1 (by show _ = _; rw [digs_len, hk]) (by omega) (digs_dig _ _) h
  have cR := fun b c w1 (hc : 32 ≤ c) (hc2 : c ≤ 9223372036854775807) (h : View w1 b (digs 32 V)) => read9 b c (digs 32 V) w1 (digs_len _ _) hc hc2 (digs_dig _ _) h
  rw [hV32] at cR cB
  simp only [hVp, if_true] at cR
  rw [← hs] at cR ⊢
  obtain ⟨s0, s1, s2, s3, s4⟩ := s
  simp only [elc] at cR ⊢
  clear hs hV32 hVp hV31
  rcases hn with ⟨hn, rfl⟩ | ⟨hn, rfl⟩
  all_goals
    go_enter Try.func19, Try.ntmps19
    go_wp2_with fail
    refine (cD _ (below1 _ _)).mono ?_
    rintro e w1 ⟨v1, rfl, hb1, hown1⟩
    obtain ⟨a1, c1, rfl, hc1, hc1'⟩ := own_slice hown1
    have hz : (w.alloc (.cells z5 26)).heap[w.heap.size]? = some (.cells z5 26 (0, 0)) := heap_alloc_new _ _
    have hw0 : Below w.heap.size w (w.alloc (.cells z5 26)) := below1 _ _
    have hws : (w.alloc (.cells z5 26)).heap.size = w.heap.size + 1 := size_alloc _ _
    change Below (w.alloc (.cells z5 26)).heap.size (w.alloc (.cells z5 26)) w1 at hb1
    change w1.ownsRow (w.alloc (.cells z5 26)).heap.size 3 1 _ _ _ at hown1
    generalize (w.alloc (.cells z5 26)) = w0 at hz hw0 hws hb1 hown1
    clear cD
    go_wp2_with fail
    go_loopw [4] (fun v wr => ∃ k : Nat, k ≤ 32 ∧ (∃ a c, v = .slice a k c) ∧ bs.length ≤ k ∧ Below w0.heap.size w0 wr ∧ wr.ownsRow w0.heap.size 3 1 v k (iv (digs k V))) (fun v _ => match v with | .slice _ n _ => 32 - n | _ => 0)
    case atStart => exact ⟨_, by omega, ⟨_, _, rfl⟩, by rw [hlen.out]; exact Nat.le_refl _, hb1, hown1⟩
    case round =>
      obtain ⟨k, hk, ⟨a2, c2, rfl⟩, hkn, hB, hown⟩ := hrel
      rw [hlen.out] at hkn
      clear hb1 hown1
      by_cases hlt : k < 32
      · have hown' := hown.alloc (.cells #[.int .i64 0] 3)
        have hm1 : k + 1 ≤ maxLen := by unfold maxLen; omega
        have hm2 : (k + 1) * 8 ≤ 140737488355328 := by omega
        have hm3 : w0.heap.size ≤ (wr.alloc (.cells #[.int .i64 0] 3)).heap.size := by have := hB.size; simp; omega
        go_wp2_with (at_builtin; refine wpList_append_own _ rfl (.tmp 17) (.tmp 18) 31 rfl w0.heap.size 3 i0 (.int .i64 0) 1 8 Try.underlying31 hi hz0 hz1 hz2 rfl (by decide) _ k _ rfl hown' ⟨wr.heap.size, 0, none⟩ 1 1 [.int .i64 0] rfl rfl (news_one _ _ _) one_int hm1 hm2 hm3 ?_; intro v2 w2 hown2 hgrow2 _)
        have hB2 : Below w0.heap.size w0 w2 := (hB.alloc hB.size _).grown hgrow2 hm3 (fun j hj => (hown.lt j hj).1)
        have e0 := iv_snoc (digs k V) 0
        rw [← HD.out k hkn] at e0
        have hown3 : w2.ownsRow w0.heap.size 3 1 v2 (k + 1) (iv (digs (k + 1) V)) := by rw [← e0]; exact hown2
        obtain ⟨a3, c3, rfl, _⟩ := own_slice hown3
        exact ⟨⟨k + 1, by omega, ⟨_, _, rfl⟩, by rw [hlen.out]; omega, hB2, hown3⟩, by show 32 - (k + 1) < 32 - k; omega⟩
      · obtain rfl : k = 32 := by omega
        obtain ⟨hiv, _⟩ := own_iview hown
        have HBASE : Hid (∀ b off, a2 = some ⟨b, off, none⟩ → w0.heap.size ≤ b) := by
          intro b off hbe
          rcases hown.2 with ⟨_, h0⟩ | ⟨g, cap, cur, hv, hbg, _⟩
          · omega
          · cases hv
            cases hbe
            exact hbg
        have hcc := own_slice hown
        obtain ⟨_, _, hce, hcc1, hcc2⟩ := hcc
        cases hce
        go_wp2_with fail
        refine (cB a2 c2 32 wr rfl hiv).mono ?_
        rintro e w3 ⟨v3, rfl, hb3, hown3⟩
        obtain ⟨a3, c3, rfl, hc3, hc3'⟩ := own_slice hown3
        obtain ⟨hbv, _⟩ := own_bview hown3
        have hB3 := hB.trans (hb3.mono hB.size)
        have hiv3 := hiv.below hb3
        clear hown3 hb3 hiv hown hB
        go_wp2_with fail
        refine (cR a3 c3 w3 hc3 hc3' hbv).mono ?_
        rintro e w4 ⟨rfl, hb4⟩
        have hB4 := hB3.trans (hb4.mono hB3.size)
        have hiv4 := hiv3.below hb4
        have hz4 : w4.heap[w.heap.size]? = some (.cells z5 26 (0, 0)) := block_below hB4 (by rw [hws]; omega) hz
        have hBw : Below w.heap.size w w4 := hw0.trans (hB4.mono (by rw [hws]; omega))
        clear hb4 hB3 hiv3 hbv hB4 cB cR
        have hz5 : (w4.alloc (.cells #[.int .u64 (s0 : Int), .int .u64 (s1 : Int), .int .u64 (s2 : Int), .int .u64 (s3 : Int), .int .u64 (s4 : Int)] 26)).heap[w.heap.size]? = some (.cells z5 26 (0, 0)) := (heap_alloc_old _ _ (lt_of_heap hz4)).trans hz4
        have hB5 : Below w.heap.size w (w4.alloc (.cells #[.int .u64 (s0 : Int), .int .u64 (s1 : Int), .int .u64 (s2 : Int), .int .u64 (s3 : Int), .int .u64 (s4 : Int)] 26)) := hBw.alloc hBw.size _
        have HIV : Hid (IView ((w4.alloc (.cells #[.int .u64 (s0 : Int), .int .u64 (s1 : Int), .int .u64 (s2 : Int), .int .u64 (s3 : Int), .int .u64 (s4 : Int)] 26)).setRow w.heap.size #[.int .u64 (s0 : Int), .int .u64 (s1 : Int), .int .u64 (s2 : Int), .int .u64 (s3 : Int), .int .u64 (s4 : Int)]) a2 (digs 32 V)) := by
          intro hp
          obtain ⟨b, off, rfl, hc⟩ := hiv4 hp
          refine ⟨b, off, rfl, fun i hi => ?_⟩
          have hbw : b ≠ w.heap.size := by have := HBASE.out b off rfl; omega
          rw [cell_setRow_other _ _ _ _ hbw, (below1 w4 _).cell (p := ⟨b, off + i, none⟩) (block_lt_of_cell (hc i hi))]
          exact hc i hi
        clear hiv4 hBw hz
        go_wp2_with (refine wpList_store_row rfl 26 (.tmp 2) (.tmp 26) rfl _ #[.int .u64 (s0 : Int), .int .u64 (s1 : Int), .int .u64 (s2 : Int), .int .u64 (s3 : Int), .int .u64 (s4 : Int)] rfl rfl 26 _ hz5 info26 rfl (by simp [Value.oneCell']) ?_)
        refine bodyPost_ret (v := .tuple #[.agg #[.int .u64 (s0 : Int), .int .u64 (s1 : Int), .int .u64 (s2 : Int), .int .u64 (s3 : Int), .int .u64 (s4 : Int)], .slice a2 32 c2]) ?_ rfl ⟨_, rfl, setRow_below hB5 (by omega) _, ⟨a2, c2, by rw [digs_len], by rw [digs_len]; exact hcc1, hcc2, HIV.out⟩, fun b off n c h => by cases h; have := HBASE.out b off rfl; omega⟩
        exact results_cell_tmp Try.results19 _ _ _ 26 _ (0, 0) _ _ rfl rfl (setRow_heap _ _ _ _ _ _ hz5) Try.underlying26 rfl info26
theorem of19 (a : Option Addr) (len cap : Nat) (bs : List Nat) (w : World) (hlen : bs.length = len) (hcap : len ≤ cap) (hcap2 : cap ≤ 9223372036854775807) (hd : Dig bs) (hv : View w a bs) :
    Calls Try.prog 19 #[.slice a len cap] w fun e w' => ∃ v, e = .returned (.tuple #[.agg (elc (splitE (valD (bs.take 31)))), v]) ∧ Below w.heap.size w w' ∧ IRow w' v (digs 32 (valD (bs.take 31))) ∧ FreshV w v :=
  of19m a len cap (min len 31) (bs.take 31) w (by omega) (by show _ = _; rw [List.length_take, hlen]; omega) hcap hcap2 (hd.take 31) (hv.take 31)
end Go.Proofs.Ytghmcaliahjdhaa
