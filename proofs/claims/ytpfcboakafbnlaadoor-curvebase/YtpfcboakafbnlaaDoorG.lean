/-
  The walk of Read.
-/
import Derived.Test.YtpfcboakafbnlaaDoorS
set_option linter.unusedVariables false
namespace Go.Proofs.YtpfcboakafbnlaaDoor
open Go.RowKit Go.Sort Go.BigFrame
set_option maxRecDepth 100000
set_option maxHeartbeats 2000000
theorem read9_len (a : Option Addr) (len cap : Nat) (w : World) (h : len ≠ 32) :
    Calls Tryd.prog 30 #[.slice a len cap] w fun e w' => e = .returned (.tuple #[.agg (elc zeroE), .int .i64 2]) ∧ Below w.heap.size w w' := by
  have h' : ((len : Int) != 32) = true := by simp; omega
  rw [elc_zero]
  go_enter Tryd.func30, Tryd.ntmps30
  go_wp2
  exact bodyPost_ret (v := .tuple #[.agg z5, .int .i64 2]) (by simp [results, Tryd.results30, go_sem, z5]) rfl ⟨rfl, below1 _ _⟩
theorem read9' (a : Option Addr) (cap : Nat) (bs : List Nat) (w : World) (s0 s1 s2 s3 s4 U : Nat) (hlen : Hid (bs.length = 32)) (hcap : 32 ≤ cap) (hcap2 : cap ≤ 9223372036854775807) (hb : Dig bs) (hv : View w a bs)
    (hs : Hid (splitE (valD bs) = ⟨s0, s1, s2, s3, s4⟩))
    (hby : ∀ w1, Calls Tryd.prog 40 #[.agg #[.int .u64 (s0 : Int), .int .u64 (s1 : Int), .int .u64 (s2 : Int), .int .u64 (s3 : Int), .int .u64 (s4 : Int)]] w1 fun e w' => ∃ g, e = .returned (.slice (some ⟨g, 0, none⟩) 32 32) ∧ w1.heap.size ≤ g ∧ Below w1.heap.size w1 w' ∧ w'.heap[g]? = some (.cells (ints .u8 (digs 32 U)) 5 (0, 0))) :
    Calls Tryd.prog 30 #[.slice a 32 cap] w fun e w' => e = .returned (.tuple (if digs 32 U = bs then #[.agg #[.int .u64 (s0 : Int), .int .u64 (s1 : Int), .int .u64 (s2 : Int), .int .u64 (s3 : Int), .int .u64 (s4 : Int)], .int .i64 0] else #[.agg z5, .int .i64 2])) ∧ Below w.heap.size w w' := by
  have hof := fun w1 (h : Below w.heap.size w w1) => ofBytes34 a cap bs w1 hlen hcap hcap2 hb (hv.below h)
  rw [hs.out] at hof
  simp only [elc] at hof
  have h' : ((32 : Int) != 32) = false := rfl
  go_enter Tryd.func30, Tryd.ntmps30
  go_wp2_with fail
  refine (hof _ (below1 _ _)).mono ?_
  rintro e w1 ⟨rfl, hb1⟩
  have hB : Below w.heap.size w w1 := (below1 _ _).trans (hb1.mono (by simp))
  have hz : w1.heap[w.heap.size]? = some (.cells z5 27 (0, 0)) := block_below hb1 (by simp) (heap_alloc_new _ _)
  clear hb1 hof
  go_wp2_with fail
  refine (hby _).mono ?_
  rintro e w2 ⟨g2, rfl, hg2, hb2, h2⟩
  have hB2 : Below w.heap.size w w2 := (hB.alloc hB.size _).trans (hb2.mono (by have := hB.size; simp; omega))
  have hz2 : w2.heap[w.heap.size]? = some (.cells z5 27 (0, 0)) := block_below hb2 (by have := lt_of_heap hz; simp; omega) ((heap_alloc_old _ _ (lt_of_heap hz)).trans hz)
  have hs2 : w2.heap[w1.heap.size]? = some (.cells #[.int .u64 (s0 : Int), .int .u64 (s1 : Int), .int .u64 (s2 : Int), .int .u64 (s3 : Int), .int .u64 (s4 : Int)] 27 (0, 0)) := block_below hb2 (by simp) (heap_alloc_new _ _)
  have hE := equal35 (some ⟨g2, 0, none⟩) 32 32 (digs 32 U) a 32 cap bs w2 (digs_len _ _) hlen.out (fun _ => ⟨g2, 0, rfl, bytes_row h2⟩) (hv.below hB2) (digs_dig _ _) hb
  clear hb2 hby hB hz h2 hv
  go_wp2_with fail
  refine hE.mono ?_
  intro e w3 ⟨he, hw3⟩
  subst he
  subst hw3
  clear hE
  by_cases hq : digs 32 U = bs
  · rw [decide_eq_true hq]
    have HQ : Hid (digs 32 U = bs) := hq
    clear hq
    have hz5 : z5.size = 5 := rfl
    go_wp2_with (first
      | (refine wpList_load_row rfl 27 (.tmp 4) rfl _ rfl 27 _ (0, 0) _ hs2 Tryd.underlying27 rfl info26 ?_)
      | (refine wpList_store_row rfl 27 (.tmp 2) (.tmp 17) rfl _ #[.int .u64 (s0 : Int), .int .u64 (s1 : Int), .int .u64 (s2 : Int), .int .u64 (s3 : Int), .int .u64 (s4 : Int)] rfl rfl 27 _ hz2 info26 rfl (by simp [Value.oneCell']) ?_))
    refine bodyPost_ret (v := .tuple #[.agg #[.int .u64 (s0 : Int), .int .u64 (s1 : Int), .int .u64 (s2 : Int), .int .u64 (s3 : Int), .int .u64 (s4 : Int)], .int .i64 0]) ?_ rfl ⟨rfl, setRow_below hB2 (by omega) _⟩
    exact results_cell_tmp Tryd.results30 _ _ _ 27 _ (0, 0) _ _ rfl rfl (setRow_heap _ _ _ _ _ _ hz2) Tryd.underlying27 rfl info26
  · rw [decide_eq_false hq]
    have HQ : Hid (¬ digs 32 U = bs) := hq
    clear hq
    go_wp2_with (refine wpList_store_row rfl 27 (.tmp 2) (.tmp 16) rfl _ z5 rfl rfl 27 _ hz2 info26 rfl (by simp [Value.oneCell', z5]) ?_)
    refine bodyPost_ret (v := .tuple #[.agg z5, .int .i64 2]) ?_ rfl ⟨rfl, setRow_below hB2 (by omega) _⟩
    exact results_cell_tmp Tryd.results30 _ _ _ 27 _ (0, 0) _ _ rfl rfl (setRow_heap _ _ _ _ _ _ hz2) Tryd.underlying27 rfl info26
theorem read_cond {bs : List Nat} (hl : bs.length = 32) (hb : Dig bs) : digs 32 ((splitE (valD bs)).val % pp) = bs ↔ valD bs < pp := by
  have hV := valD_lt hb
  rw [hl] at hV
  rw [splitE_val]
  obtain ⟨V, hVe⟩ : ∃ V, V = valD bs := ⟨_, rfl⟩
  have hd := digs_valD hb
  rw [hl, ← hVe] at hd
  rw [← hVe] at hV ⊢
  constructor
  · intro h
    have h2 : valD (digs 32 (V % 57896044618658097711785492504343953926634992332820282019728792003956564819968 % pp)) = V := by rw [h, ← hVe]
    have hp := pp_lt
    have h3 : V % 57896044618658097711785492504343953926634992332820282019728792003956564819968 % pp < pp := Nat.mod_lt _ pp_pos
    rw [valD_digs_lt (Nat.lt_trans h3 (by decide))] at h2
    omega
  · intro h
    have hp := pp_lt
    rw [Nat.mod_eq_of_lt (a := V) (by omega), Nat.mod_eq_of_lt h, hd]
theorem read9 (a : Option Addr) (cap : Nat) (bs : List Nat) (w : World) (hlen : bs.length = 32) (hcap : 32 ≤ cap) (hcap2 : cap ≤ 9223372036854775807) (hb : Dig bs) (hv : View w a bs) :
    Calls Tryd.prog 30 #[.slice a 32 cap] w fun e w' => e = .returned (.tuple (if valD bs < pp then #[.agg (elc (splitE (valD bs))), .int .i64 0] else #[.agg (elc zeroE), .int .i64 2])) ∧ Below w.heap.size w w' := by
  have h := read9' a cap bs w _ _ _ _ _ ((splitE (valD bs)).val % pp) hlen hcap hcap2 hb hv rfl (fun w1 => bytes15 (splitE (valD bs)) w1 (splitE_wf _))
  simp only [read_cond hlen hb] at h
  exact h
end Go.Proofs.YtpfcboakafbnlaaDoor
