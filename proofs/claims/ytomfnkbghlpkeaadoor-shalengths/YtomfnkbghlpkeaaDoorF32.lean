/-
  The walk of stateBytes, at words of 32 bits.
-/
import Derived.Test.YtomfnkbghlpkeaaDoorE32
set_option linter.unusedVariables false
namespace Go.Proofs.YtomfnkbghlpkeaaDoor
open Go.RowKit Go.Sort Go.BigFrame
set_option maxRecDepth 100000
set_option maxHeartbeats 2000000
def z32 : List Nat := List.replicate 32 0
/-- The bytes of a word, the first n of them, the highest first. -/
def wb (W x : Nat) : Nat → List Nat
  | 0 => []
  | n + 1 => wb W x n ++ [(x >>> (W - 8 * n - 8)) % 256]
def stB (W : Nat) (st : List Nat) : Nat → List Nat
  | 0 => []
  | k + 1 => stB W st k ++ wb W (st.getD k 0) (W / 8)
def bv (l : List Nat) : List Value := l.map fun (x : Nat) => Value.int .u8 (x : Int)
def RelS32 (w : World) (wr : World) (n : Nat) (xs : List Nat) : Prop :=
  Below w.heap.size w wr ∧ wr.heap[w.heap.size + 1]? = some (.cells shpA32 33 (0, 0)) ∧ wr.ownsRow (w.heap.size + 1 + 1) 5 1 (.slice (some ⟨w.heap.size + 1 + 1, 0, none⟩) n 32) n (bv xs)
theorem index_st32 (st : List Nat) (hst : st.length = 8) (k : Nat) (hk : k < 8) (w : World) : (Instr.index 40 (.agg (ints .u32 st)) (.int .i64 (k : Int))).run Tryd.prog w = .ok (.int .u32 ((st.getD k 0 : Nat) : Int)) w := by
  match st, hst with
  | [a, b, c, d, e, f, g, h], _ => exact index8_32 a b c d e f g h k hk w
theorem news_one (w : World) (v : Value) (t : TypeId) : ∀ (j : Nat) u, [v][j]? = some u → (w.alloc (.cells #[v] t)).cell? ((⟨w.heap.size, 0, none⟩ : Addr).add j) = some u := by
  intro j u hj
  match j, hj with
  | 0, hj =>
    obtain rfl : v = u := by simpa using hj
    rw [Addr.add_mid, cell_of_row _ _ _ _ _ _ (heap_alloc_new _ _)]; rfl
theorem one_byte {n : Int} : ∀ u ∈ [Value.int .u8 n], u.oneCell' = true := fun u hu => by rw [List.mem_singleton.1 hu]; rfl
theorem stateBytes32 (st : List Nat) (w : World) (hst : st.length = 8) :
    Calls Tryd.prog 24 #[.agg (ints .u32 st), .agg shpA32] w fun e w' => ∃ g, e = .returned (.slice (some ⟨g, 0, none⟩) 32 32) ∧ Below w.heap.size w w' ∧ w'.ownsRow (w.heap.size + 1 + 1) 5 1 (.slice (some ⟨g, 0, none⟩) 32 32) 32 (bv (stB 32 st 8)) := by
  obtain ⟨sv, hsv⟩ : ∃ x, x = ints .u32 st := ⟨_, rfl⟩
  rw [← hsv]
  have HSV : Hid (sv = ints .u32 st) := hsv
  have hsz : sv.size = 8 := by rw [hsv, ints_size, hst]
  clear hsv
  have hmk : ∀ w, (Instr.makeSlice 22 (.int .i64 0) (.int .u64 32)).run Tryd.prog w = .ok (.slice (some ⟨w.heap.size, 0, none⟩) 0 32) (w.alloc (.cells (ints .u8 z32) 5)) := fun _ => by kernel_rfl
  have h8 : (Tryd.prog.info? 40).map (·.size) = some 8 := by kernel_rfl
  have h5i : (Tryd.prog.info? 5).map (fun i => (i.zero, i.size, i.bytes)) = some (some (.int .u8 0), 1, 1) := by kernel_rfl
  obtain ⟨i0, hi, hz0, hz1, hz2⟩ := info_parts h5i
  have h5 := heap3_0 w (.cells sv 40) (.cells shpA32 33) (.cells (ints .u8 z32) 5)
  have hR0 : RelS32 w (((w.alloc (.cells sv 40)).alloc (.cells shpA32 33)).alloc (.cells (ints .u8 z32) 5)) 0 (stB 32 st 0) :=
    ⟨below3 _ _ _ _, heap3_1 _ _ _ _, rfl, .inr ⟨_, 32, ints .u8 z32, rfl, Nat.le_refl _, heap3_2 _ _ _ _, by omega, by unfold maxLen; omega, by rw [ints_size]; rfl, rfl⟩⟩
  unfold shpA32
  go_enter Tryd.func24, Tryd.ntmps24
  go_wp2_with (refine wpList_load_row rfl 40 (.tmp 2) rfl _ rfl 40 sv (0, 0) _ h5 Tryd.underlying40 rfl (by rw [hsz]; exact h8) ?_)
  try simp only [Act.put, List.setIfInBounds_toArray, List.set_cons_succ, List.set_cons_zero]
  go_loopw [13, 5] (fun i v5 wr => ∃ k : Nat, k ≤ 8 ∧ i = .int .i64 (k : Int) ∧ ∃ n : Nat, n = 4 * k ∧ v5 = .slice (some ⟨w.heap.size + 1 + 1, 0, none⟩) n 32 ∧ RelS32 w wr n (stB 32 st k)) (fun i _ _ => 8 - (intOf i).toNat)
  case atStart => exact ⟨0, by omega, rfl, 0, rfl, rfl, hR0⟩
  case round =>
    obtain ⟨k, hk, rfl, n, hn, rfl, hR⟩ := hrel
    clear h5 hR0
    by_cases hlt : k < 8
    · obtain ⟨x, hx⟩ : ∃ x, x = st.getD k 0 := ⟨_, rfl⟩
      have hix : ∀ w', (Instr.index 40 (.agg sv) (.int .i64 (k : Int))).run Tryd.prog w' = .ok (.int .u32 (x : Int)) w' := by
        rw [hx, HSV.out]; exact index_st32 st hst k hlt
      have HX : Hid (x = st.getD k 0) := hx
      have HN : Hid (n = 4 * k) := hn
      clear hx hn
      have c0 := shp_at32 hR.2.1 0 (.int .u64 32) rfl
      go_wp2_with fail
      have hdk : decide ((k : Int) < 8) = true := decide_eq_true (by omega)
      simp only [hdk]
      clear c0 hix hdk
      go_loopw [8, 5] (fun lv v5 wr => ∃ j : Nat, j ≤ 4 ∧ ∃ l : Nat, l + 8 * j = 32 ∧ lv = .int .u64 (l : Int) ∧ ∃ m : Nat, m = n + j ∧ v5 = .slice (some ⟨w.heap.size + 1 + 1, 0, none⟩) m 32 ∧ RelS32 w wr m (stB 32 st k ++ wb 32 x j)) (fun lv _ _ => (intOf lv).toNat)
      case atStart => exact ⟨0, by omega, 32, rfl, rfl, n, rfl, rfl, by rw [show wb 32 x 0 = [] from rfl, List.append_nil]; exact hR⟩
      case round =>
        obtain ⟨j, hj, l, hl, rfl, m, hm, rfl, hR⟩ := hrel
        have HM : Hid (m = n + j) := hm
        have HLj : Hid (l + 8 * j = 32) := hl
        have hl32 : l ≤ 32 := by omega
        have hm31 : m ≤ 32 := by have := HN.out; omega
        clear hm
        by_cases hlt2 : 8 ≤ l
        · clear hl
          have hb1 : m + 1 ≤ 32 := by have h1 := HM.out; have h2 := HN.out; have h3 := HLj.out; omega
          have hnv : (((x >>> (l - 8)) % 256 : Nat) : Int) = (x : Int) / 2 ^ (l - 8) % (256 : Int) := by rw [Nat.shiftRight_eq_div_pow]; simp
          have HNV : Hid ((((x >>> (l - 8)) % 256 : Nat) : Int) = (x : Int) / 2 ^ (l - 8) % (256 : Int)) := hnv
          clear hnv
          have hown := hR.2.2.alloc (.cells #[.int .u8 ((x : Int) / 2 ^ (l - 8) % (256 : Int))] 5)
          go_wp2_with (at_builtin; refine wpList_append_fits _ rfl (.tmp 22) (.tmp 28) 22 rfl (w.heap.size + 1 + 1) 5 i0 1 Tryd.underlying22 hi hz1 (w.heap.size + 1 + 1) m 32 (bv (stB 32 st k ++ wb 32 x j)) rfl hown ⟨wr.heap.size, 0, none⟩ 1 1 [.int .u8 ((x : Int) / 2 ^ (l - 8) % (256 : Int))] rfl rfl (news_one _ _ _) one_byte hb1 ?_; intro w2 hown2 hgrow)
          have e : bv (stB 32 st k ++ wb 32 x j) ++ [.int .u8 ((x : Int) / 2 ^ (l - 8) % (256 : Int))] = bv (stB 32 st k ++ wb 32 x (j + 1)) := by
            rw [← HNV.out, show wb 32 x (j + 1) = wb 32 x j ++ [(x >>> (32 - 8 * j - 8)) % 256] from rfl, show 32 - 8 * j - 8 = l - 8 by have := HLj.out; omega]
            simp [bv]
          have hRn : RelS32 w w2 (m + 1) (stB 32 st k ++ wb 32 x (j + 1)) :=
            ⟨(hR.1.alloc hR.1.size _).grown hgrow (Nat.le_trans hR.1.size (by simp)) (by intro k hk; cases hk; omega),
              (hgrow.block _ (by have := lt_of_heap hR.2.1; simp; omega) (by simp)).trans ((heap_alloc_old _ _ (lt_of_heap hR.2.1)).trans hR.2.1), by rw [← e]; exact hown2⟩
          have hj1 : j + 1 ≤ 4 := by have := HLj.out; omega
          have hl1 : l - 8 + 8 * (j + 1) = 32 := by have := HLj.out; omega
          have hm1 : m + 1 = n + (j + 1) := by have := HM.out; omega
          have hv1 : Value.int .u64 ((l : Int) - 8) = .int .u64 ((l - 8 : Nat) : Int) := by go_num
          go_roundw
          case rel => first | exact ⟨j + 1, hj1, l - 8, hl1, hv1, m + 1, hm1, rfl, hRn⟩ | ((repeat apply Exists.intro); exact ⟨⟨j + 1, hj1, l - 8, hl1, hv1, m + 1, hm1, rfl, hRn⟩, rfl⟩)
          case measure => simp [intOf]; omega
        · obtain rfl : l = 0 := by omega
          go_wp2_with fail
          go_roundw
          case rel =>
            refine ⟨k + 1, by omega, by go_num, m, by have h1 := HM.out; have h2 := HN.out; omega, rfl, ?_⟩
            have e : stB 32 st (k + 1) = stB 32 st k ++ wb 32 x j := by
              rw [HX.out, show j = 4 by omega]; rfl
            rw [e]; exact hR
          case measure => simp [intOf]; omega
    · obtain rfl : k = 8 := by omega
      obtain rfl : n = 32 := by omega
      go_wp2_with fail
      go_ret
      exact ⟨_, rfl, hR.1, hR.2.2⟩
end Go.Proofs.YtomfnkbghlpkeaaDoor
