/-
  The walk of the reference's Sum, at words of 32 bits.
-/
import Derived.Test.YtomfnkbghlpkeaaDoorRV
import Derived.Test.YtomfnkbghlpkeaaDoorRM5
import Derived.Test.YtomfnkbghlpkeaaDoorR4b
import Derived.Deep.RegionHeld3
import Derived.Deep.DrawnRows
import Derived.Deep.AppendLies
set_option linter.unusedVariables false
namespace Go.Proofs.YtomfnkbghlpkeaaDoor
open Go.RowKit Go.Sort Go.BigFrame
set_option maxRecDepth 100000
set_option maxHeartbeats 4000000
attribute [local go_sem ↓] Go.wp_at_zero Go.wp_at_succ

/-- The state behind k blocks, with the steps' words as the reference holds them. -/
def blksR (s : Sh) (kk st bs : List Nat) : Nat → List Nat
  | 0 => st
  | k + 1 => List.zipWith (fun x y => (x + y) % 2 ^ s.W) (blksR s kk st bs k) (Rr s kk (spr s ((bs.drop (2 * s.W * k)).take (2 * s.W))) (ofL (blksR s kk st bs k)) s.n).list
theorem blksR_blks (s : Sh) (kk ks st bs : List Nat) (h : ∀ t, t < s.n → kk.getD t 0 = ks.getD t 0 >>> (64 - s.W)) : ∀ k, blksR s kk st bs k = blks s ks st bs k
  | 0 => rfl
  | k + 1 => by rw [blksR, blks, blksR_blks s kk ks st bs h k, Rr_R s kk ks _ _ s.n h s.n (Nat.le_refl _)]; rfl

theorem own_onT {w w1 : World} {B n t : Nat} {v : Value} {xs : List Value} (h : w.ownsRow B t 1 v n xs) (hb : Below w.heap.size w w1) : w1.ownsRow B t 1 v n xs := by
  refine h.kept (row := none) ⟨hb.os, hb.tape, hb.output, hb.size, fun k hk _ => hb.block k hk⟩ ?_
  cases h : v.ownBlock with
  | none => exact .inl rfl
  | some x => exact .inr (by simp)
theorem news_row {w : World} {g t : Nat} {l : List Nat} (h : w.heap[g]? = some (.cells (ints .u8 l) t (0, 0))) : ∀ (j : Nat) u, (bv l)[j]? = some u → w.cell? ((⟨g, 0, none⟩ : Addr).add j) = some u := by
  intro j u hj
  have hj' : j < l.length := by
    by_cases h : j < l.length
    · exact h
    · rw [List.getElem?_eq_none (by simp [bv]; omega)] at hj; cases hj
  rw [Addr.add_mid, Nat.zero_add, cell_ints h j hj', ← hj]
  simp [bv, hj']
theorem all_getD {l : List Nat} {M : Nat} (hM : 0 < M) (h : ∀ x ∈ l, x < M) (j : Nat) : l.getD j 0 < M := by
  rw [List.getD_eq_getElem?_getD]
  cases e : l[j]? with
  | none => exact hM
  | some x => exact h x (List.mem_of_getElem? e)
theorem getD_all {l : List Nat} {M : Nat} (h : ∀ j, l.getD j 0 < M) : ∀ x ∈ l, x < M := fun x hx => by
  obtain ⟨j, hj, rfl⟩ := List.mem_iff_getElem.1 hx
  have := h j
  rwa [List.getD_eq_getElem?_getD, List.getElem?_eq_getElem hj] at this
theorem be_all (n : Nat) : ∀ x, ∀ y ∈ be x n, y < 256 := by
  induction n with
  | zero => intro x y hy; cases hy
  | succ n ih =>
    intro x y hy
    rcases List.mem_append.1 hy with h | h
    · exact ih _ y h
    · rw [List.mem_singleton.1 h]; exact Nat.mod_lt _ (by decide)
theorem padd_lt (s : Sh) (bs : List Nat) (h : ∀ j, bs.getD j 0 < 256) : ∀ j, (padd s bs).getD j 0 < 256 :=
  all_getD (by decide) fun x hx => by
    rcases List.mem_append.1 hx with hx | hx
    · rcases List.mem_append.1 hx with hx | hx
      · exact getD_all h x hx
      · rcases List.mem_cons.1 hx with rfl | hx
        · decide
        · rw [List.eq_of_mem_replicate hx]; decide
    · exact be_all _ _ x hx
theorem blksR_len (s : Sh) (kk st bs : List Nat) (h : st.length = 8) : ∀ k, (blksR s kk st bs k).length = 8
  | 0 => h
  | k + 1 => by rw [blksR, List.length_zipWith, blksR_len s kk st bs h k]; rfl
theorem blksR_lt (s : Sh) (kk st bs : List Nat) (h : ∀ j, st.getD j 0 < 2 ^ s.W) : ∀ k j, (blksR s kk st bs k).getD j 0 < 2 ^ s.W
  | 0, j => h j
  | k + 1, j => by
    have hp := Nat.two_pow_pos s.W
    simp only [blksR, List.getD_eq_getElem?_getD, List.getElem?_zipWith]
    split
    · simp; exact Nat.mod_lt _ hp
    · simp; omega
theorem run_cut_lh (g len cap l n : Nat) (w : World) (hn : 0 < n) (hh : l + n ≤ cap) : (Instr.sliceAt 22 (.slice (some ⟨g, 0, none⟩) len cap) (some (.int .i64 (l : Int))) (some (.int .i64 ((l : Int) + (n : Int)))) none).run Tryd.prog w = .ok (.slice (some ⟨g, l, none⟩) n (cap - l)) w := by
  have hu : Tryd.prog.underlying 22 = some (.slice (Tryd.prog.elem 22)) := by rw [elem22]; exact Tryd.underlying22
  rw [run_sliceAt_slice w 22 _ _ _ _ hu, run_slice_lh w 22 (some ⟨g, 0, none⟩) len cap hu .i64 .i64 _ _ (by omega) (by omega) (by omega), elem22, size5]
  have e : ((l : Int) + (n : Int)).toNat = l + n := by omega
  have e2 : ¬ cap = l := by omega
  simp [Result.andThen, sliced, e, e2, Addr.add_mid]
theorem news_own {w : World} {B g n c : Nat} {l : List Nat} (h : w.ownsRow B 5 1 (.slice (some ⟨g, 0, none⟩) n c) n (bv l)) : ∀ (j : Nat) u, (bv l)[j]? = some u → w.cell? ((⟨g, 0, none⟩ : Addr).add j) = some u := by
  intro j u hj
  have hl : (bv l).length = n * 1 := h.1
  have hj' : j < n * 1 := by
    by_cases h : j < n * 1
    · exact h
    · rw [List.getElem?_eq_none (by omega)] at hj; cases hj
  rw [Addr.add_mid, Nat.zero_add, h.cellAt j hj', hj]
theorem below_set (B : Nat) (w : World) (g j : Nat) (v : Value) (h : B ≤ g) : Below B w (w.setCell ⟨g, j, none⟩ v) := (Below.refl B w).setCell h v
theorem size_setCell' (w : World) (q : Addr) (v : Value) : (w.setCell q v).heap.size = w.heap.size := by simp [World.setCell]
theorem set_front (b : Nat) (v : Nat) (t : List Nat) : (bv (List.replicate (b + 1) 0 ++ t)).set b (.int .u8 (v : Int)) = bv (List.replicate b 0 ++ v :: t) := by
  rw [List.replicate_succ', List.append_assoc]
  simp [bv, List.set_append_right]
def lenV : Value → Nat
  | .slice _ n _ => n
  | _ => 0
def digQ32 (kk hf bs : List Nat) : List Nat := stB 32 (blksR sh32 kk hf (padd sh32 bs) ((padd sh32 bs).length / 64)) 8
def digQ64 (kk hf bs : List Nat) : List Nat := stB 64 (blksR sh64 kk hf (padd sh64 bs) ((padd sh64 bs).length / 128)) 8

theorem refsum32 (gA cA gB cB gC cC gD cD gK cK gF cF : Nat) (ad : Option Addr) (L cap : Nat) (bs kk hf : List Nat) (w : World)
    (hlen : bs.length = L) (hb256 : ∀ j, bs.getD j 0 < 256) (hL : L ≤ 100000000000000) (hv : View w ad bs)
    (kA : Row3 w gA 2 13 22) (kB : Row3 w gB 6 11 25) (kC : Row3 w gC 7 18 3) (kD : Row3 w gD 17 19 10)
    (hkk : Words w gK 64 kk) (hkb : ∀ j, kk.getD j 0 < 4294967296) (hff : Words w gF 8 hf) (hfl : hf.length = 8) (hfb : ∀ j, hf.getD j 0 < 4294967296) :
    Calls Tryd.prog 18 #[.agg #[.int .i64 32, .int .i64 64, .slice (some ⟨gA, 0, none⟩) 3 cA, .slice (some ⟨gB, 0, none⟩) 3 cB, .slice (some ⟨gC, 0, none⟩) 3 cC, .slice (some ⟨gD, 0, none⟩) 3 cD, .slice (some ⟨gK, 0, none⟩) 64 cK, .slice (some ⟨gF, 0, none⟩) 8 cF], .slice ad L cap] w fun e w' => ∃ v, e = .returned v ∧ ∃ base, w.heap.size ≤ base ∧ Below w.heap.size w w' ∧ w'.ownsRow base 5 1 v 32 (bv (digQ32 kk hf bs)) := by
  have h5i : (Tryd.prog.info? 5).map (fun i => (i.zero, i.size, i.bytes)) = some (some (.int .u8 0), 1, 1) := by kernel_rfl
  obtain ⟨i0, hi0, hz0, hz1, hz2⟩ := info_parts h5i
  have h39i : (Tryd.prog.info? 39).map (fun i => (i.zero, i.size, i.bytes)) = some (some (.int .u64 0), 1, 8) := by kernel_rfl
  obtain ⟨j0, hj0, hy0, hy1, hy2⟩ := info_parts h39i
  obtain ⟨Z, hZ⟩ : ∃ x, x = zeros sh32 L := ⟨_, rfl⟩
  have hZ' : Z = (64 - (L + 1 + 8) % 64) % 64 := hZ
  have HZ : Hid (Z = zeros sh32 L) := hZ
  have hz1' : (L + 1 + Z + 8) % 64 = 0 := by omega
  have hz2' : ∀ z, z < Z → (L + 1 + z + 8) % 64 ≠ 0 := fun z hz => by omega
  have hZ8 : Z < 64 := by omega
  have HZ2 : Hid (∀ z, z < Z → (L + 1 + z + 8) % 64 ≠ 0) := hz2'
  clear hZ hZ' hz2'
  have hR0 : RelB w (#[.int .i64 32, .int .i64 64, .slice (some ⟨gA, 0, none⟩) 3 cA, .slice (some ⟨gB, 0, none⟩) 3 cB, .slice (some ⟨gC, 0, none⟩) 3 cC, .slice (some ⟨gD, 0, none⟩) 3 cD, .slice (some ⟨gK, 0, none⟩) 64 cK, .slice (some ⟨gF, 0, none⟩) 8 cF]) (w.alloc (.cells (#[.int .i64 32, .int .i64 64, .slice (some ⟨gA, 0, none⟩) 3 cA, .slice (some ⟨gB, 0, none⟩) 3 cB, .slice (some ⟨gC, 0, none⟩) 3 cC, .slice (some ⟨gD, 0, none⟩) 3 cD, .slice (some ⟨gK, 0, none⟩) 64 cK, .slice (some ⟨gF, 0, none⟩) 8 cF]) 37)) := ⟨below1 _ _, heap_alloc_new _ _⟩
  have hv0 := hv.below (below1 w (.cells (#[.int .i64 32, .int .i64 64, .slice (some ⟨gA, 0, none⟩) 3 cA, .slice (some ⟨gB, 0, none⟩) 3 cB, .slice (some ⟨gC, 0, none⟩) 3 cC, .slice (some ⟨gD, 0, none⟩) 3 cD, .slice (some ⟨gK, 0, none⟩) 64 cK, .slice (some ⟨gF, 0, none⟩) 8 cF]) 37))
  have HLEN : Hid (bs.length = L) := hlen
  clear hlen hv
  go_enter Tryd.func18, Tryd.ntmps18
  go_wp2_with (first
    | (at_builtin; refine wpList_append_data _ rfl (.tmp 15) (.tmp 16) rfl rfl ad L cap bs rfl HLEN.out hv0 (w.heap.size + 1) (by simp) hL ?_; intro v1 w1 hown hgrow; obtain ⟨a1, c1, rfl⟩ := own_slice hown; have hR1 : RelB w (#[.int .i64 32, .int .i64 64, .slice (some ⟨gA, 0, none⟩) 3 cA, .slice (some ⟨gB, 0, none⟩) 3 cB, .slice (some ⟨gC, 0, none⟩) 3 cC, .slice (some ⟨gD, 0, none⟩) 3 cD, .slice (some ⟨gK, 0, none⟩) 64 cK, .slice (some ⟨gF, 0, none⟩) 8 cF]) w1 := ⟨hR0.1.grown hgrow hR0.1.size (by intro k hk; cases hk), (hgrow.block _ (lt_of_heap hR0.2) (by simp)).trans hR0.2⟩; clear hR0 hv0 hgrow; have hsz1 : w.heap.size + 1 ≤ w1.heap.size := lt_of_heap hR1.2)
    | (at_builtin; refine wpList_append_own _ rfl (.tmp 18) (.tmp 19) 22 rfl (w.heap.size + 1) 5 i0 (.int .u8 0) 1 1 Tryd.underlying22 hi0 hz0 hz1 hz2 rfl (by decide) _ _ _ rfl (hown.alloc _) ⟨w1.heap.size, 0, none⟩ 1 1 [.int .u8 128] rfl rfl (news_one _ _ _) one_byte (by unfold maxLen; omega) (by omega) (by simp; omega) ?_; intro v2 w2 hown2 hgrow _; obtain ⟨a2, c2, rfl⟩ := own_slice hown2; have hlt1 := hown.lt; have hR2 := hR1.grown _ hgrow (fun k hk => by have := (hlt1 k hk).1; omega); have x0 := row_at hR2.2 0 (.int .i64 32) rfl))
  have HE : Hid (bv bs ++ [.int .u8 128] = bv (bs ++ 128 :: List.replicate 0 0)) := by
    show bv bs ++ [.int .u8 128] = bv (bs ++ 128 :: List.replicate 0 0)
    simp [bv]
  rw [HE.out] at hown2
  clear hown hgrow hlt1 hR1 HE
  clear x0
  go_loopw [5] (fun v5 wr => ∃ z : Nat, z ≤ Z ∧ ∃ a c, v5 = .slice a (L + 1 + z) c ∧ RelB w (#[.int .i64 32, .int .i64 64, .slice (some ⟨gA, 0, none⟩) 3 cA, .slice (some ⟨gB, 0, none⟩) 3 cB, .slice (some ⟨gC, 0, none⟩) 3 cC, .slice (some ⟨gD, 0, none⟩) 3 cD, .slice (some ⟨gK, 0, none⟩) 64 cK, .slice (some ⟨gF, 0, none⟩) 8 cF]) wr ∧ wr.ownsRow (w.heap.size + 1) 5 1 (.slice a (L + 1 + z) c) (L + 1 + z) (bv (bs ++ 128 :: List.replicate z 0))) (fun v _ => L + 1 + Z - lenV v)
  case atStart => exact ⟨0, by omega, _, _, rfl, hR2, hown2⟩
  case round =>
    clear hR2 hown2
    obtain ⟨z, hz, a, ca, rfl, hR, hown⟩ := hrel
    have x0 := row_at hR.2 0 (.int .i64 32) rfl
    by_cases hlt : z < Z
    · have hne := HZ2.out z hlt
      have hsz : w.heap.size + 1 ≤ wr.heap.size := lt_of_heap hR.2
      go_wp2_with (at_builtin; refine wpList_append_own _ rfl (.tmp 33) (.tmp 34) 22 rfl (w.heap.size + 1) 5 i0 (.int .u8 0) 1 1 Tryd.underlying22 hi0 hz0 hz1 hz2 rfl (by decide) _ _ _ rfl (hown.alloc _) ⟨wr.heap.size, 0, none⟩ 1 1 [.int .u8 0] rfl rfl (news_one _ _ _) one_byte (by unfold maxLen; omega) (by omega) (by simp; omega) ?_; intro v' w1 hown' hgrow _)
      have hlt1 := hown.lt
      have HE : Hid (bv (bs ++ 128 :: List.replicate z 0) ++ [.int .u8 0] = bv (bs ++ 128 :: List.replicate (z + 1) 0)) := by
        show bv (bs ++ 128 :: List.replicate z 0) ++ [.int .u8 0] = bv (bs ++ 128 :: List.replicate (z + 1) 0)
        rw [List.replicate_succ']; simp [bv]
      rw [HE.out] at hown'
      have hRn := hR.grown _ hgrow (fun k hk => by have := (hlt1 k hk).1; omega)
      obtain ⟨a', c', rfl⟩ := own_slice hown'
      clear hown hgrow hR hlt1 x0 hne
      go_roundw
      case rel => first | exact ⟨z + 1, by omega, _, _, rfl, hRn, hown'⟩ | ((repeat apply Exists.intro); exact ⟨⟨z + 1, by omega, _, _, rfl, hRn, hown'⟩, rfl⟩)
      case measure => simp [lenV]; omega
    · obtain rfl : z = Z := by omega
      obtain ⟨ga, _, hae, hgaB, hgac⟩ := own_formT hown (by omega)
      cases hae
      obtain ⟨hga1, hga2⟩ := hown.lt ga rfl
      obtain ⟨X, hX⟩ : ∃ x, x = bs ++ 128 :: List.replicate z 0 := ⟨_, rfl⟩
      rw [← hX] at hown
      obtain ⟨BL, hBL⟩ : ∃ x, x = wr.heap.size := ⟨_, rfl⟩
      have hgaL : ga < BL := by rw [hBL]; exact hga2
      have hwBL : w.heap.size < BL := by rw [hBL]; exact lt_of_heap hR.2
      have hszL : BL ≤ wr.heap.size := Nat.le_of_eq hBL
      have HX : Hid (X = bs ++ 128 :: List.replicate z 0) := hX
      clear hBL hX hga2 hgac hlt hz
      go_wp2_with fail
      have HZ1 : Hid ((L + 1 + z + 8) % 64 = 0) := hz1'
      have hbf : (((L : Int) + 1 + (z : Int) + 8) % 64 != 0) = false := by
        have := HZ1.out
        have e : ((L : Int) + 1 + (z : Int) + 8) % 64 = 0 := by omega
        rw [e]; rfl
      rw [hbf]
      clear x0 hz1' hbf
      go_loopw [9, 8] (fun v9 v8 wr => ∃ i : Nat, i ≤ 8 ∧ v9 = .int .i64 (i : Int) ∧ RelB w (#[.int .i64 32, .int .i64 64, .slice (some ⟨gA, 0, none⟩) 3 cA, .slice (some ⟨gB, 0, none⟩) 3 cB, .slice (some ⟨gC, 0, none⟩) 3 cC, .slice (some ⟨gD, 0, none⟩) 3 cD, .slice (some ⟨gK, 0, none⟩) 64 cK, .slice (some ⟨gF, 0, none⟩) 8 cF]) wr ∧ BL ≤ wr.heap.size ∧ wr.ownsRow (w.heap.size + 1) 5 1 (.slice (some ⟨ga, 0, none⟩) (L + 1 + z) ca) (L + 1 + z) (bv X) ∧ ∃ a c, v8 = .slice a i c ∧ wr.ownsRow BL 5 1 (.slice a i c) i (bv (List.replicate i 0))) (fun i _ _ => 8 - (intOf i).toNat)
      case atStart => exact ⟨0, by omega, rfl, hR, hszL, hown, none, 0, rfl, World.ownsRow_nil _ _ _ _⟩
      case round =>
        clear hR hown hszL
        obtain ⟨i, hi, rfl, hR, hszL, hall, a, cl, rfl, hown⟩ := hrel
        by_cases hlt : i < 8
        · go_wp2_with (at_builtin; refine wpList_append_own _ rfl (.tmp 44) (.tmp 45) 22 rfl BL 5 i0 (.int .u8 0) 1 1 Tryd.underlying22 hi0 hz0 hz1 hz2 rfl (by decide) _ _ _ rfl (hown.alloc _) ⟨wr.heap.size, 0, none⟩ 1 1 [.int .u8 0] rfl rfl (news_one _ _ _) one_byte (by unfold maxLen; omega) (by omega) (by simp; omega) ?_; intro v' w1 hown' hgrow _; obtain ⟨a', c', rfl⟩ := own_slice hown')
          have hlt1 := hown.lt
          have HE : Hid (bv (List.replicate i 0) ++ [.int .u8 0] = bv (List.replicate (i + 1) 0)) := by
            show bv (List.replicate i 0) ++ [.int .u8 0] = bv (List.replicate (i + 1) 0)
            rw [List.replicate_succ']; simp [bv]
          rw [HE.out] at hown'
          have hRn := hR.grown _ hgrow (fun k hk => by have := (hlt1 k hk).1; omega)
          have hall' := (hall.alloc (.cells #[.int .u8 0] 5)).kept hgrow (.inr (fun e => by have := (hlt1 ga e.symm).1; omega))
          have hszn : BL ≤ w1.heap.size := Nat.le_trans (Nat.le_trans hszL (by simp)) hgrow.size
          clear hown hgrow hR hlt1 hall
          go_roundw
          case rel => first | exact ⟨i + 1, by omega, by go_num, hRn, hszn, hall', _, _, rfl, hown'⟩ | ((repeat apply Exists.intro); exact ⟨⟨i + 1, by omega, by go_num, hRn, hszn, hall', _, _, rfl, hown'⟩, rfl⟩)
          case measure => simp [intOf]; omega
        · obtain rfl : i = 8 := by omega
          obtain ⟨gl, _, hae, hglB, _⟩ := own_formT hown (by omega)
          cases hae
          go_wp2_with fail
          go_loopw [10, 7] (fun v10 v7 wr => ∃ m nk : Nat, m ≤ 8 ∧ v10 = .int .i64 ((m : Int) - 1) ∧ v7 = .int .i64 (nk : Int) ∧ nk = 8 * L / 256 ^ (8 - m) ∧ RelB w (#[.int .i64 32, .int .i64 64, .slice (some ⟨gA, 0, none⟩) 3 cA, .slice (some ⟨gB, 0, none⟩) 3 cB, .slice (some ⟨gC, 0, none⟩) 3 cC, .slice (some ⟨gD, 0, none⟩) 3 cD, .slice (some ⟨gK, 0, none⟩) 64 cK, .slice (some ⟨gF, 0, none⟩) 8 cF]) wr ∧ BL ≤ wr.heap.size ∧ wr.ownsRow (w.heap.size + 1) 5 1 (.slice (some ⟨ga, 0, none⟩) (L + 1 + z) ca) (L + 1 + z) (bv X) ∧ wr.ownsRow BL 5 1 (.slice (some ⟨gl, 0, none⟩) 8 cl) 8 (bv (List.replicate m 0 ++ be (8 * L) (8 - m)))) (fun i _ _ => (intOf i + 1).toNat)
          case atStart => exact ⟨8, 8 * L, by omega, rfl, by go_num, by simp, hR, hszL, hall, by simpa [be] using hown⟩
          case round =>
            clear hR hszL hall hown
            obtain ⟨m, nk, hm, rfl, rfl, hnk, hR, hszL, hall, hown⟩ := hrel
            have HNK : Hid (nk = 8 * L / 256 ^ (8 - m)) := hnk
            have hnb : nk ≤ 8 * L := by rw [hnk]; exact Nat.div_le_self _ _
            clear hnk
            by_cases hlt : 0 < m
            · obtain ⟨b, rfl⟩ : ∃ b, m = b + 1 := ⟨m - 1, by omega⟩
              have e0 : ((b + 1 : Nat) : Int) - 1 = (b : Int) := by omega
              rw [e0]
              clear e0
              have kx : wr.cell? ⟨gl, b, none⟩ = some (.int .u8 0) := by
                rw [hown.cellAt b (by omega)]; simp only [bv, List.map_append, List.map_replicate]; rw [List.getElem?_append_left (by simp)]; simp
              have fx := hown.frozenAt b
              obtain ⟨hst, hgst⟩ := hown.stored b (.int .u8 ((nk % 256 : Nat) : Int))
              have HE : Hid ((bv (List.replicate (b + 1) 0 ++ be (8 * L) (8 - (b + 1)))).set b (.int .u8 ((nk % 256 : Nat) : Int)) = bv (List.replicate b 0 ++ be (8 * L) (8 - b))) := by
                show (bv (List.replicate (b + 1) 0 ++ be (8 * L) (8 - (b + 1)))).set b (.int .u8 ((nk % 256 : Nat) : Int)) = bv (List.replicate b 0 ++ be (8 * L) (8 - b))
                rw [show 8 - b = (8 - (b + 1)) + 1 by omega, be_front, Nat.shiftRight_eq_div_pow, show 2 ^ (8 * (8 - (b + 1))) = 256 ^ (8 - (b + 1)) from Nat.pow_mul 2 8 _, ← HNK.out]
                exact set_front b _ _
              rw [HE.out] at hst
              have hRn := hR.onB hwBL (below_set BL wr gl b (.int .u8 ((nk % 256 : Nat) : Int)) hglB)
              have halln := hall.kept hgst (.inr (fun e => by simp only [Value.ownBlock] at e; injection e with e; omega))
              have hszn : BL ≤ (wr.setCell ⟨gl, b, none⟩ (.int .u8 ((nk % 256 : Nat) : Int))).heap.size := by rw [size_setCell']; exact hszL
              have HN2 : Hid (nk / 256 = 8 * L / 256 ^ (8 - b)) := by
                show nk / 256 = 8 * L / 256 ^ (8 - b)
                rw [HNK.out, Nat.div_div_eq_div_mul, ← Nat.pow_succ, show (8 - (b + 1)).succ = 8 - b by omega]
              clear hown hgst hR hall
              go_wp2_with fail
              go_roundw
              case rel => first | exact ⟨b, nk / 256, by omega, by go_num, by go_num, HN2.out, hRn, hszn, halln, hst⟩ | ((repeat apply Exists.intro); exact ⟨⟨b, nk / 256, by omega, by go_num, by go_num, HN2.out, hRn, hszn, halln, hst⟩, rfl⟩)
              case measure => simp [intOf]
            · obtain rfl : m = 0 := by omega
              rw [show ((0 : Nat) : Int) - 1 = -1 from rfl]
              rw [List.replicate_zero, List.nil_append] at hown
              have hgl2 := (hown.lt gl rfl).2
              obtain ⟨pd, hpd⟩ : ∃ x, x = padd sh32 bs := ⟨_, rfl⟩
              have hpe : X ++ be (8 * L) 8 = pd := by rw [hpd, HX.out, padd, HLEN.out, ← HZ.out]; rfl
              have HPE : Hid (bv X ++ bv (be (8 * L) 8) = bv pd) := by
                show bv X ++ bv (be (8 * L) 8) = bv pd
                rw [← hpe]; simp [bv]
              have hpl : pd.length = L + 1 + z + 8 := by rw [← hpe, HX.out]; simp [be_len]; have := HLEN.out; omega
              have HPL : Hid (pd.length = L + 1 + z + 8) := hpl
              have HPD : Hid (pd = padd sh32 bs) := hpd
              clear hpe hpl hpd
              have hszw : w.heap.size + 1 ≤ wr.heap.size := lt_of_heap hR.2
              have hnl := news_own hown
              go_wp2_with (first
                | (at_builtin; refine wpList_append_own _ rfl (.tmp 61) (.tmp 62) 22 rfl (w.heap.size + 1) 5 i0 (.int .u8 0) 1 1 Tryd.underlying22 hi0 hz0 hz1 hz2 rfl (by decide) _ _ _ rfl hall ⟨gl, 0, none⟩ 8 cl (bv (be (8 * L) 8)) rfl (by simp [bv, be_len]) hnl bv_one (by unfold maxLen; omega) (by omega) hszw ?_; intro v3 w3 hown3 hgrow3 _; obtain ⟨a3, c3, rfl⟩ := own_slice hown3; have hR3 : RelB w (#[.int .i64 32, .int .i64 64, .slice (some ⟨gA, 0, none⟩) 3 cA, .slice (some ⟨gB, 0, none⟩) 3 cB, .slice (some ⟨gC, 0, none⟩) 3 cC, .slice (some ⟨gD, 0, none⟩) 3 cD, .slice (some ⟨gK, 0, none⟩) 64 cK, .slice (some ⟨gF, 0, none⟩) 8 cF]) w3 := ⟨hR.1.grown hgrow3 hR.1.size (fun k hk => by have := (hall.lt k hk).1; omega), (hgrow3.block _ (lt_of_heap hR.2) (fun e => by have := (hall.lt _ e.symm).1; omega)).trans hR.2⟩; have x7 := row_at hR3.2 7 (.slice (some ⟨gF, 0, none⟩) 8 cF) rfl; have hf3 : Words w3 gF 8 hf := hff.on hR3.1; have hnf := news_words hf hfl hf3)
                | (at_builtin; refine wpList_append_own _ rfl (.tmp 64) (.tmp 66) 35 rfl w3.heap.size 39 j0 (.int .u64 0) 1 8 Tryd.underlying35 hj0 hy0 hy1 hy2 rfl (by decide) (.slice none 0 0) 0 [] rfl (World.ownsRow_nil _ _ _ _) ⟨gF, 0, none⟩ 8 cF (uv hf) rfl (by simp [uv, hfl]) hnf uv_one (by unfold maxLen; omega) (by omega) (Nat.le_refl _) ?_; intro v4 w4 hown4 hgrow4 _; obtain ⟨a4, c4, rfl⟩ := own_slice hown4))
              simp only [List.nil_append, Nat.zero_add] at hown4
              rw [HPE.out] at hown3
              obtain ⟨g3, _, hae, hg3B, hnc3⟩ := own_formT hown3 (by omega)
              cases hae
              have hall4 := hown3.kept hgrow4 (.inr (by simp [Value.ownBlock]))
              have hg3l := (hall4.lt g3 rfl).2
              have hbA : BytesAt w4 g3 0 pd := fun i hi => by
                have hi2 : i < pd.length := hi
                rw [Nat.zero_add, hall4.cellAt i (by rw [← HPL.out]; omega)]; simp [bv, hi2]
              have hR4 : RelB w (#[.int .i64 32, .int .i64 64, .slice (some ⟨gA, 0, none⟩) 3 cA, .slice (some ⟨gB, 0, none⟩) 3 cB, .slice (some ⟨gC, 0, none⟩) 3 cC, .slice (some ⟨gD, 0, none⟩) 3 cD, .slice (some ⟨gK, 0, none⟩) 64 cK, .slice (some ⟨gF, 0, none⟩) 8 cF]) w4 := ⟨hR3.1.grown hgrow4 hR3.1.size (by intro k hk; cases hk), (hgrow4.block _ (lt_of_heap hR3.2) (by simp [Value.ownBlock])).trans hR3.2⟩
              obtain ⟨gs, _, hae, _, _⟩ := own_formT hown4 (by omega)
              cases hae
              have hs4 : Words w4 gs 8 hf := fun j hj => own_word hown4 j hj _ (by simp [show j < hf.length by omega])
              obtain ⟨NB, hNB⟩ : ∃ x, x = pd.length / 64 := ⟨_, rfl⟩
              have hNL : L + 1 + z + 8 = 64 * NB := by have := HZ1.out; have := HPL.out; omega
              have hp256 : ∀ j, pd.getD j 0 < 256 := by rw [HPD.out]; exact padd_lt sh32 bs hb256
              have HNB : Hid (NB = pd.length / 64) := hNB
              have HNL : Hid (L + 1 + z + 8 = 64 * NB) := hNL
              clear hNL hNB hown3 hown4 hgrow3 hgrow4 hall hall4 hR hR3 hnl hnf x7 hf3 hown hszL
              go_loopw [12, 11] (fun v12 v11 wr => ∃ k : Nat, k ≤ NB ∧ v12 = .int .i64 ((64 * k : Nat) : Int) ∧ RelB w (#[.int .i64 32, .int .i64 64, .slice (some ⟨gA, 0, none⟩) 3 cA, .slice (some ⟨gB, 0, none⟩) 3 cB, .slice (some ⟨gC, 0, none⟩) 3 cC, .slice (some ⟨gD, 0, none⟩) 3 cD, .slice (some ⟨gK, 0, none⟩) 64 cK, .slice (some ⟨gF, 0, none⟩) 8 cF]) wr ∧ BytesAt wr g3 0 pd ∧ ∃ gs cs, v11 = .slice (some ⟨gs, 0, none⟩) 8 cs ∧ Words wr gs 8 (blksR sh32 kk hf pd k)) (fun i _ _ => 64 * NB - (intOf i).toNat)
              case atStart => exact ⟨0, by omega, rfl, hR4, hbA, gs, _, rfl, hs4⟩
              case round =>
                clear hR4 hbA hs4
                obtain ⟨k, hk, rfl, hR, hbA, gs, cs, rfl, hws⟩ := hrel
                have x0 := row_at hR.2 0 (.int .i64 32) rfl
                by_cases hlt : k < NB
                · have hat : 64 * k + 64 ≤ L + 1 + z + 8 := by rw [HNL.out]; omega
                  obtain ⟨t, ht⟩ : ∃ x, x = 64 * k := ⟨_, rfl⟩
                  rw [← ht] at hat
                  have hgsw := block_lt_of_cell (a := ⟨gs, 0, none⟩) (hws 0 (by omega))
                  have hblk : ∀ w', Below wr.heap.size wr w' → ∀ cb, 64 ≤ cb → Calls Tryd.prog 28 #[.agg (#[.int .i64 32, .int .i64 64, .slice (some ⟨gA, 0, none⟩) 3 cA, .slice (some ⟨gB, 0, none⟩) 3 cB, .slice (some ⟨gC, 0, none⟩) 3 cC, .slice (some ⟨gD, 0, none⟩) 3 cD, .slice (some ⟨gK, 0, none⟩) 64 cK, .slice (some ⟨gF, 0, none⟩) 8 cF]), .slice (some ⟨gs, 0, none⟩) 8 cs, .slice (some ⟨g3, t, none⟩) 64 cb] w' fun e w'' => ∃ v, e = .returned v ∧ ∃ base, w'.heap.size ≤ base ∧ Below w'.heap.size w' w'' ∧ w''.ownsRow base 39 1 v 8 (uv (blksR sh32 kk hf pd (k + 1))) := fun w' hb cb hcb => by
                    have hRx := hR.on hb
                    have hbx : BytesAt w' g3 t ((pd.drop t).take 64) := by
                      have := sub_bytes (hbA.below hb (block_lt_of_cell (hbA 0 (by have := HPL.out; omega)))) t 64 (by rw [HPL.out]; exact hat)
                      rwa [Nat.zero_add] at this
                    have := block32 gA cA gB cB gC cC gD cD gK cK (.slice (some ⟨gF, 0, none⟩) 8 cF) gs cs (blksR sh32 kk hf pd k) g3 t cb ((pd.drop t).take 64) kk w' (blksR_len _ _ _ _ hfl k) (blksR_lt sh32 kk hf pd hfb k) ((hws.on hb)) (by rw [List.length_take, List.length_drop, HPL.out]; omega) (sub_lt pd t 64 hp256) hcb hbx (kA.below hRx.1) (kB.below hRx.1) (kC.below hRx.1) (kD.below hRx.1) (hkk.on hRx.1) hkb
                    rw [ht] at this ⊢
                    exact this
                  have i1 : IntKind.i64.wrap ((t : Int) + 64) = (t : Int) + 64 := by simp [IntKind.wrap, IntKind.bits, IntKind.signed]; omega
                  have i2 : (0 : Int) ≤ (t : Int) + 64 := by omega
                  have i3 : (t : Int) + 64 ≤ (c3 : Int) := by omega
                  have i4 : ¬ c3 = t := by omega
                  have i5 : t ≤ ((t : Int) + 64).toNat := by omega
                  have i6 : ((t : Int) + 64).toNat - t = 64 := by omega
                  have hboxs : ∀ w', Below wr.heap.size wr w' → Below wr.heap.size wr w' ∧ w'.cell? ⟨w.heap.size, 0, none⟩ = some (.int .i64 32) ∧ w'.cell? ⟨w.heap.size, 1, none⟩ = some (.int .i64 64) ∧ w'.cell? ⟨w.heap.size, 2, none⟩ = some (.slice (some ⟨gA, 0, none⟩) 3 cA) ∧ w'.cell? ⟨w.heap.size, 3, none⟩ = some (.slice (some ⟨gB, 0, none⟩) 3 cB) ∧ w'.cell? ⟨w.heap.size, 4, none⟩ = some (.slice (some ⟨gC, 0, none⟩) 3 cC) ∧ w'.cell? ⟨w.heap.size, 5, none⟩ = some (.slice (some ⟨gD, 0, none⟩) 3 cD) ∧ w'.cell? ⟨w.heap.size, 6, none⟩ = some (.slice (some ⟨gK, 0, none⟩) 64 cK) ∧ w'.cell? ⟨w.heap.size, 7, none⟩ = some (.slice (some ⟨gF, 0, none⟩) 8 cF) := fun w' hb =>
                    have hRx := hR.on hb
                    ⟨hb, row_at hRx.2 0 _ rfl, row_at hRx.2 1 _ rfl, row_at hRx.2 2 _ rfl, row_at hRx.2 3 _ rfl, row_at hRx.2 4 _ rfl, row_at hRx.2 5 _ rfl, row_at hRx.2 6 _ rfl, row_at hRx.2 7 _ rfl⟩
                  rw [← ht]
                  have htl : t < L + 1 + z + 8 := by omega
                  have HT : Hid (t = 64 * k) := ht
                  clear ht
                  go_wp2_with fail
                  obtain ⟨_, u0, u1, u2, u3, u4, u5, u6, u7⟩ := hboxs wr (Below.refl _ _)
                  obtain ⟨_, y0, y1, y2, y3, y4, y5, y6, y7⟩ := hboxs wr.drew (Below.refl _ _).drew
                  have i7 : IntKind.i64.wrap ((t : Int) + IntKind.i64.wrap 64) = (t : Int) + 64 := by simp [IntKind.wrap, IntKind.bits, IntKind.signed]; omega
                  have i8 : IntKind.i64.wrap 64 = 64 := by rfl
                  refine wp_region_still_tail 10 (by kernel_rfl) (by kernel_rfl) ?_
                  simp only [List.take_succ_cons, List.take_zero, List.drop_succ_cons, List.drop_zero]
                  show wpStill _ _ wr.drew (fun a' => wpList _ _ _ _ a' wr.drew) _ _
                  iterate 10 still_step
                  refine wpStill_nil ?_
                  go_wp2_with fail
                  refine (hblk _ (Below.refl _ _).drew _ (by omega)).mono ?_
                  rintro e w' ⟨v, rfl, base, hbs, hbq, hownq⟩
                  obtain ⟨gq, cq, rfl, hgq, _⟩ := own_form hownq (by omega)
                  have hc1 : Below wr.heap.size wr w' := (Below.refl _ _).drew.trans hbq
                  clear u0 u1 u2 u3 u4 u5 u6 u7 y0 y1 y2 y3 y4 y5 y6 y7 i7 i8
                  have hRn := hR.on hc1
                  have x0n := row_at hRn.2 0 (.int .i64 32) rfl
                  have hwn : Words w' gq 8 (blksR sh32 kk hf pd (k + 1)) := fun j hj => own_word hownq j hj _ (by simp [show j < (blksR sh32 kk hf pd (k + 1)).length by rw [blksR_len _ _ _ _ hfl]; exact hj])
                  have hbn := hbA.below hc1 (block_lt_of_cell (hbA 0 (by have := HPL.out; omega)))
                  have hen : ((64 * (k + 1) : Nat) : Int) = (t : Int) + 64 := by have := HT.out; omega
                  clear hboxs hblk hR hws hbA x0 hownq i1 i2 i3 i4 i5 i6
                  go_wp2_with fail
                  go_roundw
                  case rel => first | exact ⟨k + 1, by omega, by rw [hen], hRn, hbn, gq, cq, rfl, hwn⟩ | ((repeat apply Exists.intro); exact ⟨⟨k + 1, by omega, by rw [hen], hRn, hbn, gq, cq, rfl, hwn⟩, rfl⟩)
                  case measure => simp [intOf]; omega
                · obtain rfl : k = NB := by omega
                  have hge : L + 1 + z + 8 ≤ 64 * k := Nat.le_of_eq HNL.out
                  go_wp2_with fail
                  clear x0 hbA hge
                  obtain ⟨sv, hsv⟩ : ∃ x, x = blksR sh32 kk hf pd k := ⟨_, rfl⟩
                  rw [← hsv] at hws
                  have hsb : ∀ j, sv.getD j 0 < 4294967296 := by rw [hsv]; exact blksR_lt sh32 kk hf pd hfb k
                  have HSV : Hid (sv = blksR sh32 kk hf pd k) := hsv
                  clear hsv
                  obtain ⟨BB, hBB⟩ : ∃ x, x = wr.heap.size := ⟨_, rfl⟩
                  have hgsB : gs < BB := by rw [hBB]; exact block_lt_of_cell (hws 0 (by omega))
                  have hwBB : w.heap.size < BB := by rw [hBB]; exact lt_of_heap hR.2
                  have hBsz : BB ≤ wr.heap.size := Nat.le_of_eq hBB
                  clear hBB
                  go_loopw [14, 13] (fun v14 v13 wr => ∃ i : Nat, i ≤ 8 ∧ v14 = .int .i64 (i : Int) ∧ RelB w (#[.int .i64 32, .int .i64 64, .slice (some ⟨gA, 0, none⟩) 3 cA, .slice (some ⟨gB, 0, none⟩) 3 cB, .slice (some ⟨gC, 0, none⟩) 3 cC, .slice (some ⟨gD, 0, none⟩) 3 cD, .slice (some ⟨gK, 0, none⟩) 64 cK, .slice (some ⟨gF, 0, none⟩) 8 cF]) wr ∧ Words wr gs 8 sv ∧ BB ≤ wr.heap.size ∧ ∃ a c, v13 = .slice a (4 * i) c ∧ wr.ownsRow BB 5 1 (.slice a (4 * i) c) (4 * i) (bv (stB 32 sv i))) (fun i _ _ => 8 - (intOf i).toNat)
                  case atStart => exact ⟨0, by omega, rfl, hR, hws, hBsz, none, 0, rfl, World.ownsRow_nil _ _ _ _⟩
                  case round =>
                    clear hR hws hBsz
                    obtain ⟨i, hi, rfl, hR, hws, hBsz, a, c, rfl, hown⟩ := hrel
                    by_cases hlt : i < 8
                    · obtain ⟨x, hx⟩ : ∃ x, x = sv.getD i 0 := ⟨_, rfl⟩
                      have bx : x < 18446744073709551616 := by have := hsb i; omega
                      have d1 : wr.cell? ⟨gs, i, none⟩ = some (.int .u64 (x : Int)) := by rw [hx]; exact hws i hlt
                      have HE : Hid (bv (stB 32 sv i) ++ bv (wb 32 x 4) = bv (stB 32 sv (i + 1))) := by
                        show bv (stB 32 sv i) ++ bv (wb 32 x 4) = bv (stB 32 sv (i + 1))
                        rw [hx, stB]; simp [bv]
                      have hall : ∀ w', Below BB wr w' → Below BB wr w' ∧ w'.cell? ⟨w.heap.size, 0, none⟩ = some (.int .i64 32) ∧ w'.cell? ⟨w.heap.size, 1, none⟩ = some (.int .i64 64) ∧ w'.cell? ⟨w.heap.size, 2, none⟩ = some (.slice (some ⟨gA, 0, none⟩) 3 cA) ∧ w'.cell? ⟨w.heap.size, 3, none⟩ = some (.slice (some ⟨gB, 0, none⟩) 3 cB) ∧ w'.cell? ⟨w.heap.size, 4, none⟩ = some (.slice (some ⟨gC, 0, none⟩) 3 cC) ∧ w'.cell? ⟨w.heap.size, 5, none⟩ = some (.slice (some ⟨gD, 0, none⟩) 3 cD) ∧ w'.cell? ⟨w.heap.size, 6, none⟩ = some (.slice (some ⟨gK, 0, none⟩) 64 cK) ∧ w'.cell? ⟨w.heap.size, 7, none⟩ = some (.slice (some ⟨gF, 0, none⟩) 8 cF) ∧ w'.cell? ⟨gs, i, none⟩ = some (.int .u64 (x : Int)) := fun w' hb =>
                        have hRx := hR.onB hwBB hb
                        ⟨hb, row_at hRx.2 0 _ rfl, row_at hRx.2 1 _ rfl, row_at hRx.2 2 _ rfl, row_at hRx.2 3 _ rfl, row_at hRx.2 4 _ rfl, row_at hRx.2 5 _ rfl, row_at hRx.2 6 _ rfl, row_at hRx.2 7 _ rfl, (hb.cell (p := ⟨gs, i, none⟩) hgsB).trans d1⟩
                      have hlt1 := hown.lt
                      clear hx
                      go_wp2_with fail
                      go_region_held3 (fun w' => Below BB wr w' ∧ w'.cell? ⟨w.heap.size, 0, none⟩ = some (.int .i64 32) ∧ w'.cell? ⟨w.heap.size, 1, none⟩ = some (.int .i64 64) ∧ w'.cell? ⟨w.heap.size, 2, none⟩ = some (.slice (some ⟨gA, 0, none⟩) 3 cA) ∧ w'.cell? ⟨w.heap.size, 3, none⟩ = some (.slice (some ⟨gB, 0, none⟩) 3 cB) ∧ w'.cell? ⟨w.heap.size, 4, none⟩ = some (.slice (some ⟨gC, 0, none⟩) 3 cC) ∧ w'.cell? ⟨w.heap.size, 5, none⟩ = some (.slice (some ⟨gD, 0, none⟩) 3 cD) ∧ w'.cell? ⟨w.heap.size, 6, none⟩ = some (.slice (some ⟨gK, 0, none⟩) 64 cK) ∧ w'.cell? ⟨w.heap.size, 7, none⟩ = some (.slice (some ⟨gF, 0, none⟩) 8 cF) ∧ w'.cell? ⟨gs, i, none⟩ = some (.int .u64 (x : Int)))
                        (first | exact hall _ hca | exact hall _ hc1 | exact hall _ (Below.refl _ _).drew)
                        (first
                          | (go_at_call 29; refine (bytesH32 _ _ _ _ _ _ _ _ ?_).mono ?_; assumption; rintro e w' ⟨_, rfl, gq, rfl, hbq, hgq, hrow⟩; have hcq : Below wr.heap.size wr w' := ((Below.refl _ _).drew.trans hbq); have hc1 : Below BB wr w' := hcq.mono hBsz; have hcB : BB ≤ w'.heap.size := Nat.le_trans hBsz hcq.size; have hownc := own_onT hown hcq; have hnw := news_row hrow)
                          | (refine step_append_lies _ (by rfl) (.tmp 92) (.tmp 98) 22 (by rfl) BB 5 i0 (.int .u8 0) 1 1 Tryd.underlying22 hi0 hz0 hz1 hz2 rfl (by decide) _ _ _ (by rfl) hownc ⟨gq, 0, none⟩ 4 4 (bv (wb 32 x 4)) (by rfl) (by rfl) hnw bv_one (by omega) (by unfold maxLen; omega) (by omega) hcB _ rfl ?_; intro ga' ca' wa howna hgrowa hata hlta; have hca : Below BB wr wa := hc1.grown hgrowa hcB (fun k hk => (hlt1 k hk).1)))
                      go_wp2_with fail
                      rw [HE.out] at howna
                      have hRn := hR.onB hwBB hca
                      have hwn := hws.onB hgsB hca
                      have hBn := Nat.le_trans hBsz hca.size
                      go_roundw
                      case rel => first | exact ⟨i + 1, by omega, by go_num, hRn, hwn, hBn, _, _, rfl, howna⟩ | ((repeat apply Exists.intro); exact ⟨⟨i + 1, by omega, by go_num, hRn, hwn, hBn, _, _, rfl, howna⟩, rfl⟩)
                      case measure => simp [intOf]; omega
                    · obtain rfl : i = 8 := by omega
                      have hq : stB 32 sv 8 = digQ32 kk hf bs := by rw [HSV.out, HNB.out, HPD.out]; rfl
                      rw [hq] at hown
                      go_wp2_with fail
                      go_ret
                      exact ⟨_, rfl, BB, Nat.le_of_lt hwBB, hR.1, hown⟩
end Go.Proofs.YtomfnkbghlpkeaaDoor
