/-
  The walk of the reference's Sum, at words of 64 bits.
-/
import Derived.Test.YtomfnkbghlpkeaaDoorRS
import Derived.Test.YtomfnkbghlpkeaaDoorRV
import Derived.Test.YtomfnkbghlpkeaaDoorRM5
import Derived.Test.YtomfnkbghlpkeaaDoorR4b
import Derived.Deep.RegionHeld3
import Derived.Deep.DrawnRows
import Derived.Deep.AppendLies
set_option linter.unusedVariables false
namespace Go.Proofs.YtomfnkbghlpkeaaDoor
open Go.RowKit Go.Sort Go.BigFrame
set_option maxRecDepth 100000
set_option maxHeartbeats 4000000
attribute [local go_sem ↓] Go.wp_at_zero Go.wp_at_succ

theorem refsum64 (gA cA gB cB gC cC gD cD gK cK gF cF : Nat) (ad : Option Addr) (L cap : Nat) (bs kk hf : List Nat) (w : World)
    (hlen : bs.length = L) (hb256 : ∀ j, bs.getD j 0 < 256) (hL : L ≤ 100000000000000) (hv : View w ad bs)
    (kA : Row3 w gA 28 34 39) (kB : Row3 w gB 14 18 41) (kC : Row3 w gC 1 8 7) (kD : Row3 w gD 19 61 6)
    (hkk : Words w gK 80 kk) (hkb : ∀ j, kk.getD j 0 < 18446744073709551616) (hff : Words w gF 8 hf) (hfl : hf.length = 8) (hfb : ∀ j, hf.getD j 0 < 18446744073709551616) :
    Calls Tryd.prog 18 #[.agg #[.int .i64 64, .int .i64 80, .slice (some ⟨gA, 0, none⟩) 3 cA, .slice (some ⟨gB, 0, none⟩) 3 cB, .slice (some ⟨gC, 0, none⟩) 3 cC, .slice (some ⟨gD, 0, none⟩) 3 cD, .slice (some ⟨gK, 0, none⟩) 80 cK, .slice (some ⟨gF, 0, none⟩) 8 cF], .slice ad L cap] w fun e w' => ∃ v, e = .returned v ∧ ∃ base, w.heap.size ≤ base ∧ Below w.heap.size w w' ∧ w'.ownsRow base 5 1 v 64 (bv (digQ64 kk hf bs)) := by
  have h5i : (Tryd.prog.info? 5).map (fun i => (i.zero, i.size, i.bytes)) = some (some (.int .u8 0), 1, 1) := by kernel_rfl
  obtain ⟨i0, hi0, hz0, hz1, hz2⟩ := info_parts h5i
  have h39i : (Tryd.prog.info? 39).map (fun i => (i.zero, i.size, i.bytes)) = some (some (.int .u64 0), 1, 8) := by kernel_rfl
  obtain ⟨j0, hj0, hy0, hy1, hy2⟩ := info_parts h39i
  obtain ⟨Z, hZ⟩ : ∃ x, x = zeros sh64 L := ⟨_, rfl⟩
  have hZ' : Z = (128 - (L + 1 + 16) % 128) % 128 := hZ
  have HZ : Hid (Z = zeros sh64 L) := hZ
  have hz1' : (L + 1 + Z + 16) % 128 = 0 := by omega
  have hz2' : ∀ z, z < Z → (L + 1 + z + 16) % 128 ≠ 0 := fun z hz => by omega
  have hZ8 : Z < 128 := by omega
  have HZ2 : Hid (∀ z, z < Z → (L + 1 + z + 16) % 128 ≠ 0) := hz2'
  clear hZ hZ' hz2'
  have hR0 : RelB w (#[.int .i64 64, .int .i64 80, .slice (some ⟨gA, 0, none⟩) 3 cA, .slice (some ⟨gB, 0, none⟩) 3 cB, .slice (some ⟨gC, 0, none⟩) 3 cC, .slice (some ⟨gD, 0, none⟩) 3 cD, .slice (some ⟨gK, 0, none⟩) 80 cK, .slice (some ⟨gF, 0, none⟩) 8 cF]) (w.alloc (.cells (#[.int .i64 64, .int .i64 80, .slice (some ⟨gA, 0, none⟩) 3 cA, .slice (some ⟨gB, 0, none⟩) 3 cB, .slice (some ⟨gC, 0, none⟩) 3 cC, .slice (some ⟨gD, 0, none⟩) 3 cD, .slice (some ⟨gK, 0, none⟩) 80 cK, .slice (some ⟨gF, 0, none⟩) 8 cF]) 37)) := ⟨below1 _ _, heap_alloc_new _ _⟩
  have hv0 := hv.below (below1 w (.cells (#[.int .i64 64, .int .i64 80, .slice (some ⟨gA, 0, none⟩) 3 cA, .slice (some ⟨gB, 0, none⟩) 3 cB, .slice (some ⟨gC, 0, none⟩) 3 cC, .slice (some ⟨gD, 0, none⟩) 3 cD, .slice (some ⟨gK, 0, none⟩) 80 cK, .slice (some ⟨gF, 0, none⟩) 8 cF]) 37))
  have HLEN : Hid (bs.length = L) := hlen
  clear hlen hv
  go_enter Tryd.func18, Tryd.ntmps18
  go_wp2_with (first
    | (at_builtin; refine wpList_append_data _ rfl (.tmp 15) (.tmp 16) rfl rfl ad L cap bs rfl HLEN.out hv0 (w.heap.size + 1) (by simp) hL ?_; intro v1 w1 hown hgrow; obtain ⟨a1, c1, rfl⟩ := own_slice hown; have hR1 : RelB w (#[.int .i64 64, .int .i64 80, .slice (some ⟨gA, 0, none⟩) 3 cA, .slice (some ⟨gB, 0, none⟩) 3 cB, .slice (some ⟨gC, 0, none⟩) 3 cC, .slice (some ⟨gD, 0, none⟩) 3 cD, .slice (some ⟨gK, 0, none⟩) 80 cK, .slice (some ⟨gF, 0, none⟩) 8 cF]) w1 := ⟨hR0.1.grown hgrow hR0.1.size (by intro k hk; cases hk), (hgrow.block _ (lt_of_heap hR0.2) (by simp)).trans hR0.2⟩; clear hR0 hv0 hgrow; have hsz1 : w.heap.size + 1 ≤ w1.heap.size := lt_of_heap hR1.2)
    | (at_builtin; refine wpList_append_own _ rfl (.tmp 18) (.tmp 19) 22 rfl (w.heap.size + 1) 5 i0 (.int .u8 0) 1 1 Tryd.underlying22 hi0 hz0 hz1 hz2 rfl (by decide) _ _ _ rfl (hown.alloc _) ⟨w1.heap.size, 0, none⟩ 1 1 [.int .u8 128] rfl rfl (news_one _ _ _) one_byte (by unfold maxLen; omega) (by omega) (by simp; omega) ?_; intro v2 w2 hown2 hgrow _; obtain ⟨a2, c2, rfl⟩ := own_slice hown2; have hlt1 := hown.lt; have hR2 := hR1.grown _ hgrow (fun k hk => by have := (hlt1 k hk).1; omega); have x0 := row_at hR2.2 0 (.int .i64 64) rfl))
  have HE : Hid (bv bs ++ [.int .u8 128] = bv (bs ++ 128 :: List.replicate 0 0)) := by
    show bv bs ++ [.int .u8 128] = bv (bs ++ 128 :: List.replicate 0 0)
    simp [bv]
  rw [HE.out] at hown2
  clear hown hgrow hlt1 hR1 HE
  clear x0
  go_loopw [5] (fun v5 wr => ∃ z : Nat, z ≤ Z ∧ ∃ a c, v5 = .slice a (L + 1 + z) c ∧ RelB w (#[.int .i64 64, .int .i64 80, .slice (some ⟨gA, 0, none⟩) 3 cA, .slice (some ⟨gB, 0, none⟩) 3 cB, .slice (some ⟨gC, 0, none⟩) 3 cC, .slice (some ⟨gD, 0, none⟩) 3 cD, .slice (some ⟨gK, 0, none⟩) 80 cK, .slice (some ⟨gF, 0, none⟩) 8 cF]) wr ∧ wr.ownsRow (w.heap.size + 1) 5 1 (.slice a (L + 1 + z) c) (L + 1 + z) (bv (bs ++ 128 :: List.replicate z 0))) (fun v _ => L + 1 + Z - lenV v)
  case atStart => exact ⟨0, by omega, _, _, rfl, hR2, hown2⟩
  case round =>
    clear hR2 hown2
    obtain ⟨z, hz, a, ca, rfl, hR, hown⟩ := hrel
    have x0 := row_at hR.2 0 (.int .i64 64) rfl
    by_cases hlt : z < Z
    · have hne := HZ2.out z hlt
      have hsz : w.heap.size + 1 ≤ wr.heap.size := lt_of_heap hR.2
      go_wp2_with (at_builtin; refine wpList_append_own _ rfl (.tmp 33) (.tmp 34) 22 rfl (w.heap.size + 1) 5 i0 (.int .u8 0) 1 1 Tryd.underlying22 hi0 hz0 hz1 hz2 rfl (by decide) _ _ _ rfl (hown.alloc _) ⟨wr.heap.size, 0, none⟩ 1 1 [.int .u8 0] rfl rfl (news_one _ _ _) one_byte (by unfold maxLen; omega) (by omega) (by simp; omega) ?_; intro v' w1 hown' hgrow _)
      have hlt1 := hown.lt
      have HE : Hid (bv (bs ++ 128 :: List.replicate z 0) ++ [.int .u8 0] = bv (bs ++ 128 :: List.replicate (z + 1) 0)) := by
        show bv (bs ++ 128 :: List.replicate z 0) ++ [.int .u8 0] = bv (bs ++ 128 :: List.replicate (z + 1) 0)
        rw [List.replicate_succ']; simp [bv]
      rw [HE.out] at hown'
      have hRn := hR.grown _ hgrow (fun k hk => by have := (hlt1 k hk).1; omega)
      obtain ⟨a', c', rfl⟩ := own_slice hown'
      clear hown hgrow hR hlt1 x0 hne
      go_roundw
      case rel => first | exact ⟨z + 1, by omega, _, _, rfl, hRn, hown'⟩ | ((repeat apply Exists.intro); exact ⟨⟨z + 1, by omega, _, _, rfl, hRn, hown'⟩, rfl⟩)
      case measure => simp [lenV]; omega
    · obtain rfl : z = Z := by omega
      obtain ⟨ga, _, hae, hgaB, hgac⟩ := own_formT hown (by omega)
      cases hae
      obtain ⟨hga1, hga2⟩ := hown.lt ga rfl
      obtain ⟨X, hX⟩ : ∃ x, x = bs ++ 128 :: List.replicate z 0 := ⟨_, rfl⟩
      rw [← hX] at hown
      obtain ⟨BL, hBL⟩ : ∃ x, x = wr.heap.size := ⟨_, rfl⟩
      have hgaL : ga < BL := by rw [hBL]; exact hga2
      have hwBL : w.heap.size < BL := by rw [hBL]; exact lt_of_heap hR.2
      have hszL : BL ≤ wr.heap.size := Nat.le_of_eq hBL
      have HX : Hid (X = bs ++ 128 :: List.replicate z 0) := hX
      clear hBL hX hga2 hgac hlt hz
      go_wp2_with fail
      have HZ1 : Hid ((L + 1 + z + 16) % 128 = 0) := hz1'
      have hbf : (((L : Int) + 1 + (z : Int) + 16) % 128 != 0) = false := by
        have := HZ1.out
        have e : ((L : Int) + 1 + (z : Int) + 16) % 128 = 0 := by omega
        rw [e]; rfl
      rw [hbf]
      clear x0 hz1' hbf
      go_loopw [9, 8] (fun v9 v8 wr => ∃ i : Nat, i ≤ 16 ∧ v9 = .int .i64 (i : Int) ∧ RelB w (#[.int .i64 64, .int .i64 80, .slice (some ⟨gA, 0, none⟩) 3 cA, .slice (some ⟨gB, 0, none⟩) 3 cB, .slice (some ⟨gC, 0, none⟩) 3 cC, .slice (some ⟨gD, 0, none⟩) 3 cD, .slice (some ⟨gK, 0, none⟩) 80 cK, .slice (some ⟨gF, 0, none⟩) 8 cF]) wr ∧ BL ≤ wr.heap.size ∧ wr.ownsRow (w.heap.size + 1) 5 1 (.slice (some ⟨ga, 0, none⟩) (L + 1 + z) ca) (L + 1 + z) (bv X) ∧ ∃ a c, v8 = .slice a i c ∧ wr.ownsRow BL 5 1 (.slice a i c) i (bv (List.replicate i 0))) (fun i _ _ => 16 - (intOf i).toNat)
      case atStart => exact ⟨0, by omega, rfl, hR, hszL, hown, none, 0, rfl, World.ownsRow_nil _ _ _ _⟩
      case round =>
        clear hR hown hszL
        obtain ⟨i, hi, rfl, hR, hszL, hall, a, cl, rfl, hown⟩ := hrel
        by_cases hlt : i < 16
        · go_wp2_with (at_builtin; refine wpList_append_own _ rfl (.tmp 44) (.tmp 45) 22 rfl BL 5 i0 (.int .u8 0) 1 1 Tryd.underlying22 hi0 hz0 hz1 hz2 rfl (by decide) _ _ _ rfl (hown.alloc _) ⟨wr.heap.size, 0, none⟩ 1 1 [.int .u8 0] rfl rfl (news_one _ _ _) one_byte (by unfold maxLen; omega) (by omega) (by simp; omega) ?_; intro v' w1 hown' hgrow _; obtain ⟨a', c', rfl⟩ := own_slice hown')
          have hlt1 := hown.lt
          have HE : Hid (bv (List.replicate i 0) ++ [.int .u8 0] = bv (List.replicate (i + 1) 0)) := by
            show bv (List.replicate i 0) ++ [.int .u8 0] = bv (List.replicate (i + 1) 0)
            rw [List.replicate_succ']; simp [bv]
          rw [HE.out] at hown'
          have hRn := hR.grown _ hgrow (fun k hk => by have := (hlt1 k hk).1; omega)
          have hall' := (hall.alloc (.cells #[.int .u8 0] 5)).kept hgrow (.inr (fun e => by have := (hlt1 ga e.symm).1; omega))
          have hszn : BL ≤ w1.heap.size := Nat.le_trans (Nat.le_trans hszL (by simp)) hgrow.size
          clear hown hgrow hR hlt1 hall
          go_roundw
          case rel => first | exact ⟨i + 1, by omega, by go_num, hRn, hszn, hall', _, _, rfl, hown'⟩ | ((repeat apply Exists.intro); exact ⟨⟨i + 1, by omega, by go_num, hRn, hszn, hall', _, _, rfl, hown'⟩, rfl⟩)
          case measure => simp [intOf]; omega
        · obtain rfl : i = 16 := by omega
          obtain ⟨gl, _, hae, hglB, _⟩ := own_formT hown (by omega)
          cases hae
          go_wp2_with fail
          go_loopw [10, 7] (fun v10 v7 wr => ∃ m nk : Nat, m ≤ 16 ∧ v10 = .int .i64 ((m : Int) - 1) ∧ v7 = .int .i64 (nk : Int) ∧ nk = 8 * L / 256 ^ (16 - m) ∧ RelB w (#[.int .i64 64, .int .i64 80, .slice (some ⟨gA, 0, none⟩) 3 cA, .slice (some ⟨gB, 0, none⟩) 3 cB, .slice (some ⟨gC, 0, none⟩) 3 cC, .slice (some ⟨gD, 0, none⟩) 3 cD, .slice (some ⟨gK, 0, none⟩) 80 cK, .slice (some ⟨gF, 0, none⟩) 8 cF]) wr ∧ BL ≤ wr.heap.size ∧ wr.ownsRow (w.heap.size + 1) 5 1 (.slice (some ⟨ga, 0, none⟩) (L + 1 + z) ca) (L + 1 + z) (bv X) ∧ wr.ownsRow BL 5 1 (.slice (some ⟨gl, 0, none⟩) 16 cl) 16 (bv (List.replicate m 0 ++ be (8 * L) (16 - m)))) (fun i _ _ => (intOf i + 1).toNat)
          case atStart => exact ⟨16, 8 * L, by omega, rfl, by go_num, by simp, hR, hszL, hall, by simpa [be] using hown⟩
          case round =>
            clear hR hszL hall hown
            obtain ⟨m, nk, hm, rfl, rfl, hnk, hR, hszL, hall, hown⟩ := hrel
            have HNK : Hid (nk = 8 * L / 256 ^ (16 - m)) := hnk
            have hnb : nk ≤ 8 * L := by rw [hnk]; exact Nat.div_le_self _ _
            clear hnk
            by_cases hlt : 0 < m
            · obtain ⟨b, rfl⟩ : ∃ b, m = b + 1 := ⟨m - 1, by omega⟩
              have e0 : ((b + 1 : Nat) : Int) - 1 = (b : Int) := by omega
              rw [e0]
              clear e0
              have kx : wr.cell? ⟨gl, b, none⟩ = some (.int .u8 0) := by
                rw [hown.cellAt b (by omega)]; simp only [bv, List.map_append, List.map_replicate]; rw [List.getElem?_append_left (by simp)]; simp
              have fx := hown.frozenAt b
              obtain ⟨hst, hgst⟩ := hown.stored b (.int .u8 ((nk % 256 : Nat) : Int))
              have HE : Hid ((bv (List.replicate (b + 1) 0 ++ be (8 * L) (16 - (b + 1)))).set b (.int .u8 ((nk % 256 : Nat) : Int)) = bv (List.replicate b 0 ++ be (8 * L) (16 - b))) := by
                show (bv (List.replicate (b + 1) 0 ++ be (8 * L) (16 - (b + 1)))).set b (.int .u8 ((nk % 256 : Nat) : Int)) = bv (List.replicate b 0 ++ be (8 * L) (16 - b))
                rw [show 16 - b = (16 - (b + 1)) + 1 by omega, be_front, Nat.shiftRight_eq_div_pow, show 2 ^ (8 * (16 - (b + 1))) = 256 ^ (16 - (b + 1)) from Nat.pow_mul 2 8 _, ← HNK.out]
                exact set_front b _ _
              rw [HE.out] at hst
              have hRn := hR.onB hwBL (below_set BL wr gl b (.int .u8 ((nk % 256 : Nat) : Int)) hglB)
              have halln := hall.kept hgst (.inr (fun e => by simp only [Value.ownBlock] at e; injection e with e; omega))
              have hszn : BL ≤ (wr.setCell ⟨gl, b, none⟩ (.int .u8 ((nk % 256 : Nat) : Int))).heap.size := by rw [size_setCell']; exact hszL
              have HN2 : Hid (nk / 256 = 8 * L / 256 ^ (16 - b)) := by
                show nk / 256 = 8 * L / 256 ^ (16 - b)
                rw [HNK.out, Nat.div_div_eq_div_mul, ← Nat.pow_succ, show (16 - (b + 1)).succ = 16 - b by omega]
              clear hown hgst hR hall
              go_wp2_with fail
              go_roundw
              case rel => first | exact ⟨b, nk / 256, by omega, by go_num, by go_num, HN2.out, hRn, hszn, halln, hst⟩ | ((repeat apply Exists.intro); exact ⟨⟨b, nk / 256, by omega, by go_num, by go_num, HN2.out, hRn, hszn, halln, hst⟩, rfl⟩)
              case measure => simp [intOf]
            · obtain rfl : m = 0 := by omega
              rw [show ((0 : Nat) : Int) - 1 = -1 from rfl]
              rw [List.replicate_zero, List.nil_append] at hown
              have hgl2 := (hown.lt gl rfl).2
              obtain ⟨pd, hpd⟩ : ∃ x, x = padd sh64 bs := ⟨_, rfl⟩
              have hpe : X ++ be (8 * L) 16 = pd := by rw [hpd, HX.out, padd, HLEN.out, ← HZ.out]; rfl
              have HPE : Hid (bv X ++ bv (be (8 * L) 16) = bv pd) := by
                show bv X ++ bv (be (8 * L) 16) = bv pd
                rw [← hpe]; simp [bv]
              have hpl : pd.length = L + 1 + z + 16 := by rw [← hpe, HX.out]; simp [be_len]; have := HLEN.out; omega
              have HPL : Hid (pd.length = L + 1 + z + 16) := hpl
              have HPD : Hid (pd = padd sh64 bs) := hpd
              clear hpe hpl hpd
              have hszw : w.heap.size + 1 ≤ wr.heap.size := lt_of_heap hR.2
              have hnl := news_own hown
              go_wp2_with (first
                | (at_builtin; refine wpList_append_own _ rfl (.tmp 61) (.tmp 62) 22 rfl (w.heap.size + 1) 5 i0 (.int .u8 0) 1 1 Tryd.underlying22 hi0 hz0 hz1 hz2 rfl (by decide) _ _ _ rfl hall ⟨gl, 0, none⟩ 16 cl (bv (be (8 * L) 16)) rfl (by simp [bv, be_len]) hnl bv_one (by unfold maxLen; omega) (by omega) hszw ?_; intro v3 w3 hown3 hgrow3 _; obtain ⟨a3, c3, rfl⟩ := own_slice hown3; have hR3 : RelB w (#[.int .i64 64, .int .i64 80, .slice (some ⟨gA, 0, none⟩) 3 cA, .slice (some ⟨gB, 0, none⟩) 3 cB, .slice (some ⟨gC, 0, none⟩) 3 cC, .slice (some ⟨gD, 0, none⟩) 3 cD, .slice (some ⟨gK, 0, none⟩) 80 cK, .slice (some ⟨gF, 0, none⟩) 8 cF]) w3 := ⟨hR.1.grown hgrow3 hR.1.size (fun k hk => by have := (hall.lt k hk).1; omega), (hgrow3.block _ (lt_of_heap hR.2) (fun e => by have := (hall.lt _ e.symm).1; omega)).trans hR.2⟩; have x7 := row_at hR3.2 7 (.slice (some ⟨gF, 0, none⟩) 8 cF) rfl; have hf3 : Words w3 gF 8 hf := hff.on hR3.1; have hnf := news_words hf hfl hf3)
                | (at_builtin; refine wpList_append_own _ rfl (.tmp 64) (.tmp 66) 35 rfl w3.heap.size 39 j0 (.int .u64 0) 1 8 Tryd.underlying35 hj0 hy0 hy1 hy2 rfl (by decide) (.slice none 0 0) 0 [] rfl (World.ownsRow_nil _ _ _ _) ⟨gF, 0, none⟩ 8 cF (uv hf) rfl (by simp [uv, hfl]) hnf uv_one (by unfold maxLen; omega) (by omega) (Nat.le_refl _) ?_; intro v4 w4 hown4 hgrow4 _; obtain ⟨a4, c4, rfl⟩ := own_slice hown4))
              simp only [List.nil_append, Nat.zero_add] at hown4
              rw [HPE.out] at hown3
              obtain ⟨g3, _, hae, hg3B, hnc3⟩ := own_formT hown3 (by omega)
              cases hae
              have hall4 := hown3.kept hgrow4 (.inr (by simp [Value.ownBlock]))
              have hg3l := (hall4.lt g3 rfl).2
              have hbA : BytesAt w4 g3 0 pd := fun i hi => by
                have hi2 : i < pd.length := hi
                rw [Nat.zero_add, hall4.cellAt i (by rw [← HPL.out]; omega)]; simp [bv, hi2]
              have hR4 : RelB w (#[.int .i64 64, .int .i64 80, .slice (some ⟨gA, 0, none⟩) 3 cA, .slice (some ⟨gB, 0, none⟩) 3 cB, .slice (some ⟨gC, 0, none⟩) 3 cC, .slice (some ⟨gD, 0, none⟩) 3 cD, .slice (some ⟨gK, 0, none⟩) 80 cK, .slice (some ⟨gF, 0, none⟩) 8 cF]) w4 := ⟨hR3.1.grown hgrow4 hR3.1.size (by intro k hk; cases hk), (hgrow4.block _ (lt_of_heap hR3.2) (by simp [Value.ownBlock])).trans hR3.2⟩
              obtain ⟨gs, _, hae, _, _⟩ := own_formT hown4 (by omega)
              cases hae
              have hs4 : Words w4 gs 8 hf := fun j hj => own_word hown4 j hj _ (by simp [show j < hf.length by omega])
              obtain ⟨NB, hNB⟩ : ∃ x, x = pd.length / 128 := ⟨_, rfl⟩
              have hNL : L + 1 + z + 16 = 128 * NB := by have := HZ1.out; have := HPL.out; omega
              have hp256 : ∀ j, pd.getD j 0 < 256 := by rw [HPD.out]; exact padd_lt sh64 bs hb256
              have HNB : Hid (NB = pd.length / 128) := hNB
              have HNL : Hid (L + 1 + z + 16 = 128 * NB) := hNL
              clear hNL hNB hown3 hown4 hgrow3 hgrow4 hall hall4 hR hR3 hnl hnf x7 hf3 hown hszL
              go_loopw [12, 11] (fun v12 v11 wr => ∃ k : Nat, k ≤ NB ∧ v12 = .int .i64 ((128 * k : Nat) : Int) ∧ RelB w (#[.int .i64 64, .int .i64 80, .slice (some ⟨gA, 0, none⟩) 3 cA, .slice (some ⟨gB, 0, none⟩) 3 cB, .slice (some ⟨gC, 0, none⟩) 3 cC, .slice (some ⟨gD, 0, none⟩) 3 cD, .slice (some ⟨gK, 0, none⟩) 80 cK, .slice (some ⟨gF, 0, none⟩) 8 cF]) wr ∧ BytesAt wr g3 0 pd ∧ ∃ gs cs, v11 = .slice (some ⟨gs, 0, none⟩) 8 cs ∧ Words wr gs 8 (blksR sh64 kk hf pd k)) (fun i _ _ => 128 * NB - (intOf i).toNat)
              case atStart => exact ⟨0, by omega, rfl, hR4, hbA, gs, _, rfl, hs4⟩
              case round =>
                clear hR4 hbA hs4
                obtain ⟨k, hk, rfl, hR, hbA, gs, cs, rfl, hws⟩ := hrel
                have x0 := row_at hR.2 0 (.int .i64 64) rfl
                by_cases hlt : k < NB
                · have hat : 128 * k + 128 ≤ L + 1 + z + 16 := by rw [HNL.out]; omega
                  obtain ⟨t, ht⟩ : ∃ x, x = 128 * k := ⟨_, rfl⟩
                  rw [← ht] at hat
                  have hgsw := block_lt_of_cell (a := ⟨gs, 0, none⟩) (hws 0 (by omega))
                  have hblk : ∀ w', Below wr.heap.size wr w' → ∀ cb, 128 ≤ cb → Calls Tryd.prog 28 #[.agg (#[.int .i64 64, .int .i64 80, .slice (some ⟨gA, 0, none⟩) 3 cA, .slice (some ⟨gB, 0, none⟩) 3 cB, .slice (some ⟨gC, 0, none⟩) 3 cC, .slice (some ⟨gD, 0, none⟩) 3 cD, .slice (some ⟨gK, 0, none⟩) 80 cK, .slice (some ⟨gF, 0, none⟩) 8 cF]), .slice (some ⟨gs, 0, none⟩) 8 cs, .slice (some ⟨g3, t, none⟩) 128 cb] w' fun e w'' => ∃ v, e = .returned v ∧ ∃ base, w'.heap.size ≤ base ∧ Below w'.heap.size w' w'' ∧ w''.ownsRow base 39 1 v 8 (uv (blksR sh64 kk hf pd (k + 1))) := fun w' hb cb hcb => by
                    have hRx := hR.on hb
                    have hbx : BytesAt w' g3 t ((pd.drop t).take 128) := by
                      have := sub_bytes (hbA.below hb (block_lt_of_cell (hbA 0 (by have := HPL.out; omega)))) t 128 (by rw [HPL.out]; exact hat)
                      rwa [Nat.zero_add] at this
                    have := block64 gA cA gB cB gC cC gD cD gK cK (.slice (some ⟨gF, 0, none⟩) 8 cF) gs cs (blksR sh64 kk hf pd k) g3 t cb ((pd.drop t).take 128) kk w' (blksR_len _ _ _ _ hfl k) (blksR_lt sh64 kk hf pd hfb k) ((hws.on hb)) (by rw [List.length_take, List.length_drop, HPL.out]; omega) (sub_lt pd t 128 hp256) hcb hbx (kA.below hRx.1) (kB.below hRx.1) (kC.below hRx.1) (kD.below hRx.1) (hkk.on hRx.1) hkb
                    rw [ht] at this ⊢
                    exact this
                  have i1 : IntKind.i64.wrap ((t : Int) + 128) = (t : Int) + 128 := by simp [IntKind.wrap, IntKind.bits, IntKind.signed]; omega
                  have i2 : (0 : Int) ≤ (t : Int) + 128 := by omega
                  have i3 : (t : Int) + 128 ≤ (c3 : Int) := by omega
                  have i4 : ¬ c3 = t := by omega
                  have i5 : t ≤ ((t : Int) + 128).toNat := by omega
                  have i6 : ((t : Int) + 128).toNat - t = 128 := by omega
                  have hboxs : ∀ w', Below wr.heap.size wr w' → Below wr.heap.size wr w' ∧ w'.cell? ⟨w.heap.size, 0, none⟩ = some (.int .i64 64) ∧ w'.cell? ⟨w.heap.size, 1, none⟩ = some (.int .i64 80) ∧ w'.cell? ⟨w.heap.size, 2, none⟩ = some (.slice (some ⟨gA, 0, none⟩) 3 cA) ∧ w'.cell? ⟨w.heap.size, 3, none⟩ = some (.slice (some ⟨gB, 0, none⟩) 3 cB) ∧ w'.cell? ⟨w.heap.size, 4, none⟩ = some (.slice (some ⟨gC, 0, none⟩) 3 cC) ∧ w'.cell? ⟨w.heap.size, 5, none⟩ = some (.slice (some ⟨gD, 0, none⟩) 3 cD) ∧ w'.cell? ⟨w.heap.size, 6, none⟩ = some (.slice (some ⟨gK, 0, none⟩) 80 cK) ∧ w'.cell? ⟨w.heap.size, 7, none⟩ = some (.slice (some ⟨gF, 0, none⟩) 8 cF) := fun w' hb =>
                    have hRx := hR.on hb
                    ⟨hb, row_at hRx.2 0 _ rfl, row_at hRx.2 1 _ rfl, row_at hRx.2 2 _ rfl, row_at hRx.2 3 _ rfl, row_at hRx.2 4 _ rfl, row_at hRx.2 5 _ rfl, row_at hRx.2 6 _ rfl, row_at hRx.2 7 _ rfl⟩
                  rw [← ht]
                  have htl : t < L + 1 + z + 16 := by omega
                  have HT : Hid (t = 128 * k) := ht
                  clear ht
                  go_wp2_with fail
                  obtain ⟨_, u0, u1, u2, u3, u4, u5, u6, u7⟩ := hboxs wr (Below.refl _ _)
                  obtain ⟨_, y0, y1, y2, y3, y4, y5, y6, y7⟩ := hboxs wr.drew (Below.refl _ _).drew
                  have i7 : IntKind.i64.wrap ((t : Int) + IntKind.i64.wrap 128) = (t : Int) + 128 := by simp [IntKind.wrap, IntKind.bits, IntKind.signed]; omega
                  have i8 : IntKind.i64.wrap 128 = 128 := by rfl
                  refine wp_region_still_tail 10 (by kernel_rfl) (by kernel_rfl) ?_
                  simp only [List.take_succ_cons, List.take_zero, List.drop_succ_cons, List.drop_zero]
                  show wpStill _ _ wr.drew (fun a' => wpList _ _ _ _ a' wr.drew) _ _
                  iterate 10 still_step
                  refine wpStill_nil ?_
                  go_wp2_with fail
                  refine (hblk _ (Below.refl _ _).drew _ (by omega)).mono ?_
                  rintro e w' ⟨v, rfl, base, hbs, hbq, hownq⟩
                  obtain ⟨gq, cq, rfl, hgq, _⟩ := own_form hownq (by omega)
                  have hc1 : Below wr.heap.size wr w' := (Below.refl _ _).drew.trans hbq
                  clear u0 u1 u2 u3 u4 u5 u6 u7 y0 y1 y2 y3 y4 y5 y6 y7 i7 i8
                  have hRn := hR.on hc1
                  have x0n := row_at hRn.2 0 (.int .i64 64) rfl
                  have hwn : Words w' gq 8 (blksR sh64 kk hf pd (k + 1)) := fun j hj => own_word hownq j hj _ (by simp [show j < (blksR sh64 kk hf pd (k + 1)).length by rw [blksR_len _ _ _ _ hfl]; exact hj])
                  have hbn := hbA.below hc1 (block_lt_of_cell (hbA 0 (by have := HPL.out; omega)))
                  have hen : ((128 * (k + 1) : Nat) : Int) = (t : Int) + 128 := by have := HT.out; omega
                  clear hboxs hblk hR hws hbA x0 hownq i1 i2 i3 i4 i5 i6
                  go_wp2_with fail
                  go_roundw
                  case rel => first | exact ⟨k + 1, by omega, by rw [hen], hRn, hbn, gq, cq, rfl, hwn⟩ | ((repeat apply Exists.intro); exact ⟨⟨k + 1, by omega, by rw [hen], hRn, hbn, gq, cq, rfl, hwn⟩, rfl⟩)
                  case measure => simp [intOf]; omega
                · obtain rfl : k = NB := by omega
                  have hge : L + 1 + z + 16 ≤ 128 * k := Nat.le_of_eq HNL.out
                  go_wp2_with fail
                  clear x0 hbA hge
                  obtain ⟨sv, hsv⟩ : ∃ x, x = blksR sh64 kk hf pd k := ⟨_, rfl⟩
                  rw [← hsv] at hws
                  have hsb : ∀ j, sv.getD j 0 < 18446744073709551616 := by rw [hsv]; exact blksR_lt sh64 kk hf pd hfb k
                  have HSV : Hid (sv = blksR sh64 kk hf pd k) := hsv
                  clear hsv
                  obtain ⟨BB, hBB⟩ : ∃ x, x = wr.heap.size := ⟨_, rfl⟩
                  have hgsB : gs < BB := by rw [hBB]; exact block_lt_of_cell (hws 0 (by omega))
                  have hwBB : w.heap.size < BB := by rw [hBB]; exact lt_of_heap hR.2
                  have hBsz : BB ≤ wr.heap.size := Nat.le_of_eq hBB
                  clear hBB
                  go_loopw [14, 13] (fun v14 v13 wr => ∃ i : Nat, i ≤ 8 ∧ v14 = .int .i64 (i : Int) ∧ RelB w (#[.int .i64 64, .int .i64 80, .slice (some ⟨gA, 0, none⟩) 3 cA, .slice (some ⟨gB, 0, none⟩) 3 cB, .slice (some ⟨gC, 0, none⟩) 3 cC, .slice (some ⟨gD, 0, none⟩) 3 cD, .slice (some ⟨gK, 0, none⟩) 80 cK, .slice (some ⟨gF, 0, none⟩) 8 cF]) wr ∧ Words wr gs 8 sv ∧ BB ≤ wr.heap.size ∧ ∃ a c, v13 = .slice a (8 * i) c ∧ wr.ownsRow BB 5 1 (.slice a (8 * i) c) (8 * i) (bv (stB 64 sv i))) (fun i _ _ => 8 - (intOf i).toNat)
                  case atStart => exact ⟨0, by omega, rfl, hR, hws, hBsz, none, 0, rfl, World.ownsRow_nil _ _ _ _⟩
                  case round =>
                    clear hR hws hBsz
                    obtain ⟨i, hi, rfl, hR, hws, hBsz, a, c, rfl, hown⟩ := hrel
                    by_cases hlt : i < 8
                    · obtain ⟨x, hx⟩ : ∃ x, x = sv.getD i 0 := ⟨_, rfl⟩
                      have bx : x < 18446744073709551616 := by have := hsb i; omega
                      have d1 : wr.cell? ⟨gs, i, none⟩ = some (.int .u64 (x : Int)) := by rw [hx]; exact hws i hlt
                      have HE : Hid (bv (stB 64 sv i) ++ bv (wb 64 x 8) = bv (stB 64 sv (i + 1))) := by
                        show bv (stB 64 sv i) ++ bv (wb 64 x 8) = bv (stB 64 sv (i + 1))
                        rw [hx, stB]; simp [bv]
                      have hall : ∀ w', Below BB wr w' → Below BB wr w' ∧ w'.cell? ⟨w.heap.size, 0, none⟩ = some (.int .i64 64) ∧ w'.cell? ⟨w.heap.size, 1, none⟩ = some (.int .i64 80) ∧ w'.cell? ⟨w.heap.size, 2, none⟩ = some (.slice (some ⟨gA, 0, none⟩) 3 cA) ∧ w'.cell? ⟨w.heap.size, 3, none⟩ = some (.slice (some ⟨gB, 0, none⟩) 3 cB) ∧ w'.cell? ⟨w.heap.size, 4, none⟩ = some (.slice (some ⟨gC, 0, none⟩) 3 cC) ∧ w'.cell? ⟨w.heap.size, 5, none⟩ = some (.slice (some ⟨gD, 0, none⟩) 3 cD) ∧ w'.cell? ⟨w.heap.size, 6, none⟩ = some (.slice (some ⟨gK, 0, none⟩) 80 cK) ∧ w'.cell? ⟨w.heap.size, 7, none⟩ = some (.slice (some ⟨gF, 0, none⟩) 8 cF) ∧ w'.cell? ⟨gs, i, none⟩ = some (.int .u64 (x : Int)) := fun w' hb =>
                        have hRx := hR.onB hwBB hb
                        ⟨hb, row_at hRx.2 0 _ rfl, row_at hRx.2 1 _ rfl, row_at hRx.2 2 _ rfl, row_at hRx.2 3 _ rfl, row_at hRx.2 4 _ rfl, row_at hRx.2 5 _ rfl, row_at hRx.2 6 _ rfl, row_at hRx.2 7 _ rfl, (hb.cell (p := ⟨gs, i, none⟩) hgsB).trans d1⟩
                      have hlt1 := hown.lt
                      clear hx
                      go_wp2_with fail
                      go_region_held3 (fun w' => Below BB wr w' ∧ w'.cell? ⟨w.heap.size, 0, none⟩ = some (.int .i64 64) ∧ w'.cell? ⟨w.heap.size, 1, none⟩ = some (.int .i64 80) ∧ w'.cell? ⟨w.heap.size, 2, none⟩ = some (.slice (some ⟨gA, 0, none⟩) 3 cA) ∧ w'.cell? ⟨w.heap.size, 3, none⟩ = some (.slice (some ⟨gB, 0, none⟩) 3 cB) ∧ w'.cell? ⟨w.heap.size, 4, none⟩ = some (.slice (some ⟨gC, 0, none⟩) 3 cC) ∧ w'.cell? ⟨w.heap.size, 5, none⟩ = some (.slice (some ⟨gD, 0, none⟩) 3 cD) ∧ w'.cell? ⟨w.heap.size, 6, none⟩ = some (.slice (some ⟨gK, 0, none⟩) 80 cK) ∧ w'.cell? ⟨w.heap.size, 7, none⟩ = some (.slice (some ⟨gF, 0, none⟩) 8 cF) ∧ w'.cell? ⟨gs, i, none⟩ = some (.int .u64 (x : Int)))
                        (first | exact hall _ hca | exact hall _ hc1 | exact hall _ (Below.refl _ _).drew)
                        (first
                          | (go_at_call 29; refine (bytesH64 _ _ _ _ _ _ _ _ ?_).mono ?_; assumption; rintro e w' ⟨_, rfl, gq, rfl, hbq, hgq, hrow⟩; have hcq : Below wr.heap.size wr w' := ((Below.refl _ _).drew.trans hbq); have hc1 : Below BB wr w' := hcq.mono hBsz; have hcB : BB ≤ w'.heap.size := Nat.le_trans hBsz hcq.size; have hownc := own_onT hown hcq; have hnw := news_row hrow)
                          | (refine step_append_lies _ (by rfl) (.tmp 92) (.tmp 98) 22 (by rfl) BB 5 i0 (.int .u8 0) 1 1 Tryd.underlying22 hi0 hz0 hz1 hz2 rfl (by decide) _ _ _ (by rfl) hownc ⟨gq, 0, none⟩ 8 8 (bv (wb 64 x 8)) (by rfl) (by rfl) hnw bv_one (by omega) (by unfold maxLen; omega) (by omega) hcB _ rfl ?_; intro ga' ca' wa howna hgrowa hata hlta; have hca : Below BB wr wa := hc1.grown hgrowa hcB (fun k hk => (hlt1 k hk).1)))
                      go_wp2_with fail
                      rw [HE.out] at howna
                      have hRn := hR.onB hwBB hca
                      have hwn := hws.onB hgsB hca
                      have hBn := Nat.le_trans hBsz hca.size
                      go_roundw
                      case rel => first | exact ⟨i + 1, by omega, by go_num, hRn, hwn, hBn, _, _, rfl, howna⟩ | ((repeat apply Exists.intro); exact ⟨⟨i + 1, by omega, by go_num, hRn, hwn, hBn, _, _, rfl, howna⟩, rfl⟩)
                      case measure => simp [intOf]; omega
                    · obtain rfl : i = 8 := by omega
                      have hq : stB 64 sv 8 = digQ64 kk hf bs := by rw [HSV.out, HNB.out, HPD.out]; rfl
                      rw [hq] at hown
                      go_wp2_with fail
                      go_ret
                      exact ⟨_, rfl, BB, Nat.le_of_lt hwBB, hR.1, hown⟩
end Go.Proofs.YtomfnkbghlpkeaaDoor
