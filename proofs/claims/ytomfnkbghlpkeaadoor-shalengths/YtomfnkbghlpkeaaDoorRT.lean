/-
  The reference's two sums, and the laws Sha256, Sha512.
-/
import Derived.Test.YtomfnkbghlpkeaaDoorRSb
import Derived.Test.YtomfnkbghlpkeaaDoorR9b
import Derived.Test.YtomfnkbghlpkeaaDoorEq
set_option linter.unusedVariables false
namespace Go.Proofs.YtomfnkbghlpkeaaDoor
open Go.RowKit Go.Sort Go.BigFrame
set_option maxRecDepth 100000
set_option maxHeartbeats 2000000
theorem K32_b : ∀ j, K32.getD j 0 < 4294967296 := all_getD (by decide) fun x hx => by
  obtain ⟨y, hy, rfl⟩ := List.mem_map.1 hx
  have := getD_all KS_lt y (List.mem_of_mem_take hy)
  omega
theorem H32_b : ∀ j, H32.getD j 0 < 4294967296 := all_getD (by decide) fun x hx => by
  obtain ⟨y, hy, rfl⟩ := List.mem_map.1 hx
  have := getD_all HS_lt y hy
  omega
theorem KS_b : ∀ j, KS.getD j 0 < 18446744073709551616 := KS_lt
theorem HS_b : ∀ j, HS.getD j 0 < 18446744073709551616 := HS_lt
theorem own_len {w : World} {B n : Nat} {v : Value} {l : List Nat} (h : w.ownsRow B 5 1 v n (bv l)) : l.length = n := by
  have := h.1
  simp [bv] at this
  exact this
theorem view_own {w : World} {B g n c : Nat} {l : List Nat} (h : w.ownsRow B 5 1 (.slice (some ⟨g, 0, none⟩) n c) n (bv l)) : View w (some ⟨g, 0, none⟩) l := fun _ =>
  ⟨g, 0, rfl, fun i hi => by
    have hl := own_len h
    rw [Nat.zero_add, h.cellAt i (by omega)]; simp [bv, hi]⟩

theorem digQ32_dig (bs : List Nat) (hL : bs.length ≤ 100000000000000) : digQ32 K32 H32 bs = dig sh32 HS KS bs := by
  have h8 : 8 * bs.length < 256 ^ 8 := by have : (256 : Nat) ^ 8 = 18446744073709551616 := by decide
                                          omega
  rw [← digR_dig sh32 HS KS bs (by decide) h8]
  unfold digQ32 digR
  rw [blksR_blks sh32 K32 KS H32 _ (fun t ht => by rw [K32_at t ht, Nat.shiftRight_eq_div_pow]; rfl)]
  rfl
theorem rsum256 (ad : Option Addr) (L cap : Nat) (bs : List Nat) (w : World) (hlen : bs.length = L) (hb256 : ∀ j, bs.getD j 0 < 256) (hL : L ≤ 100000000000000) (hv : View w ad bs) :
    Calls Tryd.prog 11 #[.slice ad L cap] w fun e w' => ∃ v, e = .returned v ∧ ∃ base, w.heap.size ≤ base ∧ Below w.heap.size w w' ∧ w'.ownsRow base 5 1 v 32 (bv (dig sh32 HS KS bs)) := by
  have hq := digQ32_dig bs (by omega)
  have HLEN : Hid (bs.length = L) := hlen
  clear hlen
  go_enter Tryd.func11, Tryd.ntmps11
  go_wp2_with fail
  refine (of32 _).mono ?_
  rintro e w1 ⟨gA, gB, gC, gD, gK, cK, gF, cF, rfl, hb1, rA, rB, rC, rD, hK, hF⟩
  go_wp2_with fail
  have hbb := fun o => below1 w1 o
  refine (refsum32 gA 3 gB 3 gC 3 gD 3 gK cK gF cF ad L cap bs K32 H32 _ HLEN.out hb256 hL ((hv.below hb1).below (hbb _)) (rA.below (hbb _)) (rB.below (hbb _)) (rC.below (hbb _)) (rD.below (hbb _)) (hK.on (hbb _)) K32_b (hF.on (hbb _)) (by kernel_rfl) H32_b).mono ?_
  rintro e w2 ⟨v, rfl, base, hbs, hb2, hown⟩
  rw [hq] at hown
  have hbf : Below w.heap.size w w2 := (hb1.alloc hb1.size _).trans (hb2.mono (by have := hb1.size; simp; omega))
  go_wp2
  go_ret
  exact ⟨v, rfl, base, by have := hb1.size; simp at hbs; omega, hbf, hown⟩
theorem sha256_3 (a : Option Addr) (la ca : Nat) (x : List Nat) (w : World) (hx : x.length = la) (hb256 : ∀ j, x.getD j 0 < 256) (hca : la ≤ ca) (hca2 : ca ≤ 9223372036854775807) (ha : View w a x) (ht : Tabs w) :
    Calls Tryd.prog 3 #[.slice a la ca] w fun e w' => e = .returned (.bool true) ∧ Below w.heap.size w w' := by
  obtain ⟨na, hna⟩ : ∃ n, n = min la 400 := ⟨_, rfl⟩
  obtain ⟨y, hy⟩ : ∃ y, y = x.take 400 := ⟨_, rfl⟩
  have e1 : y.length = na := by rw [hy, List.length_take, hx, hna]; omega
  have hyb : ∀ j, y.getD j 0 < 256 := by rw [hy]; exact take_lt x 400 hb256
  have hyv : View w a y := by rw [hy]; exact ha.take 400
  have hn4 : na ≤ 400 := by omega
  have hnc : na ≤ ca := by omega
  have hfa := few8 a la ca w hca
  rw [← hna] at hfa
  have h1 := sum256 a na ca y w e1 hyb hnc hca2 (by omega) hyv ht
  clear hna hy hx ha hb256
  have HE1 : Hid (y.length = na) := e1
  clear e1
  go_enter Tryd.func3, Tryd.ntmps3
  go_wp2_with fail
  refine hfa.mono ?_
  rintro e w' ⟨rfl, rfl⟩
  go_wp2_with fail
  refine h1.mono ?_
  rintro e w1 ⟨g1, B1, rfl, hb1, hB1, ho1⟩
  go_wp2_with fail
  refine (rsum256 a na ca y w1 HE1.out hyb (by omega) (hyv.below hb1)).mono ?_
  rintro e w2 ⟨v2, rfl, B2, hB2, hb2, ho2⟩
  obtain ⟨g2, c2, rfl, _, _⟩ := own_formT ho2 (by omega)
  have hv2 := view_own ho2
  have hv1 := (view_own ho1).below hb2
  have hl1 : (dig sh32 HS KS y).length = 32 := own_len ho1
  have hs := same9 (some ⟨g1, 0, none⟩) 32 32 (dig sh32 HS KS y) (some ⟨g2, 0, none⟩) 32 c2 (dig sh32 HS KS y) w2 hl1 hl1 hv1 hv2
  rw [show ((strOf (dig sh32 HS KS y)).toList == (strOf (dig sh32 HS KS y)).toList) = true from beq_self_eq_true _] at hs
  go_wp2_with fail
  refine hs.mono ?_
  rintro e w3 ⟨rfl, rfl⟩
  go_wp2_with fail
  have hbx := hb1.trans (hb2.mono hb1.size)
  refine (lives12 _ (ht.below hbx)).mono ?_
  rintro e w4 ⟨rfl, hb4⟩
  go_wp2
  go_ret
  exact ⟨rfl, hbx.trans (hb4.mono hbx.size)⟩

theorem digQ64_dig (bs : List Nat) (hL : bs.length ≤ 100000000000000) : digQ64 KS HS bs = dig sh64 HS KS bs := by
  have h8 : 8 * bs.length < 256 ^ 8 := by have : (256 : Nat) ^ 8 = 18446744073709551616 := by decide
                                          omega
  rw [← digR_dig sh64 HS KS bs (by decide) h8]
  unfold digQ64 digR
  rw [blksR_blks sh64 KS KS HS _ (fun t ht => by simp [sh64])]
  rfl
theorem rsum512 (ad : Option Addr) (L cap : Nat) (bs : List Nat) (w : World) (hlen : bs.length = L) (hb256 : ∀ j, bs.getD j 0 < 256) (hL : L ≤ 100000000000000) (hv : View w ad bs) :
    Calls Tryd.prog 14 #[.slice ad L cap] w fun e w' => ∃ v, e = .returned v ∧ ∃ base, w.heap.size ≤ base ∧ Below w.heap.size w w' ∧ w'.ownsRow base 5 1 v 64 (bv (dig sh64 HS KS bs)) := by
  have hq := digQ64_dig bs (by omega)
  have HLEN : Hid (bs.length = L) := hlen
  clear hlen
  go_enter Tryd.func14, Tryd.ntmps14
  go_wp2_with fail
  refine (of64 _).mono ?_
  rintro e w1 ⟨gA, gB, gC, gD, gK, cK, gF, cF, rfl, hb1, rA, rB, rC, rD, hK, hF⟩
  go_wp2_with fail
  have hbb := fun o => below1 w1 o
  refine (refsum64 gA 3 gB 3 gC 3 gD 3 gK cK gF cF ad L cap bs KS HS _ HLEN.out hb256 hL ((hv.below hb1).below (hbb _)) (rA.below (hbb _)) (rB.below (hbb _)) (rC.below (hbb _)) (rD.below (hbb _)) (hK.on (hbb _)) KS_b (hF.on (hbb _)) (by kernel_rfl) HS_b).mono ?_
  rintro e w2 ⟨v, rfl, base, hbs, hb2, hown⟩
  rw [hq] at hown
  have hbf : Below w.heap.size w w2 := (hb1.alloc hb1.size _).trans (hb2.mono (by have := hb1.size; simp; omega))
  go_wp2
  go_ret
  exact ⟨v, rfl, base, by have := hb1.size; simp at hbs; omega, hbf, hown⟩
theorem sha512_4 (a : Option Addr) (la ca : Nat) (x : List Nat) (w : World) (hx : x.length = la) (hb256 : ∀ j, x.getD j 0 < 256) (hca : la ≤ ca) (hca2 : ca ≤ 9223372036854775807) (ha : View w a x) (ht : Tabs w) :
    Calls Tryd.prog 4 #[.slice a la ca] w fun e w' => e = .returned (.bool true) ∧ Below w.heap.size w w' := by
  obtain ⟨na, hna⟩ : ∃ n, n = min la 400 := ⟨_, rfl⟩
  obtain ⟨y, hy⟩ : ∃ y, y = x.take 400 := ⟨_, rfl⟩
  have e1 : y.length = na := by rw [hy, List.length_take, hx, hna]; omega
  have hyb : ∀ j, y.getD j 0 < 256 := by rw [hy]; exact take_lt x 400 hb256
  have hyv : View w a y := by rw [hy]; exact ha.take 400
  have hn4 : na ≤ 400 := by omega
  have hnc : na ≤ ca := by omega
  have hfa := few8 a la ca w hca
  rw [← hna] at hfa
  have h1 := sum512 a na ca y w e1 hyb hnc hca2 (by omega) hyv ht
  clear hna hy hx ha hb256
  have HE1 : Hid (y.length = na) := e1
  clear e1
  go_enter Tryd.func4, Tryd.ntmps4
  go_wp2_with fail
  refine hfa.mono ?_
  rintro e w' ⟨rfl, rfl⟩
  go_wp2_with fail
  refine h1.mono ?_
  rintro e w1 ⟨g1, B1, rfl, hb1, hB1, ho1⟩
  go_wp2_with fail
  refine (rsum512 a na ca y w1 HE1.out hyb (by omega) (hyv.below hb1)).mono ?_
  rintro e w2 ⟨v2, rfl, B2, hB2, hb2, ho2⟩
  obtain ⟨g2, c2, rfl, _, _⟩ := own_formT ho2 (by omega)
  have hv2 := view_own ho2
  have hv1 := (view_own ho1).below hb2
  have hl1 : (dig sh64 HS KS y).length = 64 := own_len ho1
  have hs := same9 (some ⟨g1, 0, none⟩) 64 64 (dig sh64 HS KS y) (some ⟨g2, 0, none⟩) 64 c2 (dig sh64 HS KS y) w2 hl1 hl1 hv1 hv2
  rw [show ((strOf (dig sh64 HS KS y)).toList == (strOf (dig sh64 HS KS y)).toList) = true from beq_self_eq_true _] at hs
  go_wp2_with fail
  refine hs.mono ?_
  rintro e w3 ⟨rfl, rfl⟩
  go_wp2_with fail
  have hbx := hb1.trans (hb2.mono hb1.size)
  refine (lives12 _ (ht.below hbx)).mono ?_
  rintro e w4 ⟨rfl, hb4⟩
  go_wp2
  go_ret
  exact ⟨rfl, hbx.trans (hb4.mono hbx.size)⟩
end Go.Proofs.YtomfnkbghlpkeaaDoor
