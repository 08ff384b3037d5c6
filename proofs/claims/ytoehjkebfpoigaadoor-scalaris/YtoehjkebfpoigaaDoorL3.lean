/-
  The walks of ScalarIs, ScalarRing, ScalarLess.
-/
import Derived.Test.YtoehjkebfpoigaaDoorL2
set_option linter.unusedVariables false
namespace Go.Proofs.YtoehjkebfpoigaaDoor
open Go.RowKit Go.Sort Go.BigFrame
set_option maxRecDepth 100000
set_option maxHeartbeats 2000000
theorem isL_mod (R : Nat) (h : R < LL) : isL (digs 32 R) = true := by
  unfold isL
  rw [decide_eq_true_eq]
  exact ⟨digs_len _ _, by rw [valD_digs_lt (Nat.lt_trans h (by decide))]; exact h⟩
theorem Ref32.parts {w w' : World} {v : Value} {R : Nat} (h : Ref32 w w' v R) : ∃ a cap, v = .slice a 32 cap ∧ 32 ≤ cap ∧ cap ≤ 9223372036854775807 ∧ Below w.heap.size w w' ∧ View w' a (digs 32 R) := h
theorem scalarIs5 (a : Option Addr) (len cap : Nat) (bs : List Nat) (w : World) (hlen : bs.length = len) (hd : Dig bs) (hcap : len ≤ cap) (hcap2 : cap ≤ 9223372036854775807) (hv0 : View w a bs) (hT : Tab w) :
    Calls Tryd.prog 5 #[.slice a len cap] w fun e w' => e = .returned (.bool true) ∧ Below w.heap.size w w' := by
  have cF := few8 a len cap bs 40 w hlen hcap hcap2 (by omega)
  have hm := min_take (most := 40) hlen
  have hv := hv0.take 40
  have hd40 := hd.take 40
  have hmc : min len 40 ≤ cap := by omega
  have hm40 : min len 40 ≤ 40 := by omega
  obtain ⟨ds, hds⟩ : ∃ l, l = bs.take 40 := ⟨_, rfl⟩
  obtain ⟨m, hme⟩ : ∃ m, m = min len 40 := ⟨_, rfl⟩
  rw [← hds] at hm hv hd40
  rw [← hme] at hm hmc hm40 cF
  simp only [Int.cast_ofNat_Int] at cF
  have c1 := is14 a m cap ds w hm hmc hcap2 hd40 hv hT
  have c2 := fun w1 (h : Below w.heap.size w w1) => refIs15 a m cap ds w1 hm hmc hcap2 (by omega) hd40 (hv.below h)
  have c3 := fun w1 (h : Below w.heap.size w w1) => reduce9 a m cap ds w1 hm hmc hcap2 hd40 (hv.below h) (hT.below h)
  have hRl : valD (ds.take 64) % LL < LL := Nat.mod_lt _ LL_pos
  obtain ⟨R, hR⟩ : ∃ R, R = valD (ds.take 64) % LL := ⟨_, rfl⟩
  rw [← hR] at c3 hRl
  have c4 := fun w1 g (ht : Tab w1) (h : w1.heap[g]? = some (.cells (ints .u8 (digs 32 R)) 5 (0, 0))) => is14 (some ⟨g, 0, none⟩) 32 32 (digs 32 R) w1 (digs_len _ _) (by omega) (by omega) (digs_dig _ _) (fun _ => ⟨g, 0, rfl, bytes_row h⟩) ht
  rw [isL_mod R hRl] at c4
  obtain ⟨r, hr⟩ : ∃ r, r = isL ds := ⟨_, rfl⟩
  rw [← hr] at c1 c2
  have hrr : (r == r) = true := by cases r <;> rfl
  clear hR hds hme hm hd hd40 hv0 hlen hRl hr
  go_enter Tryd.func5, Tryd.ntmps5
  go_wp2_with fail
  refine cF.mono ?_
  rintro e w0 ⟨rfl, rfl⟩
  go_wp2_with fail
  refine c1.mono ?_
  rintro e w1 ⟨rfl, hB1⟩
  go_wp2_with fail
  refine (c2 w1 hB1).mono ?_
  rintro e w2 ⟨rfl, hb2⟩
  have hB2 := hB1.trans (hb2.mono hB1.size)
  clear hB1 hb2 c1 c2
  go_wp2_with fail
  refine (c3 w2 hB2).mono ?_
  rintro e w3 ⟨v, rfl, g3, rfl, _, hb3, hrow⟩
  have hB3 := hB2.trans (hb3.mono hB2.size)
  clear hB2 hb3 c3
  go_wp2_with fail
  refine (c4 w3 g3 (hT.below hB3) hrow).mono ?_
  rintro e w4 ⟨rfl, hb4⟩
  have hB4 := hB3.trans (hb4.mono hB3.size)
  clear hB3 hb4 c4 hrow
  go_wp2_with fail
  refine (lives11 w4 (hT.below hB4)).mono ?_
  rintro e w5 ⟨rfl, hb5⟩
  have hB5 := hB4.trans (hb5.mono hB4.size)
  go_wp2
  go_ret
  exact ⟨rfl, hB5⟩
theorem dig_nil : Dig [] := dig_lt (by simp)
theorem view_nil (w : World) : View w none [] := fun h => absurd h (by simp)
theorem dig_one : Dig [1] := dig_lt (by decide)
/-- A product, and a sum: the contract over bytes that lie anywhere. -/
theorem ma (a : Option Addr) (la ca : Nat) (x : List Nat) (b : Option Addr) (lb cb : Nat) (y : List Nat) (c : Option Addr) (lc cc : Nat) (z : List Nat) (R : Nat) (w : World) (hla : x.length = la) (hlb : y.length = lb) (hlc : z.length = lc) (la32 : la ≤ 32) (lb32 : lb ≤ 32) (lc32 : lc ≤ 32) (hca : la ≤ ca) (hcb : lb ≤ cb) (hcc : lc ≤ cc) (hca2 : ca ≤ 9223372036854775807) (hcb2 : cb ≤ 9223372036854775807) (hcc2 : cc ≤ 9223372036854775807)
    (dx : Dig x) (dy : Dig y) (dz : Dig z) (hx : View w a x) (hy : View w b y) (hz : View w c z) (hT : Tab w) (hR : R = (valD x * valD y + valD z) % LL) :
    Calls Tryd.prog 12 #[.slice a la ca, .slice b lb cb, .slice c lc cc] w fun e w' => ∃ v, e = .returned v ∧ Ref32 w w' v R := by
  have := mulAdd12 a la ca x b lb cb y c lc cc z w hla hlb hlc hca hca2 hcb hcb2 hcc hcc2 dx dy dz hx hy hz hT
  rw [List.take_of_length_le (by omega), List.take_of_length_le (by omega), List.take_of_length_le (by omega), ← hR] at this
  exact this.mono fun e w' ⟨v, h1, h2⟩ => ⟨v, h1, h2.ref⟩
theorem vR {R : Nat} (h : R < LL) : valD (digs 32 R) = R := valD_digs_lt (Nat.lt_trans h (by decide))
theorem mod_l (a b : Nat) : (a % LL * b + 0) % LL = (a * b) % LL := by rw [Nat.add_zero, Nat.mul_mod, Nat.mod_mod, ← Nat.mul_mod]
theorem mod_r (a b : Nat) : (a * (b % LL) + 0) % LL = (a * b) % LL := by rw [Nat.add_zero, Nat.mul_mod, Nat.mod_mod, ← Nat.mul_mod]
theorem mod_a (a b : Nat) : (a + b % LL) % LL = (a + b) % LL := by rw [Nat.add_mod, Nat.mod_mod, ← Nat.add_mod]
theorem scalarRing6 (a : Option Addr) (la0 ca : Nat) (x0 : List Nat) (b : Option Addr) (lb0 cb : Nat) (y0 : List Nat) (c : Option Addr) (lc0 cc : Nat) (z0 : List Nat) (w : World) (hla0 : x0.length = la0) (hlb0 : y0.length = lb0) (hlc0 : z0.length = lc0) (dx0 : Dig x0) (dy0 : Dig y0) (dz0 : Dig z0) (hca0 : la0 ≤ ca) (hcb0 : lb0 ≤ cb) (hcc0 : lc0 ≤ cc) (hca2 : ca ≤ 9223372036854775807) (hcb2 : cb ≤ 9223372036854775807) (hcc2 : cc ≤ 9223372036854775807) (hx0 : View w a x0) (hy0 : View w b y0) (hz0 : View w c z0) (hT : Tab w) :
    Calls Tryd.prog 6 #[.slice a la0 ca, .slice b lb0 cb, .slice c lc0 cc] w fun e w' => e = .returned (.bool true) ∧ Below w.heap.size w w' := by
  have cFx := few8 a la0 ca x0 32 w hla0 hca0 hca2 (by omega)
  have hla := min_take (most := 32) hla0
  have hx := hx0.take 32
  have dx := dx0.take 32
  have hca : min la0 32 ≤ ca := by omega
  have lan : min la0 32 ≤ 32 := by omega
  obtain ⟨x, hxe⟩ : ∃ l, l = x0.take 32 := ⟨_, rfl⟩
  obtain ⟨la, hlae⟩ : ∃ m, m = min la0 32 := ⟨_, rfl⟩
  rw [← hxe] at hla hx dx
  rw [← hlae] at hla hca lan cFx
  simp only [Int.cast_ofNat_Int] at cFx
  clear hxe hlae hx0 dx0 hla0 hca0
  have cFy := few8 b lb0 cb y0 32 w hlb0 hcb0 hcb2 (by omega)
  have hlb := min_take (most := 32) hlb0
  have hy := hy0.take 32
  have dy := dy0.take 32
  have hcb : min lb0 32 ≤ cb := by omega
  have lbn : min lb0 32 ≤ 32 := by omega
  obtain ⟨y, hye⟩ : ∃ l, l = y0.take 32 := ⟨_, rfl⟩
  obtain ⟨lb, hlbe⟩ : ∃ m, m = min lb0 32 := ⟨_, rfl⟩
  rw [← hye] at hlb hy dy
  rw [← hlbe] at hlb hcb lbn cFy
  simp only [Int.cast_ofNat_Int] at cFy
  clear hye hlbe hy0 dy0 hlb0 hcb0
  have cFz := few8 c lc0 cc z0 32 w hlc0 hcc0 hcc2 (by omega)
  have hlc := min_take (most := 32) hlc0
  have hz := hz0.take 32
  have dz := dz0.take 32
  have hcc : min lc0 32 ≤ cc := by omega
  have lcn : min lc0 32 ≤ 32 := by omega
  obtain ⟨z, hze⟩ : ∃ l, l = z0.take 32 := ⟨_, rfl⟩
  obtain ⟨lc, hlce⟩ : ∃ m, m = min lc0 32 := ⟨_, rfl⟩
  rw [← hze] at hlc hz dz
  rw [← hlce] at hlc hcc lcn cFz
  simp only [Int.cast_ofNat_Int] at cFz
  clear hze hlce hz0 dz0 hlc0 hcc0
  obtain ⟨X, hX⟩ : ∃ n, n = valD x := ⟨_, rfl⟩
  obtain ⟨Y, hY⟩ : ∃ n, n = valD y := ⟨_, rfl⟩
  obtain ⟨Z, hZ⟩ : ∃ n, n = valD z := ⟨_, rfl⟩
  obtain ⟨AB, hAB⟩ : ∃ n, n = X * Y % LL := ⟨_, rfl⟩
  obtain ⟨S, hS⟩ : ∃ n, n = (X + Y) % LL := ⟨_, rfl⟩
  obtain ⟨SC, hSC⟩ : ∃ n, n = (X + Y) * Z % LL := ⟨_, rfl⟩
  obtain ⟨BC, hBC⟩ : ∃ n, n = Y * Z % LL := ⟨_, rfl⟩
  obtain ⟨ABC, hABC⟩ : ∃ n, n = X * Y * Z % LL := ⟨_, rfl⟩
  obtain ⟨RA, hRA⟩ : ∃ n, n = X % LL := ⟨_, rfl⟩
  have lAB : AB < LL := by rw [hAB]; exact Nat.mod_lt _ LL_pos
  have lS : S < LL := by rw [hS]; exact Nat.mod_lt _ LL_pos
  have lBC : BC < LL := by rw [hBC]; exact Nat.mod_lt _ LL_pos
  have q1 := fun w1 (h1 : View w1 a x) (h2 : View w1 b y) (ht : Tab w1) => ma a la ca x b lb cb y none 0 0 [] AB w1 hla hlb rfl lan lbn (by omega) hca hcb (by omega) hca2 hcb2 (by omega) dx dy dig_nil h1 h2 (view_nil _) ht (by rw [hAB, hX, hY]; simp [valD])
  have q2 := fun w1 (h1 : View w1 a x) (h2 : View w1 b y) (ht : Tab w1) => ma b lb cb y a la ca x none 0 0 [] AB w1 hlb hla rfl lbn lan (by omega) hcb hca (by omega) hcb2 hca2 (by omega) dy dx dig_nil h2 h1 (view_nil _) ht (by rw [hAB, hX, hY, Nat.mul_comm]; simp [valD])
  have q3 := fun w1 go (h1 : View w1 a x) (h2 : View w1 b y) (ho : View w1 (some ⟨go, 0, none⟩) [1]) (ht : Tab w1) => ma a la ca x (some ⟨go, 0, none⟩) 1 1 [1] b lb cb y S w1 hla rfl hlb lan (by omega) lbn hca (by omega) hcb hca2 (by omega) hcb2 dx dig_one dy h1 ho h2 ht (by rw [hS, hX, hY]; simp [valD])
  have q4 := fun w1 a10 k10 (hk : 32 ≤ k10) (hk2 : k10 ≤ 9223372036854775807) (h1 : View w1 a10 (digs 32 S)) (h2 : View w1 c z) (ht : Tab w1) => ma a10 32 k10 (digs 32 S) c lc cc z none 0 0 [] SC w1 (digs_len _ _) hlc rfl (by omega) lcn (by omega) hk hcc (by omega) hk2 hcc2 (by omega) (digs_dig _ _) dz dig_nil h1 h2 (view_nil _) ht (by rw [vR lS, hSC, ← hZ, hS]; exact (mod_l _ _).symm)
  have q5 := fun w1 (h1 : View w1 b y) (h2 : View w1 c z) (ht : Tab w1) => ma b lb cb y c lc cc z none 0 0 [] BC w1 hlb hlc rfl lbn lcn (by omega) hcb hcc (by omega) hcb2 hcc2 (by omega) dy dz dig_nil h1 h2 (view_nil _) ht (by rw [hBC, hY, hZ]; simp [valD])
  have q6 := fun w1 a39 k39 (hk : 32 ≤ k39) (hk2 : k39 ≤ 9223372036854775807) (h1 : View w1 a x) (h2 : View w1 c z) (h3 : View w1 a39 (digs 32 BC)) (ht : Tab w1) => ma a la ca x c lc cc z a39 32 k39 (digs 32 BC) SC w1 hla hlc (digs_len _ _) lan lcn (by omega) hca hcc hk hca2 hcc2 hk2 dx dz (digs_dig _ _) h1 h2 h3 ht (by rw [vR lBC, hSC, ← hX, ← hZ, hBC, mod_a, Nat.add_mul])
  have q7 := fun w1 a8 k8 (hk : 32 ≤ k8) (hk2 : k8 ≤ 9223372036854775807) (h1 : View w1 a8 (digs 32 AB)) (h2 : View w1 c z) (ht : Tab w1) => ma a8 32 k8 (digs 32 AB) c lc cc z none 0 0 [] ABC w1 (digs_len _ _) hlc rfl (by omega) lcn (by omega) hk hcc (by omega) hk2 hcc2 (by omega) (digs_dig _ _) dz dig_nil h1 h2 (view_nil _) ht (by rw [vR lAB, hABC, ← hZ, hAB]; exact (mod_l _ _).symm)
  have q8 := fun w1 a47 k47 (hk : 32 ≤ k47) (hk2 : k47 ≤ 9223372036854775807) (h1 : View w1 a x) (h2 : View w1 a47 (digs 32 BC)) (ht : Tab w1) => ma a la ca x a47 32 k47 (digs 32 BC) none 0 0 [] ABC w1 hla (digs_len _ _) rfl lan (by omega) (by omega) hca hk (by omega) hca2 hk2 (by omega) dx (digs_dig _ _) dig_nil h1 h2 (view_nil _) ht (by rw [vR lBC, hABC, ← hX, hBC, Nat.mul_assoc]; exact (mod_r _ _).symm)
  have cRA : ∀ w1, View w1 a x → Tab w1 → Calls Tryd.prog 9 #[.slice a la ca] w1 fun e w' => ∃ v, e = .returned v ∧ Ref32 w1 w' v RA := fun w1 h1 h2 => by
    have := reduce9 a la ca x w1 hla hca hca2 dx h1 h2
    rw [List.take_of_length_le (by omega), ← hX, ← hRA] at this
    exact this.mono fun e w' ⟨v, h3, h4⟩ => ⟨v, h3, h4.ref⟩
  have cMA : ∀ w1 {go : Nat}, View w1 a x → View w1 (some ⟨go, 0, none⟩) [1] → Tab w1 → Calls Tryd.prog 12 #[.slice a la ca, .slice (some ⟨go, 0, none⟩) 1 1, .slice none 0 0] w1 fun e w' => ∃ v, e = .returned v ∧ Ref32 w1 w' v RA := fun w1 go h1 ho ht =>
    ma a la ca x (some ⟨go, 0, none⟩) 1 1 [1] none 0 0 [] RA w1 hla rfl rfl lan (by omega) (by omega) hca (by omega) (by omega) hca2 (by omega) (by omega) dx dig_one dig_nil h1 ho (view_nil _) ht (by rw [hRA, hX]; simp [valD])
  have c3 : ∀ w1, Tab w1 → Calls Tryd.prog 11 #[] w1 fun e w' => ∃ v, e = .returned v ∧ (v = .bool true ∧ Below w1.heap.size w1 w') := fun w1 ht => (lives11 w1 ht).mono fun e w' ⟨h1, h2⟩ => ⟨_, h1, rfl, h2⟩
  clear hX hY hZ hAB hS hSC hBC hABC hRA lAB lS lBC hla hlb hlc dx dy dz
  go_enter Tryd.func6, Tryd.ntmps6
  go_wp2_with fail
  refine cFx.mono ?_
  rintro e w1 ⟨rfl, rfl⟩
  go_wp2_with fail
  refine cFy.mono ?_
  rintro e w1 ⟨rfl, rfl⟩
  go_wp2_with fail
  refine cFz.mono ?_
  rintro e w1 ⟨rfl, rfl⟩
  clear cFx cFy cFz
  go_wp2_with fail
  have hB1 : Below w.heap.size w (w.alloc (.cells #[.int .u8 1] 5)) := below1 _ _
  have ho0 : (w.alloc (.cells #[.int .u8 1] 5)).heap[w.heap.size]? = some (.cells (ints .u8 [1]) 5 (0, 0)) := heap_alloc_new _ _
  generalize (w.alloc (.cells #[.int .u8 1] 5)) = w1 at hB1 ho0 ⊢
  obtain ⟨go, hgo⟩ : ∃ z, z = w.heap.size := ⟨_, rfl⟩
  rw [← hgo] at ho0 ⊢
  have ho1 : View w1 (some ⟨go, 0, none⟩) [1] := fun _ => ⟨go, 0, rfl, bytes_row ho0⟩
  clear ho0 hgo
  have hx1 := hx.below hB1
  have hy1 := hy.below hB1
  have hz1 := hz.below hB1
  have hT1 := hT.below hB1
  clear hx hy hz hT
  refine (q1 w1 hx1 hy1 hT1).mono ?_
  rintro e w2 ⟨v, rfl, a8, k8, rfl, hk8, hk8', hb2, u8⟩
  have hB2 : Below w.heap.size w w2 := hB1.trans (hb2.mono hB1.size)
  have hx2 := hx1.below hb2
  have hy2 := hy1.below hb2
  have hz2 := hz1.below hb2
  have hT2 := hT1.below hb2
  have ho2 := ho1.below hb2
  clear hx1 hy1 hz1 hT1 ho1 hB1 hb2
  go_wp2_with fail
  refine (q2 w2 hx2 hy2 hT2).mono ?_
  rintro e w3 ⟨v, rfl, a9, k9, rfl, hk9, hk9', hb3, u9⟩
  have hB3 : Below w.heap.size w w3 := hB2.trans (hb3.mono hB2.size)
  have hx3 := hx2.below hb3
  have hy3 := hy2.below hb3
  have hz3 := hz2.below hb3
  have hT3 := hT2.below hb3
  have ho3 := ho2.below hb3
  have u83 := u8.below hb3
  clear hx2 hy2 hz2 hT2 ho2 u8 hB2 hb3
  go_wp2_with fail
  refine (q3 w3 go hx3 hy3 ho3 hT3).mono ?_
  rintro e w4 ⟨v, rfl, a10, k10, rfl, hk10, hk10', hb4, u10⟩
  have hB4 : Below w.heap.size w w4 := hB3.trans (hb4.mono hB3.size)
  have hx4 := hx3.below hb4
  have hy4 := hy3.below hb4
  have hz4 := hz3.below hb4
  have hT4 := hT3.below hb4
  have ho4 := ho3.below hb4
  have u84 := u83.below hb4
  have u94 := u9.below hb4
  clear hx3 hy3 hz3 hT3 ho3 u83 u9 hB3 hb4
  go_wp2_with fail
  refine (q4 w4 a10 k10 hk10 hk10' u10 hz4 hT4).mono ?_
  rintro e w5 ⟨v, rfl, a11, k11, rfl, hk11, hk11', hb5, u11⟩
  have hB5 : Below w.heap.size w w5 := hB4.trans (hb5.mono hB4.size)
  have hx5 := hx4.below hb5
  have hy5 := hy4.below hb5
  have hz5 := hz4.below hb5
  have hT5 := hT4.below hb5
  have ho5 := ho4.below hb5
  have u85 := u84.below hb5
  have u95 := u94.below hb5
  have u105 := u10.below hb5
  clear hx4 hy4 hz4 hT4 ho4 u84 u94 u10 hB4 hb5
  clear u105
  go_wp2_with fail
  refine (q5 w5 hy5 hz5 hT5).mono ?_
  rintro e w6 ⟨v, rfl, a39, k39, rfl, hk39, hk39', hb6, u39⟩
  have hB6 : Below w.heap.size w w6 := hB5.trans (hb6.mono hB5.size)
  have hx6 := hx5.below hb6
  have hy6 := hy5.below hb6
  have hz6 := hz5.below hb6
  have hT6 := hT5.below hb6
  have ho6 := ho5.below hb6
  have u86 := u85.below hb6
  have u96 := u95.below hb6
  have u116 := u11.below hb6
  clear hx5 hy5 hz5 hT5 ho5 u85 u95 u11 hB5 hb6
  go_wp2_with fail
  refine (q6 w6 a39 k39 hk39 hk39' hx6 hz6 u39 hT6).mono ?_
  rintro e w7 ⟨v, rfl, a12, k12, rfl, hk12, hk12', hb7, u12⟩
  have hB7 : Below w.heap.size w w7 := hB6.trans (hb7.mono hB6.size)
  have hx7 := hx6.below hb7
  have hy7 := hy6.below hb7
  have hz7 := hz6.below hb7
  have hT7 := hT6.below hb7
  have ho7 := ho6.below hb7
  have u87 := u86.below hb7
  have u97 := u96.below hb7
  have u117 := u116.below hb7
  have u397 := u39.below hb7
  clear hx6 hy6 hz6 hT6 ho6 u86 u96 u116 u39 hB6 hb7
  clear u397
  go_wp2_with fail
  refine (q7 w7 a8 k8 hk8 hk8' u87 hz7 hT7).mono ?_
  rintro e w8 ⟨v, rfl, a13, k13, rfl, hk13, hk13', hb8, u13⟩
  have hB8 : Below w.heap.size w w8 := hB7.trans (hb8.mono hB7.size)
  have hx8 := hx7.below hb8
  have hy8 := hy7.below hb8
  have hz8 := hz7.below hb8
  have hT8 := hT7.below hb8
  have ho8 := ho7.below hb8
  have u88 := u87.below hb8
  have u98 := u97.below hb8
  have u118 := u117.below hb8
  have u128 := u12.below hb8
  clear hx7 hy7 hz7 hT7 ho7 u87 u97 u117 u12 hB7 hb8
  go_wp2_with fail
  refine (q5 w8 hy8 hz8 hT8).mono ?_
  rintro e w9 ⟨v, rfl, a47, k47, rfl, hk47, hk47', hb9, u47⟩
  have hB9 : Below w.heap.size w w9 := hB8.trans (hb9.mono hB8.size)
  have hx9 := hx8.below hb9
  have hy9 := hy8.below hb9
  have hz9 := hz8.below hb9
  have hT9 := hT8.below hb9
  have ho9 := ho8.below hb9
  have u89 := u88.below hb9
  have u99 := u98.below hb9
  have u119 := u118.below hb9
  have u129 := u128.below hb9
  have u139 := u13.below hb9
  clear hx8 hy8 hz8 hT8 ho8 u88 u98 u118 u128 u13 hB8 hb9
  go_wp2_with fail
  refine (q8 w9 a47 k47 hk47 hk47' hx9 u47 hT9).mono ?_
  rintro e w10 ⟨v, rfl, a14, k14, rfl, hk14, hk14', hb10, u14⟩
  have hB10 : Below w.heap.size w w10 := hB9.trans (hb10.mono hB9.size)
  have hx10 := hx9.below hb10
  have hy10 := hy9.below hb10
  have hz10 := hz9.below hb10
  have hT10 := hT9.below hb10
  have ho10 := ho9.below hb10
  have u810 := u89.below hb10
  have u910 := u99.below hb10
  have u1110 := u119.below hb10
  have u1210 := u129.below hb10
  have u1310 := u139.below hb10
  have u4710 := u47.below hb10
  clear hx9 hy9 hz9 hT9 ho9 u89 u99 u119 u129 u139 u47 hB9 hb10
  clear u4710
  go_wp2_with fail
  have hx := hx10
  have ho := ho10
  have hT := hT10
  have hB := hB10
  have v8 := u810
  have v9 := u910
  have v11 := u1110
  have v12 := u1210
  have v13 := u1310
  have v14 := u14
  clear hx10 hy10 hz10 hT10 ho10 u810 u910 u1110 u1210 u1310 u14 hB10
  have hS0 : Below w10.heap.size w10 w10.drew := (Below.refl _ _).drew
  refine wp_region_held (S := fun w' => Below w10.heap.size w10 w') (by kernel_rfl) ?_
  show wpAnyH _ _ _ _ _ 33 (Array.replicate 33 false) _ w10.drew
  refine take_at (i := 0) (some 49) _ rfl rfl (by kernel_rfl) (by kernel_rfl) (by kernel_rfl) (fun _ _ _ h => h) (yields_runG (v := .slice a8 32 k8) (by kernel_rfl) fun w' hw' => BigFrame.run_move (.tmp 8) rfl w') hS0 ?_
  simp only [Act.put, List.setIfInBounds_toArray, List.set_cons_succ, List.set_cons_zero]
  refine take_at (i := 1) (some 50) _ rfl rfl (by kernel_rfl) (by kernel_rfl) (by kernel_rfl) (fun _ _ _ h => h) (yields_runG (v := .string (strOf (digs 32 AB))) (by kernel_rfl) fun w' hw' => run_convertO (toString_view (cap := k8) (digs_len _ _) (v8.below hw')) rfl) hS0 ?_
  simp only [Act.put, List.setIfInBounds_toArray, List.set_cons_succ, List.set_cons_zero]
  refine take_at (i := 2) (some 51) _ rfl rfl (by kernel_rfl) (by kernel_rfl) (by kernel_rfl) (fun _ _ _ h => h) (yields_runG (v := .slice a9 32 k9) (by kernel_rfl) fun w' hw' => BigFrame.run_move (.tmp 9) rfl w') hS0 ?_
  simp only [Act.put, List.setIfInBounds_toArray, List.set_cons_succ, List.set_cons_zero]
  refine take_at (i := 3) (some 52) _ rfl rfl (by kernel_rfl) (by kernel_rfl) (by kernel_rfl) (fun _ _ _ h => h) (yields_runG (v := .string (strOf (digs 32 AB))) (by kernel_rfl) fun w' hw' => run_convertO (toString_view (cap := k9) (digs_len _ _) (v9.below hw')) rfl) hS0 ?_
  simp only [Act.put, List.setIfInBounds_toArray, List.set_cons_succ, List.set_cons_zero]
  refine take_at (i := 4) (some 53) _ rfl rfl (by kernel_rfl) (by kernel_rfl) (by kernel_rfl) (fun _ _ _ h => h) (yields_runG (v := .bool true) (by kernel_rfl) fun w' hw' => run_eqStrB (x := .tmp 50) (y := .tmp 52) (str_refl _) rfl rfl rfl) hS0 ?_
  simp only [Act.put, List.setIfInBounds_toArray, List.set_cons_succ, List.set_cons_zero]
  refine take_at (i := 5) (some 54) _ rfl rfl (by kernel_rfl) (by kernel_rfl) (by kernel_rfl) (fun _ _ _ h => h) (yields_runG (v := .bool true) (by kernel_rfl) fun w' hw' => BigFrame.run_move (.tmp 53) rfl w') hS0 ?_
  simp only [Act.put, List.setIfInBounds_toArray, List.set_cons_succ, List.set_cons_zero]
  refine take_at (i := 6) (some 55) _ rfl rfl (by kernel_rfl) (by kernel_rfl) (by kernel_rfl) (fun _ _ _ h => h) (yields_runG (v := .slice a11 32 k11) (by kernel_rfl) fun w' hw' => BigFrame.run_move (.tmp 11) rfl w') hS0 ?_
  simp only [Act.put, List.setIfInBounds_toArray, List.set_cons_succ, List.set_cons_zero]
  refine take_at (i := 7) (some 56) _ rfl rfl (by kernel_rfl) (by kernel_rfl) (by kernel_rfl) (fun _ _ _ h => h) (yields_runG (v := .string (strOf (digs 32 SC))) (by kernel_rfl) fun w' hw' => run_convertO (toString_view (cap := k11) (digs_len _ _) (v11.below hw')) rfl) hS0 ?_
  simp only [Act.put, List.setIfInBounds_toArray, List.set_cons_succ, List.set_cons_zero]
  refine take_at (i := 8) (some 57) _ rfl rfl (by kernel_rfl) (by kernel_rfl) (by kernel_rfl) (fun _ _ _ h => h) (yields_runG (v := .slice a12 32 k12) (by kernel_rfl) fun w' hw' => BigFrame.run_move (.tmp 12) rfl w') hS0 ?_
  simp only [Act.put, List.setIfInBounds_toArray, List.set_cons_succ, List.set_cons_zero]
  refine take_at (i := 9) (some 58) _ rfl rfl (by kernel_rfl) (by kernel_rfl) (by kernel_rfl) (fun _ _ _ h => h) (yields_runG (v := .string (strOf (digs 32 SC))) (by kernel_rfl) fun w' hw' => run_convertO (toString_view (cap := k12) (digs_len _ _) (v12.below hw')) rfl) hS0 ?_
  simp only [Act.put, List.setIfInBounds_toArray, List.set_cons_succ, List.set_cons_zero]
  refine take_at (i := 10) (some 59) _ rfl rfl (by kernel_rfl) (by kernel_rfl) (by kernel_rfl) (fun _ _ _ h => h) (yields_runG (v := .bool true) (by kernel_rfl) fun w' hw' => run_eqStrB (x := .tmp 56) (y := .tmp 58) (str_refl _) rfl rfl rfl) hS0 ?_
  simp only [Act.put, List.setIfInBounds_toArray, List.set_cons_succ, List.set_cons_zero]
  refine take_at (i := 11) (some 60) _ rfl rfl (by kernel_rfl) (by kernel_rfl) (by kernel_rfl) (fun _ _ _ h => h) (yields_runG (v := .bool true) (by kernel_rfl) fun w' hw' => by kernel_rfl) hS0 ?_
  simp only [Act.put, List.setIfInBounds_toArray, List.set_cons_succ, List.set_cons_zero]
  refine take_at (i := 12) (some 61) _ rfl rfl (by kernel_rfl) (by kernel_rfl) (by kernel_rfl) (fun _ _ _ h => h) (yields_runG (v := .bool true) (by kernel_rfl) fun w' hw' => BigFrame.run_move (.tmp 60) rfl w') hS0 ?_
  simp only [Act.put, List.setIfInBounds_toArray, List.set_cons_succ, List.set_cons_zero]
  refine take_at (i := 13) (some 62) _ rfl rfl (by kernel_rfl) (by kernel_rfl) (by kernel_rfl) (fun _ _ _ h => h) (yields_runG (v := .slice a13 32 k13) (by kernel_rfl) fun w' hw' => BigFrame.run_move (.tmp 13) rfl w') hS0 ?_
  simp only [Act.put, List.setIfInBounds_toArray, List.set_cons_succ, List.set_cons_zero]
  refine take_at (i := 14) (some 63) _ rfl rfl (by kernel_rfl) (by kernel_rfl) (by kernel_rfl) (fun _ _ _ h => h) (yields_runG (v := .string (strOf (digs 32 ABC))) (by kernel_rfl) fun w' hw' => run_convertO (toString_view (cap := k13) (digs_len _ _) (v13.below hw')) rfl) hS0 ?_
  simp only [Act.put, List.setIfInBounds_toArray, List.set_cons_succ, List.set_cons_zero]
  refine take_at (i := 15) (some 64) _ rfl rfl (by kernel_rfl) (by kernel_rfl) (by kernel_rfl) (fun _ _ _ h => h) (yields_runG (v := .slice a14 32 k14) (by kernel_rfl) fun w' hw' => BigFrame.run_move (.tmp 14) rfl w') hS0 ?_
  simp only [Act.put, List.setIfInBounds_toArray, List.set_cons_succ, List.set_cons_zero]
  refine take_at (i := 16) (some 65) _ rfl rfl (by kernel_rfl) (by kernel_rfl) (by kernel_rfl) (fun _ _ _ h => h) (yields_runG (v := .string (strOf (digs 32 ABC))) (by kernel_rfl) fun w' hw' => run_convertO (toString_view (cap := k14) (digs_len _ _) (v14.below hw')) rfl) hS0 ?_
  simp only [Act.put, List.setIfInBounds_toArray, List.set_cons_succ, List.set_cons_zero]
  refine take_at (i := 17) (some 66) _ rfl rfl (by kernel_rfl) (by kernel_rfl) (by kernel_rfl) (fun _ _ _ h => h) (yields_runG (v := .bool true) (by kernel_rfl) fun w' hw' => run_eqStrB (x := .tmp 63) (y := .tmp 65) (str_refl _) rfl rfl rfl) hS0 ?_
  simp only [Act.put, List.setIfInBounds_toArray, List.set_cons_succ, List.set_cons_zero]
  refine take_at (i := 18) (some 67) _ rfl rfl (by kernel_rfl) (by kernel_rfl) (by kernel_rfl) (fun _ _ _ h => h) (yields_runG (v := .bool true) (by kernel_rfl) fun w' hw' => by kernel_rfl) hS0 ?_
  simp only [Act.put, List.setIfInBounds_toArray, List.set_cons_succ, List.set_cons_zero]
  refine take_at (i := 19) (some 68) _ rfl rfl (by kernel_rfl) (by kernel_rfl) (by kernel_rfl) (fun _ _ _ h => h) (yields_runG (v := .bool true) (by kernel_rfl) fun w' hw' => BigFrame.run_move (.tmp 67) rfl w') hS0 ?_
  simp only [Act.put, List.setIfInBounds_toArray, List.set_cons_succ, List.set_cons_zero]
  refine take_at (i := 20) (some 69) _ rfl rfl (by kernel_rfl) (by kernel_rfl) (by kernel_rfl) (fun _ _ _ h => h) (yields_runG (v := .slice a la ca) (by kernel_rfl) fun w' hw' => BigFrame.run_move (.tmp 0) rfl w') hS0 ?_
  simp only [Act.put, List.setIfInBounds_toArray, List.set_cons_succ, List.set_cons_zero]
  refine take_at (i := 23) (some 72) _ rfl rfl (by kernel_rfl) (by kernel_rfl) (by kernel_rfl) (fun _ _ _ h => h) (yields_runG (v := .slice a la ca) (by kernel_rfl) fun w' hw' => BigFrame.run_move (.tmp 0) rfl w') hS0 ?_
  simp only [Act.put, List.setIfInBounds_toArray, List.set_cons_succ, List.set_cons_zero]
  refine take_at (i := 24) (some 73) _ rfl rfl (by kernel_rfl) (by kernel_rfl) (by kernel_rfl) (fun _ _ _ h => h) (yields_runG (v := .slice (some ⟨go, 0, none⟩) 1 1) (by kernel_rfl) fun w' hw' => BigFrame.run_move (.tmp 7) rfl w') hS0 ?_
  simp only [Act.put, List.setIfInBounds_toArray, List.set_cons_succ, List.set_cons_zero]
  refine one_at (i := 21) (by kernel_rfl) ?_
  refine call_atG (some 70) rfl (by kernel_rfl) rfl 9 #[.slice a la ca] (R := fun v w' => Ref32 w10.drew w' v RA) (by kernel_rfl) (cRA w10.drew (hx.below hS0) (hT.below hS0)) ?_
  rintro v1 w1 ⟨a70, k70, rfl, _, _, hb70, hv70⟩
  have hb1' : Below w10.heap.size w10 w1 := hS0.trans (hb70.mono hS0.size)
  have hB1 : Below w.heap.size w w1 := hB.trans (hb1'.mono hB.size)
  have hx_1 := hx.below hb1'
  have ho_1 := ho.below hb1'
  have hT_1 := hT.below hb1'
  have v8_1 := v8.below hb1'
  have v9_1 := v9.below hb1'
  have v11_1 := v11.below hb1'
  have v12_1 := v12.below hb1'
  have v13_1 := v13.below hb1'
  have v14_1 := v14.below hb1'
  refine ⟨hb1', ?_⟩
  refine strengthen (S' := fun w' => Below w1.heap.size w1 w') (fun _ h => hb1'.trans (h.mono hb1'.size)) _ _ _ _ ?_
  have hS1 : Below w1.heap.size w1 w1 := Below.refl _ _
  clear hS0 hx ho hT v8 v9 v11 v12 v13 v14
  simp only [Act.put, List.setIfInBounds_toArray, List.set_cons_succ, List.set_cons_zero]
  refine take_at (i := 22) (some 71) _ rfl rfl (by kernel_rfl) (by kernel_rfl) (by kernel_rfl) (fun _ _ _ h => h) (yields_runG (v := .string (strOf (digs 32 RA))) (by kernel_rfl) fun w' hw' => run_convertO (toString_view (cap := k70) (digs_len _ _) (hv70.below hw')) rfl) hS1 ?_
  simp only [Act.put, List.setIfInBounds_toArray, List.set_cons_succ, List.set_cons_zero]
  refine one_at (i := 25) (by kernel_rfl) ?_
  refine call_atG (some 74) rfl (by kernel_rfl) rfl 12 #[.slice a la ca, .slice (some ⟨go, 0, none⟩) 1 1, .slice none 0 0] (R := fun v w' => Ref32 w1 w' v RA) (by kernel_rfl) (cMA w1 (hx_1.below hS1) (ho_1.below hS1) (hT_1.below hS1)) ?_
  rintro v2 w2 ⟨a74, k74, rfl, _, _, hb74, hv74⟩
  have hb2' : Below w1.heap.size w1 w2 := hS1.trans (hb74.mono hS1.size)
  have hB2 : Below w.heap.size w w2 := hB1.trans (hb2'.mono hB1.size)
  have hx_2 := hx_1.below hb2'
  have ho_2 := ho_1.below hb2'
  have hT_2 := hT_1.below hb2'
  have v8_2 := v8_1.below hb2'
  have v9_2 := v9_1.below hb2'
  have v11_2 := v11_1.below hb2'
  have v12_2 := v12_1.below hb2'
  have v13_2 := v13_1.below hb2'
  have v14_2 := v14_1.below hb2'
  have hv70_2 := hv70.below hb2'
  refine ⟨hb2', ?_⟩
  refine strengthen (S' := fun w' => Below w2.heap.size w2 w') (fun _ h => hb2'.trans (h.mono hb2'.size)) _ _ _ _ ?_
  have hS2 : Below w2.heap.size w2 w2 := Below.refl _ _
  clear hS1 hx_1 ho_1 hT_1 v8_1 v9_1 v11_1 v12_1 v13_1 v14_1 hv70
  simp only [Act.put, List.setIfInBounds_toArray, List.set_cons_succ, List.set_cons_zero]
  refine take_at (i := 26) (some 75) _ rfl rfl (by kernel_rfl) (by kernel_rfl) (by kernel_rfl) (fun _ _ _ h => h) (yields_runG (v := .string (strOf (digs 32 RA))) (by kernel_rfl) fun w' hw' => run_convertO (toString_view (cap := k74) (digs_len _ _) (hv74.below hw')) rfl) hS2 ?_
  simp only [Act.put, List.setIfInBounds_toArray, List.set_cons_succ, List.set_cons_zero]
  refine one_at (i := 27) (by kernel_rfl) ?_
  refine run_atG (some 76) (.bool true) rfl (by kernel_rfl) rfl (run_eqStrB (x := .tmp 71) (y := .tmp 75) (str_refl _) rfl rfl rfl) ?_
  refine ⟨hS2, ?_⟩
  simp only [Act.put, List.setIfInBounds_toArray, List.set_cons_succ, List.set_cons_zero]
  refine one_at (i := 28) (by kernel_rfl) ?_
  refine run_atG (some 77) (.bool true) rfl (by kernel_rfl) rfl (by kernel_rfl) ?_
  refine ⟨hS2, ?_⟩
  simp only [Act.put, List.setIfInBounds_toArray, List.set_cons_succ, List.set_cons_zero]
  refine one_at (i := 29) (by kernel_rfl) ?_
  refine run_atG (some 78) (.bool true) rfl (by kernel_rfl) rfl (BigFrame.run_move (.tmp 77) rfl _) ?_
  refine ⟨hS2, ?_⟩
  simp only [Act.put, List.setIfInBounds_toArray, List.set_cons_succ, List.set_cons_zero]
  refine one_at (i := 30) (by kernel_rfl) ?_
  refine call_atG (some 79) rfl (by kernel_rfl) rfl 11 #[] (R := fun v w' => v = .bool true ∧ Below w2.heap.size w2 w') (by kernel_rfl) (c3 w2 (hT_2.below hS2)) ?_
  rintro v3 w3 ⟨rfl, hb79⟩
  have hb3' : Below w2.heap.size w2 w3 := hS2.trans (hb79.mono hS2.size)
  have hB3 : Below w.heap.size w w3 := hB2.trans (hb3'.mono hB2.size)
  have hx_3 := hx_2.below hb3'
  have ho_3 := ho_2.below hb3'
  have hT_3 := hT_2.below hb3'
  have v8_3 := v8_2.below hb3'
  have v9_3 := v9_2.below hb3'
  have v11_3 := v11_2.below hb3'
  have v12_3 := v12_2.below hb3'
  have v13_3 := v13_2.below hb3'
  have v14_3 := v14_2.below hb3'
  have hv70_3 := hv70_2.below hb3'
  have hv74_3 := hv74.below hb3'
  refine ⟨hb3', ?_⟩
  refine strengthen (S' := fun w' => Below w3.heap.size w3 w') (fun _ h => hb3'.trans (h.mono hb3'.size)) _ _ _ _ ?_
  have hS3 : Below w3.heap.size w3 w3 := Below.refl _ _
  clear hS2 hx_2 ho_2 hT_2 v8_2 v9_2 v11_2 v12_2 v13_2 v14_2 hv70_2 hv74
  simp only [Act.put, List.setIfInBounds_toArray, List.set_cons_succ, List.set_cons_zero]
  refine one_at (i := 31) (by kernel_rfl) ?_
  refine run_atG (some 80) (.bool true) rfl (by kernel_rfl) rfl (by kernel_rfl) ?_
  refine ⟨hS3, ?_⟩
  simp only [Act.put, List.setIfInBounds_toArray, List.set_cons_succ, List.set_cons_zero]
  refine one_at (i := 32) (by kernel_rfl) ?_
  refine run_atG (some 6) (.bool true) rfl (by kernel_rfl) rfl (run_assignO (.tmp 80) rfl _) ?_
  simp only [Act.put, List.setIfInBounds_toArray, List.set_cons_succ, List.set_cons_zero]
  refine ⟨hS3, wpAnyH_done (by kernel_rfl) ?_ _⟩
  have hfin := hB3
  clear hx_3 ho_3 hT_3 v8_3 v9_3 v11_3 v12_3 v13_3 v14_3 hv70_3 hv74_3 hS3
  go_wp2
  go_ret
  exact ⟨rfl, hfin⟩
theorem scalarLess7 (a : Option Addr) (len cap : Nat) (bs : List Nat) (w : World) (hlen : bs.length = len) (hd : Dig bs) (hcap : len ≤ cap) (hcap2 : cap ≤ 9223372036854775807) (hv0 : View w a bs) (hT : Tab w) :
    Calls Tryd.prog 7 #[.slice a len cap] w fun e w' => e = .returned (.bool true) ∧ Below w.heap.size w w' := by
  have cF := few8 a len cap bs 64 w hlen hcap hcap2 (by omega)
  have hm := min_take (most := 64) hlen
  have hv := hv0.take 64
  have hd64 := hd.take 64
  have hmc : min len 64 ≤ cap := by omega
  obtain ⟨ds, hds⟩ : ∃ l, l = bs.take 64 := ⟨_, rfl⟩
  obtain ⟨m, hme⟩ : ∃ m, m = min len 64 := ⟨_, rfl⟩
  rw [← hds] at hm hv hd64
  rw [← hme] at hm hmc cF
  simp only [Int.cast_ofNat_Int] at cF
  have c1 := reduce9 a m cap ds w hm hmc hcap2 hd64 hv hT
  have hRl : valD (ds.take 64) % LL < LL := Nat.mod_lt _ LL_pos
  obtain ⟨R, hR⟩ : ∃ R, R = valD (ds.take 64) % LL := ⟨_, rfl⟩
  rw [← hR] at c1 hRl
  have cB := fun w1 g (h : w1.heap[g]? = some (.cells (ints .i64 (digs 32 LL)) 3 (0, 0))) => bytes16 (some ⟨g, 0, none⟩) 32 32 (digs 32 LL) w1 (digs_len _ _) (by omega) (digs_dig _ _) (fun _ => ⟨g, 0, rfl, ints_row h⟩)
  rw [valL] at cB
  have cM := fun w1 gr go al kl (hk : 32 ≤ kl) (hk2 : kl ≤ 9223372036854775807) (h1 : View w1 (some ⟨gr, 0, none⟩) (digs 32 R)) (h2 : View w1 (some ⟨go, 0, none⟩) [1]) (h3 : View w1 al (digs 32 LL)) (ht : Tab w1) => ma (some ⟨gr, 0, none⟩) 32 32 (digs 32 R) (some ⟨go, 0, none⟩) 1 1 [1] al 32 kl (digs 32 LL) R w1 (digs_len _ _) rfl (digs_len _ _) (by omega) (by omega) (by omega) (by omega) (by omega) hk (by omega) (by omega) hk2 (digs_dig _ _) dig_one (digs_dig _ _) h1 h2 h3 ht (by rw [vR hRl, valL, show valD [1] = 1 from rfl, Nat.mul_one, Nat.add_mod_right, Nat.mod_eq_of_lt hRl])
  have cD := fun w1 gr (h1 : View w1 (some ⟨gr, 0, none⟩) (digs 32 R)) => digits19 (some ⟨gr, 0, none⟩) 32 32 (digs 32 R) w1 (digs_len _ _) (by omega) (by omega) (digs_dig _ _) h1
  have cL := fun w1 a20 k20 g (h1 : IView w1 a20 (digs 32 R)) (h : w1.heap[g]? = some (.cells (ints .i64 (digs 32 LL)) 3 (0, 0))) => less18 a20 32 k20 (digs 32 R) (some ⟨g, 0, none⟩) 32 32 (digs 32 LL) w1 (digs_len _ _) (digs_len _ _) (by omega) (by omega) h1 (fun _ => ⟨g, 0, rfl, ints_row h⟩) (digs_dig _ _) (digs_dig _ _)
  rw [vR hRl, valL, decide_eq_true hRl] at cL
  have hst := fun w1 a1 k1 (h : View w1 a1 (digs 32 R)) => toString_view (w := w1) (a := a1) (cap := k1) (digs_len 32 R) h
  have hse := str_refl (digs 32 R)
  clear hR hds hme hm hd hd64 hv0 hlen hRl
  go_enter Tryd.func7, Tryd.ntmps7
  go_wp2_with fail
  refine cF.mono ?_
  rintro e w0 ⟨rfl, rfl⟩
  go_wp2_with fail
  refine c1.mono ?_
  rintro e w1 ⟨v, rfl, gr, rfl, _, hB1, hrow⟩
  have r1 : View w1 (some ⟨gr, 0, none⟩) (digs 32 R) := fun _ => ⟨gr, 0, rfl, bytes_row hrow⟩
  clear c1 cF hrow hv
  go_wp2_with fail
  refine (ref_L17 w1).mono ?_
  rintro e w2 ⟨g2, rfl, hL2⟩
  have hB2 := hB1.trans (hL2.1.mono hB1.size)
  have r2 := r1.below hL2.1
  clear r1 hB1
  go_wp2_with fail
  refine (cB w2 g2 hL2.2.2).mono ?_
  rintro e w3 ⟨v, rfl, hb3, hown3⟩
  obtain ⟨al, kl, rfl, hkl, hkl2⟩ := own_slice hown3
  have l3 := (own_bview hown3).1
  have hB3 := hB2.trans (hb3.mono hB2.size)
  have r3 := r2.below hb3
  clear r2 hB2 hown3 hL2 hb3 cB
  go_wp2_with fail
  have hb4 : Below w3.heap.size w3 (w3.alloc (.cells #[.int .u8 1] 5)) := below1 _ _
  have ho0 : (w3.alloc (.cells #[.int .u8 1] 5)).heap[w3.heap.size]? = some (.cells (ints .u8 [1]) 5 (0, 0)) := heap_alloc_new _ _
  generalize (w3.alloc (.cells #[.int .u8 1] 5)) = w4 at hb4 ho0 ⊢
  have hB4 := hB3.trans (hb4.mono hB3.size)
  have r4 := r3.below hb4
  have l4 := l3.below hb4
  generalize w3.heap.size = go at ho0 ⊢
  have ho1 : View w4 (some ⟨go, 0, none⟩) [1] := fun _ => ⟨go, 0, rfl, bytes_row ho0⟩
  clear ho0 hb4 r3 l3 hB3
  refine (cM w4 gr go al kl hkl hkl2 r4 ho1 l4 (hT.below hB4)).mono ?_
  rintro e w5 ⟨v, rfl, am, km, rfl, _, _, hb5, m5⟩
  have hB5 := hB4.trans (hb5.mono hB4.size)
  have r5 := r4.below hb5
  clear r4 l4 ho1 hb5 hB4 cM
  go_wp2_with fail
  refine (cD w5 gr r5).mono ?_
  rintro e w6 ⟨v, rfl, hb6, hown6⟩
  obtain ⟨a20, k20, rfl, _, _, i6, _⟩ := own_irow hown6
  have hB6 := hB5.trans (hb6.mono hB5.size)
  have r6 := r5.below hb6
  have m6 := m5.below hb6
  clear r5 m5 hb6 hB5 cD hown6
  go_wp2_with fail
  refine (ref_L17 w6).mono ?_
  rintro e w7 ⟨g7, rfl, hL7⟩
  have hB7 := hB6.trans (hL7.1.mono hB6.size)
  have r7 := r6.below hL7.1
  have m7 := m6.below hL7.1
  have i7 := i6.below hL7.1
  clear r6 m6 i6 hB6
  go_wp2_with fail
  refine (cL w7 a20 k20 g7 i7 hL7.2.2).mono ?_
  rintro e w8 ⟨rfl, rfl⟩
  have s1 := hst w8 _ 32 r7
  have s2 := hst w8 am km m7
  clear r7 m7 i7 cL hL7 hst
  go_wp2_with fail
  refine (lives11 w8 (hT.below hB7)).mono ?_
  rintro e w9 ⟨rfl, hb9⟩
  have hB9 := hB7.trans (hb9.mono hB7.size)
  clear s1 s2
  go_wp2
  go_ret
  exact ⟨rfl, hB9⟩
end Go.Proofs.YtoehjkebfpoigaaDoor
