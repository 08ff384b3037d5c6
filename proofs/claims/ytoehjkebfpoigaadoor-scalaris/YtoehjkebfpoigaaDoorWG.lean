/-
  The walks of Reduce, MulAdd, Is.
-/
import Derived.Test.YtoehjkebfpoigaaDoorWF
set_option linter.unusedVariables false
namespace Go.Proofs.YtoehjkebfpoigaaDoor
open Go.RowKit Go.Sort Go.BigFrame
set_option maxRecDepth 100000
set_option maxHeartbeats 2000000
theorem LL_pos : 0 < LL := by decide
theorem modLI (N : Nat) : (N : Int) % LI = ((N % LL : Nat) : Int) := by rw [LI_LL]; simp
/-- A new row of 32 bytes. -/
def New32 (w w' : World) (v : Value) (R : Nat) : Prop := ∃ gb, v = .slice (some ⟨gb, 0, none⟩) 32 32 ∧ w.heap.size ≤ gb ∧ Below w.heap.size w w' ∧ w'.heap[gb]? = some (.cells (ints .u8 (digs 32 R)) 5 (0, 0))
theorem take_min (most len : Nat) : ∃ n, (n = len ∧ len ≤ most) ∨ (n = most ∧ most < len) := by
  by_cases h : len ≤ most
  · exact ⟨len, .inl ⟨rfl, h⟩⟩
  · exact ⟨most, .inr ⟨rfl, by omega⟩⟩
theorem valD_take_lt2 {l : List Nat} (h : Dig l) (k : Nat) : valD (l.take k) < 256 ^ k := valD_take_lt h k
theorem reduce9 (a : Option Addr) (len cap : Nat) (bs : List Nat) (w : World) (hlen : Hid (bs.length = len)) (hcap : len ≤ cap) (hcap2 : cap ≤ 9223372036854775807) (hd : Dig bs) (hv : View w a bs) (hT : Tab w) :
    Calls Tryd.prog 9 #[.slice a len cap] w fun e w' => ∃ v, e = .returned v ∧ New32 w w' v (valD (bs.take 64) % LL) := by
  obtain ⟨n, hn⟩ := take_min 64 len
  have h0 : (w.alloc (.cells (zints (List.replicate 19 0)) 35)).heap[w.heap.size]? = some (.cells (zints (List.replicate 19 0)) 35 (0, 0)) := heap_alloc_new _ _
  have cR := read20 w.heap.size a len cap bs 64 n w (w.alloc (.cells (zints (List.replicate 19 0)) 35)) hn hlen hcap hcap2 (by omega) hd hv (below1 _ _) (Nat.le_refl _) h0
  have hN := valD_take_lt hd 64
  have hpos := hT.pos
  have hT1 : Tab (w.alloc (.cells (zints (List.replicate 19 0)) 35)) := hT.below (below1 _ _)
  have hB1 : Below w.heap.size w (w.alloc (.cells (zints (List.replicate 19 0)) 35)) := below1 _ _
  obtain ⟨N, hNe⟩ : ∃ N, N = valD (bs.take 64) := ⟨_, rfl⟩
  rw [← hNe] at cR hN ⊢
  have hN2 : (N : Int) < 268435456 ^ 19 := by
    have : N < 268435456 ^ 19 := Nat.lt_trans hN (by decide)
    have e : ((268435456 ^ 19 : Nat) : Int) = (268435456 : Int) ^ 19 := by decide
    rw [← e]; exact_mod_cast this
  have HN2 : Hid ((N : Int) < 268435456 ^ 19) := hN2
  clear hNe hn hlen hv hT hN hN2 h0 hd
  have ez : zints (List.replicate 19 0) = #[.int .i64 0, .int .i64 0, .int .i64 0, .int .i64 0, .int .i64 0, .int .i64 0, .int .i64 0, .int .i64 0, .int .i64 0, .int .i64 0, .int .i64 0, .int .i64 0, .int .i64 0, .int .i64 0, .int .i64 0, .int .i64 0, .int .i64 0, .int .i64 0, .int .i64 0] := rfl
  rw [ez] at cR hT1 hB1
  clear ez
  go_enter Tryd.func9, Tryd.ntmps9
  go_wp2_with fail
  generalize (w.alloc (.cells #[.int .i64 0, .int .i64 0, .int .i64 0, .int .i64 0, .int .i64 0, .int .i64 0, .int .i64 0, .int .i64 0, .int .i64 0, .int .i64 0, .int .i64 0, .int .i64 0, .int .i64 0, .int .i64 0, .int .i64 0, .int .i64 0, .int .i64 0, .int .i64 0, .int .i64 0] 35)) = w1 at cR hT1 hB1 ⊢
  simp only [Int.cast_ofNat_Int] at cR
  refine cR.mono ?_
  rintro e w2 ⟨rfl, hR2⟩
  have cD := reduce21 w.heap.size (N : Int) w2 (by omega) HN2.out hR2.2 (hT1.frm hR2.1 (by omega)) (by omega)
  rw [modLI] at cD
  go_wp2_with fail
  refine cD.mono ?_
  rintro e w3 ⟨rfl, hR3⟩
  have cB := bytes22 w.heap.size (N % LL) w3 (Nat.mod_lt _ LL_pos) hR3.2
  have hB3 : Below w.heap.size w w3 := hR3.1.below (hR2.1.below hB1 (Nat.le_refl _)) (Nat.le_refl _)
  go_wp2_with fail
  refine cB.mono ?_
  rintro e w4 ⟨gb, rfl, hgb, hB4, hrow⟩
  go_wp2
  go_ret
  exact ⟨_, rfl, gb, rfl, by have := hB3.size; omega, hB3.trans (hB4.mono hB3.size), hrow⟩

theorem mulAdd12 (a : Option Addr) (la ca : Nat) (x : List Nat) (b : Option Addr) (lb cb : Nat) (y : List Nat) (c : Option Addr) (lc cc : Nat) (z : List Nat) (w : World) (hla : Hid (x.length = la)) (hlb : Hid (y.length = lb)) (hlc : Hid (z.length = lc)) (hca : la ≤ ca) (hca2 : ca ≤ 9223372036854775807) (hcb : lb ≤ cb) (hcb2 : cb ≤ 9223372036854775807) (hcc : lc ≤ cc) (hcc2 : cc ≤ 9223372036854775807)
    (dx : Dig x) (dy : Dig y) (dz : Dig z) (hx : View w a x) (hy : View w b y) (hz : View w c z) (hT : Tab w) :
    Calls Tryd.prog 12 #[.slice a la ca, .slice b lb cb, .slice c lc cc] w fun e w' => ∃ v, e = .returned v ∧ New32 w w' v ((valD (x.take 32) * valD (y.take 32) + valD (z.take 32)) % LL) := by
  obtain ⟨n1, hn1⟩ := take_min 32 la
  obtain ⟨n2, hn2⟩ := take_min 32 lb
  obtain ⟨n3, hn3⟩ := take_min 32 lc
  obtain ⟨Z, hZ⟩ : ∃ Z, Z = zints (List.replicate 19 0) := ⟨_, rfl⟩
  have i0 : (((w.alloc (.cells Z 35)).alloc (.cells Z 35)).alloc (.cells Z 35)).heap[w.heap.size]? = some (.cells Z 35 (0, 0)) := heap3_0 _ _ _ _
  have i1 : (((w.alloc (.cells Z 35)).alloc (.cells Z 35)).alloc (.cells Z 35)).heap[w.heap.size + 1]? = some (.cells Z 35 (0, 0)) := heap3_1 _ _ _ _
  have i2 : (((w.alloc (.cells Z 35)).alloc (.cells Z 35)).alloc (.cells Z 35)).heap[w.heap.size + 1 + 1]? = some (.cells Z 35 (0, 0)) := heap3_2 _ _ _ _
  have hB1 : Below w.heap.size w (((w.alloc (.cells Z 35)).alloc (.cells Z 35)).alloc (.cells Z 35)) := below3 _ _ _ _
  have cR1 := fun w1 (hB : Below w.heap.size w w1) (hg : w1.heap[w.heap.size]? = some (.cells Z 35 (0, 0))) => read20 w.heap.size a la ca x 32 n1 w w1 hn1 hla hca hca2 (by omega) dx hx hB (Nat.le_refl _) (by rw [← hZ]; exact hg)
  have cR2 := fun w1 (hB : Below w.heap.size w w1) (hg : w1.heap[w.heap.size + 1]? = some (.cells Z 35 (0, 0))) => read20 (w.heap.size + 1) b lb cb y 32 n2 w w1 hn2 hlb hcb hcb2 (by omega) dy hy hB (by omega) (by rw [← hZ]; exact hg)
  have cR3 := fun w1 (hB : Below w.heap.size w w1) (hg : w1.heap[w.heap.size + 1 + 1]? = some (.cells Z 35 (0, 0))) => read20 (w.heap.size + 1 + 1) c lc cc z 32 n3 w w1 hn3 hlc hcc hcc2 (by omega) dz hz hB (by omega) (by rw [← hZ]; exact hg)
  simp only [Int.cast_ofNat_Int] at cR1 cR2 cR3
  have hpos := hT.pos
  have hX := valD_take_lt dx 32
  have hY := valD_take_lt dy 32
  have hZ3 := valD_take_lt dz 32
  obtain ⟨X, hXe⟩ : ∃ N, N = valD (x.take 32) := ⟨_, rfl⟩
  obtain ⟨Y, hYe⟩ : ∃ N, N = valD (y.take 32) := ⟨_, rfl⟩
  obtain ⟨C, hCe⟩ : ∃ N, N = valD (z.take 32) := ⟨_, rfl⟩
  rw [← hXe] at cR1 hX ⊢
  rw [← hYe] at cR2 hY ⊢
  rw [← hCe] at cR3 hZ3 ⊢
  have HN2 : Hid (((X * Y + C : Nat) : Int) < 268435456 ^ 19) := by
    have h1 : X * Y ≤ 256 ^ 32 * 256 ^ 32 := Nat.mul_le_mul (by omega) (by omega)
    have h2 : X * Y + C < 268435456 ^ 19 := by
      have : 256 ^ 32 * 256 ^ 32 + 256 ^ 32 < 268435456 ^ 19 := by decide
      omega
    have e : ((268435456 ^ 19 : Nat) : Int) = (268435456 : Int) ^ 19 := by decide
    show _ < _
    rw [← e]; exact_mod_cast h2
  have HX : Hid (X < 256 ^ 32) := hX
  have HY : Hid (Y < 256 ^ 32) := hY
  have HC : Hid (C < 256 ^ 32) := hZ3
  have hT1 : Tab (((w.alloc (.cells Z 35)).alloc (.cells Z 35)).alloc (.cells Z 35)) := hT.below (below3 _ _ _ _)
  clear hXe hYe hCe hn1 hn2 hn3 hla hlb hlc hx hy hz hT hX hY hZ3 dx dy dz
  have ez : Z = #[.int .i64 0, .int .i64 0, .int .i64 0, .int .i64 0, .int .i64 0, .int .i64 0, .int .i64 0, .int .i64 0, .int .i64 0, .int .i64 0, .int .i64 0, .int .i64 0, .int .i64 0, .int .i64 0, .int .i64 0, .int .i64 0, .int .i64 0, .int .i64 0, .int .i64 0] := hZ
  clear hZ
  subst ez
  go_enter Tryd.func12, Tryd.ntmps12
  go_wp2_with fail
  generalize (((w.alloc (.cells #[.int .i64 0, .int .i64 0, .int .i64 0, .int .i64 0, .int .i64 0, .int .i64 0, .int .i64 0, .int .i64 0, .int .i64 0, .int .i64 0, .int .i64 0, .int .i64 0, .int .i64 0, .int .i64 0, .int .i64 0, .int .i64 0, .int .i64 0, .int .i64 0, .int .i64 0] 35)).alloc (.cells #[.int .i64 0, .int .i64 0, .int .i64 0, .int .i64 0, .int .i64 0, .int .i64 0, .int .i64 0, .int .i64 0, .int .i64 0, .int .i64 0, .int .i64 0, .int .i64 0, .int .i64 0, .int .i64 0, .int .i64 0, .int .i64 0, .int .i64 0, .int .i64 0, .int .i64 0] 35)).alloc (.cells #[.int .i64 0, .int .i64 0, .int .i64 0, .int .i64 0, .int .i64 0, .int .i64 0, .int .i64 0, .int .i64 0, .int .i64 0, .int .i64 0, .int .i64 0, .int .i64 0, .int .i64 0, .int .i64 0, .int .i64 0, .int .i64 0, .int .i64 0, .int .i64 0, .int .i64 0] 35)) = w1 at i0 i1 i2 hB1 hT1 ⊢
  refine (cR1 w1 hB1 i0).mono ?_
  rintro e w2 ⟨rfl, hR2⟩
  have j1 := (hR2.1.block (w.heap.size + 1) (by omega)).trans i1
  have j2 := (hR2.1.block (w.heap.size + 1 + 1) (by omega)).trans i2
  have hB2 := hR2.1.below hB1 (Nat.le_refl _)
  have hT2 := hT1.frm hR2.1 (by omega)
  clear i0 i1 i2 hB1 hT1 cR1
  go_wp2_with fail
  refine (cR2 w2 hB2 j1).mono ?_
  rintro e w3 ⟨rfl, hR3⟩
  have k0 := (hR3.1.block w.heap.size (by omega)).trans hR2.2
  have k2 := (hR3.1.block (w.heap.size + 1 + 1) (by omega)).trans j2
  have hB3 := hR3.1.below hB2 (by omega)
  have hT3 := hT2.frm hR3.1 (by omega)
  clear j1 j2 hB2 hT2 cR2 hR2
  go_wp2_with fail
  refine (cR3 w3 hB3 k2).mono ?_
  rintro e w4 ⟨rfl, hR4⟩
  have l0 := (hR4.1.block w.heap.size (by omega)).trans k0
  have l1 := (hR4.1.block (w.heap.size + 1) (by omega)).trans hR3.2
  have hB4 := hR4.1.below hB3 (by omega)
  have hT4 := hT3.frm hR4.1 (by omega)
  have cP := addProduct25 (w.heap.size + 1 + 1) w.heap.size (w.heap.size + 1) C X Y w4 HC.out HX.out HY.out (by omega) (by omega) hR4.2 l0 l1
  clear k0 k2 hB3 hT3 cR3 hR3 hR4
  go_wp2_with fail
  refine cP.mono ?_
  rintro e w5 ⟨rfl, hR5⟩
  have hB5 := hR5.1.below hB4 (by omega)
  have hT5 := hT4.frm hR5.1 (by omega)
  have cD := reduce21 (w.heap.size + 1 + 1) ((X * Y + C : Nat) : Int) w5 (by omega) HN2.out hR5.2 hT5 (by omega)
  rw [modLI] at cD
  go_wp2_with fail
  refine cD.mono ?_
  rintro e w6 ⟨rfl, hR6⟩
  have hB6 := hR6.1.below hB5 (by omega)
  have cB := bytes22 (w.heap.size + 1 + 1) ((X * Y + C) % LL) w6 (Nat.mod_lt _ LL_pos) hR6.2
  go_wp2_with fail
  refine cB.mono ?_
  rintro e w7 ⟨gb, rfl, hgb, hB7, hrow⟩
  go_wp2
  go_ret
  exact ⟨_, rfl, gb, rfl, by have := hB6.size; omega, hB6.trans (hB7.mono hB6.size), hrow⟩
theorem New32.view {w w' : World} {v : Value} {R : Nat} (h : New32 w w' v R) : ∃ gb, v = .slice (some ⟨gb, 0, none⟩) 32 32 ∧ View w' (some ⟨gb, 0, none⟩) (digs 32 R) := by
  obtain ⟨gb, h1, h2, h3, h4⟩ := h
  exact ⟨gb, h1, fun _ => ⟨gb, 0, rfl, bytes_row h4⟩⟩
/-- Whether bytes are those of what is left. -/
def isL (bs : List Nat) : Bool := decide (bs.length = 32 ∧ valD bs < LL)
theorem isL_eq {bs : List Nat} (hd : Dig bs) : decide (digs 32 (valD (bs.take 64) % LL) = bs) = isL bs := by
  unfold isL
  rw [decide_eq_decide]
  constructor
  · intro h
    have h1 : bs.length = 32 := by rw [← h, digs_len]
    rw [List.take_of_length_le (by omega)] at h
    refine ⟨h1, ?_⟩
    have h2 := congrArg valD h
    rw [valD_digs_lt (Nat.lt_trans (Nat.mod_lt _ LL_pos) (by decide))] at h2
    rw [← h2]; exact Nat.mod_lt _ LL_pos
  · rintro ⟨h1, h2⟩
    rw [List.take_of_length_le (by omega), Nat.mod_eq_of_lt h2, ← h1]
    exact digs_valD hd
theorem is14 (a : Option Addr) (len cap : Nat) (bs : List Nat) (w : World) (hlen : Hid (bs.length = len)) (hcap : len ≤ cap) (hcap2 : cap ≤ 9223372036854775807) (hd : Dig bs) (hv : View w a bs) (hT : Tab w) :
    Calls Tryd.prog 14 #[.slice a len cap] w fun e w' => e = .returned (.bool (isL bs)) ∧ Below w.heap.size w w' := by
  have cR := reduce9 a len cap bs w hlen hcap hcap2 hd hv hT
  have cE := fun w1 (hB : Below w.heap.size w w1) gb (h : View w1 (some ⟨gb, 0, none⟩) (digs 32 (valD (bs.take 64) % LL))) => equal28 (some ⟨gb, 0, none⟩) 32 32 (digs 32 (valD (bs.take 64) % LL)) a len cap bs w1 (digs_len _ _) hlen.out h (hv.below hB) (digs_dig _ _) hd
  rw [isL_eq hd] at cE
  clear hlen hv hT hd
  go_enter Tryd.func14, Tryd.ntmps14
  go_wp2_with fail
  refine cR.mono ?_
  rintro e w1 ⟨v, rfl, hN⟩
  obtain ⟨gb, rfl, hvw⟩ := hN.view
  have hB1 : Below w.heap.size w w1 := by obtain ⟨_, _, _, h, _⟩ := hN; exact h
  go_wp2_with fail
  refine (cE w1 hB1 gb hvw).mono ?_
  rintro e w2 ⟨rfl, rfl⟩
  go_wp2
  go_ret
  exact ⟨rfl, hB1⟩
end Go.Proofs.YtoehjkebfpoigaaDoor
