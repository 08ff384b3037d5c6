/-
  The walks of few, Same, Equal, Sum256, Sum512 and lives.
-/
import Derived.Test.YtomfnkbghlpkeaaDoorTabs
import Derived.Laws.BytesString
set_option linter.unusedVariables false
namespace Go.Proofs.YtomfnkbghlpkeaaDoor
open Go.RowKit Go.Sort Go.BigFrame
set_option maxRecDepth 100000
set_option maxHeartbeats 2000000
def strOf (bs : List Nat) : ByteArray := bs.foldl (fun r n => r.push (UInt8.ofNat n)) ByteArray.empty
theorem strOf_fold (bs : List Nat) : (bs.map fun (x : Nat) => (x : Int)).foldl (fun r n => r.push (UInt8.ofNat n.toNat)) ByteArray.empty = strOf bs := by
  unfold strOf
  rw [List.foldl_map]; rfl
theorem loadCells_view {w : World} {b off : Nat} {bs : List Nat} (h : BytesAt w b off bs) : (loadCells ⟨b, off, none⟩ bs.length).run Tryd.prog w = .ok ((bs.map fun (x : Nat) => (x : Int)).map (Value.int .u8)).toArray w := by
  have := run_loadCells_list (P := Tryd.prog) w ⟨b, off, none⟩ ((bs.map fun (x : Nat) => (x : Int)).map (Value.int .u8)) (fun j v hv => by
    have hj : j < bs.length := by
      by_cases h : j < bs.length
      · exact h
      · rw [List.getElem?_eq_none (by simp; omega)] at hv; cases hv
    rw [Addr.add_mid, h j hj, ← hv]; simp [hj])
  simpa using this
theorem toString_view {w : World} {a : Option Addr} {len cap : Nat} {bs : List Nat} (hl : bs.length = len) (h : View w a bs) : (convert 22 9 (.slice a len cap)).run Tryd.prog w = .ok (.string (strOf bs)) w := by
  rw [run_convert_bytes_string w 22 9 5 a len cap Tryd.underlying22 Tryd.underlying5 Tryd.underlying9]
  cases a with
  | none =>
    have : bs = [] := by
      cases bs with
      | nil => rfl
      | cons x r => obtain ⟨b, off, h', _⟩ := h (by simp); cases h'
    subst this; rfl
  | some ad =>
    rw [run_bytesToString w ad len cap (bs.map fun (x : Nat) => (x : Int)) ?_, strOf_fold]
    by_cases hp : 0 < bs.length
    · obtain ⟨b, off, h', hb⟩ := h hp
      cases h'
      rw [← hl]; exact loadCells_view hb
    · have : bs = [] := List.length_eq_zero_iff.1 (by omega)
      subst this; subst hl; rfl
theorem same9 (a : Option Addr) (la ca : Nat) (x : List Nat) (b : Option Addr) (lb cb : Nat) (y : List Nat) (w : World) (hx : x.length = la) (hy : y.length = lb) (ha : View w a x) (hb : View w b y) :
    Calls Tryd.prog 9 #[.slice a la ca, .slice b lb cb] w fun e w' => e = .returned (.bool ((strOf x).toList == (strOf y).toList)) ∧ w' = w := by
  have h1 := toString_view (cap := ca) hx ha
  have h2 := toString_view (cap := cb) hy hb
  clear hx hy
  go_enter Tryd.func9, Tryd.ntmps9
  go_wp2
  go_ret
  exact ⟨rfl, rfl⟩
theorem same20 (a : Option Addr) (la ca : Nat) (x : List Nat) (b : Option Addr) (lb cb : Nat) (y : List Nat) (w : World) (hx : x.length = la) (hy : y.length = lb) (ha : View w a x) (hb : View w b y) :
    Calls Tryd.prog 20 #[.slice a la ca, .slice b lb cb] w fun e w' => e = .returned (.bool ((strOf x).toList == (strOf y).toList)) ∧ w' = w := by
  have h1 := toString_view (cap := ca) hx ha
  have h2 := toString_view (cap := cb) hy hb
  clear hx hy
  go_enter Tryd.func20, Tryd.ntmps20
  go_wp2
  go_ret
  exact ⟨rfl, rfl⟩
theorem equal15 (a : Option Addr) (la ca : Nat) (x : List Nat) (b : Option Addr) (lb cb : Nat) (y : List Nat) (w : World) (hx : x.length = la) (hy : y.length = lb) (ha : View w a x) (hb : View w b y) :
    Calls Tryd.prog 15 #[.slice a la ca, .slice b lb cb] w fun e w' => e = .returned (.bool ((strOf x).toList == (strOf y).toList)) ∧ w' = w := by
  go_enter Tryd.func15, Tryd.ntmps15
  go_wp2_with fail
  refine (same20 a la ca x b lb cb y w hx hy ha hb).mono ?_
  rintro e w' ⟨rfl, rfl⟩
  go_wp2
  go_ret
  exact ⟨rfl, rfl⟩
theorem few8 (a : Option Addr) (len cap : Nat) (w : World) (hc : len ≤ cap) :
    Calls Tryd.prog 8 #[.slice a len cap] w fun e w' => e = .returned (.slice a (min len 400) cap) ∧ w' = w := by
  by_cases h : 400 < len
  · rw [show min len 400 = 400 by omega]
    go_enter Tryd.func8, Tryd.ntmps8
    go_wp2
    go_ret
    exact ⟨rfl, rfl⟩
  · rw [show min len 400 = len by omega]
    go_enter Tryd.func8, Tryd.ntmps8
    go_wp2
    go_ret
    exact ⟨rfl, rfl⟩
theorem HS_lt : ∀ j, HS.getD j 0 < 18446744073709551616 := fun j => by
  by_cases h : j < 8
  · have h8 : j = 0 ∨ j = 1 ∨ j = 2 ∨ j = 3 ∨ j = 4 ∨ j = 5 ∨ j = 6 ∨ j = 7 := by omega
    rcases h8 with rfl | rfl | rfl | rfl | rfl | rfl | rfl | rfl <;> decide
  · have : HS[j]? = none := List.getElem?_eq_none (by show 8 ≤ j; omega)
    rw [List.getD_eq_getElem?_getD, this]; decide
theorem KS_all : KS.all (fun x => decide (x < 18446744073709551616)) = true := by kernel_rfl
theorem KS_lt : ∀ j, KS.getD j 0 < 18446744073709551616 := fun j => by
  by_cases h : j < KS.length
  · rw [List.getD_eq_getElem?_getD, List.getElem?_eq_getElem h]
    have := List.all_eq_true.1 KS_all KS[j] (List.getElem_mem h)
    simpa using this
  · rw [List.getD_eq_getElem?_getD, List.getElem?_eq_none (by omega)]; decide
structure Tabs (w : World) : Prop where
  h : TabAt w 0 HS
  k : TabAt w 1 KS
theorem Tabs.below {w w' : World} (t : Tabs w) (hb : Below w.heap.size w w') : Tabs w' :=
  ⟨t.h.below hb (block_lt_of_cell (t.h 0 (by decide))), t.k.below hb (block_lt_of_cell (t.k 0 (by decide)))⟩
theorem sum256 (a : Option Addr) (len cap : Nat) (bs : List Nat) (w : World) (hlen : bs.length = len) (hb256 : ∀ j, bs.getD j 0 < 256) (hcap : len ≤ cap) (hcap2 : cap ≤ 9223372036854775807) (hlen2 : len ≤ 100000000000000) (hv : View w a bs) (ht : Tabs w) :
    Calls Tryd.prog 10 #[.slice a len cap] w fun e w' => ∃ g B, e = .returned (.slice (some ⟨g, 0, none⟩) 32 32) ∧ Below w.heap.size w w' ∧ w.heap.size ≤ B ∧ w'.ownsRow B 5 1 (.slice (some ⟨g, 0, none⟩) 32 32) 32 (bv (dig sh32 HS KS bs)) := by
  have hD := digest32 a len cap bs HS KS w hlen hb256 hcap hcap2 hlen2 hv rfl HS_lt ht.h rfl KS_lt ht.k
  clear hlen
  go_enter Tryd.func10, Tryd.ntmps10
  go_wp2_with fail
  refine hD.mono ?_
  rintro e w' ⟨g, B, rfl, hb, hB, ho⟩
  go_wp2
  go_ret
  exact ⟨g, B, rfl, hb, hB, ho⟩
theorem sum512 (a : Option Addr) (len cap : Nat) (bs : List Nat) (w : World) (hlen : bs.length = len) (hb256 : ∀ j, bs.getD j 0 < 256) (hcap : len ≤ cap) (hcap2 : cap ≤ 9223372036854775807) (hlen2 : len ≤ 100000000000000) (hv : View w a bs) (ht : Tabs w) :
    Calls Tryd.prog 13 #[.slice a len cap] w fun e w' => ∃ g B, e = .returned (.slice (some ⟨g, 0, none⟩) 64 64) ∧ Below w.heap.size w w' ∧ w.heap.size ≤ B ∧ w'.ownsRow B 5 1 (.slice (some ⟨g, 0, none⟩) 64 64) 64 (bv (dig sh64 HS KS bs)) := by
  have hD := digest64 a len cap bs HS KS w hlen hb256 hcap hcap2 hlen2 hv rfl HS_lt ht.h rfl KS_lt ht.k
  clear hlen
  go_enter Tryd.func13, Tryd.ntmps13
  go_wp2_with fail
  refine hD.mono ?_
  rintro e w' ⟨g, B, rfl, hb, hB, ho⟩
  go_wp2
  go_ret
  exact ⟨g, B, rfl, hb, hB, ho⟩
theorem own_cell {w : World} {g B n : Nat} {l : List Nat} (h : w.ownsRow B 5 1 (.slice (some ⟨g, 0, none⟩) n n) n (bv l)) (j : Nat) (hj : j < n) (x : Nat) (hx : l[j]? = some x) : w.cell? ⟨g, j, none⟩ = some (.int .u8 (x : Int)) := by
  rw [h.cellAt j (by omega)]; simp [bv, hx]
theorem own_lt {w : World} {g B n : Nat} {l : List Nat} (h : w.ownsRow B 5 1 (.slice (some ⟨g, 0, none⟩) n n) n (bv l)) : B ≤ g ∧ g < w.heap.size := h.lt g rfl
theorem take4 {l : List Nat} {a b c d : Nat} (h : l.take 4 = [a, b, c, d]) : l[0]? = some a ∧ l[1]? = some b ∧ l[2]? = some c ∧ l[3]? = some d := by
  have e : ∀ j, j < 4 → l[j]? = (l.take 4)[j]? := fun j hj => by simp [hj]
  rw [e 0 (by omega), e 1 (by omega), e 2 (by omega), e 3 (by omega), h]
  exact ⟨rfl, rfl, rfl, rfl⟩
theorem d256 : (dig sh32 HS KS [])[0]? = some 0xe3 ∧ (dig sh32 HS KS [])[1]? = some 0xb0 ∧ (dig sh32 HS KS [])[2]? = some 0xc4 ∧ (dig sh32 HS KS [])[3]? = some 0x42 := take4 dig256
theorem d512 : (dig sh64 HS KS [])[0]? = some 0xcf ∧ (dig sh64 HS KS [])[1]? = some 0x83 ∧ (dig sh64 HS KS [])[2]? = some 0xe1 ∧ (dig sh64 HS KS [])[3]? = some 0x35 := take4 dig512
theorem lives12 (w : World) (ht : Tabs w) : Calls Tryd.prog 12 #[] w fun e w' => e = .returned (.bool true) ∧ Below w.heap.size w w' := by
  go_enter Tryd.func12, Tryd.ntmps12
  go_wp2_with fail
  refine (sum256 none 0 0 [] w rfl (by intro j; simp) (by omega) (by omega) (by omega) (fun h => absurd h (by simp)) ht).mono ?_
  rintro e w1 ⟨g1, B1, rfl, hb1, hB1, ho1⟩
  go_wp2_with fail
  refine (sum512 none 0 0 [] w1 rfl (by intro j; simp) (by omega) (by omega) (by omega) (fun h => absurd h (by simp)) (ht.below hb1)).mono ?_
  rintro e w2 ⟨g2, B2, rfl, hb2, hB2, ho2⟩
  have hl := own_lt ho1
  have k0 : w2.cell? ⟨g1, 0, none⟩ = some (.int .u8 0xe3) := (hb2.cell (p := ⟨g1, 0, none⟩) hl.2).trans (own_cell ho1 0 (by omega) _ d256.1)
  have k1 : w2.cell? ⟨g1, 1, none⟩ = some (.int .u8 0xb0) := (hb2.cell (p := ⟨g1, 1, none⟩) hl.2).trans (own_cell ho1 1 (by omega) _ d256.2.1)
  have k2 : w2.cell? ⟨g1, 2, none⟩ = some (.int .u8 0xc4) := (hb2.cell (p := ⟨g1, 2, none⟩) hl.2).trans (own_cell ho1 2 (by omega) _ d256.2.2.1)
  have k3 : w2.cell? ⟨g1, 3, none⟩ = some (.int .u8 0x42) := (hb2.cell (p := ⟨g1, 3, none⟩) hl.2).trans (own_cell ho1 3 (by omega) _ d256.2.2.2)
  have m0 : w2.cell? ⟨g2, 0, none⟩ = some (.int .u8 0xcf) := own_cell ho2 0 (by omega) _ d512.1
  have m1 : w2.cell? ⟨g2, 1, none⟩ = some (.int .u8 0x83) := own_cell ho2 1 (by omega) _ d512.2.1
  have m2 : w2.cell? ⟨g2, 2, none⟩ = some (.int .u8 0xe1) := own_cell ho2 2 (by omega) _ d512.2.2.1
  have m3 : w2.cell? ⟨g2, 3, none⟩ = some (.int .u8 0x35) := own_cell ho2 3 (by omega) _ d512.2.2.2
  have hB : Below w.heap.size w w2 := hb1.trans (hb2.mono hb1.size)
  clear ho1 ho2 hl hb1 hb2
  go_wp2
  go_ret
  exact ⟨rfl, hB⟩
end Go.Proofs.YtomfnkbghlpkeaaDoor
