/-
  The walk of Encode. What Decode tells: its plain mathematics. The walk of Decode. The reference: value, letter, bits, number. The reference: bits, number. The reference: Encode. The reference: Decode. The walk of the reference's Decode. The walks of few, lives and of the laws B64Encodes, B64Decodes.
-/
import Derived.Test.YtfddldaldhbnfaaC0
import Derived.OwnWalk
import Derived.Lib.SlBytesConst
set_option linter.unusedVariables false
namespace Go.Proofs.Ytfddldaldhbnfaa
open Go.RowKit Go.Sort Go.BigFrame
set_option maxRecDepth 100000
set_option maxHeartbeats 2000000
/-- Bytes' letters. -/
def encL (l : List Nat) : List Nat := (encN l).map lett
def cntOf (w : World) (g : Nat) : Nat := match w.cell? ⟨g, 1, none⟩ with | some (.int _ z) => z.toNat | _ => 0
theorem cntOf_eq {w : World} {g : Nat} {p : List Nat} (h : Left w g p) : cntOf w g = p.length := by
  unfold cntOf
  rw [cell_of_row w g 1 _ _ _ h]; rfl
def letterB : ByteArray := ⟨#[65, 66, 67, 68, 69, 70, 71, 72, 73, 74, 75, 76, 77, 78, 79, 80, 81, 82, 83, 84, 85, 86, 87, 88, 89, 90, 97, 98, 99, 100, 101, 102, 103, 104, 105, 106, 107, 108, 109, 110, 111, 112, 113, 114, 115, 116, 117, 118, 119, 120, 121, 122, 48, 49, 50, 51, 52, 53, 54, 55, 56, 57, 45, 95]⟩
theorem fin_letters {n : Nat} (h : n < 64) : (letterB.data.toList.getD n 0).toNat = lett n := by
  have : ∀ n < 64, (letterB.data.toList.getD n 0).toNat = lett n := by decide
  exact this n h
theorem letter_at {y : Nat} (hy : y < 64) (h : y < letterB.size) : (letterB[y]'h).toNat = lett y := by
  have : ∀ y : Fin 64, (letterB[y.1]'(y.2)).toNat = lett y.1 := by decide
  exact this ⟨y, hy⟩
/-- So many letters of bits, and the bits that are left. -/
def EncS (w wr : World) (b g : Nat) (T : List Nat) (m : Nat) : Prop :=
  Lib.IsBuilderF 37 5 w.heap.size b (bv ((sixes m T).map lett)) wr ∧ Left wr g (T.drop (6 * m)) ∧ Below w.heap.size w wr ∧ 6 * m ≤ T.length ∧ Bit T ∧ b ≠ g
theorem builderF_only {T e t : TypeId} {B b g : Nat} {bs : List Value} {w w' : World} {cs : Array Value} {fz : Nat × Nat} (h : Lib.IsBuilderF T e B b bs w) (o : Only g w w') (hbg : b ≠ g) (hg : w.heap[g]? = some (.cells cs t fz)) (ht : t ≠ e) : Lib.IsBuilderF T e B b bs w' := by
  have key : ∀ p, Lib.BuilderAtF T e B b p bs w → Lib.BuilderAtF T e B b p bs w' := fun p h => by
    obtain ⟨hB, v, hb, hown, hne⟩ := h
    refine ⟨hB, v, (o.block b hbg).trans hb, ⟨hown.1, ?_⟩, hne⟩
    rcases hown.2 with hn | ⟨g', cap, cur, fz', hv, hbg', hg', rest⟩
    · exact .inl hn
    · have hkg : g' ≠ g := by
        intro e1
        rw [e1, hg] at hg'
        injection hg' with e2; injection e2 with _ e3 _
        exact ht e3
      exact .inr ⟨g', cap, cur, fz', hv, hbg', (o.block g' hkg).trans hg', rest⟩
  exact h.elim (fun x => .inl (key _ x)) (fun x => .inr (key _ x))
theorem sixes_more : ∀ (m : Nat) (T x : List Nat), 6 * m ≤ T.length → sixes m (T ++ x) = sixes m T
  | 0, _, _, _ => rfl
  | m + 1, T, x, h => by
    show numN ((T ++ x).take 6) :: sixes m ((T ++ x).drop 6) = numN (T.take 6) :: sixes m (T.drop 6)
    rw [List.take_append_of_le_length (by omega), List.drop_append_of_le_length (by omega), sixes_more m _ _ (by rw [List.length_drop]; omega)]
theorem sixes_succ : ∀ (m : Nat) (T : List Nat), sixes (m + 1) T = sixes m T ++ [numN ((T.drop (6 * m)).take 6)]
  | 0, T => rfl
  | m + 1, T => by
    show numN (T.take 6) :: sixes (m + 1) (T.drop 6) = numN (T.take 6) :: sixes m (T.drop 6) ++ _
    rw [sixes_succ m (T.drop 6), List.drop_drop, show 6 + 6 * m = 6 * (m + 1) by omega]; rfl
theorem lett_lt {n : Nat} (h : n < 64) : lett n < 256 := by
  have : ∀ n < 64, lett n < 256 := by decide
  exact this n h
theorem six_lt {T : List Nat} (hT : Bit T) : numN (T.take 6) < 64 := by
  have := numN_lt (T.take 6) (fun x hx => hT x (List.mem_of_mem_take hx))
  refine Nat.lt_of_lt_of_le this (pow_le30 (k := 6) ?_)
  rw [List.length_take]; omega
theorem Bit.drop {T : List Nat} (h : Bit T) (n : Nat) : Bit (T.drop n) := fun x hx => h x (List.mem_of_mem_drop hx)
theorem Bit.take {T : List Nat} (h : Bit T) (n : Nat) : Bit (T.take n) := fun x hx => h x (List.mem_of_mem_take hx)
theorem Bit.app {a b : List Nat} (ha : Bit a) (hb : Bit b) : Bit (a ++ b) := fun x hx => (List.mem_append.1 hx).elim (ha x) (hb x)
theorem Left.kept {w w' : World} {g b : Nat} {p : List Nat} (h : Left w g p) (hk : Lib.OthersKept 5 (some b) w w') (hne : b ≠ g) : Left w' g p :=
  hk g _ h (fun e => hne (by injection e with e; exact e.symm)) (fun c fz e => by injection e with _ e2 _; exact absurd e2 (by decide))
/-- Bits more. -/
theorem EncS.put {w wr w' : World} {b g m : Nat} {T x : List Nat} (h : EncS w wr b g T m) (hg : w.heap.size ≤ g) (ho : Only g wr w') (hl : Left w' g (T.drop (6 * m) ++ x)) (hx : Bit x) : EncS w w' b g (T ++ x) m := by
  obtain ⟨h1, h2, h3, h4, h5, h6⟩ := h
  refine ⟨?_, ?_, ho.below h3 hg, by rw [List.length_append]; omega, h5.app hx, h6⟩
  · rw [sixes_more m T x h4]
    exact builderF_only h1 ho h6 h2 (by decide)
  · rw [List.drop_append_of_le_length h4]; exact hl
/-- A letter more: its bits are taken. -/
theorem EncS.take {w wr w1 : World} {b g m : Nat} {T : List Nat} (h : EncS w wr b g T m) (hg : w.heap.size ≤ g) (ho : Only g wr w1) (hl : Left w1 g ((T.drop (6 * m)).drop 6)) :
    Lib.IsBuilderF 37 5 w.heap.size b (bv ((sixes m T).map lett)) w1 ∧ Left w1 g (T.drop (6 * (m + 1))) ∧ Below w.heap.size w w1 := by
  obtain ⟨h1, h2, h3, h4, h5, h6⟩ := h
  refine ⟨builderF_only h1 ho h6 h2 (by decide), ?_, ho.below h3 hg⟩
  rw [List.drop_drop] at hl
  rw [show 6 * (m + 1) = 6 * m + 6 by omega]; exact hl
theorem EncS.write {w w1 w2 : World} {b g m : Nat} {T : List Nat} (h : Lib.BuilderAtF 37 5 w.heap.size b (.pointer (some ⟨b, 0, none⟩)) (bv ((sixes m T).map lett) ++ [.int .u8 ((lett (numN ((T.drop (6 * m)).take 6)) : Nat) : Int)]) w2)
    (hl : Left w1 g (T.drop (6 * (m + 1)))) (hk : Lib.OthersKept 5 (some b) w1 w2) (hB1 : Below w.heap.size w w1) (hB : Below w.heap.size w1 w2) (hm : 6 * (m + 1) ≤ T.length) (hT : Bit T) (hne : b ≠ g) : EncS w w2 b g T (m + 1) := by
  refine ⟨?_, hl.kept hk hne, hB1.trans hB, hm, hT, hne⟩
  rw [sixes_succ, List.map_append, List.map_singleton, ← bv_snoc]
  exact .inr h
theorem bv_cells {X : List Nat} (h : ∀ x ∈ X, x < 256) : bv X = Lib.byteCells (X.map UInt8.ofNat) := by
  unfold bv Lib.byteCells
  rw [List.map_map]
  apply List.map_congr_left
  intro x hx
  have := h x hx
  show Value.int .u8 (x : Int) = Value.int .u8 ((UInt8.ofNat x).toNat : Int)
  rw [UInt8.toNat_ofNat', Nat.mod_eq_of_lt (by omega)]
theorem strOf_arr (X : List Nat) : strOf X = ⟨(X.map UInt8.ofNat).toArray⟩ := by
  have h := strOf_data X ByteArray.empty
  have h2 : (strOf X).data.toList = X.map UInt8.ofNat := by unfold strOf; rw [h]; simp
  have h3 : (strOf X).data = (X.map UInt8.ofNat).toArray := by rw [← h2]
  show ByteArray.mk (strOf X).data = _
  rw [h3]
theorem sixes_lt2 {m : Nat} {T : List Nat} (h : 6 * m ≤ T.length) (hT : Bit T) : ∀ x ∈ (sixes m T).map lett, x < 256 := fun x hx => by
  obtain ⟨y, hy, rfl⟩ := List.mem_map.1 hx
  exact lett_lt (sixes_lt m T h hT y hy)
/-- What the builder holds is told. -/
theorem cString {w wr : World} {b g m : Nat} {T : List Nat} (h : EncS w wr b g T m) : Calls Try.prog 18 #[.pointer (some ⟨b, 0, none⟩)] wr fun e w' => e = .returned (.string (strOf ((sixes m T).map lett))) ∧ Below w.heap.size w w' := by
  obtain ⟨h1, h2, h3, h4, h5, h6⟩ := h
  rw [bv_cells (sixes_lt2 h4 h5)] at h1
  refine (Try.Builder_String_any_k w.heap.size b _ wr h1 h3.size).mono fun e w' ⟨he, _, hB, _⟩ => ⟨?_, h3.trans hB⟩
  rw [he, strOf_arr]
theorem bits_zero : ∀ r, bitsN r 0 = List.replicate r 0
  | 0 => rfl
  | r + 1 => by
    unfold bitsN
    rw [Nat.zero_div, bits_zero r, Nat.zero_mod, ← List.replicate_succ']
theorem encL_some {l : List Nat} {m r : Nat} (h : 6 * (m + 1) = 8 * l.length + r) (hr : r < 6) : encL l = (sixes (m + 1) (allB l ++ bitsN r 0)).map lett := by
  have e1 : nLet l.length = m + 1 := by unfold nLet; omega
  unfold encL encN
  rw [e1, bits_zero, show 6 * (m + 1) - 8 * l.length = r by omega]
theorem encL_all {l : List Nat} {m : Nat} (h : 6 * m = 8 * l.length) : encL l = (sixes m (allB l)).map lett := by
  have e1 : nLet l.length = m := by unfold nLet; omega
  unfold encL encN
  rw [e1, show 6 * m - 8 * l.length = 0 by omega, List.replicate_zero, List.append_nil]
theorem enc9 {v : Value} {l : List Nat} (w : World) (h : Bts l v w) (hd : Dig l) (hl : l.length ≤ 100000) : Ret 9 #[v] w (Is (.string (strOf (encL l)))) := by
  obtain ⟨a, cap, rfl, hc, hc2, hv⟩ := h
  obtain ⟨n, hn⟩ : ∃ n, n = l.length := ⟨_, rfl⟩
  rw [← hn] at hc hl ⊢
  have HN : Hid _ := hn
  clear hn
  unfold Ret
  go_enter Try.func9, Try.ntmps9
  go_wp2_with fail
  have en : ((n : Int) * 8 + 6 - 1) / 6 = (((n * 8 + 5) / 6 : Nat) : Int) := by omega
  rw [en]
  clear en
  refine (Try.Builder_Grow_fresh w.heap.size w.heap.size ((n * 8 + 5) / 6) _ (Nat.le_refl _) (heap_alloc_new _ _) (by simp) (by omega)).mono ?_
  rintro e w1 ⟨rfl, hb1, hB1⟩
  have hB01 := ((Below.refl w.heap.size w).alloc (Nat.le_refl _) (.cells #[.pointer none, .slice none 0 0] 37)).trans hB1
  have hs1 : w.heap.size < w1.heap.size := hb1.lt
  have hE : EncS w (w1.alloc (.cells (leftC []) 40)) w.heap.size w1.heap.size [] 0 :=
    ⟨Lib.IsBuilderF.alloc (.inr (Lib.BuilderAtF.of hb1)) _, heap_alloc_new _ _, hB01.alloc (by omega) _, Nat.zero_le _, (fun x hx => by cases hx), by omega⟩
  have HE : Hid (EncS w (w1.alloc (.cells (leftC []) 40)) w.heap.size w1.heap.size [] 0) := hE
  have hgw : w.heap.size ≤ w1.heap.size := by omega
  clear hE hB1 hb1
  go_wp2_with fail
  show Code.wp _ _ _ _ (w1.alloc (.cells (leftC []) 40))
  go_loopw [15] (fun i wr => ∃ k m : Nat, k ≤ n ∧ i = .int .i64 k ∧ EncS w wr w.heap.size w1.heap.size (allB (l.take k)) m ∧ (allB (l.take k)).length < 6 * m + 6) (fun i _ => n - (intOf i).toNat)
  case atStart => exact ⟨0, 0, by omega, rfl, HE.out, by simp [allB]⟩
  case round =>
    obtain ⟨k, m, hk, rfl, hS, hm⟩ := hrel
    clear HE
    by_cases hlt : k < n
    · obtain ⟨bk, off, rfl, hbt⟩ := hv (by rw [← HN.out]; omega)
      have hck := (hbt.below hS.2.2.1 (block_lt_of_cell (hbt 0 (by rw [← HN.out]; omega)))) k (by rw [← HN.out]; exact hlt)
      have hx := hd k
      have hT : allB (l.take (k + 1)) = allB (l.take k) ++ bitsN 8 (l.getD k 0) := by
        rw [List.take_add_one, allB_app, show l[k]?.toList = [l.getD k 0] by rw [List.getElem?_eq_getElem (by rw [← HN.out]; exact hlt)]; simp [show k < l.length by rw [← HN.out]; exact hlt]]
        simp [allB]
      obtain ⟨x, hxx⟩ : ∃ x, x = l.getD k 0 := ⟨_, rfl⟩
      rw [← hxx] at hck hx hT
      obtain ⟨T, hTT⟩ : ∃ T, T = allB (l.take k) := ⟨_, rfl⟩
      rw [← hTT] at hS hm hT
      have HT : Hid _ := hT
      clear hT hTT hxx
      have hpl : (T.drop (6 * m)).length ≤ 30 := by rw [List.length_drop]; omega
      go_wp2_with fail
      refine (put15 w1.heap.size x 8 (T.drop (6 * m)) wr hS.2.1 (hS.2.2.2.2.1.drop _) hpl (by omega) (by omega)).mono ?_
      rintro e w2 ⟨rfl, hO2, hL2⟩
      have hS2 := hS.put hgw hO2 hL2 (bitsN_bit 8 x)
      rw [← HT.out] at hS2
      have hT8 : (allB (l.take (k + 1))).length ≤ 6 * m + 13 := by rw [HT.out, List.length_append, bitsN_len]; omega
      obtain ⟨U, hU⟩ : ∃ U, U = allB (l.take (k + 1)) := ⟨_, rfl⟩
      rw [← hU] at hS2 hT8
      have HU : Hid _ := hU
      have hUl : U.length ≤ 1000000 := by rw [hU, allB_len, List.length_take, ← HN.out]; omega
      clear hS hO2 hL2 hck hbt hx HT hU hpl hm
      go_wp2_with fail
      go_loopw [27] (fun _ wr => ∃ m, EncS w wr w.heap.size w1.heap.size U m ∧ U.length ≤ 6 * m + 13) (fun _ wr => cntOf wr w1.heap.size)
      case atStart => exact ⟨m, hS2, hT8⟩
      case round =>
        obtain ⟨m2, hS, hm⟩ := hrel
        clear hS2 hT8
        obtain ⟨p, hp⟩ : ∃ p, p = U.drop (6 * m2) := ⟨_, rfl⟩
        have hL : Left wr w1.heap.size p := by rw [hp]; exact hS.2.1
        have hpb : Bit p := by rw [hp]; exact hS.2.2.2.2.1.drop _
        have hpl : p.length = U.length - 6 * m2 := by rw [hp, List.length_drop]
        have c1 : wr.cell? ⟨w1.heap.size, 1, none⟩ = some (.int .i64 (p.length : Int)) := by rw [cell_of_row wr w1.heap.size 1 _ _ _ hL]; rfl
        obtain ⟨q, hq⟩ : ∃ q, q = p.length := ⟨_, rfl⟩
        rw [← hq] at c1 hpl
        by_cases h6 : 6 ≤ q
        · have h66 : (6 : Int) ≤ (q : Int) := by omega
          have HP : Hid _ := hp
          have HQ : Hid _ := hq
          clear hp hq
          go_wp2_with fail
          refine (take17 w1.heap.size 6 p wr hL hpb (by rw [← HQ.out]; omega) (by rw [← HQ.out]; omega)).mono ?_
          rintro e w3 ⟨rfl, hO3, hL3⟩
          rw [HP.out] at hL3
          have hW := hS.take hgw hO3 hL3
          have h64 : numN (p.take 6) < 64 := six_lt hpb
          obtain ⟨y, hy⟩ : ∃ y, y = numN (p.take 6) := ⟨_, rfl⟩
          rw [← hy] at h64 ⊢
          have HY : Hid _ := hy
          have HB : Hid (Bit U) := hS.2.2.2.2.1
          have hm1 := hS.2.2.2.1
          clear hO3 hL3 hS c1 hy
          have hle := letter_at h64 h64
          unfold letterB at hle
          have HLE : Hid _ := hle
          clear hle
          go_wp2_with fail
          refine (Try.Builder_WriteByte_k w.heap.size w.heap.size (bv ((sixes m2 U).map lett)) _ w3 hW.1 ?_ hW.2.2.size).mono ?_
          · simp [bv, sixes_len]; omega
          rintro e w4 ⟨rfl, hb4, hB4, hK4⟩
          rw [HLE.out, HY.out, HP.out] at hb4
          have hS4 := EncS.write hb4 hW.2.1 hK4 hW.2.2 hB4 (by omega) HB.out (by omega)
          have hlt4 : cntOf w4 w1.heap.size < cntOf wr w1.heap.size := by
            rw [cntOf_eq hS4.2.1, cntOf_eq hL, List.length_drop, ← HQ.out]; omega
          have HR : Hid _ := hS4
          have HM : Hid _ := hlt4
          clear hb4 hW hB4 hK4 hS4 hlt4 hL
          go_wp2
          exact ⟨⟨_, HR.out, by omega⟩, HM.out⟩
        · have h66 : ¬ (6 : Int) ≤ (q : Int) := by omega
          have HS : Hid _ := hS
          have HLU : Hid (U.length < 6 * m2 + 6) := by show _ < _; omega
          clear hp hq hS hm hpl hL hpb
          go_wp2_with fail
          go_roundw
          case rel => exact ⟨k + 1, m2, by omega, by go_num, by rw [← HU.out]; exact HS.out, by rw [← HU.out]; exact HLU.out⟩
          case measure => simp [intOf]; omega
    · obtain rfl : k = n := by omega
      have hTl : l.take k = l := List.take_of_length_le (by rw [HN.out]; exact Nat.le_refl _)
      rw [hTl] at hS hm
      have hml := allB_len l
      rw [← HN.out] at hml
      obtain ⟨T, hT⟩ : ∃ T, T = allB l := ⟨_, rfl⟩
      rw [← hT] at hS hm hml
      have HT : Hid _ := hT
      have hm1 := hS.2.2.2.1
      have hpl : (T.drop (6 * m)).length = 8 * k - 6 * m := by rw [List.length_drop, hml]
      have c1 : wr.cell? ⟨w1.heap.size, 1, none⟩ = some (.int .i64 ((T.drop (6 * m)).length : Int)) := by rw [cell_of_row wr w1.heap.size 1 _ _ _ hS.2.1]; rfl
      have HPL : Hid _ := hpl
      obtain ⟨q, hq⟩ : ∃ q, q = 8 * k - 6 * m := ⟨_, rfl⟩
      rw [hpl, ← hq] at c1
      have hq8 : 8 * k = 6 * m + q := by omega
      have hq6 : q < 6 := by omega
      have HQ8 : Hid _ := hq8
      have HQ : Hid _ := hq
      clear hTl hT hpl hq hml hq8
      by_cases hq0 : 0 < q
      · have hr6 : (6 : Int) - (q : Int) = ((6 - q : Nat) : Int) := by omega
        obtain ⟨r, hr⟩ : ∃ r, r = 6 - q := ⟨_, rfl⟩
        rw [← hr] at hr6
        have HR : Hid _ := hr
        clear hr
        go_wp2_with fail
        refine (put15 w1.heap.size 0 r (T.drop (6 * m)) wr hS.2.1 (hS.2.2.2.2.1.drop _) (by rw [HPL.out]; have := HQ.out; omega) (by omega) (Nat.pow_pos (by decide))).mono ?_
        rintro e w2 ⟨rfl, hO2, hL2⟩
        have hS2 := hS.put hgw hO2 hL2 (bitsN_bit r 0)
        have hTl : (T ++ bitsN r 0).length = 6 * (m + 1) := by
          rw [List.length_append, bitsN_len, HT.out, allB_len, ← HN.out]; have := HQ8.out; have := HR.out; omega
        obtain ⟨U, hU⟩ : ∃ U, U = T ++ bitsN r 0 := ⟨_, rfl⟩
        rw [← hU] at hS2 hTl
        have HU : Hid _ := hU
        obtain ⟨p, hp⟩ : ∃ p, p = U.drop (6 * m) := ⟨_, rfl⟩
        have hL : Left w2 w1.heap.size p := by rw [hp]; exact hS2.2.1
        have hpb : Bit p := by rw [hp]; exact hS2.2.2.2.2.1.drop _
        have hpl : p.length = 6 := by rw [hp, List.length_drop, hTl]; omega
        have HP : Hid _ := hp
        have HPL6 : Hid _ := hpl
        clear hS hO2 hL2 c1 hU hp hpl
        go_wp2_with fail
        refine (take17 w1.heap.size 6 p w2 hL hpb (by rw [HPL6.out]; omega) (by rw [HPL6.out]; omega)).mono ?_
        rintro e w3 ⟨rfl, hO3, hL3⟩
        rw [HP.out] at hL3
        have hW := hS2.take hgw hO3 hL3
        have h64 : numN (p.take 6) < 64 := six_lt hpb
        obtain ⟨y, hy⟩ : ∃ y, y = numN (p.take 6) := ⟨_, rfl⟩
        rw [← hy] at h64 ⊢
        have HY : Hid _ := hy
        have HB : Hid (Bit U) := hS2.2.2.2.2.1
        have hle := letter_at h64 h64
        unfold letterB at hle
        have HLE : Hid _ := hle
        clear hO3 hL3 hS2 hL hy hle
        go_wp2_with fail
        refine (Try.Builder_WriteByte_k w.heap.size w.heap.size (bv ((sixes m U).map lett)) _ w3 hW.1 ?_ hW.2.2.size).mono ?_
        · have := HQ8.out; simp [bv, sixes_len]; omega
        rintro e w4 ⟨rfl, hb4, hB4, hK4⟩
        rw [HLE.out, HY.out, HP.out] at hb4
        have hS4 := EncS.write hb4 hW.2.1 hK4 hW.2.2 hB4 (by omega) HB.out (by omega)
        have hC := cString hS4
        have hE : encL l = (sixes (m + 1) U).map lett := by
          rw [HU.out, HT.out]
          exact encL_some (by rw [← HN.out]; have := HQ8.out; have := HR.out; omega) (by have := HR.out; omega)
        rw [← hE] at hC
        clear hb4 hW hB4 hK4 hS4 hE
        go_wp2_with fail
        refine hC.mono ?_
        rintro e w5 ⟨rfl, hB5⟩
        go_wp2
        go_ret
        exact ⟨_, rfl, hB5, rfl⟩
      · obtain rfl : q = 0 := by omega
        have hC := cString hS
        rw [HT.out, ← encL_all (by rw [← HN.out]; have := HQ8.out; omega)] at hC
        clear hS
        go_wp2_with fail
        refine hC.mono ?_
        rintro e w5 ⟨rfl, hB5⟩
        go_wp2
        go_ret
        exact ⟨_, rfl, hB5, rfl⟩
end Go.Proofs.Ytfddldaldhbnfaa
set_option linter.unusedVariables false
namespace Go.Proofs.Ytfddldaldhbnfaa
open Go.RowKit Go.Sort Go.BigFrame
set_option maxRecDepth 100000
set_option maxHeartbeats 2000000
/-- Letters' numbers. -/
def vals : List Nat → Option (List Nat)
  | [] => some []
  | c :: l => match vale c, vals l with
    | some v, some r => some (v :: r)
    | _, _ => none
/-- The bytes whose letters these are. -/
def decL (s : List Nat) : Option (List Nat) := match vals s with
  | none => none
  | some vs => if (allS vs).length % 8 < 6 ∧ numN ((allS vs).drop (8 * ((allS vs).length / 8))) = 0 then some (eights ((allS vs).length / 8) (allS vs)) else none
theorem vals_snoc : ∀ (l : List Nat) (c : Nat) (vs : List Nat) (v : Nat), vals l = some vs → vale c = some v → vals (l ++ [c]) = some (vs ++ [v])
  | [], c, vs, v, h, hc => by
    obtain rfl : [] = vs := by simpa [vals] using h
    simp [vals, hc]
  | x :: l, c, vs, v, h, hc => by
    unfold vals at h
    cases hx : vale x with
    | none => simp [hx] at h
    | some y =>
      cases hr : vals l with
      | none => simp [hx, hr] at h
      | some r =>
        obtain rfl : y :: r = vs := by simpa [hx, hr] using h
        have := vals_snoc l c r v hr hc
        show vals (x :: (l ++ [c])) = _
        simp [vals, hx, this]
theorem vals_none : ∀ (l : List Nat) (k : Nat), k < l.length → vale (l.getD k 0) = none → vals l = none
  | [], k, h, _ => by simp at h
  | x :: l, 0, _, h => by
    have h : vale x = none := h
    simp [vals, h]
  | x :: l, k + 1, hk, h => by
    have := vals_none l k (by simpa using hk) (by simpa using h)
    unfold vals
    rw [this]
    cases vale x <;> rfl
theorem vals_len : ∀ (l vs : List Nat), vals l = some vs → vs.length = l.length
  | [], vs, h => by
    obtain rfl : [] = vs := by simpa [vals] using h
    rfl
  | x :: l, vs, h => by
    unfold vals at h
    cases hx : vale x with
    | none => simp [hx] at h
    | some y =>
      cases hr : vals l with
      | none => simp [hx, hr] at h
      | some r =>
        obtain rfl : y :: r = vs := by simpa [hx, hr] using h
        simp [vals_len l r hr]
theorem allS_app : ∀ a b, allS (a ++ b) = allS a ++ allS b
  | [], b => rfl
  | x :: a, b => by show bitsN 6 x ++ allS (a ++ b) = bitsN 6 x ++ allS a ++ allS b; rw [allS_app a b, List.append_assoc]
theorem eights_more : ∀ (m : Nat) (T x : List Nat), 8 * m ≤ T.length → eights m (T ++ x) = eights m T
  | 0, _, _, _ => rfl
  | m + 1, T, x, h => by
    show numN ((T ++ x).take 8) :: eights m ((T ++ x).drop 8) = numN (T.take 8) :: eights m (T.drop 8)
    rw [List.take_append_of_le_length (by omega), List.drop_append_of_le_length (by omega), eights_more m _ _ (by rw [List.length_drop]; omega)]
theorem eights_succ : ∀ (m : Nat) (T : List Nat), eights (m + 1) T = eights m T ++ [numN ((T.drop (8 * m)).take 8)]
  | 0, T => rfl
  | m + 1, T => by
    show numN (T.take 8) :: eights (m + 1) (T.drop 8) = numN (T.take 8) :: eights m (T.drop 8) ++ _
    rw [eights_succ m (T.drop 8), List.drop_drop, show 8 + 8 * m = 8 * (m + 1) by omega]; rfl
theorem eights_len : ∀ n l, (eights n l).length = n
  | 0, _ => rfl
  | n + 1, l => by show (eights n _).length + 1 = n + 1; rw [eights_len n]
theorem eight_lt {T : List Nat} (hT : Bit T) : numN (T.take 8) < 256 := by
  have := numN_lt (T.take 8) (fun x hx => hT x (List.mem_of_mem_take hx))
  refine Nat.lt_of_lt_of_le this (pow_le30 (k := 8) ?_)
  rw [List.length_take]; omega
theorem eights_lt : ∀ (m : Nat) (T : List Nat), Bit T → ∀ x ∈ eights m T, x < 256
  | 0, _, _ => fun x hx => by cases hx
  | m + 1, T, hT => fun x hx => by
    rcases List.mem_cons.1 hx with rfl | h
    · exact eight_lt hT
    · exact eights_lt m _ (hT.drop 8) x h
theorem index_letter {c : Nat} (hc : c < 256) : Lib.indexByte letterB.data.toList ((c : Int).toNat.toUInt8) = match vale c with | some v => (v : Int) | none => -1 := by
  have : ∀ c < 256, Lib.indexByte letterB.data.toList (c.toUInt8) = match vale c with | some v => (v : Int) | none => -1 := by decide
  exact this c hc
theorem vale_lt {c v : Nat} (hc : c < 256) (h : vale c = some v) : v < 64 := (lett_vale c hc v h).1
theorem own_only {g m n : Nat} {v : Value} {xs : List Value} {w w' : World} {p : List Nat} (h : w.ownsRow m 5 1 v n xs) (o : Only g w w') (hg : Left w g p) : w'.ownsRow m 5 1 v n xs := by
  refine ⟨h.1, ?_⟩
  rcases h.2 with hn | ⟨g', cap, cur, hv, hbg', hg', rest⟩
  · exact .inl hn
  · have hkg : g' ≠ g := by
      intro e1
      unfold Left at hg
      rw [e1, hg] at hg'
      injection hg' with e2; injection e2 with _ e3 _
      exact absurd e3 (by decide)
    exact .inr ⟨g', cap, cur, hv, hbg', (o.block g' hkg).trans hg', rest⟩
/-- So many bytes of bits, and the bits that are left. -/
def DecS (w wr : World) (v : Value) (g : Nat) (T : List Nat) (m : Nat) : Prop :=
  wr.ownsRow w.heap.size 5 1 v m (bv (eights m T)) ∧ Left wr g (T.drop (8 * m)) ∧ Below w.heap.size w wr ∧ 8 * m ≤ T.length ∧ Bit T
theorem DecS.put {w wr w' : World} {v : Value} {g m : Nat} {T x : List Nat} (h : DecS w wr v g T m) (hg : w.heap.size ≤ g) (ho : Only g wr w') (hl : Left w' g (T.drop (8 * m) ++ x)) (hx : Bit x) : DecS w w' v g (T ++ x) m := by
  obtain ⟨h1, h2, h3, h4, h5⟩ := h
  refine ⟨?_, ?_, ho.below h3 hg, by rw [List.length_append]; omega, h5.app hx⟩
  · rw [eights_more m T x h4]
    exact own_only h1 ho h2
  · rw [List.drop_append_of_le_length h4]; exact hl
/-- What Decode tells. -/
def DecR (lo : Nat) (s : List Nat) (v : Value) (w : World) : Prop := match decL s with
  | none => v = .tuple #[.slice none 0 0, .int .i64 13]
  | some b => ∃ x, v = .tuple #[x, .int .i64 0] ∧ w.ownsRow lo 5 1 x b.length (bv b)
/-- A string of bytes. -/
structure Str (s : ByteArray) (bs : List Nat) : Prop where
  size : s.size = bs.length
  at' : ∀ i (h : i < s.size), (s[i]'h).toNat = bs.getD i 0
  dig : Dig bs
end Go.Proofs.Ytfddldaldhbnfaa
set_option linter.unusedVariables false
namespace Go.Proofs.Ytfddldaldhbnfaa
open Go.RowKit Go.Sort Go.BigFrame
set_option maxRecDepth 100000
set_option maxHeartbeats 2000000
theorem dec12 {s : ByteArray} {bs : List Nat} (w : World) (h : Str s bs) (hl : bs.length ≤ 100000) : Ret 12 #[.string s] w (DecR w.heap.size bs) := by
  obtain ⟨hsz, hat, hd⟩ := h
  obtain ⟨n, hn⟩ : ∃ n, n = bs.length := ⟨_, rfl⟩
  rw [← hn] at hsz hl
  have HN : Hid _ := hn
  obtain ⟨i0, hi, hz0, hz1, hz2⟩ := info5
  have en : ((n : Int) * 6) / 8 = ((n * 6 / 8 : Nat) : Int) := by omega
  have EN : Hid _ := en
  clear hn en
  unfold Ret
  go_enter Try.func12, Try.ntmps12
  go_wp2_with (refine wpList_make_own _ rfl (.const (.int .i64 0)) (.tmp 11) 22 rfl w.heap.size 5 i0 (.int .u8 0) 1 Try.underlying22 hi hz0 hz1 .i64 .i64 _ (n * 6 / 8) rfl rfl EN.out (by rw [hz2]; omega) (by unfold maxLen; omega) (Nat.le_refl _) ?_; intro w1 hown1 hgrow1)
  have hgw : w.heap.size ≤ w1.heap.size := hgrow1.size
  have hB1 : Below w.heap.size w w1 := (Below.refl _ _).grown hgrow1 (Nat.le_refl _) (by intro k hk; cases hk)
  have hE : DecS w (w1.alloc (.cells (leftC []) 40)) (.slice (some ⟨w.heap.size, 0, none⟩) 0 (n * 6 / 8)) w1.heap.size [] 0 :=
    ⟨hown1.alloc _, heap_alloc_new _ _, hB1.alloc hgw _, Nat.zero_le _, fun x hx => by cases hx⟩
  have HE : Hid (DecS w (w1.alloc (.cells (leftC []) 40)) (.slice (some ⟨w.heap.size, 0, none⟩) 0 (n * 6 / 8)) w1.heap.size [] 0) := hE
  clear hE hown1 hgrow1 hB1 EN
  show Code.wp _ _ _ _ (w1.alloc (.cells (leftC []) 40))
  go_loopw [4, 15] (fun v i wr => ∃ k m : Nat, ∃ vs, k ≤ n ∧ i = .int .i64 k ∧ vals (bs.take k) = some vs ∧ DecS w wr v w1.heap.size (allS vs) m ∧ (allS vs).length < 8 * m + 8) (fun _ i _ => n - (intOf i).toNat)
  case atStart => exact ⟨0, 0, [], by omega, rfl, rfl, HE.out, by simp [allS]⟩
  case round =>
    obtain ⟨k, m, vs, hk, rfl, hvs, hS, hm⟩ := hrel
    clear HE
    by_cases hlt : k < n
    · have hks : k < s.size := by omega
      have hx := hat k hks
      have hd0 := hd k
      obtain ⟨c, hc⟩ : ∃ c, c = bs.getD k 0 := ⟨_, rfl⟩
      rw [← hc] at hx hd0
      have HC : Hid _ := hc
      have hI := (Try.strings_IndexByte letterB (c : Int) wr)
      rw [index_letter hd0] at hI
      unfold letterB at hI
      have hkn : (k : Int) < (n : Int) := by omega
      clear hat hd hc
      cases hv : vale c with
      | none =>
        rw [hv] at hI
        have hB := hS.2.2.1
        have hR : DecR w.heap.size bs (.tuple #[.slice none 0 0, .int .i64 13]) wr := by
          unfold DecR decL
          rw [vals_none bs k (by rw [← HN.out]; exact hlt) (by rw [← HC.out]; exact hv)]
        clear hvs hm hS hv
        go_wp2_with fail
        refine hI.mono ?_
        rintro e w2 ⟨rfl, rfl⟩
        go_wp2
        go_ret2
        exact ⟨_, rfl, hB, hR⟩
      | some v =>
        rw [hv] at hI
        have hv64 := vale_lt hd0 hv
        have hvs2 : vals (bs.take (k + 1)) = some (vs ++ [v]) := by
          rw [List.take_add_one, show bs[k]?.toList = [c] by rw [HC.out, List.getElem?_eq_getElem (by rw [← HN.out]; exact hlt)]; simp [show k < bs.length by rw [← HN.out]; exact hlt]]
          exact vals_snoc _ _ _ _ hvs hv
        have hT2 : allS (vs ++ [v]) = allS vs ++ bitsN 6 v := by rw [allS_app]; simp [allS]
        have HVS : Hid _ := hvs2
        have HT2 : Hid _ := hT2
        obtain ⟨T, hT⟩ : ∃ T, T = allS vs := ⟨_, rfl⟩
        rw [← hT] at hS hm HT2
        have hpl : (T.drop (8 * m)).length ≤ 30 := by rw [List.length_drop]; omega
        have hvi : ¬ ((v : Int) < 0) := by omega
        clear hvs hvs2 hT2 hT hv
        go_wp2_with fail
        refine hI.mono ?_
        rintro e w2 ⟨rfl, rfl⟩
        go_wp2_with fail
        refine (put15 w1.heap.size v 6 (T.drop (8 * m)) w2 hS.2.1 (hS.2.2.2.2.drop _) hpl (by omega) (by omega)).mono ?_
        rintro e w3 ⟨rfl, hO3, hL3⟩
        have hS3 := hS.put hgw hO3 hL3 (bitsN_bit 6 v)
        rw [← HT2.out] at hS3
        have hU14 : (allS (vs ++ [v])).length < 8 * m + 14 := by rw [HT2.out, List.length_append, bitsN_len]; omega
        have hUn : (allS (vs ++ [v])).length ≤ 600000 := by
          rw [allS_len, vals_len _ _ HVS.out, List.length_take, ← HN.out]; omega
        obtain ⟨U, hU⟩ : ∃ U, U = allS (vs ++ [v]) := ⟨_, rfl⟩
        rw [← hU] at hS3 hU14 hUn
        have HU : Hid _ := hU
        have hL : Left w3 w1.heap.size (U.drop (8 * m)) := hS3.2.1
        have c1 : w3.cell? ⟨w1.heap.size, 1, none⟩ = some (.int .i64 ((U.drop (8 * m)).length : Int)) := by rw [cell_of_row w3 w1.heap.size 1 _ _ _ hL]; rfl
        have hql : (U.drop (8 * m)).length = U.length - 8 * m := List.length_drop
        obtain ⟨q, hq⟩ : ∃ q, q = U.length - 8 * m := ⟨_, rfl⟩
        rw [hql, ← hq] at c1
        have hm1 := hS3.2.2.2.1
        clear hS hO3 hL3 hpl hI hm hU hql
        by_cases h8 : 8 ≤ q
        · have h88 : (8 : Int) ≤ (q : Int) := by omega
          go_wp2_with fail
          refine (take17 w1.heap.size 8 (U.drop (8 * m)) w3 hL (hS3.2.2.2.2.drop _) (by rw [List.length_drop]; omega) (by rw [List.length_drop]; omega)).mono ?_
          rintro e w4 ⟨rfl, hO4, hL4⟩
          have hown4 := own_only hS3.1 hO4 hL
          have hB4 := hO4.below hS3.2.2.1 hgw
          have h256 : numN ((U.drop (8 * m)).take 8) < 256 := eight_lt (hS3.2.2.2.2.drop _)
          have hL5 : Left w4 w1.heap.size (U.drop (8 * (m + 1))) := by
            rw [List.drop_drop] at hL4
            rw [show 8 * (m + 1) = 8 * m + 8 by omega]; exact hL4
          have HB : Hid (Bit U) := hS3.2.2.2.2
          obtain ⟨y, hy⟩ : ∃ y, y = numN ((U.drop (8 * m)).take 8) := ⟨_, rfl⟩
          rw [← hy] at h256 ⊢
          have HY : Hid _ := hy
          have hym : (y : Int) % 256 = (y : Int) := by omega
          have hown5 := hown4.alloc (.cells #[.int .u8 (y : Int)] 5)
          have hm1' : m + 1 ≤ maxLen := by unfold maxLen; omega
          have hm2' : (m + 1) * 1 ≤ 140737488355328 := by omega
          have hm3' : w.heap.size ≤ (w4.alloc (.cells #[.int .u8 (y : Int)] 5)).heap.size := by have := hB4.size; simp; omega
          have hLk : (w4.alloc (.cells #[.int .u8 (y : Int)] 5)).heap[w1.heap.size]? = some (.cells (leftC (U.drop (8 * (m + 1)))) 40 (0, 0)) := (heap_alloc_old _ _ (lt_of_heap hL5)).trans hL5
          have hne : ∀ u, (w4.alloc (.cells #[.int .u8 (y : Int)] 5)).ownsRow w.heap.size 5 1 u m (bv (eights m U)) → u.ownBlock ≠ some w1.heap.size := fun u hu => Lib.ownBlock_ne hu hLk (by decide)
          clear hS3 hL hO4 hL4 c1 hy hown4
          go_wp2_with (at_builtin; refine wpList_append_own _ rfl (.tmp 29) (.tmp 32) 22 rfl w.heap.size 5 i0 (.int .u8 0) 1 1 Try.underlying22 hi hz0 hz1 hz2 rfl (by decide) u4 m (bv (eights m U)) rfl hown5 ⟨w4.heap.size, 0, none⟩ 1 1 [.int .u8 (y : Int)] rfl rfl (news_one _ _ _) one_byte hm1' hm2' hm3' ?_; intro v5 w5 hown6 hgrow6 _)
          have hB5 : Below w.heap.size w w5 := (hB4.alloc hB4.size _).grown hgrow6 hm3' (fun j hj => (hown5.lt j hj).1)
          have hL6 : Left w5 w1.heap.size (U.drop (8 * (m + 1))) := (hgrow6.block _ (lt_of_heap hLk) (fun e => hne u4 hown5 e.symm)).trans hLk
          have e : bv (eights m U) ++ [.int .u8 (y : Int)] = bv (eights (m + 1) U) := by
            rw [eights_succ, ← HY.out, ← bv_snoc]
          rw [e] at hown6
          have hS6 : DecS w w5 v5 w1.heap.size U (m + 1) := ⟨hown6, hL6, hB5, by omega, HB.out⟩
          have HS : Hid _ := hS6
          have HM : Hid (U.length < 8 * (m + 1) + 8) := by show _ < _; omega
          clear hS6 hown6 hL6 hB5 hgrow6 hown5 hB4 hL5 hLk hne e
          go_roundw
          case rel => exact ⟨k + 1, m + 1, _, by omega, by go_num, HVS.out, by rw [← HU.out]; exact HS.out, by rw [← HU.out]; exact HM.out⟩
          case measure => simp [intOf]; omega
        · have h88 : ¬ (8 : Int) ≤ (q : Int) := by omega
          have HS : Hid (DecS w w3 u4 w1.heap.size U m) := hS3
          have HM : Hid (U.length < 8 * m + 8) := by show _ < _; omega
          clear hS3 hL
          go_wp2_with fail
          go_roundw
          case rel => exact ⟨k + 1, m, _, by omega, by go_num, HVS.out, by rw [← HU.out]; exact HS.out, by rw [← HU.out]; exact HM.out⟩
          case measure => simp [intOf]; omega
    · obtain rfl : k = n := by omega
      rw [show bs.take k = bs from List.take_of_length_le (by rw [HN.out]; exact Nat.le_refl _)] at hvs
      obtain ⟨T, hT⟩ : ∃ T, T = allS vs := ⟨_, rfl⟩
      rw [← hT] at hS hm
      have hm1 := hS.2.2.2.1
      have hL : Left wr w1.heap.size (T.drop (8 * m)) := hS.2.1
      have hql : (T.drop (8 * m)).length = T.length - 8 * m := List.length_drop
      have c0 : wr.cell? ⟨w1.heap.size, 0, none⟩ = some (.int .i64 (numN (T.drop (8 * m)) : Int)) := by rw [cell_of_row wr w1.heap.size 0 _ _ _ hL]; rfl
      have c1 : wr.cell? ⟨w1.heap.size, 1, none⟩ = some (.int .i64 ((T.drop (8 * m)).length : Int)) := by rw [cell_of_row wr w1.heap.size 1 _ _ _ hL]; rfl
      have e1 : T.length / 8 = m := by omega
      have e2 : T.length % 8 = T.length - 8 * m := by omega
      have hD : decL bs = if T.length - 8 * m < 6 ∧ numN (T.drop (8 * m)) = 0 then some (eights m T) else none := by
        unfold decL
        rw [hvs]
        show (if (allS vs).length % 8 < 6 ∧ _ then _ else _) = _
        rw [← hT, e1, e2]
      rw [hql] at c1
      obtain ⟨q, hq⟩ : ∃ q, q = T.length - 8 * m := ⟨_, rfl⟩
      obtain ⟨x, hx⟩ : ∃ x, x = numN (T.drop (8 * m)) := ⟨_, rfl⟩
      rw [← hq] at c1 hD
      rw [← hx] at c0 hD
      have hB := hS.2.2.1
      have HO : Hid (wr.ownsRow w.heap.size 5 1 u4 m (bv (eights m T))) := hS.1
      have HD : Hid _ := hD
      clear hvs hT hm hm1 hL hql e1 e2 hq hx hat hd hS hD
      by_cases h6 : q < 6 ∧ x = 0
      · obtain ⟨h7, rfl⟩ := h6
        have hR : DecR w.heap.size bs (.tuple #[u4, .int .i64 0]) wr := by
          unfold DecR
          rw [HD.out, if_pos ⟨h7, rfl⟩]
          exact ⟨u4, rfl, by rw [eights_len]; exact HO.out⟩
        have h7i : ¬ (6 : Int) ≤ (q : Int) := by omega
        clear HD
        go_wp2
        go_ret2
        exact ⟨_, rfl, hB, hR⟩
      · have hR : DecR w.heap.size bs (.tuple #[.slice none 0 0, .int .i64 13]) wr := by
          unfold DecR
          rw [HD.out, if_neg h6]
        clear HD
        by_cases h7 : q < 6
        · have h7i : ¬ (6 : Int) ≤ (q : Int) := by omega
          have hx0 : (x : Int) ≠ 0 := by omega
          go_wp2
          go_ret2
          exact ⟨_, rfl, hB, hR⟩
        · have h7i : (6 : Int) ≤ (q : Int) := by omega
          go_wp2
          go_ret2
          exact ⟨_, rfl, hB, hR⟩
end Go.Proofs.Ytfddldaldhbnfaa
set_option linter.unusedVariables false
namespace Go.Proofs.Ytfddldaldhbnfaa
open Go.RowKit Go.Sort Go.BigFrame
set_option maxRecDepth 100000
set_option maxHeartbeats 2000000
/-- A letter's number; below 0: it is none. -/
def valI (c : Nat) : Int := match vale c with | some v => (v : Int) | none => -1
theorem valI_eq (c : Nat) : valI c = if 65 ≤ c ∧ c ≤ 90 then (c : Int) - 65 else if 97 ≤ c ∧ c ≤ 122 then (c : Int) - 71 else if 48 ≤ c ∧ c ≤ 57 then (c : Int) + 4 else if c = 45 then 62 else if c = 95 then 63 else -1 := by
  unfold valI vale
  by_cases h1 : 65 ≤ c ∧ c ≤ 90
  · rw [if_pos h1, if_pos h1]; show ((c - 65 : Nat) : Int) = _; omega
  · rw [if_neg h1, if_neg h1]
    by_cases h2 : 97 ≤ c ∧ c ≤ 122
    · rw [if_pos h2, if_pos h2]; show ((c - 71 : Nat) : Int) = _; omega
    · rw [if_neg h2, if_neg h2]
      by_cases h3 : 48 ≤ c ∧ c ≤ 57
      · rw [if_pos h3, if_pos h3]; rfl
      · rw [if_neg h3, if_neg h3]
        by_cases h4 : c = 45
        · rw [if_pos h4, if_pos h4]; rfl
        · rw [if_neg h4, if_neg h4]
          by_cases h5 : c = 95
          · rw [if_pos h5, if_pos h5]; rfl
          · rw [if_neg h5, if_neg h5]
theorem value23 (c : Nat) (hc : c < 256) (w : World) : Calls Try.prog 23 #[.int .u8 (c : Int)] w fun e w' => e = .returned (.int .i64 (valI c)) ∧ w' = w := by
  obtain ⟨x, hx⟩ : ∃ x, x = valI c := ⟨_, rfl⟩
  rw [← hx]
  have HX : Hid (x = valI c) := hx
  clear hx
  go_enter Try.func23, Try.ntmps23
  go_wp2
  all_goals go_ret
  all_goals refine ⟨ret_int ?_, rfl⟩
  all_goals rw [HX.out, valI_eq]
  all_goals try simp only [beq_iff_eq, beq_eq_false_iff_ne, ne_eq] at *
  all_goals (repeat' split)
  all_goals omega
/-- The letter of a number. -/
theorem letter20 (n : Nat) (hn : n < 64) (w : World) : Calls Try.prog 20 #[.int .i64 (n : Int)] w fun e w' => e = .returned (.int .u8 (lett n : Nat)) ∧ w' = w := by
  have hl : lett n < 128 := by
    have : ∀ n < 64, lett n < 128 := by decide
    exact this n hn
  have hv : valI (lett n) = n := by unfold valI; rw [vale_lett n hn]
  have hu : ∀ c, c < 128 → valI c = n → c = lett n := fun c hc h => by
    unfold valI at h
    cases e : vale c with
    | none => rw [e] at h; simp at h
    | some v =>
      rw [e] at h
      obtain ⟨_, h2⟩ := lett_vale c (by omega) v e
      have h : (v : Int) = (n : Int) := h
      have : v = n := by omega
      rw [← h2, this]
  obtain ⟨L, hL⟩ : ∃ L, L = lett n := ⟨_, rfl⟩
  rw [← hL] at hl hv hu ⊢
  have HU : Hid _ := hu
  have HV : Hid _ := hv
  clear hL hu hv
  go_enter Try.func20, Try.ntmps20
  go_wp2_with fail
  go_loop [3] (fun i => ∃ k : Nat, k ≤ L ∧ i = .int .i64 k) (fun i => L - (intOf i).toNat)
  case atStart => exact ⟨0, by omega, rfl⟩
  case round =>
    obtain ⟨k, hk, rfl⟩ := hrel
    have hkm : (k : Int) % 256 = (k : Int) := by omega
    have hC := value23 k (by omega) w
    by_cases he : k = L
    · subst he
      rw [HV.out] at hC
      go_wp2_with fail
      refine hC.mono ?_
      rintro e w' ⟨rfl, rfl⟩
      go_wp2
      go_ret
      exact ⟨rfl, rfl⟩
    · have hne : valI k ≠ (n : Int) := fun h => he (HU.out k (by omega) h)
      have hnb : (valI k == (n : Int)) = false := by simpa using hne
      have hlt : k < L := by omega
      go_wp2_with fail
      refine hC.mono ?_
      rintro e w' ⟨rfl, rfl⟩
      go_wp2
      go_round
      case rel => exact ⟨k + 1, by omega, by go_num⟩
      case measure => simp [intOf]; omega
end Go.Proofs.Ytfddldaldhbnfaa
set_option linter.unusedVariables false
namespace Go.Proofs.Ytfddldaldhbnfaa
open Go.RowKit Go.Sort Go.BigFrame
set_option maxRecDepth 100000
set_option maxHeartbeats 2000000
theorem bitsN_front : ∀ (j n : Nat), bitsN (j + 1) n = (n / 2 ^ j % 2) :: bitsN j n
  | 0, n => by simp [bitsN]
  | j + 1, n => by
    rw [bitsN, bitsN_front j (n / 2), Nat.div_div_eq_div_mul, ← Nat.pow_succ']
    rfl
theorem set_front (k n j : Nat) (h : j < k) : (List.replicate (k - j) 0 ++ bitsN j n).set (k - 1 - j) (n / 2 ^ j % 2) = List.replicate (k - (j + 1)) 0 ++ bitsN (j + 1) n := by
  rw [bitsN_front, show k - j = (k - 1 - j) + 1 by omega, List.replicate_succ', List.append_assoc, List.set_append_right _ _ (by simp), List.length_replicate, Nat.sub_self, show k - (j + 1) = k - 1 - j by omega]
  rfl
theorem made_i64 (n : Nat) : madeCells #[.int .i64 0] n = ints .i64 (List.replicate n 0) := by
  apply Array.ext'
  rw [madeCells]
  apply List.ext_getElem
  · simp [ints]
  · intro i h1 h2
    simp [ints, Nat.mod_one]
/-- A number's bits. -/
theorem bits19 (n k : Nat) (hk : k ≤ 8) (hn : n < 256) (w : World) : Calls Try.prog 19 #[.int .i64 (n : Int), .int .i64 (k : Int)] w fun e w' =>
    ∃ g, e = .returned (.slice (some ⟨g, 0, none⟩) k k) ∧ w.heap.size ≤ g ∧ Below w.heap.size w w' ∧ w'.heap[g]? = some (.cells (ints .i64 (bitsN k n)) 3 (0, 0)) := by
  have hmk := fun w1 => run_make_row' (P := Try.prog) 47 3 (.int .i64 0) 8 Try.underlying47 (by kernel_rfl) rfl .i64 .i64 k (by omega) (by omega) w1
  simp only [made_i64] at hmk
  go_enter Try.func19, Try.ntmps19
  go_wp2
  go_loopw [0, 6] (fun v i wr => ∃ j : Nat, j ≤ k ∧ i = .int .i64 ((k : Int) - 1 - j) ∧ v = .int .i64 ((n / 2 ^ j : Nat) : Int) ∧ Below w.heap.size w wr ∧ wr.heap[w.heap.size]? = some (.cells (ints .i64 (List.replicate (k - j) 0 ++ bitsN j n)) 3 (0, 0))) (fun _ i _ => (intOf i + 1).toNat)
  case atStart => exact ⟨0, by omega, by go_num, by rw [Nat.pow_zero, Nat.div_one], below1 _ _, by rw [Nat.sub_zero, show bitsN 0 n = [] from rfl, List.append_nil]; exact heap_alloc_new _ _⟩
  case round =>
    obtain ⟨j, hj, rfl, rfl, hB, hg⟩ := hrel
    by_cases hlt : j < k
    · obtain ⟨i, hi⟩ : ∃ i, i = k - 1 - j := ⟨_, rfl⟩
      have hik : (k : Int) - 1 - (j : Int) = (i : Int) := by omega
      have hlen : (List.replicate (k - j) 0 ++ bitsN j n).length = k := by rw [List.length_append, List.length_replicate, bitsN_len]; omega
      have hs := set_ints hg i (n / 2 ^ j % 2)
      have hsf := set_front k n j hlt
      rw [← hi] at hsf
      rw [hsf] at hs
      have fz := frozen_of_row wr w.heap.size i _ 3 hg
      have ck := cell_ints hg i (by rw [hlen]; omega)
      have hB2 := hB.setCell (p := ⟨w.heap.size, i, none⟩) (Nat.le_refl _) (.int .i64 ((n / 2 ^ j % 2 : Nat) : Int))
      have hx2 : n / 2 ^ j / 2 = n / 2 ^ (j + 1) := by rw [Nat.div_div_eq_div_mul, ← Nat.pow_succ]
      obtain ⟨x, hx⟩ : ∃ x, x = n / 2 ^ j := ⟨_, rfl⟩
      rw [← hx] at hs hB2 hx2 ⊢
      have hxl : x < 256 := by rw [hx]; exact Nat.lt_of_le_of_lt (Nat.div_le_self _ _) hn
      rw [hik]
      have HS : Hid _ := hs
      have HB : Hid _ := hB2
      have HX : Hid _ := hx2
      have HI : Hid (i + j + 1 = k) := by show _ = _; omega
      clear hs hB2 hx2 hx hi hik hsf hlen hB hg
      have hi8 : i < k := by have := HI.out; omega
      go_wp2
      go_roundw
      case rel =>
        have := HI.out
        exact ⟨j + 1, by omega, by congr 1; omega, by rw [← HX.out]; go_num, HB.out, HS.out⟩
      case measure => simp [intOf]
    · obtain rfl : j = k := by omega
      have e : (j : Int) - 1 - (j : Int) = -1 := by omega
      rw [e]
      rw [Nat.sub_self, List.replicate_zero, List.nil_append] at hg
      go_wp2
      go_ret
      exact ⟨_, rfl, Nat.le_refl _, hB, hg⟩
/-- The number of bits. -/
theorem number21 (a : Option Addr) (len cap : Nat) (l : List Nat) (w : World) (hlen : l.length = len) (hl : len ≤ 8) (hv : IView w a l) (hb : Bit l) : Calls Try.prog 21 #[.slice a len cap] w fun e w' => e = .returned (.int .i64 (numN l : Nat)) ∧ w' = w := by
  have HL : Hid _ := hlen
  clear hlen
  go_enter Try.func21, Try.ntmps21
  go_wp2_with fail
  go_loop [3, 4] (fun v i => ∃ k : Nat, k ≤ len ∧ i = .int .i64 k ∧ v = .int .i64 (numN (l.take k) : Nat)) (fun _ i => len - (intOf i).toNat)
  case atStart => exact ⟨0, by omega, rfl, rfl⟩
  case round =>
    obtain ⟨k, hk, rfl, rfl⟩ := hrel
    by_cases hlt : k < len
    · obtain ⟨b, off, rfl, hc⟩ := hv (by rw [HL.out]; omega)
      have ck := hc k (by rw [HL.out]; exact hlt)
      have hs : numN (l.take (k + 1)) = 2 * numN (l.take k) + l.getD k 0 := by
        rw [List.take_add_one, show l[k]?.toList = [l.getD k 0] by rw [List.getElem?_eq_getElem (by rw [HL.out]; exact hlt)]; simp [show k < l.length by rw [HL.out]; exact hlt], numN_app]
      have hd : l.getD k 0 < 2 := by
        rw [List.getD_eq_getElem?_getD, List.getElem?_eq_getElem (by rw [HL.out]; exact hlt)]
        exact hb _ (List.getElem_mem _)
      have hN : numN (l.take k) < 256 := by
        refine Nat.lt_of_lt_of_le (numN_lt _ (hb.take k)) (pow_le30 (k := 8) ?_)
        rw [List.length_take]; omega
      obtain ⟨x, hx⟩ : ∃ x, x = l.getD k 0 := ⟨_, rfl⟩
      obtain ⟨y, hy⟩ : ∃ y, y = numN (l.take k) := ⟨_, rfl⟩
      rw [← hx] at ck hs hd
      rw [← hy] at hs hN ⊢
      have HS : Hid _ := hs
      clear hs hx hy hc
      go_wp2
      go_round
      case rel => exact ⟨k + 1, by omega, by go_num, by rw [HS.out]; go_num⟩
      case measure => simp [intOf]; omega
    · obtain rfl : k = len := by omega
      go_wp2
      go_ret
      exact ⟨by rw [List.take_of_length_le (by rw [HL.out]; exact Nat.le_refl _)]; rfl, rfl⟩
end Go.Proofs.Ytfddldaldhbnfaa
set_option linter.unusedVariables false
namespace Go.Proofs.Ytfddldaldhbnfaa
open Go.RowKit Go.Sort Go.BigFrame
set_option maxRecDepth 100000
set_option maxHeartbeats 2000000
theorem news_row {w : World} {g t : Nat} {l : List Nat} (h : w.heap[g]? = some (.cells (ints .i64 l) t (0, 0))) : ∀ (j : Nat) u, (iv l)[j]? = some u → w.cell? ((⟨g, 0, none⟩ : Addr).add j) = some u := by
  intro j u hj
  have hj' : j < l.length := by
    by_cases h : j < l.length
    · exact h
    · rw [List.getElem?_eq_none (by simp [iv]; omega)] at hj; cases hj
  rw [Addr.add_mid, Nat.zero_add, cell_ints h j hj', ← hj]
  simp [iv, hj']
theorem iv_one {l : List Nat} : ∀ u ∈ iv l, u.oneCell' = true := fun u hu => by
  obtain ⟨x, _, rfl⟩ := List.mem_map.1 hu; rfl
theorem iv_app (a b : List Nat) : iv a ++ iv b = iv (a ++ b) := by simp [iv]
theorem iv_len (a : List Nat) : (iv a).length = a.length := by simp [iv]
def lenV : Value → Nat
  | .slice _ n _ => n
  | _ => 0
/-- How many noughts are missing. -/
def padN (n : Nat) : Nat := 6 * nLet n - 8 * n
theorem take_bits {l : List Nat} {k x : Nat} (hk : k < l.length) (hx : l.getD k 0 = x) : allB (l.take (k + 1)) = allB (l.take k) ++ bitsN 8 x := by
  rw [List.take_add_one, allB_app, show l[k]?.toList = [x] by rw [List.getElem?_eq_getElem hk, ← hx]; simp [hk]]
  simp [allB]
theorem run_cut_lhi (g len cap l : Nat) (w : World) (hh : l + 6 ≤ cap) : (Instr.sliceAt 47 (.slice (some ⟨g, 0, none⟩) len cap) (some (.int .i64 (l : Int))) (some (.int .i64 ((l : Int) + 6))) none).run Try.prog w = .ok (.slice (some ⟨g, l, none⟩) 6 (cap - l)) w := by
  have hu : Try.prog.underlying 47 = some (.slice (Try.prog.elem 47)) := by rw [elem31]; exact Try.underlying47
  rw [run_sliceAt_slice w 47 _ _ _ _ hu, run_slice_lh w 47 (some ⟨g, 0, none⟩) len cap hu .i64 .i64 _ _ (by omega) (by omega) (by omega), elem31, size3]
  have e : ((l : Int) + 6).toNat = l + 6 := by omega
  have e2 : ¬ cap = l := by omega
  simp [Result.andThen, sliced, e, e2, Addr.add_mid]
theorem refEnc10 {v : Value} {l : List Nat} (w : World) (h : Bts l v w) (hd : Dig l) (hl : l.length ≤ 100000) : Ret 10 #[v] w (Is (.string (strOf (encL l)))) := by
  obtain ⟨a, cap, rfl, hc, hc2, hv⟩ := h
  obtain ⟨n, hn⟩ : ∃ n, n = l.length := ⟨_, rfl⟩
  rw [← hn] at hc hl ⊢
  have HN : Hid _ := hn
  clear hn
  obtain ⟨i0, hi, hz0, hz1, hz2⟩ := info3
  unfold Ret
  go_enter Try.func10, Try.ntmps10
  go_wp2_with fail
  go_loopw [3, 4] (fun v i wr => ∃ k : Nat, k ≤ n ∧ i = .int .i64 k ∧ Below w.heap.size w wr ∧ wr.ownsRow w.heap.size 3 1 v (8 * k) (iv (allB (l.take k)))) (fun _ i _ => n - (intOf i).toNat)
  case atStart => exact ⟨0, by omega, rfl, Below.refl _ _, World.ownsRow_nil _ _ _ _⟩
  case round =>
    obtain ⟨k, hk, rfl, hB, hown⟩ := hrel
    by_cases hlt : k < n
    · obtain ⟨bk, off, rfl, hbt⟩ := hv (by rw [← HN.out]; omega)
      have hck := (hbt.below hB (block_lt_of_cell (hbt 0 (by rw [← HN.out]; omega)))) k (by rw [← HN.out]; exact hlt)
      have hx := hd k
      have hT := take_bits (l := l) (k := k) (by rw [← HN.out]; exact hlt) rfl
      obtain ⟨x, hxx⟩ : ∃ x, x = l.getD k 0 := ⟨_, rfl⟩
      rw [← hxx] at hck hx hT
      have HT : Hid _ := hT
      clear hT hxx hbt
      go_wp2_with fail
      refine (bits19 x 8 (by omega) hx wr).mono ?_
      rintro e w2 ⟨g, rfl, hg, hB2, hrow⟩
      have hown2 := own_on hown hB2
      have hB3 := hB.trans (hB2.mono hB.size)
      have hnews := news_row hrow
      have hm1 : 8 * k + 8 ≤ maxLen := by unfold maxLen; omega
      have hm2 : (8 * k + 8) * 8 ≤ 140737488355328 := by omega
      have hm3 := hB3.size
      have hln : (iv (bitsN 8 x)).length = 8 * 1 := by rw [iv_len, bitsN_len]
      clear hown hB2 hrow hB hck
      go_wp2_with (at_builtin; refine wpList_append_own _ rfl (.tmp 13) (.tmp 19) 47 rfl w.heap.size 3 i0 (.int .i64 0) 1 8 Try.underlying47 hi hz0 hz1 hz2 rfl (by decide) u3 (8 * k) (iv (allB (l.take k))) rfl hown2 ⟨g, 0, none⟩ 8 8 (iv (bitsN 8 x)) rfl hln hnews iv_one hm1 hm2 hm3 ?_; intro v4 w4 hown4 hgrow4 _)
      have hB4 : Below w.heap.size w w4 := hB3.grown hgrow4 hm3 (fun j hj => (hown2.lt j hj).1)
      rw [iv_app, ← HT.out] at hown4
      exact ⟨⟨k + 1, by omega, by go_num, hB4, hown4⟩, by simp [intOf]; omega⟩
    · obtain rfl : k = n := by omega
      rw [show l.take k = l from List.take_of_length_le (by rw [HN.out]; exact Nat.le_refl _)] at hown
      have hTl := allB_len l
      rw [← HN.out] at hTl
      obtain ⟨T, hT⟩ : ∃ T, T = allB l := ⟨_, rfl⟩
      rw [← hT] at hown hTl
      have HT : Hid _ := hT
      have HTL : Hid (T.length = 8 * k) := hTl
      obtain ⟨r, hr⟩ : ∃ r, r = padN k := ⟨_, rfl⟩
      have hr5 : r ≤ 5 := by rw [hr]; unfold padN nLet; omega
      have hr6 : 8 * k + r = 6 * nLet k := by rw [hr]; unfold padN nLet; omega
      obtain ⟨q, hq⟩ : ∃ q, q = nLet k := ⟨_, rfl⟩
      rw [← hq] at hr6
      have HR : Hid (r = padN k) := hr
      have HQ : Hid (q = nLet k) := hq
      have HRQ : Hid (8 * k + r = 6 * q) := hr6
      clear hT hTl hr hq hr6
      obtain ⟨N, hN⟩ : ∃ N, N = 8 * k := ⟨_, rfl⟩
      rw [← hN] at hown
      have HNN : Hid (N = 8 * k) := hN
      have hN8 : N ≤ 800000 := by omega
      clear hN
      obtain ⟨wo, hwo⟩ : ∃ wo : World, wo = wr := ⟨_, rfl⟩
      subst hwo
      go_wp2_with fail
      go_loopw [3] (fun v wr => ∃ z : Nat, z ≤ r ∧ Below w.heap.size w wr ∧ wr.ownsRow w.heap.size 3 1 v (N + z) (iv (T ++ List.replicate z 0))) (fun v _ => N + r - lenV v)
      case atStart => exact ⟨0, by omega, hB, by rw [List.replicate_zero, List.append_nil]; exact hown⟩
      case round =>
        obtain ⟨z, hz, hB, hown⟩ := hrel
        obtain ⟨a3, c3, rfl, hc3, hc4⟩ := own_slice hown
        obtain ⟨M, hM⟩ : ∃ M, M = N + z := ⟨_, rfl⟩
        rw [← hM] at hown hc3 ⊢
        have HM : Hid (M = N + z) := hM
        by_cases hlt2 : z < r
        · have hne : ((M : Nat) : Int) % 6 ≠ 0 := by have := HRQ.out; have := HNN.out; omega
          have hown2 := hown.alloc (.cells #[.int .i64 0] 3)
          have hm1 : M + 1 ≤ maxLen := by unfold maxLen; omega
          have hm2 : (M + 1) * 8 ≤ 140737488355328 := by omega
          have hm3 : w.heap.size ≤ (wr.alloc (.cells #[.int .i64 0] 3)).heap.size := by have := hB.size; simp; omega
          have hB2 : Below w.heap.size w (wr.alloc (.cells #[.int .i64 0] 3)) := hB.alloc hB.size _
          clear hM hown
          go_wp2_with (at_builtin; refine wpList_append_own _ rfl (.tmp 25) (.tmp 26) 47 rfl w.heap.size 3 i0 (.int .i64 0) 1 8 Try.underlying47 hi hz0 hz1 hz2 rfl (by decide) (.slice a3 M c3) M (iv (T ++ List.replicate z 0)) rfl hown2 ⟨wr.heap.size, 0, none⟩ 1 1 [.int .i64 0] rfl rfl (news_one _ _ _) one_int hm1 hm2 hm3 ?_; intro v4 w4 hown4 hgrow4 _)
          have hB4 : Below w.heap.size w w4 := hB2.grown hgrow4 hm3 (fun j hj => (hown2.lt j hj).1)
          have e4 : iv (T ++ List.replicate z 0) ++ [.int .i64 0] = iv (T ++ List.replicate (z + 1) 0) := by
            rw [List.replicate_succ', ← List.append_assoc, ← iv_snoc]; rfl
          rw [e4, show M + 1 = N + (z + 1) by have := HM.out; omega] at hown4
          obtain ⟨a4, c4, rfl, _, _⟩ := own_slice hown4
          exact ⟨⟨z + 1, by omega, hB4, hown4⟩, by have := HM.out; simp [lenV]; omega⟩
        · obtain rfl : z = r := by omega
          have hne : ((M : Nat) : Int) % 6 = 0 := by have := HRQ.out; have := HNN.out; omega
          have hM6 : M = 6 * q := by have := HRQ.out; have := HNN.out; omega
          have hq2 : q ≤ 200000 := by omega
          clear hM
          go_wp2_with fail
          obtain ⟨L, hL⟩ : ∃ L, L = T ++ List.replicate z 0 := ⟨_, rfl⟩
          rw [← hL] at hown
          have HL : Hid (L = T ++ List.replicate z 0) := hL
          have hlL : L.length = M := by rw [hL, List.length_append, HTL.out, List.length_replicate, HM.out, HNN.out]
          have hbL : Bit L := by
            rw [hL, HT.out]
            refine (allB_bit l).app ?_
            intro x hx
            rw [List.mem_replicate] at hx; omega
          obtain ⟨wo, hwo⟩ : ∃ wo : World, wo = wr := ⟨_, rfl⟩
          subst hwo
          have hrow : ∃ g cur, (0 < M → a3 = some ⟨g, 0, none⟩ ∧ wo.heap[g]? = some (.cells cur 3 (0, 0))) ∧ ∀ i, i < M → cur[i]? = some (.int .i64 ((L.getD i 0 : Nat) : Int)) := by
            rcases hown.2 with ⟨h1, h2⟩ | ⟨g, cap', cur, h1, h2, h3, h4, h5, h6, h7⟩
            · exact ⟨0, #[], (fun h => by omega), (fun i h => by omega)⟩
            · injection h1 with e1 e2 e3
              refine ⟨g, cur, fun _ => ⟨e1, h3⟩, fun i hi => ?_⟩
              have := congrArg (fun x : List Value => x[i]?) h7
              rw [List.getElem?_take_of_lt (by omega), Array.getElem?_toList] at this
              rw [this]
              simp [iv, show i < L.length by omega]
          obtain ⟨g, cur, hg, hcur⟩ := hrow
          obtain ⟨i1, hi1, hy0, hy1, hy2⟩ := info5
          have HG : Hid _ := hg
          have HC : Hid _ := hcur
          have HLL : Hid _ := hlL
          clear hL hown hne hM6 hg hcur hlL
          go_loopw [5, 6] (fun v i wr => ∃ j : Nat, j ≤ q ∧ i = .int .i64 ((6 * j : Nat) : Int) ∧ Below w.heap.size w wr ∧ wr.ownsRow w.heap.size 5 1 v j (bv ((sixes j L).map lett)) ∧ (0 < M → wr.heap[g]? = some (.cells cur 3 (0, 0)))) (fun _ i _ => M - (intOf i).toNat)
          case atStart => exact ⟨0, by omega, rfl, hB, World.ownsRow_nil _ _ _ _, fun h => (HG.out h).2⟩
          case round =>
            obtain ⟨j, hj, rfl, hB, hown, hrow⟩ := hrel
            have hM6 : M = 6 * q := by have := HRQ.out; have := HNN.out; have := HM.out; omega
            obtain ⟨I, hI⟩ : ∃ I, I = 6 * j := ⟨_, rfl⟩
            rw [← hI]
            by_cases hlt3 : j < q
            · obtain ⟨rfl, _⟩ := HG.out (by omega)
              have hr := hrow (by omega)
              have hIM : I + 6 ≤ M := by omega
              have hIc : I + 6 ≤ c3 := by omega
              have hlt3' : (I : Int) < (M : Int) := by omega
              have hcut := fun w1 => run_cut_lhi g M c3 I w1 hIc
              have hvw : IView wr (some ⟨g, I, none⟩) ((L.drop I).take 6) := fun hp => ⟨g, I, rfl, fun i hi => by
                have hi6 : i < 6 := by rw [List.length_take] at hi; omega
                rw [cell_of_row wr g (I + i) _ _ _ hr, HC.out (I + i) (by omega), sub_getD L I 6 i hi6]⟩
              have hln : ((L.drop I).take 6).length = 6 := by rw [List.length_take, List.length_drop, HLL.out]; omega
              have hbt : Bit ((L.drop I).take 6) := (hbL.drop I).take 6
              have h64 : numN ((L.drop I).take 6) < 64 := six_lt (hbL.drop I)
              have hNum := number21 (some ⟨g, I, none⟩) 6 (c3 - I) ((L.drop I).take 6) wr hln (by omega) hvw hbt
              have hs := sixes_succ j L
              rw [← hI] at hs
              obtain ⟨y, hy⟩ : ∃ y, y = numN ((L.drop I).take 6) := ⟨_, rfl⟩
              rw [← hy] at hNum h64 hs
              have HS : Hid (sixes (j + 1) L = sixes j L ++ [y]) := hs
              have HI : Hid (I = 6 * j) := hI
              have HM6 : Hid (M = 6 * q) := hM6
              have hLt := fun w => letter20 y h64 w
              obtain ⟨Y, hY⟩ : ∃ Y, Y = lett y := ⟨_, rfl⟩
              have hYl : Y < 256 := by rw [hY]; exact lett_lt h64
              rw [← hY] at hLt
              have HY : Hid (Y = lett y) := hY
              have hown2 := hown.alloc (.cells #[.int .u8 (Y : Int)] 5)
              have hm1 : j + 1 ≤ maxLen := by unfold maxLen; omega
              have hm2 : (j + 1) * 1 ≤ 140737488355328 := by omega
              have hm3 : w.heap.size ≤ (wr.alloc (.cells #[.int .u8 (Y : Int)] 5)).heap.size := by have := hB.size; simp; omega
              have hB2 : Below w.heap.size w (wr.alloc (.cells #[.int .u8 (Y : Int)] 5)) := hB.alloc hB.size _
              have hr2 : (wr.alloc (.cells #[.int .u8 (Y : Int)] 5)).heap[g]? = some (.cells cur 3 (0, 0)) := (heap_alloc_old _ _ (lt_of_heap hr)).trans hr
              clear hs hy hI hvw hln hbt hM6 hY hown hrow hr hB
              go_wp2_with fail
              refine hNum.mono ?_
              rintro e w2 ⟨rfl, rfl⟩
              go_wp2_with fail
              refine (hLt _).mono ?_
              rintro e w3 ⟨rfl, rfl⟩
              go_wp2_with (at_builtin; refine wpList_append_own _ rfl (.tmp 34) (.tmp 42) 22 rfl w.heap.size 5 i1 (.int .u8 0) 1 1 Try.underlying22 hi1 hy0 hy1 hy2 rfl (by decide) u5 j (bv ((sixes j L).map lett)) rfl hown2 ⟨w3.heap.size, 0, none⟩ 1 1 [.int .u8 (Y : Int)] rfl rfl (news_one _ _ _) one_byte hm1 hm2 hm3 ?_; intro v4 w4 hown4 hgrow4 _)
              have hB4 : Below w.heap.size w w4 := hB2.grown hgrow4 hm3 (fun j hj => (hown2.lt j hj).1)
              have hr4 : w4.heap[g]? = some (.cells cur 3 (0, 0)) := (hgrow4.block _ (lt_of_heap hr2) (fun e => Lib.ownBlock_ne hown2 hr2 (by decide) e.symm)).trans hr2
              have e4 : bv ((sixes j L).map lett) ++ [.int .u8 (Y : Int)] = bv ((sixes (j + 1) L).map lett) := by
                rw [HS.out, List.map_append, List.map_singleton, ← HY.out, ← bv_snoc]
              rw [e4] at hown4
              have HO : Hid _ := hown4
              have HR4 : Hid _ := hr4
              clear hown4 hgrow4 hown2 hr2 hr4 e4 hcut hB2
              go_roundw
              case rel => exact ⟨j + 1, by omega, by have := HI.out; congr 1; omega, hB4, HO.out, fun _ => HR4.out⟩
              case measure => have := HI.out; simp [intOf]; omega
            · obtain rfl : j = q := by omega
              have hIM : ¬ (I : Int) < (M : Int) := by omega
              obtain ⟨hvw, hln⟩ : (∃ a c, u5 = .slice a j c ∧ View wr a ((sixes j L).map lett)) ∧ ((sixes j L).map lett).length = j := by
                obtain ⟨a5, c5, rfl, _, _⟩ := own_slice hown
                obtain ⟨h1, h2⟩ := own_bview hown
                exact ⟨⟨a5, c5, rfl, h1⟩, h2⟩
              obtain ⟨a5, c5, rfl, hvw⟩ := hvw
              have hstr := toString_view (cap := c5) hln hvw
              have hE : encL l = (sixes j L).map lett := by
                unfold encL encN
                rw [← HN.out, ← HQ.out, HL.out, HT.out, HR.out]
                unfold padN
                rw [← HQ.out]
              rw [← hE] at hstr
              clear hown hrow hvw hln hE hM6 hI
              go_wp2
              go_ret
              exact ⟨_, rfl, hB, rfl⟩
end Go.Proofs.Ytfddldaldhbnfaa
set_option linter.unusedVariables false
namespace Go.Proofs.Ytfddldaldhbnfaa
open Go.RowKit Go.Sort Go.BigFrame
set_option maxRecDepth 100000
set_option maxHeartbeats 2000000
theorem Str.eq {s : ByteArray} {bs : List Nat} (h : Str s bs) : s = strOf bs := by
  obtain ⟨h1, h2, h3⟩ := h
  rw [strOf_arr]
  have e : s.data.toList = bs.map UInt8.ofNat := by
    apply List.ext_getElem
    · simpa using h1
    · intro i a b
      have hs : i < s.size := by simpa using a
      have hb : i < bs.length := by omega
      have h4 := h2 i hs
      have h5 : (s.data.toList[i]'a).toNat = (s[i]'hs).toNat := rfl
      have h6 : bs.getD i 0 = bs[i]'hb := by simp [hb]
      rw [List.getElem_map]
      apply UInt8.toNat_inj.1
      rw [h5, h4, h6, UInt8.toNat_ofNat', Nat.mod_eq_of_lt]
      have := h3 i
      rw [h6] at this
      omega
  have e2 : s.data = (bs.map UInt8.ofNat).toArray := by rw [← e]
  show ByteArray.mk s.data = _
  rw [e2]
theorem vals_lt : ∀ (l vs : List Nat), (∀ x ∈ l, x < 256) → vals l = some vs → (∀ x ∈ vs, x < 64) ∧ vs.map lett = l
  | [], vs, _, h => by
    obtain rfl : [] = vs := by simpa [vals] using h
    exact ⟨(fun x hx => by cases hx), rfl⟩
  | x :: l, vs, hd, h => by
    unfold vals at h
    cases hx : vale x with
    | none => simp [hx] at h
    | some y =>
      cases hr : vals l with
      | none => simp [hx, hr] at h
      | some r =>
        obtain rfl : y :: r = vs := by simpa [hx, hr] using h
        obtain ⟨h1, h2⟩ := vals_lt l r (fun z hz => hd z (by simp [hz])) hr
        obtain ⟨h3, h4⟩ := lett_vale x (hd x (by simp)) y hx
        refine ⟨fun z hz => ?_, by rw [List.map_cons, h2, h4]⟩
        rcases List.mem_cons.1 hz with rfl | hz
        · exact h3
        · exact h1 z hz
theorem lett_inj {a b : List Nat} (ha : ∀ x ∈ a, x < 64) (hb : ∀ x ∈ b, x < 64) (h : a.map lett = b.map lett) : a = b := by
  have key : ∀ x < 64, ∀ y < 64, lett x = lett y → x = y := fun x hx y hy h => by
    have h1 := vale_lett x hx
    rw [h, vale_lett y hy] at h1
    exact (Option.some.inj h1).symm
  have hl : a.length = b.length := by simpa using congrArg List.length h
  apply List.ext_getElem hl
  intro i h1 h2
  have h3 : (a.map lett)[i]'(by simpa using h1) = (b.map lett)[i]'(by simpa using h2) := by simp only [h]
  simp only [List.getElem_map] at h3
  exact key _ (ha _ (List.getElem_mem _)) _ (hb _ (List.getElem_mem _)) h3
theorem numN_zeros : ∀ {l : List Nat}, Bit l → numN l = 0 → l = List.replicate l.length 0 := fun {l} hb h => by
  have h1 := bitsN_numN l.length l rfl hb
  rw [h, bits_zero] at h1
  exact h1.symm
theorem numN_rep (n : Nat) : numN (List.replicate n 0) = 0 := by
  have := numN_bitsN n 0
  rw [bits_zero] at this
  rw [this]; simp
/-- What is told of letters: whether the bytes read of them have just these letters. -/
theorem dec_iff {bs vs : List Nat} (hd : ∀ x ∈ bs, x < 256) (hv : vals bs = some vs) : decL bs = if encL (eights ((allS vs).length / 8) (allS vs)) = bs then some (eights ((allS vs).length / 8) (allS vs)) else none := by
  obtain ⟨h64, hm⟩ := vals_lt bs vs hd hv
  have hlen := allS_len vs
  have hbit := allS_bit vs
  obtain ⟨T, hT⟩ : ∃ T, T = allS vs := ⟨_, rfl⟩
  have hk : 8 * (T.length / 8) ≤ T.length := Nat.mul_div_le _ _
  obtain ⟨k, hkk⟩ : ∃ k, k = T.length / 8 := ⟨_, rfl⟩
  unfold decL
  rw [hv]
  show (if (allS vs).length % 8 < 6 ∧ numN ((allS vs).drop (8 * ((allS vs).length / 8))) = 0 then some (eights ((allS vs).length / 8) (allS vs)) else none) = _
  rw [← hT] at hlen hbit ⊢
  rw [← hkk] at hk ⊢
  have hout : (eights k T).length = k := eights_len _ _
  have hallB := allB_eights k T hk hbit
  have hE : encL (eights k T) = bs ↔ encN (eights k T) = vs := by
    unfold encL
    constructor
    · intro h
      rw [← hm] at h
      exact lett_inj (encN_lt _) h64 h
    · intro h; rw [h, hm]
  have key : (T.length % 8 < 6 ∧ numN (T.drop (8 * k)) = 0) ↔ encL (eights k T) = bs := by
    rw [hE]
    constructor
    · rintro ⟨h1, h2⟩
      have hz := numN_zeros (hbit.drop (8 * k)) h2
      rw [List.length_drop] at hz
      have hnl : nLet k = vs.length := by unfold nLet; omega
      refine enc_of h64 (eights_lt k T hbit) (by rw [hout, hnl]) ?_
      rw [← hT, hout, hallB, hnl, ← hlen, ← hz, List.take_append_drop]
    · intro h
      have h1 := encN_len (eights k T)
      rw [h, hout] at h1
      have h2 := encN_bits (eights k T)
      rw [h, ← hT, hallB, hout, ← h1, ← hlen] at h2
      have hr : T.length % 8 < 6 := by unfold nLet at h1; omega
      refine ⟨hr, ?_⟩
      have h3 : T.drop (8 * k) = List.replicate (T.length - 8 * k) 0 := by
        have h4 := List.take_append_drop (8 * k) T
        rw [← h4] at h2
        rw [h4] at h2
        exact List.append_cancel_left (h4.trans h2)
      rw [h3, numN_rep]
  by_cases h : encL (eights k T) = bs
  · rw [if_pos h, if_pos (key.2 h)]
  · rw [if_neg h, if_neg (fun h2 => h (key.1 h2))]
/-- What the reference's Decode tells. -/
def RefR (lo : Nat) (s : List Nat) (v : Value) (w : World) : Prop := match decL s with
  | none => v = .tuple #[.slice none 0 0, .bool false]
  | some b => ∃ x, v = .tuple #[x, .bool true] ∧ w.ownsRow lo 5 1 x b.length (bv b)
theorem run_cut_lhi8 (g len cap l : Nat) (w : World) (hh : l + 8 ≤ cap) : (Instr.sliceAt 47 (.slice (some ⟨g, 0, none⟩) len cap) (some (.int .i64 (l : Int))) (some (.int .i64 ((l : Int) + 8))) none).run Try.prog w = .ok (.slice (some ⟨g, l, none⟩) 8 (cap - l)) w := by
  have hu : Try.prog.underlying 47 = some (.slice (Try.prog.elem 47)) := by rw [elem31]; exact Try.underlying47
  rw [run_sliceAt_slice w 47 _ _ _ _ hu, run_slice_lh w 47 (some ⟨g, 0, none⟩) len cap hu .i64 .i64 _ _ (by omega) (by omega) (by omega), elem31, size3]
  have e : ((l : Int) + 8).toNat = l + 8 := by omega
  have e2 : ¬ cap = l := by omega
  simp [Result.andThen, sliced, e, e2, Addr.add_mid]
end Go.Proofs.Ytfddldaldhbnfaa
set_option linter.unusedVariables false
namespace Go.Proofs.Ytfddldaldhbnfaa
open Go.RowKit Go.Sort Go.BigFrame
set_option maxRecDepth 100000
set_option maxHeartbeats 2000000
theorem take_one {bs : List Nat} {k c : Nat} (h : k < bs.length) (hc : bs.getD k 0 = c) : bs.take (k + 1) = bs.take k ++ [c] := by
  rw [List.take_add_one, show bs[k]?.toList = [c] by rw [List.getElem?_eq_getElem h, ← hc]; simp [h]]
theorem refDec13 {s : ByteArray} {bs : List Nat} (w : World) (h : Str s bs) (hl : bs.length ≤ 100000) : Ret 13 #[.string s] w (RefR w.heap.size bs) := by
  have hse := h.eq
  obtain ⟨hsz, hat, hd⟩ := h
  have HSE : Hid (s = strOf bs) := hse
  obtain ⟨n, hn⟩ : ∃ n, n = bs.length := ⟨_, rfl⟩
  rw [← hn] at hsz hl
  have HN : Hid _ := hn
  have HD : Hid (Dig bs) := hd
  obtain ⟨i0, hi, hz0, hz1, hz2⟩ := info3
  clear hn hse
  unfold Ret
  go_enter Try.func13, Try.ntmps13
  go_wp2_with fail
  go_loopw [4, 5] (fun v i wr => ∃ k : Nat, ∃ vs, k ≤ n ∧ i = .int .i64 k ∧ Below w.heap.size w wr ∧ vals (bs.take k) = some vs ∧ wr.ownsRow w.heap.size 3 1 v (6 * k) (iv (allS vs))) (fun _ i _ => n - (intOf i).toNat)
  case atStart => exact ⟨0, [], by omega, rfl, Below.refl _ _, rfl, World.ownsRow_nil _ _ _ _⟩
  case round =>
    obtain ⟨k, vs, hk, rfl, hB, hvs, hown⟩ := hrel
    by_cases hlt : k < n
    · have hks : k < s.size := by omega
      have hx := hat k hks
      have hd0 := hd k
      obtain ⟨c, hc⟩ : ∃ c, c = bs.getD k 0 := ⟨_, rfl⟩
      rw [← hc] at hx hd0
      have HC : Hid _ := hc
      have hV := value23 c hd0 wr
      have hkn : (k : Int) < (n : Int) := by omega
      have hbk : k < bs.length := by rw [← HN.out]; exact hlt
      clear hat hd hc
      cases hv : vale c with
      | none =>
        have hvi : valI c = -1 := by unfold valI; rw [hv]
        rw [hvi] at hV
        have hR : RefR w.heap.size bs (.tuple #[.slice none 0 0, .bool false]) wr := by
          unfold RefR decL
          rw [vals_none bs k hbk (by rw [← HC.out]; exact hv)]
        clear hvs hown hv hvi
        go_wp2_with fail
        refine hV.mono ?_
        rintro e w2 ⟨rfl, rfl⟩
        go_wp2
        go_ret2
        exact ⟨_, rfl, hB, hR⟩
      | some v =>
        have hvi : valI c = v := by unfold valI; rw [hv]
        rw [hvi] at hV
        have hv64 := vale_lt hd0 hv
        have hvs2 : vals (bs.take (k + 1)) = some (vs ++ [v]) := by
          rw [take_one hbk HC.out.symm]
          exact vals_snoc _ _ _ _ hvs hv
        have hT2 : allS (vs ++ [v]) = allS vs ++ bitsN 6 v := by rw [allS_app]; simp [allS]
        have HVS : Hid _ := hvs2
        have HT2 : Hid _ := hT2
        have hvn : ¬ ((v : Int) < 0) := by omega
        clear hvs hvs2 hT2 hv hvi
        go_wp2_with fail
        refine hV.mono ?_
        rintro e w2 ⟨rfl, rfl⟩
        go_wp2_with fail
        refine (bits19 v 6 (by omega) (by omega) w2).mono ?_
        rintro e w3 ⟨g, rfl, hg, hB2, hrow⟩
        have hown2 := own_on hown hB2
        have hB3 := hB.trans (hB2.mono hB.size)
        have hnews := news_row hrow
        have hm1 : 6 * k + 6 ≤ maxLen := by unfold maxLen; omega
        have hm2 : (6 * k + 6) * 8 ≤ 140737488355328 := by omega
        have hm3 := hB3.size
        have hln : (iv (bitsN 6 v)).length = 6 * 1 := by rw [iv_len, bitsN_len]
        clear hown hB2 hrow hB hV
        go_wp2_with (at_builtin; refine wpList_append_own _ rfl (.tmp 21) (.tmp 23) 47 rfl w.heap.size 3 i0 (.int .i64 0) 1 8 Try.underlying47 hi hz0 hz1 hz2 rfl (by decide) u4 (6 * k) (iv (allS vs)) rfl hown2 ⟨g, 0, none⟩ 6 6 (iv (bitsN 6 v)) rfl hln hnews iv_one hm1 hm2 hm3 ?_; intro v4 w4 hown4 hgrow4 _)
        have hB4 : Below w.heap.size w w4 := hB3.grown hgrow4 hm3 (fun j hj => (hown2.lt j hj).1)
        rw [iv_app, ← HT2.out] at hown4
        have HO : Hid _ := hown4
        clear hown4 hgrow4 hown2 hB3 hnews hln
        go_roundw
        case rel => exact ⟨k + 1, vs ++ [v], by omega, by go_num, hB4, HVS.out, HO.out⟩
        case measure => simp [intOf]; omega
    · obtain rfl : k = n := by omega
      rw [show bs.take k = bs from List.take_of_length_le (by rw [HN.out]; exact Nat.le_refl _)] at hvs
      have hDI := dec_iff (fun x hx => by
        obtain ⟨j, hj, rfl⟩ := List.getElem_of_mem hx
        have := hd j
        rw [show bs.getD j 0 = bs[j] by simp [hj]] at this
        exact this) hvs
      have hlL : (allS vs).length = 6 * k := by rw [allS_len, vals_len _ _ hvs, HN.out]
      have hbL := allS_bit vs
      obtain ⟨L, hL⟩ : ∃ L, L = allS vs := ⟨_, rfl⟩
      rw [← hL] at hDI hlL hbL hown
      rw [hlL] at hDI
      have HDI : Hid _ := hDI
      have HLL : Hid _ := hlL
      obtain ⟨M, hM⟩ : ∃ M, M = 6 * k := ⟨_, rfl⟩
      rw [← hM] at hown
      obtain ⟨a4, c4, rfl, hc3, hc4⟩ := own_slice hown
      obtain ⟨wo, hwo⟩ : ∃ wo : World, wo = wr := ⟨_, rfl⟩
      subst hwo
      have hrow : ∃ g cur, (0 < M → a4 = some ⟨g, 0, none⟩ ∧ wo.heap[g]? = some (.cells cur 3 (0, 0))) ∧ ∀ i, i < M → cur[i]? = some (.int .i64 ((L.getD i 0 : Nat) : Int)) := by
        rcases hown.2 with ⟨h1, h2⟩ | ⟨g, cap', cur, h1, h2, h3, h4, h5, h6, h7⟩
        · exact ⟨0, #[], (fun h => by omega), (fun i h => by omega)⟩
        · injection h1 with e1 e2 e3
          refine ⟨g, cur, fun _ => ⟨e1, h3⟩, fun i hi => ?_⟩
          have := congrArg (fun x : List Value => x[i]?) h7
          rw [List.getElem?_take_of_lt (by omega), Array.getElem?_toList] at this
          rw [this]
          simp [iv, show i < L.length by omega]
      obtain ⟨g, cur, hg, hcur⟩ := hrow
      obtain ⟨i1, hi1, hy0, hy1, hy2⟩ := info5
      obtain ⟨q, hq⟩ : ∃ q, q = M / 8 := ⟨_, rfl⟩
      have HG : Hid _ := hg
      have HC : Hid _ := hcur
      have HM : Hid (M = 6 * k) := hM
      have HQ : Hid (q = M / 8) := hq
      have hq2 : q ≤ 75000 := by omega
      clear hL hown hg hcur hlL hDI hM hq hvs hat hd
      go_wp2_with fail
      go_loopw [7, 8] (fun v i wr => ∃ j : Nat, j ≤ q ∧ i = .int .i64 ((8 * j : Nat) : Int) ∧ Below w.heap.size w wr ∧ wr.ownsRow w.heap.size 5 1 v j (bv (eights j L)) ∧ (0 < M → wr.heap[g]? = some (.cells cur 3 (0, 0)))) (fun _ i _ => M - (intOf i).toNat)
      case atStart => exact ⟨0, by omega, rfl, hB, World.ownsRow_nil _ _ _ _, fun h => (HG.out h).2⟩
      case round =>
        obtain ⟨j, hj, rfl, hB, hown, hrow⟩ := hrel
        have hqq := HQ.out
        obtain ⟨I, hI⟩ : ∃ I, I = 8 * j := ⟨_, rfl⟩
        rw [← hI]
        by_cases hlt3 : j < q
        · obtain ⟨rfl, _⟩ := HG.out (by omega)
          have hr := hrow (by omega)
          have hIM : I + 8 ≤ M := by omega
          have hIc : I + 8 ≤ c4 := by omega
          have hlt3' : (I : Int) + 8 ≤ (M : Int) := by omega
          have hcut := fun w1 => run_cut_lhi8 g M c4 I w1 hIc
          have hvw : IView wr (some ⟨g, I, none⟩) ((L.drop I).take 8) := fun hp => ⟨g, I, rfl, fun i hi => by
            have hi6 : i < 8 := by rw [List.length_take] at hi; omega
            rw [cell_of_row wr g (I + i) _ _ _ hr, HC.out (I + i) (by omega), sub_getD L I 8 i hi6]⟩
          have hln : ((L.drop I).take 8).length = 8 := by rw [List.length_take, List.length_drop, HLL.out, ← HM.out]; omega
          have hbt : Bit ((L.drop I).take 8) := (hbL.drop I).take 8
          have h64 : numN ((L.drop I).take 8) < 256 := eight_lt (hbL.drop I)
          have hNum := number21 (some ⟨g, I, none⟩) 8 (c4 - I) ((L.drop I).take 8) wr hln (by omega) hvw hbt
          have hs := eights_succ j L
          rw [← hI] at hs
          obtain ⟨Y, hy⟩ : ∃ y, y = numN ((L.drop I).take 8) := ⟨_, rfl⟩
          rw [← hy] at hNum h64 hs
          have HS : Hid (eights (j + 1) L = eights j L ++ [Y]) := hs
          have HI : Hid (I = 8 * j) := hI
          have hYm : (Y : Int) % 256 = (Y : Int) := by omega
          have hown2 := hown.alloc (.cells #[.int .u8 (Y : Int)] 5)
          have hm1 : j + 1 ≤ maxLen := by unfold maxLen; omega
          have hm2 : (j + 1) * 1 ≤ 140737488355328 := by omega
          have hm3 : w.heap.size ≤ (wr.alloc (.cells #[.int .u8 (Y : Int)] 5)).heap.size := by have := hB.size; simp; omega
          have hB2 : Below w.heap.size w (wr.alloc (.cells #[.int .u8 (Y : Int)] 5)) := hB.alloc hB.size _
          have hr2 : (wr.alloc (.cells #[.int .u8 (Y : Int)] 5)).heap[g]? = some (.cells cur 3 (0, 0)) := (heap_alloc_old _ _ (lt_of_heap hr)).trans hr
          clear hs hy hI hvw hln hbt hown hrow hr hB hqq
          go_wp2_with fail
          refine hNum.mono ?_
          rintro e w3 ⟨rfl, rfl⟩
          go_wp2_with (at_builtin; refine wpList_append_own _ rfl (.tmp 32) (.tmp 40) 22 rfl w.heap.size 5 i1 (.int .u8 0) 1 1 Try.underlying22 hi1 hy0 hy1 hy2 rfl (by decide) u7 j (bv (eights j L)) rfl hown2 ⟨w3.heap.size, 0, none⟩ 1 1 [.int .u8 (Y : Int)] rfl rfl (news_one _ _ _) one_byte hm1 hm2 hm3 ?_; intro v4 w4 hown4 hgrow4 _)
          have hB4 : Below w.heap.size w w4 := hB2.grown hgrow4 hm3 (fun j hj => (hown2.lt j hj).1)
          have hr4 : w4.heap[g]? = some (.cells cur 3 (0, 0)) := (hgrow4.block _ (lt_of_heap hr2) (fun e => Lib.ownBlock_ne hown2 hr2 (by decide) e.symm)).trans hr2
          have e4 : bv (eights j L) ++ [.int .u8 (Y : Int)] = bv (eights (j + 1) L) := by
            rw [HS.out, ← bv_snoc]
          rw [e4] at hown4
          have HO : Hid _ := hown4
          have HR4 : Hid _ := hr4
          clear hown4 hgrow4 hown2 hr2 hr4 e4 hcut hB2
          go_roundw
          case rel => exact ⟨j + 1, by omega, by have := HI.out; congr 1; omega, hB4, HO.out, fun _ => HR4.out⟩
          case measure => have := HI.out; simp [intOf]; omega
        · obtain rfl : j = q := by omega
          have hIM : ¬ (I : Int) + 8 ≤ (M : Int) := by omega
          have hIb : I ≤ 800000 := by omega
          obtain ⟨a5, c5, rfl, hc5, hc6⟩ := own_slice hown
          obtain ⟨hvw, hvl⟩ := own_bview hown
          have hBt : Bts (eights j L) (.slice a5 j c5) wr := ⟨a5, c5, by rw [hvl], by rw [hvl]; exact hc5, hc6, hvw⟩
          have hdo : Dig (eights j L) := dig_lt (eights_lt j L hbL)
          have hEn := refEnc10 wr hBt hdo (by rw [hvl]; omega)
          have hD : decL bs = if encL (eights j L) = bs then some (eights j L) else none := by
            have := HDI.out
            rw [← HM.out, ← HQ.out] at this
            exact this
          have hdE : Dig (encL (eights j L)) := dig_lt (fun x hx => by
            unfold encL at hx
            obtain ⟨y, hy, rfl⟩ := List.mem_map.1 hx
            exact lett_lt (encN_lt _ y hy))
          have hne := strOf_eq hdE HD.out
          rw [← HSE.out] at hne
          have HOW : Hid (wr.ownsRow w.heap.size 5 1 (.slice a5 j c5) j (bv (eights j L))) := hown
          have HVL : Hid ((eights j L).length = j) := hvl
          obtain ⟨E, hE⟩ : ∃ E, E = encL (eights j L) := ⟨_, rfl⟩
          obtain ⟨O, hO⟩ : ∃ O, O = eights j L := ⟨_, rfl⟩
          rw [← hO] at HOW HVL hD hE
          rw [← hO, ← hE] at hEn hne
          rw [← hE] at hD
          have HDD : Hid _ := hD
          have HNE : Hid _ := hne
          clear hown hrow hvw hvl hBt hdo hD hdE hne hE hO hI hqq
          go_wp2_with fail
          refine hEn.mono ?_
          rintro e w5 ⟨v, rfl, hB5, rfl⟩
          have hB05 := hB.trans (hB5.mono hB.size)
          have hO5 := own_on HOW.out hB5
          by_cases he : E = bs
          · have hR : RefR w.heap.size bs (.tuple #[.slice a5 j c5, .bool true]) w5 := by
              unfold RefR
              rw [HDD.out, if_pos he]
              exact ⟨_, rfl, by rw [HVL.out]; exact hO5⟩
            have hb : ((strOf E).toList == s.toList) = true := by rw [HNE.out]; simp [he]
            clear hO5 he
            go_wp2
            go_ret2
            exact ⟨_, rfl, hB05, hR⟩
          · have hR : RefR w.heap.size bs (.tuple #[.slice none 0 0, .bool false]) w5 := by
              unfold RefR
              rw [HDD.out, if_neg he]
            have hb : ((strOf E).toList == s.toList) = false := by rw [HNE.out]; simp [he]
            clear hO5 he
            go_wp2
            go_ret2
            exact ⟨_, rfl, hB05, hR⟩
end Go.Proofs.Ytfddldaldhbnfaa
set_option linter.unusedVariables false
namespace Go.Proofs.Ytfddldaldhbnfaa
open Go.RowKit Go.Sort Go.BigFrame
set_option maxRecDepth 100000
set_option maxHeartbeats 2000000
theorem few07 (a : Option Addr) (len cap : Nat) (w : World) (hc : len ≤ cap) (hc2 : cap ≤ 9223372036854775807) : Calls Try.prog 8 #[.slice a len cap] w fun e w' => e = .returned (.slice a (min len 200) cap) ∧ w' = w := by
  by_cases h : 200 < len
  · rw [show min len 200 = 200 by omega]
    go_enter Try.func8, Try.ntmps8
    go_wp2
    go_ret
    exact ⟨rfl, rfl⟩
  · rw [show min len 200 = len by omega]
    go_enter Try.func8, Try.ntmps8
    go_wp2
    go_ret
    exact ⟨rfl, rfl⟩
/-- The first 200 bytes. -/
theorem cFew07 {v : Value} {l : List Nat} (w : World) (h : Bts l v w) : Ret 8 #[v] w (Bts (l.take 200)) := by
  obtain ⟨a, cap, rfl, hc, hc2, hv⟩ := h
  refine (few07 a l.length cap w hc hc2).mono fun e w' ⟨he, hw⟩ => ?_
  subst hw
  refine ⟨_, he, Below.refl _ _, a, cap, ?_, ?_, hc2, hv.take 200⟩
  · rw [List.length_take, Nat.min_comm]
  · rw [List.length_take]; omega
theorem str_aGl : Str ⟨#[97, 71, 108]⟩ [97, 71, 108] := ⟨rfl, by decide, dig_lt (by decide)⟩
theorem dec_aGl : decL [97, 71, 108] = none := by decide
theorem enc_hi : strOf (encL [104, 105]) = ⟨#[97, 71, 107]⟩ := by decide
theorem cLives07 (w : World) : Ret 11 #[] w (Is (.bool true)) := by
  unfold Ret
  go_enter Try.func11, Try.ntmps11
  go_wp2_with fail
  refine (dec12 w str_aGl (by decide)).mono ?_
  rintro e w1 ⟨v, rfl, hB1, hR⟩
  unfold DecR at hR
  rw [dec_aGl] at hR
  subst hR
  have hB2 : Below w1.heap.size w1 (w1.alloc (.cells (ints .u8 [104, 105]) 5 (2, 3))) := below1 _ _
  have hBt : Bts [104, 105] (.slice (some ⟨w1.heap.size, 0, none⟩) 2 2) (w1.alloc (.cells (ints .u8 [104, 105]) 5 (2, 3))) := ⟨_, 2, rfl, by decide, by decide, fun _ => ⟨_, 0, rfl, fun i hi => by
    rw [Nat.zero_add, cell_of_row _ _ i _ 5 (2, 3) (heap_alloc_new _ _)]; exact ints_get _ _ i hi⟩⟩
  have hE := enc9 _ hBt (dig_lt (by decide)) (by decide)
  rw [enc_hi] at hE
  have hcv := fun (w : World) (C : Array Value) (n c : Nat) => Lib.run_convert_bytes_const (P := Try.prog) w 22 5 C n c Try.underlying22 Try.underlying5
  go_wp2_with fail
  refine hE.mono ?_
  rintro e w2 ⟨v, rfl, hB3, rfl⟩
  have hB := hB1.trans ((hB2.trans (hB3.mono hB2.size)).mono hB1.size)
  go_wp2
  go_ret
  exact ⟨_, rfl, hB, rfl⟩
theorem b64Encodes {v : Value} {l : List Nat} (w : World) (h : Bts l v w) (hd : Dig l) : Ret 3 #[v] w (Is (.bool true)) := by
  obtain ⟨a, c, rfl⟩ := h.form
  unfold Ret
  go_enter Try.func3, Try.ntmps3
  go_wp2_with fail
  refine (cFew07 w h).mono ?_
  rintro e w1 ⟨v, rfl, hB1, hM⟩
  have hl : (l.take 200).length ≤ 100000 := by rw [List.length_take]; omega
  have hd2 : Dig (l.take 200) := hd.take 200
  go_wp2_with fail
  refine (enc9 w1 hM hd2 hl).mono ?_
  rintro e w2 ⟨v, rfl, hB2, rfl⟩
  have hB12 := hB1.trans (hB2.mono hB1.size)
  go_wp2_with fail
  refine (refEnc10 w2 (Bts.stb _ _ _ _ hB2 hM) hd2 hl).mono ?_
  rintro e w3 ⟨v, rfl, hB3, rfl⟩
  have hB13 := hB12.trans (hB3.mono hB12.size)
  have hr := strRefl (encL (l.take 200))
  go_wp2_with fail
  refine (cLives07 w3).mono ?_
  rintro e w4 ⟨v, rfl, hB4, rfl⟩
  have hB14 := hB13.trans (hB4.mono hB13.size)
  go_wp2
  go_ret
  exact ⟨_, rfl, hB14, rfl⟩
end Go.Proofs.Ytfddldaldhbnfaa
