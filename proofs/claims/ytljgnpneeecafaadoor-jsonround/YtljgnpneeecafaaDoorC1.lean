/-
  The reference of JSON: letters, Digits, Quote. The reference of JSON: Same. The reference of JSON: Write. The reference of JSON: Is. The reference of JSON: Is, on.
-/
import Derived.Test.YtljgnpneeecafaaDoorC0
set_option linter.unusedVariables false
namespace Go.Proofs.YtljgnpneeecafaaDoor
open Go.RowKit Go.Sort Go.BigFrame
set_option maxRecDepth 100000
set_option maxHeartbeats 2000000
theorem strOf_arr (X : List Nat) : strOf X = ⟨(X.map UInt8.ofNat).toArray⟩ := by
  have h := strOf_data X ByteArray.empty
  have h2 : (strOf X).data.toList = X.map UInt8.ofNat := by unfold strOf; rw [h]; simp
  have h3 : (strOf X).data = (X.map UInt8.ofNat).toArray := by rw [← h2]
  show ByteArray.mk (strOf X).data = _
  rw [h3]
theorem strOf_app (x y : List Nat) : strOf (x ++ y) = strOf x ++ strOf y := by
  rw [strOf_arr, strOf_arr, strOf_arr, List.map_append]
  apply ByteArray.ext
  simp
theorem mem_of_dig {l : List Nat} (h : Dig l) : ∀ x ∈ l, x < 256 := fun x hx => by
  obtain ⟨j, hj, rfl⟩ := List.getElem_of_mem hx
  have := h j
  rwa [show l.getD j 0 = l[j] by simp [hj]] at this
theorem str_strOf {E : List Nat} (hd : Dig E) : Str (strOf E) E := by
  have h := str_of (strOf E)
  have e : (strOf E).data.toList.map UInt8.toNat = E := by
    rw [strOf_arr]
    show (List.map UInt8.toNat ((E.map UInt8.ofNat).toArray).toList) = E
    rw [List.toList_toArray, List.map_map]
    conv => rhs; rw [← List.map_id E]
    apply List.map_congr_left
    intro x hx
    have := mem_of_dig hd x hx
    show (UInt8.ofNat x).toNat = x
    rw [UInt8.toNat_ofNat', Nat.mod_eq_of_lt (by omega)]
  rwa [e] at h
theorem Str.app {s t : ByteArray} {x y : List Nat} (hs : Str s x) (ht : Str t y) : Str (s ++ t) (x ++ y) := by
  rw [hs.eq, ht.eq, ← strOf_app]
  exact str_strOf (hs.dig.app ht.dig)
/-- Are all bytes 0 to 126? -/
def lettersB (bs : List Nat) : Bool := bs.all (fun x => decide (x ≤ 126))
theorem letters14 {s : ByteArray} {bs : List Nat} (w : World) (h : Str s bs) (hl : s.size ≤ 9223372036854775807) : Calls Tryd.prog 17 #[.string s] w fun e w' => e = .returned (.bool (lettersB bs)) ∧ w' = w := by
  obtain ⟨hsz, hat, hd⟩ := h
  obtain ⟨n, hn⟩ : ∃ n, n = s.size := ⟨_, rfl⟩
  have hts : s.size = n := hn.symm
  have HN : Hid (n = bs.length) := by show n = _; rw [hn, hsz]
  rw [← hn] at hl
  clear hsz hn
  go_enter Tryd.func17, Tryd.ntmps17
  go_wp2_with fail
  go_loop [3] (fun i => ∃ k : Nat, k ≤ n ∧ i = .int .i64 k ∧ ∀ j, j < k → bs.getD j 0 ≤ 126) (fun i => n - (intOf i).toNat)
  case atStart => exact ⟨0, by omega, rfl, fun j hj => by omega⟩
  case round =>
    obtain ⟨k, hk, rfl, hall⟩ := hrel
    by_cases hlt : k < n
    · have hks : k < s.size := by omega
      have hx := hat k hks
      obtain ⟨c, hc⟩ : ∃ c, c = bs.getD k 0 := ⟨_, rfl⟩
      rw [← hc] at hx
      have HC : Hid (c = bs.getD k 0) := hc
      have HA : Hid (∀ j, j < k → bs.getD j 0 ≤ 126) := hall
      clear hat hc hall hd
      by_cases h126 : c ≤ 126
      · have hi : ¬ (126 : Int) < (c : Int) := by omega
        go_wp2
        go_round
        case rel =>
          refine ⟨k + 1, by omega, by go_num, fun j hj => ?_⟩
          by_cases hjk : j = k
          · rw [hjk, ← HC.out]; exact h126
          · exact HA.out j (by omega)
        case measure => simp [intOf]; omega
      · have hi : (126 : Int) < (c : Int) := by omega
        have hb : lettersB bs = false := by
          unfold lettersB
          rw [List.all_eq_false]
          refine ⟨bs[k]'(by rw [← HN.out]; exact hlt), List.getElem_mem _, ?_⟩
          have := HC.out
          rw [show bs.getD k 0 = bs[k]'(by rw [← HN.out]; exact hlt) by simp [show k < bs.length by rw [← HN.out]; exact hlt]] at this
          simp; omega
        have HB : Hid _ := hb
        clear hb
        go_wp2
        go_ret
        exact ⟨by rw [HB.out]; rfl, rfl⟩
    · obtain rfl : n = k := by omega
      have hb : lettersB bs = true := by
        unfold lettersB
        rw [List.all_eq_true]
        intro x hx
        obtain ⟨j, hj, rfl⟩ := List.getElem_of_mem hx
        have := hall j (by rw [HN.out]; exact hj)
        rw [show bs.getD j 0 = bs[j] by simp [hj]] at this
        simpa using this
      have HB : Hid _ := hb
      clear hb hall
      go_wp2
      go_ret
      exact ⟨by rw [HB.out]; rfl, rfl⟩
/- digits -/
def digF : Nat → Nat → List Nat
  | 0, _ => []
  | f + 1, n => if n ≤ 9 then [48 + n] else digF f (n / 10) ++ [48 + n % 10]
/-- A number's digits. -/
def digN (n : Nat) : List Nat := digF 20 n
def digT (n : Int) : List Nat := if n < 0 then 45 :: digN (-n).toNat else digN n.toNat
theorem digF_dig : ∀ f n, Dig (digF f n)
  | 0, _ => fun j => by simp [digF]
  | f + 1, n => by
    unfold digF
    split
    · exact dig_lt (fun x hx => by rw [List.mem_singleton.1 hx]; omega)
    · exact (digF_dig f _).app (dig_lt (fun x hx => by rw [List.mem_singleton.1 hx]; omega))
theorem digF_len : ∀ f n, (digF f n).length ≤ f
  | 0, _ => Nat.le_refl _
  | f + 1, n => by
    unfold digF
    split
    · simp
    · rw [List.length_append]; have := digF_len f (n / 10); simp; omega
theorem digits15p (N : Nat) (w : World) (hN : N < 9223372036854775808) : Ret 18 #[.int .i64 (N : Int)] w (Is (.string (strOf (digN N)))) := by
  unfold Ret
  go_enter Tryd.func18, Tryd.ntmps18
  have h0 : ¬ (N : Int) < 0 := by omega
  go_wp2_with fail
  go_loopw [0, 3] (fun v s wr => ∃ (f m : Nat) (suf : List Nat), 0 < f ∧ v = .int .i64 (m : Int) ∧ s = .string (strOf suf) ∧ Below w.heap.size w wr ∧ m < 10 ^ f ∧ m < 9223372036854775808 ∧ f ≤ 20 ∧ suf.length + f = 20 ∧ Dig suf ∧ digN N = digF f m ++ suf) (fun v _ _ => (intOf v).toNat)
  case atStart => exact ⟨20, N, [], by decide, rfl, rfl, Below.refl _ _, Nat.lt_of_lt_of_le hN (by decide), hN, Nat.le_refl _, rfl, fun j => by simp, by rw [List.append_nil]; rfl⟩
  case round =>
    obtain ⟨f, m, suf, hf0, rfl, rfl, hB, hmf, hm, hf, hsl, hsd, hdg⟩ := hrel
    clear h0 hN
    have hss := str_strOf hsd
    have hsz := hss.size
    by_cases h9 : 9 < m
    · have h9i : (9 : Int) < (m : Int) := by omega
      obtain ⟨f', rfl⟩ : ∃ f', f = f' + 1 := ⟨f - 1, by
        cases f with
        | zero => simp at hmf; omega
        | succ f => rfl⟩
      have hd2 : digN N = digF f' (m / 10) ++ ((48 + m % 10) :: suf) := by
        rw [hdg, digF, if_neg (by omega), List.append_assoc]; rfl
      have hmf2 : m / 10 < 10 ^ f' := by
        rw [Nat.pow_succ] at hmf
        exact Nat.div_lt_of_lt_mul (by rw [Nat.mul_comm]; exact hmf)
      have hcs : ¬ ((strOf [48 + m % 10]).size + (strOf suf).size > 9223372036854775807) := by
        rw [hsz, (str_strOf (E := [48 + m % 10]) (dig_lt (fun x hx => by rw [List.mem_singleton.1 hx]; omega))).size]
        simp; omega
      have hcat : strOf [48 + m % 10] ++ strOf suf = strOf ((48 + m % 10) :: suf) := by rw [← strOf_app]; rfl
      have hd3 : Dig ((48 + m % 10) :: suf) := Dig.app (a := [48 + m % 10]) (dig_lt (fun x hx => by rw [List.mem_singleton.1 hx]; omega)) hsd
      obtain ⟨c, hc⟩ : ∃ c, c = m % 10 := ⟨_, rfl⟩
      have hc10 : c < 10 := by omega
      have hmc : (m : Int) % 10 = (c : Int) := by omega
      have hcv := toString_view (w := wr.alloc (.cells #[.int .u8 ((48 + c : Nat) : Int)] 5)) (a := some ⟨wr.heap.size, 0, none⟩) (len := 1) (cap := 1) (bs := [48 + c]) rfl (fun _ => ⟨_, 0, rfl, bytes_row (l := [48 + c]) (heap_alloc_new _ _)⟩)
      have e48 : (48 : Int) + (c : Int) = ((48 + c : Nat) : Int) := by omega
      have hmod : ((48 + c : Nat) : Int) % 256 = ((48 + c : Nat) : Int) := by omega
      rw [← hc] at hcs hcat hd2 hd3
      obtain ⟨C, hC⟩ : ∃ C, C = 48 + c := ⟨_, rfl⟩
      rw [← hC] at hcs hcat hd2 hd3 hcv e48 hmod
      have hm10 : (m : Int) / 10 = ((m / 10 : Nat) : Int) := by omega
      obtain ⟨M, hM⟩ : ∃ M, M = m / 10 := ⟨_, rfl⟩
      rw [← hM] at hd2 hmf2 hm10
      have HD2 : Hid _ := hd2
      have HD3 : Hid _ := hd3
      have HF : Hid (M < 10 ^ f') := hmf2
      have HB : Hid (Below w.heap.size w (wr.alloc (.cells #[.int .u8 (C : Int)] 5))) := hB.alloc hB.size _
      have hMl : M < m := by omega
      have HF0 : Hid (0 < f') := by
        show 0 < f'
        cases f' with
        | zero => have := HF.out; simp at this; omega
        | succ f => omega
      have HSL : Hid ((C :: suf).length + f' = 20) := by show _ = _; simp; omega
      clear hd2 hd3 hmf2 hdg hmf hc hC hM hsd hss hB hsl
      go_wp2
      go_roundw
      case rel => exact ⟨f', M, C :: suf, HF0.out, rfl, rfl, HB.out, HF.out, by omega, by omega, HSL.out, HD3.out, HD2.out⟩
      case measure => simp [intOf]; omega
    · have h9i : ¬ (9 : Int) < (m : Int) := by omega
      obtain ⟨f', rfl⟩ : ∃ f', f = f' + 1 := ⟨f - 1, by
        cases f with
        | zero => omega
        | succ f => rfl⟩
      have hd2 : digN N = (48 + m) :: suf := by
        rw [hdg, digF, if_pos (by omega)]; rfl
      have hcs : ¬ ((strOf [48 + m]).size + (strOf suf).size > 9223372036854775807) := by
        rw [hsz, (str_strOf (E := [48 + m]) (dig_lt (fun x hx => by rw [List.mem_singleton.1 hx]; omega))).size]
        simp; omega
      have hcat : strOf [48 + m] ++ strOf suf = strOf ((48 + m) :: suf) := by rw [← strOf_app]; rfl
      have hcv := toString_view (w := wr.alloc (.cells #[.int .u8 ((48 + m : Nat) : Int)] 5)) (a := some ⟨wr.heap.size, 0, none⟩) (len := 1) (cap := 1) (bs := [48 + m]) rfl (fun _ => ⟨_, 0, rfl, bytes_row (l := [48 + m]) (heap_alloc_new _ _)⟩)
      have e48 : (48 : Int) + (m : Int) = ((48 + m : Nat) : Int) := by omega
      have hmod : ((48 + m : Nat) : Int) % 256 = ((48 + m : Nat) : Int) := by omega
      rw [← hd2] at hcat
      obtain ⟨C, hC⟩ : ∃ C, C = 48 + m := ⟨_, rfl⟩
      rw [← hC] at hcs hcat hcv e48 hmod
      have HB : Hid (Below w.heap.size w (wr.alloc (.cells #[.int .u8 (C : Int)] 5))) := hB.alloc hB.size _
      clear hd2 hdg hmf hC hsd hss hB hsl
      go_wp2
      go_ret
      exact ⟨_, rfl, HB.out, rfl⟩
theorem digN_dig (n : Nat) : Dig (digN n) := digF_dig 20 n
theorem digN_len (n : Nat) : (digN n).length ≤ 20 := digF_len 20 n
theorem digits15 (z : Int) (w : World) (h1 : -9223372036854775808 < z) (h2 : z ≤ 9223372036854775807) : Ret 18 #[.int .i64 z] w (Is (.string (strOf (digT z)))) := by
  by_cases hn : z < 0
  · obtain ⟨N, hN⟩ : ∃ N : Nat, N = (-z).toNat := ⟨_, rfl⟩
    have hzN : -z = (N : Int) := by omega
    have hP := digits15p N w (by omega)
    have hcs : ¬ ((ByteArray.mk #[45]).size + (strOf (digN N)).size > 9223372036854775807) := by
      rw [(str_strOf (digN_dig N)).size]
      have := digN_len N
      have : (ByteArray.mk #[45]).size = 1 := rfl
      omega
    have hcat : ByteArray.mk #[45] ++ strOf (digN N) = strOf (digT z) := by
      unfold digT
      rw [if_pos hn, ← hN, show (45 :: digN N) = [45] ++ digN N from rfl, strOf_app]
      congr 1
    have hw : wrap64 (-z) = (N : Int) := by unfold wrap64; omega
    clear hN
    unfold Ret
    go_enter Tryd.func18, Tryd.ntmps18
    go_wp2_with fail
    refine hP.mono ?_
    rintro e w1 ⟨v, rfl, hB1, rfl⟩
    go_wp2
    go_ret
    exact ⟨_, rfl, hB1, rfl⟩
  · obtain ⟨N, rfl⟩ : ∃ N : Nat, z = (N : Int) := ⟨z.toNat, by omega⟩
    have := digits15p N w (by omega)
    rwa [show digT (N : Int) = digN N by unfold digT; rw [if_neg hn]; simp]
/- strings as they are written -/
def hexD (n : Nat) : Nat := if n < 10 then 48 + n else 87 + n
def quoC (c : Nat) : List Nat := if c < 32 then [92, 117, 48, 48, hexD (c / 16), hexD (c % 16)] else if c = 34 ∨ c = 92 then [92, c] else [c]
def quoI : List Nat → List Nat
  | [] => []
  | c :: l => quoC c ++ quoI l
/-- A text as it is written. -/
def quoT (bs : List Nat) : List Nat := 34 :: (quoI bs ++ [34])
theorem quoI_app : ∀ a b, quoI (a ++ b) = quoI a ++ quoI b
  | [], b => rfl
  | x :: a, b => by show quoC x ++ quoI (a ++ b) = quoC x ++ quoI a ++ quoI b; rw [quoI_app a b, List.append_assoc]
theorem quoC_dig {c : Nat} (h : c < 256) : Dig (quoC c) := by
  have : ∀ c < 256, ∀ x ∈ quoC c, x < 256 := by decide
  exact dig_lt (this c h)
theorem quoC_len (c : Nat) : (quoC c).length ≤ 6 := by
  unfold quoC
  split
  · simp
  · split <;> simp
theorem quoI_dig : ∀ {l : List Nat}, Dig l → Dig (quoI l)
  | [], _ => fun j => by simp [quoI]
  | c :: l, h => (quoC_dig h.head).app (quoI_dig h.tail)
theorem quoI_len : ∀ (l : List Nat), (quoI l).length ≤ 6 * l.length
  | [] => Nat.zero_le _
  | c :: l => by
    show (quoC c ++ quoI l).length ≤ _
    rw [List.length_append, List.length_cons]
    have := quoC_len c
    have := quoI_len l
    omega
theorem quoT_dig {l : List Nat} (h : Dig l) : Dig (quoT l) := Dig.app (a := [34]) (dig_lt (by simp)) ((quoI_dig h).app (dig_lt (by simp)))
def hexS : ByteArray := ⟨#[48, 49, 50, 51, 52, 53, 54, 55, 56, 57, 97, 98, 99, 100, 101, 102]⟩
theorem hex_cut {k : Nat} (h : k < 16) : hexS.extract k (k + 1) = strOf [hexD k] := by
  have : ∀ k < 16, hexS.extract k (k + 1) = strOf [hexD k] := by decide
  exact this k h
theorem extract_one {s : ByteArray} {bs : List Nat} (h : Str s bs) {k : Nat} (hk : k < s.size) : s.extract k (k + 1) = strOf [bs.getD k 0] := by
  have e : (s.extract k (k + 1)).data = #[s[k]'hk] := by
    have e1 : (s.extract k (k + 1)).data = s.data.extract k (k + 1) := by simp
    rw [e1]
    have hk2 : k < s.data.size := hk
    apply Array.ext
    · simp; omega
    · intro i h1 h2
      have hi : i = 0 := by simpa using h2
      subst hi
      rw [Array.getElem_extract]
      rfl
  rw [strOf_arr]
  have h2 : UInt8.ofNat (bs.getD k 0) = s[k]'hk := by
    rw [← h.at' k hk]; simp
  show ByteArray.mk (s.extract k (k + 1)).data = _
  rw [e]
  simp only [List.map_cons, List.map_nil, h2]
section
variable {ρ : Operand → Value} {o : Oper} {x y z : Operand} {w : World}
theorem catO {s t : ByteArray} (ho : o.op = .binOp .add 9 x y 9) (hx : ρ x = .string s) (hy : ρ y = .string t) (hl : s.size + t.size ≤ 9223372036854775807) : (execOp ρ o).run Tryd.prog w = .ok (.value (.string (s ++ t))) w := by
  have h : ¬ (s.size + t.size > 9223372036854775807) := by omega
  simp [execOp, ho, hx, hy, go_sem, h]
theorem cutO {s : ByteArray} {a b : Nat} (ho : o.op = .slice 9 x (some y) (some z) none) (hx : ρ x = .string s) (hy : ρ y = .int .i64 (a : Int)) (hz : ρ z = .int .i64 (b : Int)) (h1 : a ≤ b) (h2 : b ≤ s.size) : (execOp ρ o).run Tryd.prog w = .ok (.value (.string (s.extract a b))) w := by
  simp [execOp, ho, hx, hy, hz, go_sem, h1, h2]
theorem cutI {s : ByteArray} {a b : Nat} (h1 : a ≤ b) (h2 : b ≤ s.size) (w : World) : (Instr.slice 9 (.string s) (some (.int .i64 (a : Int))) (some (.int .i64 (b : Int))) none).run Tryd.prog w = .ok (.string (s.extract a b)) w := by
  simp [go_sem, h1, h2]
theorem quoO {n k : Nat} (hk : 0 < k) (hn : n < 9223372036854775808) (ho : o.op = .binOp .quo 3 x y 3) (hx : ρ x = .int .i64 (n : Int)) (hy : ρ y = .int .i64 (k : Int)) : (execOp ρ o).run Tryd.prog w = .ok (.value (.int .i64 ((n / k : Nat) : Int))) w := by
  have h0 : ¬ k = 0 := by omega
  have h1 : n / k ≤ n := Nat.div_le_self _ _
  have h2 : IntKind.i64.wrap ((n : Int) / (k : Int)) = (n : Int) / (k : Int) := by
    rw [show (n : Int) / (k : Int) = ((n / k : Nat) : Int) by simp]
    generalize n / k = q at h1
    rw [IntKind.wrap_i64]; omega
  simp [execOp, ho, hx, hy, go_sem, h0, h2]
theorem remO {n k : Nat} (hk : 0 < k) (hn : n < 9223372036854775808) (ho : o.op = .binOp .rem 3 x y 3) (hx : ρ x = .int .i64 (n : Int)) (hy : ρ y = .int .i64 (k : Int)) : (execOp ρ o).run Tryd.prog w = .ok (.value (.int .i64 ((n % k : Nat) : Int))) w := by
  have h0 : ¬ k = 0 := by omega
  have h1 : n % k ≤ n := Nat.mod_le _ _
  have h2 : IntKind.i64.wrap ((n : Int) % (k : Int)) = (n : Int) % (k : Int) := by
    rw [show (n : Int) % (k : Int) = ((n % k : Nat) : Int) by simp]
    generalize n % k = q at h1
    rw [IntKind.wrap_i64]; omega
  have h3 : (n : Int).tmod (k : Int) = (n : Int) % (k : Int) := Int.tmod_eq_emod_of_nonneg (by omega)
  simp [execOp, ho, hx, hy, go_sem, h0, h3]
theorem addO {n k r : Nat} (hr : n + k = r) (hb : r < 9223372036854775808) (ho : o.op = .binOp .add 3 x y 3) (hx : ρ x = .int .i64 (n : Int)) (hy : ρ y = .int .i64 (k : Int)) : (execOp ρ o).run Tryd.prog w = .ok (.value (.int .i64 (r : Int))) w := by
  have e : (n : Int) + (k : Int) = (r : Int) := by omega
  have e2 : IntKind.i64.wrap (r : Int) = (r : Int) := by rw [IntKind.wrap_i64]; omega
  simp [execOp, ho, hx, hy, go_sem, e, e2]
end
theorem quote16 {s : ByteArray} {bs : List Nat} (w : World) (h : Str s bs) (hl : bs.length ≤ 1000000000000000) : Ret 19 #[.string s] w (Is (.string (strOf (quoT bs)))) := by
  have hst := h
  obtain ⟨hsz, hat, hd⟩ := h
  obtain ⟨n, hn⟩ : ∃ n, n = s.size := ⟨_, rfl⟩
  have hts : s.size = n := hn.symm
  have HN : Hid (n = bs.length) := by show n = _; rw [hn, hsz]
  have hnl : n ≤ 1000000000000000 := by rw [HN.out]; exact hl
  clear hsz hn hl
  unfold Ret
  go_enter Tryd.func19, Tryd.ntmps19
  go_wp2_with fail
  go_loopw [4, 5] (fun o i wr => ∃ k : Nat, k ≤ n ∧ i = .int .i64 k ∧ Below w.heap.size w wr ∧ o = .string (strOf (34 :: quoI (bs.take k)))) (fun _ i _ => n - (intOf i).toNat)
  case atStart => exact ⟨0, by omega, rfl, Below.refl _ _, rfl⟩
  case round =>
    obtain ⟨k, hk, rfl, hB, rfl⟩ := hrel
    have hdo : Dig (34 :: quoI (bs.take k)) := Dig.app (a := [34]) (dig_lt (by simp)) (quoI_dig (hd.take k))
    have hso := str_strOf hdo
    have hlo : (34 :: quoI (bs.take k)).length ≤ 6 * n + 1 := by
      rw [List.length_cons]
      have := quoI_len (bs.take k)
      rw [List.length_take] at this
      omega
    have hso2 := hso.size
    obtain ⟨O, hO⟩ : ∃ O, O = 34 :: quoI (bs.take k) := ⟨_, rfl⟩
    rw [← hO] at hdo hso hlo hso2 ⊢
    have hB1 := hB.drew
    have HO : Hid (O = 34 :: quoI (bs.take k)) := hO
    clear hO
    by_cases hlt : k < n
    · have hks : k < s.size := by omega
      have hx := hat k hks
      have hc0 := hd k
      have hxo := extract_one hst hks
      obtain ⟨c, hc⟩ : ∃ c, c = bs.getD k 0 := ⟨_, rfl⟩
      rw [← hc] at hx hc0 hxo
      have hT : 34 :: quoI (bs.take (k + 1)) = O ++ quoC c := by
        rw [List.take_add_one, show bs[k]?.toList = [c] by rw [List.getElem?_eq_getElem (by rw [← HN.out]; exact hlt), hc]; simp [show k < bs.length by rw [← HN.out]; exact hlt], quoI_app, HO.out]
        simp [quoI]
      have HT : Hid _ := hT
      clear hat hc hT hst hd
      by_cases h32 : c < 32
      · have h32i : (c : Int) < 32 := by omega
        obtain ⟨a, ha⟩ : ∃ a, a = c / 16 := ⟨_, rfl⟩
        obtain ⟨b, hb⟩ : ∃ b, b = c % 16 := ⟨_, rfl⟩
        have HA : Hid (a = c / 16) := ha
        have HBB : Hid (b = c % 16) := hb
        have ha16 : a < 16 := by omega
        have hb16 : b < 16 := by omega
        have hca := hex_cut ha16
        have hcb := hex_cut hb16
        have hq : quoC c = [92, 117, 48, 48] ++ ([hexD a] ++ [hexD b]) := by
          unfold quoC
          rw [if_pos h32, ← ha, ← hb]; rfl
        have HQ : Hid _ := hq
        have s1 : ByteArray.mk #[92, 117, 48, 48] = strOf [92, 117, 48, 48] := by decide
        clear ha hb hq
        go_wp2_with fail
        have z1 : (strOf [92, 117, 48, 48]).size = 4 := by decide
        have za : (strOf [hexD a]).size = 1 := by rw [strOf_arr]; rfl
        have zb : (strOf [hexD b]).size = 1 := by rw [strOf_arr]; rfl
        have zab : (strOf O ++ strOf [92, 117, 48, 48]).size = O.length + 4 := by simp [hso2, z1]
        have zabc : (strOf O ++ strOf [92, 117, 48, 48] ++ strOf [hexD a]).size = O.length + 5 := by simp [hso2, z1, za]
        have hres : strOf O ++ strOf [92, 117, 48, 48] ++ strOf [hexD a] ++ strOf [hexD b] = strOf (O ++ quoC c) := by
          rw [HQ.out, strOf_app, strOf_app, strOf_app]
          simp [ByteArray.append_assoc]
        refine wp_region_inv 18 (specs [Is (.string (strOf O)), Is (.string (strOf O ++ strOf [92, 117, 48, 48])), Is (.string hexS), Is (.int .i64 (c : Int)), Is (.int .i64 (a : Int)), Is (.int .i64 (c : Int)), Is (.int .i64 (a : Int)), Is (.int .i64 ((a + 1 : Nat) : Int)), Is (.string (strOf [hexD a])), Is (.string (strOf O ++ strOf [92, 117, 48, 48] ++ strOf [hexD a])), Is (.string hexS), Is (.int .i64 (c : Int)), Is (.int .i64 (b : Int)), Is (.int .i64 (c : Int)), Is (.int .i64 (b : Int)), Is (.int .i64 ((b + 1 : Nat) : Int)), Is (.string (strOf [hexD b])), Is (.string (strOf O ++ strOf [92, 117, 48, 48] ++ strOf [hexD a] ++ strOf [hexD b]))])
          (by kernel_rfl) (specs_stb ⟨Is.stb _, Is.stb _, Is.stb _, Is.stb _, Is.stb _, Is.stb _, Is.stb _, Is.stb _, Is.stb _, Is.stb _, Is.stb _, Is.stb _, Is.stb _, Is.stb _, Is.stb _, Is.stb _, Is.stb _, Is.stb _, trivial⟩) (by kernel_rfl) ?_ ?_
        · refine ⟨fun a1 w2 hB2 hfr hdep => Step.plain rfl (dMove (R := Is _) rfl (hfr 4 (by kernel_rfl))),
            fun a1 w2 hB2 hfr hdep => Step.plain rfl (Does.run _ (catO rfl (hdep 0 19 (by kernel_rfl)) (by rw [← s1]; rfl) (by rw [hso2, z1]; omega)) rfl),
            fun a1 w2 hB2 hfr hdep => Step.plain rfl (dMove (R := Is _) rfl (hfr 3 (by kernel_rfl))),
            fun a1 w2 hB2 hfr hdep => Step.plain rfl (dMove (R := Is _) rfl (hfr 6 (by kernel_rfl))),
            fun a1 w2 hB2 hfr hdep => Step.plain rfl (Does.run _ (quoO (n := c) (k := 16) (by decide) (by omega) rfl (hdep 3 22 (by kernel_rfl)) rfl) (by rw [← HA.out]; rfl)),
            fun a1 w2 hB2 hfr hdep => Step.plain rfl (dMove (R := Is _) rfl (hfr 6 (by kernel_rfl))),
            fun a1 w2 hB2 hfr hdep => Step.plain rfl (Does.run _ (quoO (n := c) (k := 16) (by decide) (by omega) rfl (hdep 5 24 (by kernel_rfl)) rfl) (by rw [← HA.out]; rfl)),
            fun a1 w2 hB2 hfr hdep => Step.plain rfl (Does.run _ (addO (n := a) (k := 1) rfl (by omega) rfl (hdep 6 25 (by kernel_rfl)) rfl) rfl),
            fun a1 w2 hB2 hfr hdep => Step.plain rfl (Does.run _ (cutO rfl (hdep 2 21 (by kernel_rfl)) (hdep 4 23 (by kernel_rfl)) (hdep 7 26 (by kernel_rfl)) (by omega) (by show a + 1 ≤ 16; omega)) (by rw [hca]; rfl)),
            fun a1 w2 hB2 hfr hdep => Step.plain rfl (Does.run _ (catO rfl (hdep 1 20 (by kernel_rfl)) (hdep 8 27 (by kernel_rfl)) (by rw [zab, za]; omega)) rfl),
            fun a1 w2 hB2 hfr hdep => Step.plain rfl (dMove (R := Is _) rfl (hfr 3 (by kernel_rfl))),
            fun a1 w2 hB2 hfr hdep => Step.plain rfl (dMove (R := Is _) rfl (hfr 6 (by kernel_rfl))),
            fun a1 w2 hB2 hfr hdep => Step.plain rfl (Does.run _ (remO (n := c) (k := 16) (by decide) (by omega) rfl (hdep 11 30 (by kernel_rfl)) rfl) (by rw [← HBB.out]; rfl)),
            fun a1 w2 hB2 hfr hdep => Step.plain rfl (dMove (R := Is _) rfl (hfr 6 (by kernel_rfl))),
            fun a1 w2 hB2 hfr hdep => Step.plain rfl (Does.run _ (remO (n := c) (k := 16) (by decide) (by omega) rfl (hdep 13 32 (by kernel_rfl)) rfl) (by rw [← HBB.out]; rfl)),
            fun a1 w2 hB2 hfr hdep => Step.plain rfl (Does.run _ (addO (n := b) (k := 1) rfl (by omega) rfl (hdep 14 33 (by kernel_rfl)) rfl) rfl),
            fun a1 w2 hB2 hfr hdep => Step.plain rfl (Does.run _ (cutO rfl (hdep 10 29 (by kernel_rfl)) (hdep 12 31 (by kernel_rfl)) (hdep 15 34 (by kernel_rfl)) (by omega) (by show b + 1 ≤ 16; omega)) (by rw [hcb]; rfl)),
            fun a1 w2 hB2 hfr hdep => Step.plain rfl (Does.run _ (catO rfl (hdep 9 28 (by kernel_rfl)) (hdep 16 35 (by kernel_rfl)) (by rw [zabc, zb]; omega)) rfl), trivial⟩
        intro u hu
        simp only [List.take, List.drop, FinAll, Act.put, List.setIfInBounds_toArray, List.set_cons_succ, List.set_cons_zero]
        rintro _ rfl _ rfl _ rfl _ rfl _ rfl _ rfl _ rfl _ rfl _ rfl _ rfl _ rfl _ rfl _ rfl _ rfl _ rfl _ rfl _ rfl _ rfl
        rw [hres]
        have hBu := hB.trans (hu.mono hB.size)
        clear hres zab zabc za zb z1 s1 hca hcb hso hdo
        go_wp2
        exact ⟨⟨k + 1, by omega, by go_num, hBu, by rw [HT.out]⟩, by simp [intOf]; omega⟩
      · have h32i : ¬ (c : Int) < 32 := by omega
        have zc : (strOf [c]).size = 1 := by rw [strOf_arr]; rfl
        have z92 : (ByteArray.mk #[92]).size = 1 := rfl
        have hcut := fun w1 => cutI (s := s) (a := k) (b := k + 1) (by omega) (by omega) w1
        rw [hxo, show ((k + 1 : Nat) : Int) = (k : Int) + 1 by omega] at hcut
        by_cases hq : c = 34 ∨ c = 92
        · have hres : strOf O ++ ByteArray.mk #[92] ++ strOf [c] = strOf (O ++ quoC c) := by
            unfold quoC
            rw [if_neg h32, if_pos hq, show [92, c] = [92] ++ [c] from rfl, strOf_app, strOf_app, show ByteArray.mk #[92] = strOf [92] by decide]
            simp [ByteArray.append_assoc]
          have hcs1 : ¬ ((strOf O).size + (ByteArray.mk #[92]).size > 9223372036854775807) := by omega
          have hcs2 : ¬ ((strOf O ++ ByteArray.mk #[92]).size + (strOf [c]).size > 9223372036854775807) := by
            rw [ByteArray.size_append]; omega
          have HR : Hid _ := hres
          clear hres zc z92 hso2
          rcases hq with rfl | rfl
          all_goals
            go_wp2
            refine ⟨⟨k + 1, by omega, by go_num, hB, by rw [HT.out, ← HR.out]⟩, by simp [intOf]; omega⟩
        · have hres : strOf O ++ strOf [c] = strOf (O ++ quoC c) := by
            unfold quoC
            rw [if_neg h32, if_neg hq, strOf_app]
          have hcs1 : ¬ ((strOf O).size + (strOf [c]).size > 9223372036854775807) := by omega
          have HR : Hid _ := hres
          have q1 : ((c : Int) == 34) = false := by have : ¬ (c : Int) = 34 := by omega
                                                    simpa using this
          have q2 : ((c : Int) == 92) = false := by have : ¬ (c : Int) = 92 := by omega
                                                    simpa using this
          clear hres zc z92 hso2 hq
          go_wp2
          refine ⟨⟨k + 1, by omega, by go_num, hB, by rw [HT.out, ← HR.out]⟩, by simp [intOf]; omega⟩
    · obtain rfl : n = k := by omega
      have z34 : (ByteArray.mk #[34]).size = 1 := rfl
      have hcs1 : ¬ ((strOf O).size + (ByteArray.mk #[34]).size > 9223372036854775807) := by omega
      have hres : strOf O ++ ByteArray.mk #[34] = strOf (quoT bs) := by
        rw [HO.out, List.take_of_length_le (by rw [HN.out]; exact Nat.le_refl _), show ByteArray.mk #[34] = strOf [34] by decide, ← strOf_app]
        rfl
      have HR : Hid _ := hres
      clear hres z34 hso2
      go_wp2
      go_ret
      exact ⟨_, rfl, hB, by rw [← HR.out]; rfl⟩
end Go.Proofs.YtljgnpneeecafaaDoor
set_option linter.unusedVariables false
namespace Go.Proofs.YtljgnpneeecafaaDoor
open Go.RowKit Go.Sort Go.BigFrame
set_option maxRecDepth 100000
set_option maxHeartbeats 2000000
/-- What tells whether two are the same. -/
def SameR {α : Type} (a b : α) (v : Value) (_ : World) : Prop := ∃ c : Bool, v = .bool c ∧ (c = true ↔ a = b)
theorem SameR.stb {α : Type} (a b : α) : Stb (SameR a b) := fun _ _ _ _ h => h
theorem SameR.no {α : Type} {a b : α} {w : World} (h : a ≠ b) : SameR a b (.bool false) w := ⟨false, rfl, by simp [h]⟩
theorem SameR.yes {α : Type} {a b : α} {w : World} (h : a = b) : SameR a b (.bool true) w := ⟨true, rfl, by simp [h]⟩
/-- The cells of a boxed value. -/
def BoxJ (w : World) (g : Nat) (k m : Int) (s : ByteArray) (nv kv : Value) : Prop := w.heap[g]? = some (.cells #[.int .i64 k, .int .i64 m, .string s, nv, kv] 25 (0, 0))
theorem BoxJ.below {w w' : World} {g : Nat} {k m : Int} {s : ByteArray} {nv kv : Value} (h : BoxJ w g k m s nv kv) (hb : Below w.heap.size w w') : BoxJ w' g k m s nv kv := block_below hb (lt_of_heap h) h
theorem BoxJ.cell {w : World} {g : Nat} {k m : Int} {s : ByteArray} {nv kv : Value} (h : BoxJ w g k m s nv kv) (j : Nat) : w.cell? ⟨g, j, none⟩ = (#[Value.int .i64 k, .int .i64 m, .string s, nv, kv] : Array Value)[j]? := cell_of_row w g j _ _ _ h
theorem list_eq_of {α : Type} {d : α} {a b : List α} (hl : a.length = b.length) (h : ∀ i, i < a.length → a.getD i d = b.getD i d) : a = b := by
  apply List.ext_getElem hl
  intro i h1 h2
  have := h i h1
  simpa [h1, h2] using this
def SameC (n : Nat) : Prop := ∀ (a b : J n) (va vb : Value) (w : World), Full n a → Full n b → JV a va w → JV b vb w → Ret 13 #[va, vb] w (SameR a b)
theorem sameStep {n : Nat} (ih : SameC n) : SameC (n + 1) := by
  intro a b va vb w fa fb ha hb
  obtain ⟨_, rfl, _, s1, nv1, kv1, rfl, hs1, hn1, hk1, _, _⟩ := ha
  obtain ⟨_, rfl, _, s2, nv2, kv2, rfl, hs2, hn2, hk2, _, _⟩ := hb
  obtain ⟨ki1, m1, t1, ns1, ks1⟩ := a
  obtain ⟨ki2, m2, t2, ns2, ks2⟩ := b
  have hst := str_eq_iff hs1 hs2
  clear hs1 hs2
  obtain ⟨na1, nc1, rfl, ln1, ln2, hnc1⟩ := hn1
  obtain ⟨na2, nc2, rfl, -, -, hnc2⟩ := hn2
  obtain ⟨ka1, kc1, rfl, lk1, lk2, hkc1⟩ := hk1
  obtain ⟨ka2, kc2, rfl, -, -, hkc2⟩ := hk2
  have fa' : ∀ k ∈ ks1, Full n k := fa
  have fb' : ∀ k ∈ ks2, Full n k := fb
  clear fa fb
  show Ret _ #[.agg #[.int .i64 ki1, .int .i64 m1, .string s1, .slice na1 ns1.length nc1, .slice ka1 ks1.length kc1], .agg #[.int .i64 ki2, .int .i64 m2, .string s2, .slice na2 ns2.length nc2, .slice ka2 ks2.length kc2]] w (SameR (⟨ki1, m1, t1, ns1, ks1⟩ : JN (J n)) (⟨ki2, m2, t2, ns2, ks2⟩ : JN (J n)))
  dsimp only at hnc1 hnc2 hkc1 hkc2 hst
  obtain ⟨N1, hN1⟩ : ∃ x, x = ns1.length := ⟨_, rfl⟩
  obtain ⟨N2, hN2⟩ : ∃ x, x = ns2.length := ⟨_, rfl⟩
  obtain ⟨K1, hK1⟩ : ∃ x, x = ks1.length := ⟨_, rfl⟩
  obtain ⟨K2, hK2⟩ : ∃ x, x = ks2.length := ⟨_, rfl⟩
  rw [← hN1, ← hN2, ← hK1, ← hK2]
  have bN : N1 ≤ 9223372036854775807 := by rw [hN1]; exact Nat.le_trans ln1 ln2
  have bK : K1 ≤ 9223372036854775807 := by rw [hK1]; exact Nat.le_trans lk1 lk2
  clear ln1 ln2 lk1 lk2
  have B0 : Below w.heap.size w ((w.alloc (.cells #[.int .i64 ki1, .int .i64 m1, .string s1, .slice na1 N1 nc1, .slice ka1 K1 kc1] 25)).alloc (.cells #[.int .i64 ki2, .int .i64 m2, .string s2, .slice na2 N2 nc2, .slice ka2 K2 kc2] 25)) := below2 _ _ _
  have HN1 : Hid (N1 = ns1.length) := hN1
  have HN2 : Hid (N2 = ns2.length) := hN2
  have HK1 : Hid (K1 = ks1.length) := hK1
  have HK2 : Hid (K2 = ks2.length) := hK2
  have key : ∀ {P : Prop}, (P → (⟨ki1, m1, t1, ns1, ks1⟩ : JN (J n)) ≠ ⟨ki2, m2, t2, ns2, ks2⟩) → P → SameR (⟨ki1, m1, t1, ns1, ks1⟩ : JN (J n)) (⟨ki2, m2, t2, ns2, ks2⟩ : JN (J n)) (.bool false) w := fun h p => SameR.no (h p)
  clear hN1 hN2 hK1 hK2
  unfold Ret
  go_enter Tryd.func13, Tryd.ntmps13
  by_cases e1 : ki1 = ki2
  case neg =>
    have hR := key (fun h => by intro e; injection e; contradiction) e1
    clear key
    go_wp2
    go_ret
    exact ⟨_, rfl, B0, hR⟩
  subst e1
  by_cases e2 : m1 = m2
  case neg =>
    have hR := key (fun h => by intro e; injection e; contradiction) e2
    clear key
    go_wp2
    go_ret
    exact ⟨_, rfl, B0, hR⟩
  subst e2
  by_cases e3 : t1 = t2
  case neg =>
    have hR := key (fun h => by intro e; injection e; contradiction) e3
    rw [decide_eq_false e3] at hst
    clear key
    go_wp2
    go_ret
    exact ⟨_, rfl, B0, hR⟩
  rw [decide_eq_true e3] at hst
  subst e3
  by_cases e4 : N1 = N2
  case neg =>
    have hR := key (fun h => by intro e; injection e with _ _ _ e5 _; rw [HN1.out, HN2.out, e5] at e4; exact e4 rfl) e4
    have e4i : ¬ (N1 : Int) = (N2 : Int) := by omega
    clear key
    go_wp2
    go_ret
    exact ⟨_, rfl, B0, hR⟩
  subst e4
  by_cases e5 : K1 = K2
  case neg =>
    have hR := key (fun h => by intro e; injection e with _ _ _ _ e6; rw [HK1.out, HK2.out, e6] at e5; exact e5 rfl) e5
    have e5i : ¬ (K1 : Int) = (K2 : Int) := by omega
    clear key
    go_wp2
    go_ret
    exact ⟨_, rfl, B0, hR⟩
  clear key
  subst e5
  have X1 : BoxJ ((w.alloc (.cells #[.int .i64 ki1, .int .i64 m1, .string s1, .slice na1 N1 nc1, .slice ka1 K1 kc1] 25)).alloc (.cells #[.int .i64 ki1, .int .i64 m1, .string s2, .slice na2 N1 nc2, .slice ka2 K1 kc2] 25)) w.heap.size ki1 m1 s1 (.slice na1 N1 nc1) (.slice ka1 K1 kc1) := (heap_alloc_old _ _ (by rw [size_alloc]; omega)).trans (heap_alloc_new _ _)
  have X2 : BoxJ ((w.alloc (.cells #[.int .i64 ki1, .int .i64 m1, .string s1, .slice na1 N1 nc1, .slice ka1 K1 kc1] 25)).alloc (.cells #[.int .i64 ki1, .int .i64 m1, .string s2, .slice na2 N1 nc2, .slice ka2 K1 kc2] 25)) (w.heap.size + 1) ki1 m1 s2 (.slice na2 N1 nc2) (.slice ka2 K1 kc2) := heap_alloc2_new _ _ _
  have HX : Hid _ := (⟨X1, X2⟩ : _ ∧ _)
  clear X1 X2
  go_wp2_with fail
  go_loopw [5] (fun i wr => ∃ k : Nat, k ≤ N1 ∧ i = .int .i64 k ∧ Below w.heap.size w wr ∧ BoxJ wr w.heap.size ki1 m1 s1 (.slice na1 N1 nc1) (.slice ka1 K1 kc1) ∧ BoxJ wr (w.heap.size + 1) ki1 m1 s2 (.slice na2 N1 nc2) (.slice ka2 K1 kc2) ∧ ∀ i, i < k → ns1.getD i [] = ns2.getD i []) (fun i _ => N1 - (intOf i).toNat)
  case atStart => exact ⟨0, by omega, rfl, B0, HX.out.1, HX.out.2, fun i hi => by omega⟩
  case round =>
    obtain ⟨k, hk, rfl, hB, hX1, hX2, hall⟩ := hrel
    have c13 := hX1.cell 3
    have c23 := hX2.cell 3
    by_cases hlt : k < N1
    · obtain ⟨b1, o1, rfl, hc1⟩ := hnc1 (by rw [← HN1.out]; omega)
      obtain ⟨b2, o2, rfl, hc2⟩ := hnc2 (by rw [← HN2.out]; omega)
      obtain ⟨x1, hx1, hS1⟩ := hc1 k (by rw [← HN1.out]; exact hlt)
      obtain ⟨x2, hx2, hS2⟩ := hc2 k (by rw [← HN2.out]; exact hlt)
      have d1 := (hB.cell (p := ⟨b1, o1 + k, none⟩) (block_lt_of_cell hx1)).trans hx1
      have d2 := (hB.cell (p := ⟨b2, o2 + k, none⟩) (block_lt_of_cell hx2)).trans hx2
      have hne := str_eq_iff hS1 hS2
      have HX2 : Hid (BoxJ wr w.heap.size ki1 m1 s1 (.slice (some ⟨b1, o1, none⟩) N1 nc1) (.slice ka1 K1 kc1) ∧ BoxJ wr (w.heap.size + 1) ki1 m1 s2 (.slice (some ⟨b2, o2, none⟩) N1 nc2) (.slice ka2 K1 kc2)) := ⟨hX1, hX2⟩
      have HA : Hid (∀ i, i < k → ns1.getD i [] = ns2.getD i []) := hall
      clear hx1 hx2 hS1 hS2 hX1 hX2 HX hall hc1 hc2 hst
      by_cases he : ns1.getD k [] = ns2.getD k []
      · rw [decide_eq_true he] at hne
        have HE : Hid _ := he
        clear he
        go_wp2_with fail
        go_region
        go_wp2
        go_roundw
        case rel =>
          refine ⟨k + 1, by omega, by go_num, hB.drew, HX2.out.1, HX2.out.2, fun i hi => ?_⟩
          by_cases hik : i = k
          · rw [hik]; exact HE.out
          · exact HA.out i (by omega)
        case measure => simp [intOf]; omega
      · rw [decide_eq_false he] at hne
        have hR : SameR (⟨ki1, m1, t1, ns1, ks1⟩ : JN (J n)) (⟨ki1, m1, t1, ns2, ks2⟩ : JN (J n)) (.bool false) wr := SameR.no (fun e => by injection e with _ _ _ e5 _; rw [e5] at he; exact he rfl)
        clear he
        have hBd := hB.drew
        go_wp2_with fail
        go_region
        go_wp2
        go_ret
        exact ⟨_, rfl, hBd, hR⟩
    · obtain rfl : N1 = k := by omega
      have hns : ns1 = ns2 := list_eq_of (d := []) (by rw [← HN1.out, ← HN2.out]) (fun i hi => hall i (by rw [HN1.out]; exact hi))
      have HNS : Hid (ns1 = ns2) := hns
      have HXo : Hid (BoxJ wr w.heap.size ki1 m1 s1 (.slice na1 N1 nc1) (.slice ka1 K1 kc1) ∧ BoxJ wr (w.heap.size + 1) ki1 m1 s2 (.slice na2 N1 nc2) (.slice ka2 K1 kc2)) := ⟨hX1, hX2⟩
      clear hns hall hnc1 hnc2 hX1 hX2 HX hst
      obtain ⟨wo, hwo⟩ : ∃ wo : World, wo = wr := ⟨_, rfl⟩
      subst hwo
      go_wp2_with fail
      go_loopw [6] (fun i wr => ∃ k : Nat, k ≤ K1 ∧ i = .int .i64 k ∧ Below w.heap.size w wr ∧ BoxJ wr w.heap.size ki1 m1 s1 (.slice na1 N1 nc1) (.slice ka1 K1 kc1) ∧ BoxJ wr (w.heap.size + 1) ki1 m1 s2 (.slice na2 N1 nc2) (.slice ka2 K1 kc2) ∧ ∀ i (h1 : i < ks1.length) (h2 : i < ks2.length), i < k → ks1[i] = ks2[i]) (fun i _ => K1 - (intOf i).toNat)
      case atStart => exact ⟨0, by omega, rfl, hB, HXo.out.1, HXo.out.2, fun i _ _ hi => by omega⟩
      case round =>
        obtain ⟨k, hk, rfl, hB, hX1, hX2, hall⟩ := hrel
        have c14 := hX1.cell 4
        have c24 := hX2.cell 4
        by_cases hlt : k < K1
        · obtain ⟨b1, o1, rfl, hc1⟩ := hkc1 (by rw [← HK1.out]; omega)
          obtain ⟨b2, o2, rfl, hc2⟩ := hkc2 (by rw [← HK2.out]; omega)
          have l1 : k < ks1.length := by rw [← HK1.out]; exact hlt
          have l2 : k < ks2.length := by rw [← HK2.out]; exact hlt
          obtain ⟨x1, hx1, hS1⟩ := hc1 k l1
          obtain ⟨x2, hx2, hS2⟩ := hc2 k l2
          have f1 : Full n (ks1[k]'l1) := fa' _ (List.getElem_mem _)
          have f2 : Full n (ks2[k]'l2) := fb' _ (List.getElem_mem _)
          obtain ⟨j1, hj1⟩ : ∃ j, j = ks1[k]'l1 := ⟨_, rfl⟩
          obtain ⟨j2, hj2⟩ : ∃ j, j = ks2[k]'l2 := ⟨_, rfl⟩
          rw [← hj1] at hS1 f1
          rw [← hj2] at hS2 f2
          have HJ1 : Hid (j1 = ks1[k]'l1) := hj1
          have HJ2 : Hid (j2 = ks2[k]'l2) := hj2
          have HA : Hid (∀ i (h1 : i < ks1.length) (h2 : i < ks2.length), i < k → ks1[i] = ks2[i]) := hall
          have q1 := lt_of_heap hX1
          have q2 := lt_of_heap hX2
          clear hc1 hc2 hj1 hj2 hall HXo
          go_wp2_with fail
          refine wp_region_inv 12 (specs [Is (.pointer (some ⟨w.heap.size, 4, none⟩)), Is (.slice (some ⟨b1, o1, none⟩) K1 kc1), Is (.int .i64 (k : Int)), Is (.pointer (some ⟨b1, o1 + k * 5, none⟩)), JV j1, Is (.pointer (some ⟨w.heap.size + 1, 4, none⟩)), Is (.slice (some ⟨b2, o2, none⟩) K1 kc2), Is (.int .i64 (k : Int)), Is (.pointer (some ⟨b2, o2 + k * 5, none⟩)), JV j2, SameR j1 j2, SameR j1 j2])
            (by kernel_rfl) (specs_stb ⟨Is.stb _, Is.stb _, Is.stb _, Is.stb _, JV.stb _, Is.stb _, Is.stb _, Is.stb _, Is.stb _, JV.stb _, SameR.stb _ _, SameR.stb _ _, trivial⟩) (by kernel_rfl) ?_ ?_
          · refine ⟨fun a w2 hB2 hfr hdep => Step.plain rfl (Does.run _ (fa25 _ 4 (by decide) rfl (hfr 2 (by kernel_rfl))) rfl),
              fun a w2 hB2 hfr hdep => Step.plain rfl (Does.run _ (ldK rfl (hdep 0 70 (by kernel_rfl)) ((hB2.cell (p := ⟨w.heap.size, 4, none⟩) q1).trans c14)) rfl),
              fun a w2 hB2 hfr hdep => Step.plain rfl (dMove (R := Is _) rfl (hfr 6 (by kernel_rfl))),
              fun a w2 hB2 hfr hdep => Step.plain rfl (Does.run _ (idxK rfl (hdep 1 71 (by kernel_rfl)) (hdep 2 72 (by kernel_rfl)) hlt) rfl),
              fun a w2 hB2 hfr hdep => Step.plain rfl (dLdV (n := n) rfl (hdep 3 73 (by kernel_rfl)) ((hx1.below hB).below hB2) (JC.below _ _ _ _ _ hB2 (JC.below _ _ _ _ _ hB hS1))),
              fun a w2 hB2 hfr hdep => Step.plain rfl (Does.run _ (fa25 _ 4 (by decide) rfl (hfr 3 (by kernel_rfl))) rfl),
              fun a w2 hB2 hfr hdep => Step.plain rfl (Does.run _ (ldK rfl (hdep 5 75 (by kernel_rfl)) ((hB2.cell (p := ⟨w.heap.size + 1, 4, none⟩) q2).trans c24)) rfl),
              fun a w2 hB2 hfr hdep => Step.plain rfl (dMove (R := Is _) rfl (hfr 6 (by kernel_rfl))),
              fun a w2 hB2 hfr hdep => Step.plain rfl (Does.run _ (idxK rfl (hdep 6 76 (by kernel_rfl)) (hdep 7 77 (by kernel_rfl)) hlt) rfl),
              fun a w2 hB2 hfr hdep => Step.plain rfl (dLdV (n := n) rfl (hdep 8 78 (by kernel_rfl)) ((hx2.below hB).below hB2) (JC.below _ _ _ _ _ hB2 (JC.below _ _ _ _ _ hB hS2))),
              fun a w2 hB2 hfr hdep => Step.plain rfl (Does.call 13 #[a.eval (.tmp 74), a.eval (.tmp 79)] (by kernel_rfl) (ih j1 j2 _ _ w2 f1 f2 (hdep 4 74 (by kernel_rfl)) (hdep 9 79 (by kernel_rfl)))),
              fun a w2 hB2 hfr hdep => Step.plain rfl (dAssign (R := SameR j1 j2) rfl (hdep 10 80 (by kernel_rfl))), trivial⟩
          intro u hu
          simp only [List.take, List.drop, FinAll, Act.put, List.setIfInBounds_toArray, List.set_cons_succ, List.set_cons_zero]
          rintro _ rfl _ rfl _ rfl _ rfl v74 _ _ rfl _ rfl _ rfl _ rfl v79 _ v80 _ v7 ⟨c, rfl, hcc⟩
          have hBu := hB.trans (hu.mono hB.size)
          have Y1 := hX1.below hu
          have Y2 := hX2.below hu
          have HY : Hid (BoxJ u w.heap.size ki1 m1 s1 (.slice na1 N1 nc1) (.slice (some ⟨b1, o1, none⟩) K1 kc1) ∧ BoxJ u (w.heap.size + 1) ki1 m1 s2 (.slice na2 N1 nc2) (.slice (some ⟨b2, o2, none⟩) K1 kc2)) := ⟨Y1, Y2⟩
          clear Y1 Y2 hX1 hX2 c14 c24 hx1 hx2 hS1 hS2 f1 f2
          cases c with
          | true =>
            have hjj : j1 = j2 := hcc.1 rfl
            have HJJ : Hid (j1 = j2) := hjj
            clear hjj hcc
            go_wp2
            go_roundw
            case rel =>
              refine ⟨k + 1, by omega, by go_num, hBu, HY.out.1, HY.out.2, fun i h1 h2 hi => ?_⟩
              by_cases hik : i = k
              · subst hik
                have := HJJ.out
                rw [HJ1.out, HJ2.out] at this
                exact this
              · exact HA.out i h1 h2 (by omega)
            case measure => simp [intOf]; omega
          | false =>
            have hjj : j1 ≠ j2 := fun e => by have := hcc.2 e; cases this
            have hR : SameR (⟨ki1, m1, t1, ns1, ks1⟩ : JN (J n)) (⟨ki1, m1, t1, ns2, ks2⟩ : JN (J n)) (.bool false) u := SameR.no (fun e => by
              injection e with _ _ _ _ e6
              apply hjj
              rw [HJ1.out, HJ2.out]
              simp only [e6])
            clear hjj hcc
            go_wp2
            go_ret
            exact ⟨_, rfl, hBu, hR⟩
        · obtain rfl : K1 = k := by omega
          have hks : ks1 = ks2 := by
            apply List.ext_getElem (by rw [← HK1.out, ← HK2.out])
            intro i h1 h2
            exact hall i h1 h2 (by rw [HK1.out]; exact h1)
          have hR : SameR (⟨ki1, m1, t1, ns1, ks1⟩ : JN (J n)) (⟨ki1, m1, t1, ns2, ks2⟩ : JN (J n)) (.bool true) wr := SameR.yes (by rw [HNS.out, hks])
          clear hks hall
          go_wp2
          go_ret
          exact ⟨_, rfl, hB, hR⟩
theorem sameJ : ∀ n, SameC n
  | 0 => fun a b va vb w fa _ _ _ => absurd fa (fun h => h)
  | n + 1 => sameStep (sameJ n)
end Go.Proofs.YtljgnpneeecafaaDoor
set_option linter.unusedVariables false
namespace Go.Proofs.YtljgnpneeecafaaDoor
open Go.RowKit Go.Sort Go.BigFrame
set_option maxRecDepth 100000
set_option maxHeartbeats 2000000
theorem strOf_size (X : List Nat) : (strOf X).size = X.length := by
  rw [strOf_arr]
  show (X.map UInt8.ofNat).toArray.size = _
  simp
/-- Pieces with commas between. -/
def accW (f : Nat → List Nat) : Nat → List Nat
  | 0 => []
  | k + 1 => accW f k ++ (if k = 0 then [] else [44]) ++ f k
theorem accW_len (f : Nat → List Nat) (k : Nat) : (accW f (k + 1)).length = (accW f k).length + (if k = 0 then 0 else 1) + (f k).length := by
  show (accW f k ++ (if k = 0 then [] else [44]) ++ f k).length = _
  rw [List.length_append, List.length_append]
  split <;> simp
theorem accW_mono (f : Nat → List Nat) {i k : Nat} (h : i ≤ k) : (accW f i).length ≤ (accW f k).length := by
  induction h with
  | refl => exact Nat.le_refl _
  | step _ ih => rw [accW_len]; omega
/-- A value's text. -/
def writeJ : (n : Nat) → J n → List Nat
  | 0, _ => []
  | n + 1, j =>
    if JN.kind j = 1 then (if JN.num j = 1 then [116, 114, 117, 101] else [102, 97, 108, 115, 101])
    else if JN.kind j = 2 then digT (JN.num j)
    else if JN.kind j = 3 then quoT (JN.text j)
    else if JN.kind j = 4 then 91 :: (accW (fun i => ((JN.kids j).map (writeJ n)).getD i []) (JN.kids j).length ++ [93])
    else if JN.kind j = 5 then 123 :: (accW (fun i => quoT ((JN.names j).getD i []) ++ [58] ++ ((JN.kids j).map (writeJ n)).getD i []) (JN.kids j).length ++ [125])
    else [110, 117, 108, 108]
/-- What may be written: told to its end, names enough, a number that has its other one. -/
def WfJ : (n : Nat) → J n → Prop
  | 0, _ => False
  | n + 1, j => (JN.kind j = 2 → -9223372036854775808 < JN.num j) ∧ (JN.kind j = 5 → (JN.kids j).length ≤ (JN.names j).length) ∧ ∀ k ∈ JN.kids j, WfJ n k
def WriteC (n : Nat) : Prop := ∀ (j : J n) (v : Value) (w : World), WfJ n j → JV j v w → (writeJ n j).length ≤ 100000000000000 → Ret 11 #[v] w (Is (.string (strOf (writeJ n j))))
theorem quoI_ge : ∀ (l : List Nat), l.length ≤ (quoI l).length
  | [] => Nat.le_refl _
  | c :: l => by
    show _ ≤ (quoC c ++ quoI l).length
    rw [List.length_append, List.length_cons]
    have := quoI_ge l
    have : 1 ≤ (quoC c).length := by
      unfold quoC
      split
      · simp
      · split <;> simp
    omega
theorem kind_ne {a : Int} {b : Int} (h : ¬ a = b) : (a == b) = false := by simpa using h
theorem write4 {n : Nat} (ih : WriteC n) (m : Int) (t : List Nat) (ns : List (List Nat)) (ks : List (J n)) (v : Value) (w : World) (hw : WfJ (n + 1) (⟨4, m, t, ns, ks⟩ : JN (J n))) (hv : JV (n := n + 1) (⟨4, m, t, ns, ks⟩ : JN (J n)) v w)
    (hl : (91 :: (accW (fun i => (ks.map (writeJ n)).getD i []) ks.length ++ [93])).length ≤ 100000000000000) : Ret 11 #[v] w (Is (.string (strOf (91 :: (accW (fun i => (ks.map (writeJ n)).getD i []) ks.length ++ [93]))))) := by
  obtain ⟨_, rfl, _, s, nv, kv, rfl, hs, hn, hk, _, _⟩ := hv
  obtain ⟨na, nc, rfl, ln1, ln2, hnc⟩ := hn
  obtain ⟨ka, kc, rfl, lk1, lk2, hkc⟩ := hk
  obtain ⟨-, hnk, hwk⟩ := hw
  have hnk : (4 : Int) = 5 → ks.length ≤ ns.length := hnk
  have hwk : ∀ k ∈ ks, WfJ n k := hwk
  show Ret _ #[.agg #[.int .i64 4, .int .i64 m, .string s, .slice na ns.length nc, .slice ka ks.length kc]] w _
  dsimp only at hnc hkc ln1 ln2 lk1 lk2
  obtain ⟨F, hF⟩ : ∃ F : Nat → List Nat, F = (fun i => (ks.map (writeJ n)).getD i []) := ⟨_, rfl⟩
  rw [← hF] at hl ⊢
  obtain ⟨N, hN⟩ : ∃ x, x = ns.length := ⟨_, rfl⟩
  obtain ⟨K, hK⟩ : ∃ x, x = ks.length := ⟨_, rfl⟩
  rw [← hK] at hnk hl lk1 ⊢
  rw [← hN] at hnk ln1 ⊢

  clear hnk
  have bN : N ≤ 9223372036854775807 := Nat.le_trans ln1 ln2
  have bK : K ≤ 9223372036854775807 := Nat.le_trans lk1 lk2
  have hl2 : (accW F K).length + 2 ≤ 100000000000000 := by simpa using hl
  have HN : Hid (N = ns.length) := hN
  have HK : Hid (K = ks.length) := hK
  have HF : Hid (F = (fun i => (ks.map (writeJ n)).getD i [])) := hF
  have B0 : Below w.heap.size w (w.alloc (.cells #[.int .i64 4, .int .i64 m, .string s, .slice na N nc, .slice ka K kc] 25)) := below1 _ _
  have X0 : BoxJ (w.alloc (.cells #[.int .i64 4, .int .i64 m, .string s, .slice na N nc, .slice ka K kc] 25)) w.heap.size 4 m s (.slice na N nc) (.slice ka K kc) := heap_alloc_new _ _
  have HX : Hid _ := X0
  clear X0 hF hN hK hl ln1 ln2 lk1 lk2 hs
  unfold Ret
  go_enter Tryd.func11, Tryd.ntmps11
  go_wp2_with fail
  go_loopw [3, 4] (fun o i wr => ∃ k : Nat, k ≤ K ∧ i = .int .i64 k ∧ Below w.heap.size w wr ∧ BoxJ wr w.heap.size 4 m s (.slice na N nc) (.slice ka K kc) ∧ o = .string (strOf (accW F k))) (fun _ i _ => K - (intOf i).toNat)
  case atStart => exact ⟨0, by omega, rfl, B0, HX.out, rfl⟩
  case round =>
    obtain ⟨k, hk, rfl, hB, hX, rfl⟩ := hrel
    have c0 := hX.cell 0
    have c3 := hX.cell 3
    have c4 := hX.cell 4
    clear HX
    by_cases hlt : k < K
    · have l1 : k < ks.length := by rw [← HK.out]; exact hlt
      obtain ⟨b1, o1, rfl, hc1⟩ := hkc (by omega)
      obtain ⟨cs, hx1, hS1⟩ := hc1 k l1
      have hwk1 := hwk _ (List.getElem_mem l1)
      have hFk := accW_len F k
      have hmono := accW_mono F (show k + 1 ≤ K by omega)
      have hFx : F k = writeJ n (ks[k]'l1) := by rw [HF.out]; simp [l1]
      obtain ⟨j1, hj1⟩ : ∃ j, j = ks[k]'l1 := ⟨_, rfl⟩
      rw [← hj1] at hS1 hwk1 hFx
      have hfl : (F k).length ≤ 100000000000000 := by omega
      have hjl : (writeJ n j1).length ≤ 100000000000000 := by rw [hFx] at hfl; exact hfl
      have hAs := strOf_size (accW F k)
      have hacc : accW F (k + 1) = accW F k ++ (if k = 0 then [] else [44]) ++ F k := rfl
      have hix : k < K := hlt
      obtain ⟨A, hA⟩ : ∃ A, A = accW F k := ⟨_, rfl⟩
      rw [← hA] at hAs hacc hFk ⊢
      have hx2 := hx1.below hB
      have hS2 := JC.below _ _ _ _ _ hB hS1
      have hjv : JV j1 (.agg cs.toArray) wr := ⟨cs, rfl, hx2.1, hS2⟩
      obtain ⟨d0, d1, d2, d3, d4, rfl⟩ : ∃ d0 d1 d2 d3 d4, cs = [d0, d1, d2, d3, d4] := by
        match cs, hx2.1 with
        | [d0, d1, d2, d3, d4], _ => exact ⟨d0, d1, d2, d3, d4, rfl⟩
      have g0 : wr.cell? ⟨b1, o1 + k * 5, none⟩ = some d0 := hx2.2 0 (by decide)
      have g1 : wr.cell? ⟨b1, o1 + k * 5 + 1, none⟩ = some d1 := hx2.2 1 (by decide)
      have g2 : wr.cell? ⟨b1, o1 + k * 5 + 2, none⟩ = some d2 := hx2.2 2 (by decide)
      have g3 : wr.cell? ⟨b1, o1 + k * 5 + 3, none⟩ = some d3 := hx2.2 3 (by decide)
      have g4 : wr.cell? ⟨b1, o1 + k * 5 + 4, none⟩ = some d4 := hx2.2 4 (by decide)
      have hbnd : (accW F (k + 1)).length ≤ 100000000000000 := by omega
      have hjv : JV j1 (.agg #[d0, d1, d2, d3, d4]) wr := hjv
      clear hj1 hA hc1 hx1 hS1 hmono
      by_cases hk0 : k = 0
      · rw [if_pos hk0, List.append_nil] at hacc
        have hA0 : A.length + (F k).length ≤ 100000000000000 := by rw [if_pos hk0] at hFk; omega
        have hk0i : ¬ (0 : Int) < (k : Int) := by omega
        clear hk0
        rw [hFx] at hacc hA0
        have hcs1 : ¬ ((strOf (A)).size + (strOf (writeJ n j1)).size > 9223372036854775807) := by rw [strOf_size, strOf_size]; omega
        have hcat1 : strOf (A) ++ strOf (writeJ n j1) = strOf (accW F (k + 1)) := by rw [hacc, ← strOf_app]
        have HC1 : Hid _ := hcat1
        clear hcat1 hacc hFk hFx hfl hAs hA0
        go_wp2_with fail
        refine (ih j1 _ wr hwk1 hjv hjl).mono ?_
        rintro e w2 ⟨v, rfl, hB2, rfl⟩
        have hBr := hB.trans (hB2.mono hB.size)
        have hXr := hX.below hB2
        clear c0 c3 c4 g0 g1 g2 g3 g4
        go_wp2
        exact ⟨⟨k + 1, by omega, by go_num, hBr, hXr, by rw [← HC1.out]⟩, by simp [intOf]; omega⟩
      · rw [if_neg hk0] at hacc
        have hk0i : (0 : Int) < (k : Int) := by omega
        have hA0 : A.length + 1 + (F k).length ≤ 100000000000000 := by rw [if_neg hk0] at hFk; omega
        have hcs0 : ¬ ((strOf A).size + (ByteArray.mk #[44]).size > 9223372036854775807) := by rw [hAs, show (ByteArray.mk #[44]).size = 1 from rfl]; omega
        have hcat0 : strOf A ++ ByteArray.mk #[44] = strOf (A ++ [44]) := by rw [strOf_app]; congr 1
        rw [hFx] at hacc hA0
        have hcs1 : ¬ ((strOf (A ++ [44])).size + (strOf (writeJ n j1)).size > 9223372036854775807) := by rw [strOf_size, strOf_size]; rw [List.length_append, List.length_singleton]; omega
        have hcat1 : strOf (A ++ [44]) ++ strOf (writeJ n j1) = strOf (accW F (k + 1)) := by rw [hacc, ← strOf_app]
        have HC1 : Hid _ := hcat1
        clear hcat1 hacc hFk hFx hfl hAs hA0
        go_wp2_with fail
        refine (ih j1 _ wr hwk1 hjv hjl).mono ?_
        rintro e w2 ⟨v, rfl, hB2, rfl⟩
        have hBr := hB.trans (hB2.mono hB.size)
        have hXr := hX.below hB2
        clear c0 c3 c4 g0 g1 g2 g3 g4
        go_wp2
        exact ⟨⟨k + 1, by omega, by go_num, hBr, hXr, by rw [← HC1.out]⟩, by simp [intOf]; omega⟩
    · obtain rfl : K = k := by omega
      have hAs := strOf_size (accW F K)
      have hcs1 : ¬ ((ByteArray.mk #[91]).size + (strOf (accW F K)).size > 9223372036854775807) := by rw [hAs, show (ByteArray.mk #[91]).size = 1 from rfl]; omega
      have hcat1 : ByteArray.mk #[91] ++ strOf (accW F K) = strOf (91 :: accW F K) := by rw [show 91 :: accW F K = [91] ++ accW F K from rfl, strOf_app]; congr 1
      have hcs2 : ¬ ((strOf (91 :: accW F K)).size + (ByteArray.mk #[93]).size > 9223372036854775807) := by rw [strOf_size, show (ByteArray.mk #[93]).size = 1 from rfl, List.length_cons]; omega
      have hcat2 : strOf (91 :: accW F K) ++ ByteArray.mk #[93] = strOf (91 :: (accW F K ++ [93])) := by rw [show 91 :: (accW F K ++ [93]) = (91 :: accW F K) ++ [93] from rfl, strOf_app]; congr 1
      have HC : Hid _ := hcat2
      clear hcat2 hAs
      go_wp2
      go_ret
      exact ⟨_, rfl, hB, by rw [← HC.out]; rfl⟩
theorem write5 {n : Nat} (ih : WriteC n) (m : Int) (t : List Nat) (ns : List (List Nat)) (ks : List (J n)) (v : Value) (w : World) (hw : WfJ (n + 1) (⟨5, m, t, ns, ks⟩ : JN (J n))) (hv : JV (n := n + 1) (⟨5, m, t, ns, ks⟩ : JN (J n)) v w)
    (hl : (123 :: (accW (fun i => quoT (ns.getD i []) ++ [58] ++ (ks.map (writeJ n)).getD i []) ks.length ++ [125])).length ≤ 100000000000000) : Ret 11 #[v] w (Is (.string (strOf (123 :: (accW (fun i => quoT (ns.getD i []) ++ [58] ++ (ks.map (writeJ n)).getD i []) ks.length ++ [125]))))) := by
  obtain ⟨_, rfl, _, s, nv, kv, rfl, hs, hn, hk, _, _⟩ := hv
  obtain ⟨na, nc, rfl, ln1, ln2, hnc⟩ := hn
  obtain ⟨ka, kc, rfl, lk1, lk2, hkc⟩ := hk
  obtain ⟨-, hnk, hwk⟩ := hw
  have hnk : (5 : Int) = 5 → ks.length ≤ ns.length := hnk
  have hwk : ∀ k ∈ ks, WfJ n k := hwk
  show Ret _ #[.agg #[.int .i64 5, .int .i64 m, .string s, .slice na ns.length nc, .slice ka ks.length kc]] w _
  dsimp only at hnc hkc ln1 ln2 lk1 lk2
  obtain ⟨F, hF⟩ : ∃ F : Nat → List Nat, F = (fun i => quoT (ns.getD i []) ++ [58] ++ (ks.map (writeJ n)).getD i []) := ⟨_, rfl⟩
  rw [← hF] at hl ⊢
  obtain ⟨N, hN⟩ : ∃ x, x = ns.length := ⟨_, rfl⟩
  obtain ⟨K, hK⟩ : ∃ x, x = ks.length := ⟨_, rfl⟩
  rw [← hK] at hnk hl lk1 ⊢
  rw [← hN] at hnk ln1 ⊢
  have hKN : K ≤ N := hnk rfl
  clear hnk
  have bN : N ≤ 9223372036854775807 := Nat.le_trans ln1 ln2
  have bK : K ≤ 9223372036854775807 := Nat.le_trans lk1 lk2
  have hl2 : (accW F K).length + 2 ≤ 100000000000000 := by simpa using hl
  have HN : Hid (N = ns.length) := hN
  have HK : Hid (K = ks.length) := hK
  have HF : Hid (F = (fun i => quoT (ns.getD i []) ++ [58] ++ (ks.map (writeJ n)).getD i [])) := hF
  have B0 : Below w.heap.size w (w.alloc (.cells #[.int .i64 5, .int .i64 m, .string s, .slice na N nc, .slice ka K kc] 25)) := below1 _ _
  have X0 : BoxJ (w.alloc (.cells #[.int .i64 5, .int .i64 m, .string s, .slice na N nc, .slice ka K kc] 25)) w.heap.size 5 m s (.slice na N nc) (.slice ka K kc) := heap_alloc_new _ _
  have HX : Hid _ := X0
  clear X0 hF hN hK hl ln1 ln2 lk1 lk2 hs
  unfold Ret
  go_enter Tryd.func11, Tryd.ntmps11
  go_wp2_with fail
  go_loopw [3, 4] (fun o i wr => ∃ k : Nat, k ≤ K ∧ i = .int .i64 k ∧ Below w.heap.size w wr ∧ BoxJ wr w.heap.size 5 m s (.slice na N nc) (.slice ka K kc) ∧ o = .string (strOf (accW F k))) (fun _ i _ => K - (intOf i).toNat)
  case atStart => exact ⟨0, by omega, rfl, B0, HX.out, rfl⟩
  case round =>
    obtain ⟨k, hk, rfl, hB, hX, rfl⟩ := hrel
    have c0 := hX.cell 0
    have c3 := hX.cell 3
    have c4 := hX.cell 4
    clear HX
    by_cases hlt : k < K
    · have l1 : k < ks.length := by rw [← HK.out]; exact hlt
      obtain ⟨b1, o1, rfl, hc1⟩ := hkc (by omega)
      obtain ⟨cs, hx1, hS1⟩ := hc1 k l1
      have hwk1 := hwk _ (List.getElem_mem l1)
      have hFk := accW_len F k
      have hmono := accW_mono F (show k + 1 ≤ K by omega)
      obtain ⟨b2, o2, rfl, hc2⟩ := hnc (by rw [← HN.out]; omega)
      obtain ⟨nm, hnm, hSn⟩ := hc2 k (by rw [← HN.out]; omega)
      have hkN : k < N := by omega
      have dn := (hB.cell (p := ⟨b2, o2 + k, none⟩) (block_lt_of_cell hnm)).trans hnm
      have hFx : F k = quoT (ns.getD k []) ++ [58] ++ writeJ n (ks[k]'l1) := by rw [HF.out]; simp [l1]
      obtain ⟨Q, hQ⟩ : ∃ Q, Q = ns.getD k [] := ⟨_, rfl⟩
      rw [← hQ] at hSn hFx
      clear hQ
      obtain ⟨j1, hj1⟩ : ∃ j, j = ks[k]'l1 := ⟨_, rfl⟩
      rw [← hj1] at hS1 hwk1 hFx
      have hfl : (F k).length ≤ 100000000000000 := by omega
      have hjl : (writeJ n j1).length ≤ 100000000000000 := by rw [hFx] at hfl; rw [List.length_append] at hfl; omega
      have hAs := strOf_size (accW F k)
      have hacc : accW F (k + 1) = accW F k ++ (if k = 0 then [] else [44]) ++ F k := rfl
      have hix : k < K := hlt
      obtain ⟨A, hA⟩ : ∃ A, A = accW F k := ⟨_, rfl⟩
      rw [← hA] at hAs hacc hFk ⊢
      have hx2 := hx1.below hB
      have hS2 := JC.below _ _ _ _ _ hB hS1
      have hjv : JV j1 (.agg cs.toArray) wr := ⟨cs, rfl, hx2.1, hS2⟩
      obtain ⟨d0, d1, d2, d3, d4, rfl⟩ : ∃ d0 d1 d2 d3 d4, cs = [d0, d1, d2, d3, d4] := by
        match cs, hx2.1 with
        | [d0, d1, d2, d3, d4], _ => exact ⟨d0, d1, d2, d3, d4, rfl⟩
      have g0 : wr.cell? ⟨b1, o1 + k * 5, none⟩ = some d0 := hx2.2 0 (by decide)
      have g1 : wr.cell? ⟨b1, o1 + k * 5 + 1, none⟩ = some d1 := hx2.2 1 (by decide)
      have g2 : wr.cell? ⟨b1, o1 + k * 5 + 2, none⟩ = some d2 := hx2.2 2 (by decide)
      have g3 : wr.cell? ⟨b1, o1 + k * 5 + 3, none⟩ = some d3 := hx2.2 3 (by decide)
      have g4 : wr.cell? ⟨b1, o1 + k * 5 + 4, none⟩ = some d4 := hx2.2 4 (by decide)
      have hbnd : (accW F (k + 1)).length ≤ 100000000000000 := by omega
      have hjv : JV j1 (.agg #[d0, d1, d2, d3, d4]) wr := hjv
      clear hj1 hA hc1 hx1 hS1 hmono
      by_cases hk0 : k = 0
      · rw [if_pos hk0, List.append_nil] at hacc
        have hA0 : A.length + (F k).length ≤ 100000000000000 := by rw [if_pos hk0] at hFk; omega
        have hk0i : ¬ (0 : Int) < (k : Int) := by omega
        clear hk0
        have hQl : Q.length ≤ 1000000000000000 := by have h1 := quoI_ge Q; rw [hFx] at hA0; unfold quoT at hA0; simp only [List.length_append, List.length_cons] at hA0; omega
        have hA1 : (A).length + (quoT Q).length + 1 + (writeJ n j1).length ≤ 100000000000001 := by rw [hFx] at hA0; simp only [List.length_append, List.length_singleton] at hA0 ⊢; omega
        rw [hFx] at hacc
        have hcs1 : ¬ ((strOf (A)).size + (strOf (quoT Q)).size > 9223372036854775807) := by rw [strOf_size, strOf_size]; omega
        have hcat1 : strOf (A) ++ strOf (quoT Q) = strOf (A ++ quoT Q) := by rw [← strOf_app]
        have hcs2 : ¬ ((strOf (A ++ quoT Q)).size + (ByteArray.mk #[58]).size > 9223372036854775807) := by rw [strOf_size, show (ByteArray.mk #[58]).size = 1 from rfl, List.length_append]; omega
        have hcat2 : strOf (A ++ quoT Q) ++ ByteArray.mk #[58] = strOf (A ++ quoT Q ++ [58]) := by rw [strOf_app _ [58]]; congr 1
        have hcs3 : ¬ ((strOf (A ++ quoT Q ++ [58])).size + (strOf (writeJ n j1)).size > 9223372036854775807) := by rw [strOf_size, strOf_size, List.length_append, List.length_append, List.length_singleton]; omega
        have hcat3 : strOf (A ++ quoT Q ++ [58]) ++ strOf (writeJ n j1) = strOf (accW F (k + 1)) := by rw [hacc, ← strOf_app]; simp only [List.append_assoc]
        have HC3 : Hid _ := hcat3
        obtain ⟨W1, hW1⟩ : ∃ W, W = A ++ quoT Q := ⟨_, rfl⟩
        rw [← hW1] at hcat1 hcs2 hcat2 hcs3 HC3
        obtain ⟨W2, hW2⟩ : ∃ W, W = W1 ++ [58] := ⟨_, rfl⟩
        rw [← hW2] at hcat2 hcs3 HC3
        clear hcat3 hacc hFk hFx hfl hAs hA0 hA1 hW1 hW2 hc2 hnm
        go_wp2_with fail
        refine (quote16 wr hSn hQl).mono ?_
        rintro e w2 ⟨v, rfl, hB2, rfl⟩
        have hBr2 := hB.trans (hB2.mono hB.size)
        have hXr2 := hX.below hB2
        clear c0 c3 c4 g0 g1 g2 g3 g4 dn
        have e4 := hXr2.cell 4
        have hx3 := hx2.below hB2
        have g0 : w2.cell? ⟨b1, o1 + k * 5, none⟩ = some d0 := hx3.2 0 (by decide)
        have g1 : w2.cell? ⟨b1, o1 + k * 5 + 1, none⟩ = some d1 := hx3.2 1 (by decide)
        have g2 : w2.cell? ⟨b1, o1 + k * 5 + 2, none⟩ = some d2 := hx3.2 2 (by decide)
        have g3 : w2.cell? ⟨b1, o1 + k * 5 + 3, none⟩ = some d3 := hx3.2 3 (by decide)
        have g4 : w2.cell? ⟨b1, o1 + k * 5 + 4, none⟩ = some d4 := hx3.2 4 (by decide)
        have hjv2 : JV j1 (.agg #[d0, d1, d2, d3, d4]) w2 := JV.stb _ _ _ _ hB2 hjv
        go_wp2_with fail
        refine (ih j1 _ w2 hwk1 hjv2 hjl).mono ?_
        rintro e w3 ⟨v, rfl, hB3, rfl⟩
        have hBr := hBr2.trans (hB3.mono hBr2.size)
        have hXr := hXr2.below hB3
        clear e4 g0 g1 g2 g3 g4
        go_wp2
        exact ⟨⟨k + 1, by omega, by go_num, hBr, hXr, by rw [← HC3.out]⟩, by simp [intOf]; omega⟩
      · rw [if_neg hk0] at hacc
        have hk0i : (0 : Int) < (k : Int) := by omega
        have hA0 : A.length + 1 + (F k).length ≤ 100000000000000 := by rw [if_neg hk0] at hFk; omega
        have hcs0 : ¬ ((strOf A).size + (ByteArray.mk #[44]).size > 9223372036854775807) := by rw [hAs, show (ByteArray.mk #[44]).size = 1 from rfl]; omega
        have hcat0 : strOf A ++ ByteArray.mk #[44] = strOf (A ++ [44]) := by rw [strOf_app]; congr 1
        have hQl : Q.length ≤ 1000000000000000 := by have h1 := quoI_ge Q; rw [hFx] at hA0; unfold quoT at hA0; simp only [List.length_append, List.length_cons] at hA0; omega
        have hA1 : (A ++ [44]).length + (quoT Q).length + 1 + (writeJ n j1).length ≤ 100000000000001 := by rw [hFx] at hA0; simp only [List.length_append, List.length_singleton] at hA0 ⊢; omega
        rw [hFx] at hacc
        have hcs1 : ¬ ((strOf (A ++ [44])).size + (strOf (quoT Q)).size > 9223372036854775807) := by rw [strOf_size, strOf_size]; omega
        have hcat1 : strOf (A ++ [44]) ++ strOf (quoT Q) = strOf (A ++ [44] ++ quoT Q) := by rw [← strOf_app]
        have hcs2 : ¬ ((strOf (A ++ [44] ++ quoT Q)).size + (ByteArray.mk #[58]).size > 9223372036854775807) := by rw [strOf_size, show (ByteArray.mk #[58]).size = 1 from rfl, List.length_append]; omega
        have hcat2 : strOf (A ++ [44] ++ quoT Q) ++ ByteArray.mk #[58] = strOf (A ++ [44] ++ quoT Q ++ [58]) := by rw [strOf_app _ [58]]; congr 1
        have hcs3 : ¬ ((strOf (A ++ [44] ++ quoT Q ++ [58])).size + (strOf (writeJ n j1)).size > 9223372036854775807) := by rw [strOf_size, strOf_size, List.length_append, List.length_append, List.length_singleton]; omega
        have hcat3 : strOf (A ++ [44] ++ quoT Q ++ [58]) ++ strOf (writeJ n j1) = strOf (accW F (k + 1)) := by rw [hacc, ← strOf_app]; simp only [List.append_assoc]
        have HC3 : Hid _ := hcat3
        obtain ⟨W1, hW1⟩ : ∃ W, W = A ++ [44] ++ quoT Q := ⟨_, rfl⟩
        rw [← hW1] at hcat1 hcs2 hcat2 hcs3 HC3
        obtain ⟨W2, hW2⟩ : ∃ W, W = W1 ++ [58] := ⟨_, rfl⟩
        rw [← hW2] at hcat2 hcs3 HC3
        clear hcat3 hacc hFk hFx hfl hAs hA0 hA1 hW1 hW2 hc2 hnm
        go_wp2_with fail
        refine (quote16 wr hSn hQl).mono ?_
        rintro e w2 ⟨v, rfl, hB2, rfl⟩
        have hBr2 := hB.trans (hB2.mono hB.size)
        have hXr2 := hX.below hB2
        clear c0 c3 c4 g0 g1 g2 g3 g4 dn
        have e4 := hXr2.cell 4
        have hx3 := hx2.below hB2
        have g0 : w2.cell? ⟨b1, o1 + k * 5, none⟩ = some d0 := hx3.2 0 (by decide)
        have g1 : w2.cell? ⟨b1, o1 + k * 5 + 1, none⟩ = some d1 := hx3.2 1 (by decide)
        have g2 : w2.cell? ⟨b1, o1 + k * 5 + 2, none⟩ = some d2 := hx3.2 2 (by decide)
        have g3 : w2.cell? ⟨b1, o1 + k * 5 + 3, none⟩ = some d3 := hx3.2 3 (by decide)
        have g4 : w2.cell? ⟨b1, o1 + k * 5 + 4, none⟩ = some d4 := hx3.2 4 (by decide)
        have hjv2 : JV j1 (.agg #[d0, d1, d2, d3, d4]) w2 := JV.stb _ _ _ _ hB2 hjv
        go_wp2_with fail
        refine (ih j1 _ w2 hwk1 hjv2 hjl).mono ?_
        rintro e w3 ⟨v, rfl, hB3, rfl⟩
        have hBr := hBr2.trans (hB3.mono hBr2.size)
        have hXr := hXr2.below hB3
        clear e4 g0 g1 g2 g3 g4
        go_wp2
        exact ⟨⟨k + 1, by omega, by go_num, hBr, hXr, by rw [← HC3.out]⟩, by simp [intOf]; omega⟩
    · obtain rfl : K = k := by omega
      have hAs := strOf_size (accW F K)
      have hcs1 : ¬ ((ByteArray.mk #[123]).size + (strOf (accW F K)).size > 9223372036854775807) := by rw [hAs, show (ByteArray.mk #[123]).size = 1 from rfl]; omega
      have hcat1 : ByteArray.mk #[123] ++ strOf (accW F K) = strOf (123 :: accW F K) := by rw [show 123 :: accW F K = [123] ++ accW F K from rfl, strOf_app]; congr 1
      have hcs2 : ¬ ((strOf (123 :: accW F K)).size + (ByteArray.mk #[125]).size > 9223372036854775807) := by rw [strOf_size, show (ByteArray.mk #[125]).size = 1 from rfl, List.length_cons]; omega
      have hcat2 : strOf (123 :: accW F K) ++ ByteArray.mk #[125] = strOf (123 :: (accW F K ++ [125])) := by rw [show 123 :: (accW F K ++ [125]) = (123 :: accW F K) ++ [125] from rfl, strOf_app]; congr 1
      have HC : Hid _ := hcat2
      clear hcat2 hAs
      go_wp2
      go_ret
      exact ⟨_, rfl, hB, by rw [← HC.out]; rfl⟩
theorem writeStep {n : Nat} (ih : WriteC n) : WriteC (n + 1) := by
  intro j v w hw hv hl
  obtain ⟨ki, m, t, ns, ks⟩ := j
  by_cases k4 : ki = 4
  · subst k4; exact write4 ih m t ns ks v w hw hv hl
  by_cases k5 : ki = 5
  · subst k5; exact write5 ih m t ns ks v w hw hv hl
  have b4 := kind_ne k4
  have b5 := kind_ne k5
  obtain ⟨_, rfl, _, s, nv, kv, rfl, hs, hn, hk, _, hm⟩ := hv
  have hm : -9223372036854775808 ≤ m ∧ m ≤ 9223372036854775807 := hm
  have hmn : ki = 2 → -9223372036854775808 < m := hw.1
  have hs : Str s t := hs
  have B0 : Below w.heap.size w (w.alloc (.cells #[.int .i64 ki, .int .i64 m, .string s, nv, kv] 25)) := below1 _ _
  show Ret _ #[.agg #[.int .i64 ki, .int .i64 m, .string s, nv, kv]] w _
  by_cases k1 : ki = 1
  · subst k1
    by_cases m1 : m = 1
    · subst m1
      have hW : writeJ (n + 1) (⟨1, 1, t, ns, ks⟩ : JN (J n)) = [116, 114, 117, 101] := rfl
      rw [hW]
      clear hW hl hw hn hk hs
      unfold Ret
      go_enter Tryd.func11, Tryd.ntmps11
      go_wp2
      go_ret
      exact ⟨_, rfl, B0, rfl⟩
    · have hW : writeJ (n + 1) (⟨1, m, t, ns, ks⟩ : JN (J n)) = [102, 97, 108, 115, 101] := by
        show (if (1 : Int) = 1 then (if m = 1 then _ else _) else _) = _
        rw [if_pos rfl, if_neg m1]
      have bm := kind_ne m1
      rw [hW]
      clear hW hl hw hn hk hs m1
      unfold Ret
      go_enter Tryd.func11, Tryd.ntmps11
      go_wp2
      go_ret
      exact ⟨_, rfl, B0, rfl⟩
  by_cases k2 : ki = 2
  · subst k2
    have hW : writeJ (n + 1) (⟨2, m, t, ns, ks⟩ : JN (J n)) = digT m := rfl
    have hD := fun w => digits15 m w (hmn rfl) hm.2
    rw [hW]
    clear hW hl hw hn hk hs hmn
    unfold Ret
    go_enter Tryd.func11, Tryd.ntmps11
    go_wp2_with fail
    refine (hD _).mono ?_
    rintro e w1 ⟨v, rfl, hB1, rfl⟩
    have hB := B0.trans (hB1.mono B0.size)
    go_wp2
    go_ret
    exact ⟨_, rfl, hB, rfl⟩
  by_cases k3 : ki = 3
  · subst k3
    have hW : writeJ (n + 1) (⟨3, m, t, ns, ks⟩ : JN (J n)) = quoT t := rfl
    have hl2 : t.length ≤ 1000000000000000 := by
      rw [hW] at hl
      have := quoI_ge t
      unfold quoT at hl
      simp only [List.length_append, List.length_cons] at hl
      omega
    have hQ := fun w => quote16 w hs hl2
    rw [hW]
    clear hW hl hw hn hk hmn
    unfold Ret
    go_enter Tryd.func11, Tryd.ntmps11
    go_wp2_with fail
    refine (hQ _).mono ?_
    rintro e w1 ⟨v, rfl, hB1, rfl⟩
    have hB := B0.trans (hB1.mono B0.size)
    go_wp2
    go_ret
    exact ⟨_, rfl, hB, rfl⟩
  · have hW : writeJ (n + 1) (⟨ki, m, t, ns, ks⟩ : JN (J n)) = [110, 117, 108, 108] := by
      show (if ki = 1 then _ else if ki = 2 then _ else if ki = 3 then _ else if ki = 4 then _ else if ki = 5 then _ else _) = _
      rw [if_neg k1, if_neg k2, if_neg k3, if_neg k4, if_neg k5]
    have b1 := kind_ne k1
    have b2 := kind_ne k2
    have b3 := kind_ne k3
    rw [hW]
    clear hW hl hw hn hk hmn hs k1 k2 k3 k4 k5
    unfold Ret
    go_enter Tryd.func11, Tryd.ntmps11
    go_wp2
    go_ret
    exact ⟨_, rfl, B0, rfl⟩
theorem writeR : ∀ n, WriteC n
  | 0 => fun j v w hw _ _ => absurd hw (fun h => h)
  | n + 1 => writeStep (writeR n)
end Go.Proofs.YtljgnpneeecafaaDoor
set_option linter.unusedVariables false
namespace Go.Proofs.YtljgnpneeecafaaDoor
open Go.RowKit Go.Sort Go.BigFrame
set_option maxRecDepth 100000
set_option maxHeartbeats 4000000
/-- Every text is so short. -/
def TxtJ (B : Nat) : (n : Nat) → J n → Prop
  | 0, _ => True
  | n + 1, j => (JN.text j).length ≤ B ∧ (∀ x ∈ JN.names j, x.length ≤ B) ∧ ∀ k ∈ JN.kids j, TxtJ B n k
/-- Names of bytes to 126, and no two alike, so many of them. -/
def NamesOk (t : List Nat) (ns : List (List Nat)) (k : Nat) : Prop := lettersB t = true ∧ ∀ i, i < k → lettersB (ns.getD i []) = true ∧ ∀ l, l < i → ns.getD l [] ≠ ns.getD i []
/-- What is a value, so deep. -/
def IsJ : (n : Nat) → Nat → J n → Prop
  | 0, _, _ => False
  | n + 1, d, j => (0 ≤ JN.kind j ∧ JN.kind j ≤ 5 ∧ (d = 0 → JN.kind j ≤ 3)) ∧ (JN.kind j ≠ 3 → JN.text j = []) ∧ (JN.kind j ≠ 5 → (JN.names j).length = 0) ∧ (JN.kind j ≠ 5 → JN.kind j ≠ 4 → (JN.kids j).length = 0) ∧
    (JN.kind j = 2 → -1000000000000000 ≤ JN.num j ∧ JN.num j ≤ 1000000000000000) ∧ (JN.kind j = 1 → JN.num j = 0 ∨ JN.num j = 1) ∧
    (JN.kind j ≠ 2 → JN.kind j ≠ 1 → JN.num j = 0 ∧ (JN.kind j = 5 → (JN.names j).length = (JN.kids j).length) ∧ NamesOk (JN.text j) (JN.names j) (JN.names j).length ∧ ∀ k ∈ JN.kids j, IsJ n (d - 1) k)
/-- A truth that tells P. -/
def Tells (P : Prop) (v : Value) (_ : World) : Prop := ∃ c : Bool, v = .bool c ∧ (c = true ↔ P)
theorem Tells.no {P : Prop} {w : World} (h : ¬ P) : Tells P (.bool false) w := ⟨false, rfl, by simp [h]⟩
theorem Tells.yes {P : Prop} {w : World} (h : P) : Tells P (.bool true) w := ⟨true, rfl, by simp [h]⟩
def IsC (n : Nat) : Prop := ∀ (d : Nat) (j : J n) (v : Value) (w : World), d < n → d ≤ 1000 → TxtJ 1000000000 n j → JV j v w → Ret 9 #[v, .int .i64 (d : Int)] w (Tells (IsJ n d j))
theorem nonempty_str {s : ByteArray} {t : List Nat} (h : Str s t) : (s.toList == ([] : List UInt8)) = decide (t = []) := by
  have := str_eq_iff h (show Str (strOf []) [] from str_strOf (fun i => by simp))
  rwa [show (strOf []).toList = [] by kernel_rfl] at this
theorem all_at {K : Type} {P : K → Prop} {ks : List K} : (∀ k ∈ ks, P k) ↔ ∀ i (h : i < ks.length), P (ks[i]'h) := by
  constructor
  · intro h i hi; exact h _ (List.getElem_mem hi)
  · intro h k hk
    obtain ⟨i, hi, rfl⟩ := List.getElem_of_mem hk
    exact h i hi
theorem namesOk_succ (t : List Nat) (ns : List (List Nat)) (k : Nat) : ((NamesOk t ns k ∧ lettersB (ns.getD k []) = true) ∧ ∀ q, q < k → ns.getD q [] ≠ ns.getD k []) ↔ NamesOk t ns (k + 1) := by
  constructor
  · rintro ⟨⟨⟨h1, h2⟩, h3⟩, h4⟩
    refine ⟨h1, fun i hi => ?_⟩
    by_cases hik : i = k
    · subst hik; exact ⟨h3, h4⟩
    · exact h2 i (by omega)
  · rintro ⟨h1, h2⟩
    exact ⟨⟨⟨h1, fun i hi => h2 i (by omega)⟩, (h2 k (by omega)).1⟩, (h2 k (by omega)).2⟩
section
variable {ρ : Operand → Value} {o : Oper} {x y z : Operand} {w : World}
theorem dPickB {c q : Bool} {v1 v2 : Value} (ho : o.op = .pick x y z) (hx : ρ x = .bool c) (hy : c = true → ρ y = .bool q) (hz : ρ z = .bool false) : Does Tryd.prog o ρ w (fun v w' => Below w.heap.size w w' ∧ Is (.bool (c && q)) v w') := by
  cases c
  · exact Does.run _ (by unfold execOp; rw [ho]; simp [hx, hz]; rfl) rfl
  · exact Does.run _ (by unfold execOp; rw [ho]; simp [hx, hy rfl]; rfl) rfl
end
theorem is0z {n : Nat} (ih : IsC n) (d : Nat) (m : Int) (t : List Nat) (ns : List (List Nat)) (ks : List (J n)) (v : Value) (w : World) (hd0 : d = 0) (hd : d < n + 1) (hd2 : d ≤ 1000) (ht : TxtJ 1000000000 (n + 1) (⟨0, m, t, ns, ks⟩ : JN (J n))) (hv : JV (n := n + 1) (⟨0, m, t, ns, ks⟩ : JN (J n)) v w) :
    Ret 9 #[v, .int .i64 (d : Int)] w (Tells (IsJ (n + 1) d (⟨0, m, t, ns, ks⟩ : JN (J n)))) := by
  obtain ⟨_, rfl, _, s, nv, kv, rfl, hs, hn, hk, _, hm⟩ := hv
  obtain ⟨na, nc, rfl, ln1, ln2, hnc⟩ := hn
  obtain ⟨ka, kc, rfl, lk1, lk2, hkc⟩ := hk
  obtain ⟨htt, htn, htk⟩ := ht
  have htt : t.length ≤ 1000000000 := htt
  have htn : ∀ x ∈ ns, x.length ≤ 1000000000 := htn
  have htk : ∀ k ∈ ks, TxtJ 1000000000 n k := htk
  have hs : Str s t := hs
  have hm : -9223372036854775808 ≤ m ∧ m ≤ 9223372036854775807 := hm
  have hsz : s.size ≤ 9223372036854775807 := by rw [hs.size]; omega
  show Ret _ #[.agg #[.int .i64 0, .int .i64 m, .string s, .slice na ns.length nc, .slice ka ks.length kc], .int .i64 (d : Int)] w _
  dsimp only at hnc hkc ln1 ln2 lk1 lk2
  obtain ⟨I, hI⟩ : ∃ I, I = IsJ (n + 1) d (⟨0, m, t, ns, ks⟩ : JN (J n)) := ⟨_, rfl⟩
  rw [← hI]
  have hI2 : I = ((0 ≤ (0 : Int) ∧ (0 : Int) ≤ 5 ∧ (d = 0 → (0 : Int) ≤ 3)) ∧ ((0 : Int) ≠ 3 → t = []) ∧ ((0 : Int) ≠ 5 → ns.length = 0) ∧ ((0 : Int) ≠ 5 → (0 : Int) ≠ 4 → ks.length = 0) ∧
    ((0 : Int) = 2 → -1000000000000000 ≤ m ∧ m ≤ 1000000000000000) ∧ ((0 : Int) = 1 → m = 0 ∨ m = 1) ∧
    ((0 : Int) ≠ 2 → (0 : Int) ≠ 1 → m = 0 ∧ ((0 : Int) = 5 → ns.length = ks.length) ∧ NamesOk t ns ns.length ∧ ∀ k ∈ ks, IsJ n (d - 1) k)) := hI
  clear hI
  obtain ⟨N, hN⟩ : ∃ x, x = ns.length := ⟨_, rfl⟩
  obtain ⟨K, hK⟩ : ∃ x, x = ks.length := ⟨_, rfl⟩
  rw [← hN, ← hK] at hI2
  rw [← hK] at lk1 ⊢
  rw [← hN] at ln1 ⊢
  have bN : N ≤ 9223372036854775807 := Nat.le_trans ln1 ln2
  have bK : K ≤ 9223372036854775807 := Nat.le_trans lk1 lk2
  have HN : Hid (N = ns.length) := hN
  have HK : Hid (K = ks.length) := hK
  have hst := nonempty_str hs
  have B0 : Below w.heap.size w (w.alloc (.cells #[.int .i64 0, .int .i64 m, .string s, .slice na N nc, .slice ka K kc] 25)) := below1 _ _
  have X0 : BoxJ (w.alloc (.cells #[.int .i64 0, .int .i64 m, .string s, .slice na N nc, .slice ka K kc] 25)) w.heap.size 0 m s (.slice na N nc) (.slice ka K kc) := heap_alloc_new _ _
  have HX : Hid _ := X0
  clear X0 hN hK ln1 ln2 lk1 lk2
  unfold Ret
  subst hd0
  by_cases hte : t = []
  case neg =>
    rw [decide_eq_false hte] at hst
    have hR : ¬ I := by rw [hI2]; simp [hte]
    have HR : Hid _ := hR
    clear hR hI2 ih hs hkc hnc HX htt htn htk HN HK hsz hm hd bN bK
    go_enter Tryd.func9, Tryd.ntmps9
    go_wp2
    go_ret
    exact ⟨_, rfl, B0, Tells.no HR.out⟩
  rw [decide_eq_true hte] at hst
  have HTE : Hid (t = []) := hte
  clear hte
  by_cases hN0 : N = 0
  case neg =>
    have hNi : (0 : Int) < (N : Int) := by omega
    have hR : ¬ I := by rw [hI2]; simp [hN0]
    have HR : Hid _ := hR
    clear hR hI2 ih hs hkc hnc HX htt htn htk HN HK hsz hm hd bN bK
    go_enter Tryd.func9, Tryd.ntmps9
    go_wp2
    go_ret
    exact ⟨_, rfl, B0, Tells.no HR.out⟩
  have hNi : ¬ (0 : Int) < (N : Int) := by omega
  have HN0 : Hid (N = 0) := hN0
  clear hN0
  by_cases hK0 : K = 0
  case neg =>
    have hKi : (0 : Int) < (K : Int) := by omega
    have hR : ¬ I := by rw [hI2]; simp [hK0]
    have HR : Hid _ := hR
    clear hR hI2 ih hs hkc hnc HX htt htn htk HN HK hsz hm hd bN bK
    go_enter Tryd.func9, Tryd.ntmps9
    go_wp2
    go_ret
    exact ⟨_, rfl, B0, Tells.no HR.out⟩
  have hKi : ¬ (0 : Int) < (K : Int) := by omega
  have HK0 : Hid (K = 0) := hK0
  clear hK0
  by_cases hm0 : m = 0
  case neg =>
    have hmi := kind_ne hm0
    have hR : ¬ I := by rw [hI2]; simp [hm0]
    have HR : Hid _ := hR
    clear hR hI2 ih hs hkc hnc HX htt htn htk HN HK hsz hm hd bN bK
    go_enter Tryd.func9, Tryd.ntmps9
    go_wp2
    go_ret
    exact ⟨_, rfl, B0, Tells.no HR.out⟩
  subst hm0
  have HI : Hid (I ↔ (NamesOk t ns N ∧ ∀ i (h : i < ks.length), IsJ n (0 - 1) (ks[i]'h))) := by
    show _ ↔ _
    rw [hI2, ← all_at (P := IsJ n (0 - 1))]
    simp [HTE.out, HN0.out, HK0.out]
  clear hI2
  go_enter Tryd.func9, Tryd.ntmps9
  go_wp2_with fail
  refine (letters14 _ hs hsz).mono ?_
  rintro e w1 ⟨rfl, rfl⟩
  go_wp2_with fail
  go_loopw [5, 6] (fun o i wr => ∃ k : Nat, k ≤ N ∧ i = .int .i64 k ∧ Below w.heap.size w wr ∧ BoxJ wr w.heap.size 0 0 s (.slice na N nc) (.slice ka K kc) ∧ Tells (NamesOk t ns k) o wr) (fun _ i _ => N - (intOf i).toNat)
  case atStart => exact ⟨0, by omega, rfl, B0, HX.out, _, rfl, by simp [NamesOk]⟩
  case round =>
    obtain ⟨k, hk, rfl, hB, hX, c, rfl, hc⟩ := hrel
    have c3' := hX.cell 3
    have HXa : Hid _ := hX
    have HC : Hid _ := hc
    clear hc hX HX hst
    by_cases hlt : k < N
    · have := HN0.out
      omega
    · obtain rfl : N = k := by omega
      go_wp2_with fail
      go_loopw [5, 9] (fun o i wr => ∃ k : Nat, k ≤ K ∧ i = .int .i64 k ∧ Below w.heap.size w wr ∧ BoxJ wr w.heap.size 0 0 s (.slice na N nc) (.slice ka K kc) ∧ Tells (NamesOk t ns N ∧ ∀ i (h : i < ks.length), i < k → IsJ n (0 - 1) (ks[i]'h)) o wr) (fun _ i _ => K - (intOf i).toNat)
      case atStart => exact ⟨0, by omega, rfl, hB, HXa.out, _, rfl, by have h := HC.out; simpa using h⟩
      case round =>
        obtain ⟨k, hk, rfl, hB2, hX2, c2, rfl, hc2⟩ := hrel
        have e4 := hX2.cell 4
        have HC2 : Hid _ := hc2
        clear hc2 c3' HC HXa
        by_cases hlt2 : k < K
        · have := HK0.out
          omega
        · obtain rfl : K = k := by omega
          have hR : Tells I (.bool c2) wr := ⟨c2, rfl, by
            have h1 := HC2.out
            have h2 := HI.out
            rw [h1, h2]
            constructor
            · rintro ⟨h3, h4⟩; exact ⟨h3, fun i h => h4 i h (by rw [HK.out]; exact h)⟩
            · rintro ⟨h3, h4⟩; exact ⟨h3, fun i h _ => h4 i h⟩⟩
          go_wp2
          go_ret
          exact ⟨_, rfl, hB2, hR⟩
theorem is0p {n : Nat} (ih : IsC n) (d : Nat) (m : Int) (t : List Nat) (ns : List (List Nat)) (ks : List (J n)) (v : Value) (w : World) (hd0 : ¬ d = 0) (hd : d < n + 1) (hd2 : d ≤ 1000) (ht : TxtJ 1000000000 (n + 1) (⟨0, m, t, ns, ks⟩ : JN (J n))) (hv : JV (n := n + 1) (⟨0, m, t, ns, ks⟩ : JN (J n)) v w) :
    Ret 9 #[v, .int .i64 (d : Int)] w (Tells (IsJ (n + 1) d (⟨0, m, t, ns, ks⟩ : JN (J n)))) := by
  obtain ⟨_, rfl, _, s, nv, kv, rfl, hs, hn, hk, _, hm⟩ := hv
  obtain ⟨na, nc, rfl, ln1, ln2, hnc⟩ := hn
  obtain ⟨ka, kc, rfl, lk1, lk2, hkc⟩ := hk
  obtain ⟨htt, htn, htk⟩ := ht
  have htt : t.length ≤ 1000000000 := htt
  have htn : ∀ x ∈ ns, x.length ≤ 1000000000 := htn
  have htk : ∀ k ∈ ks, TxtJ 1000000000 n k := htk
  have hs : Str s t := hs
  have hm : -9223372036854775808 ≤ m ∧ m ≤ 9223372036854775807 := hm
  have hsz : s.size ≤ 9223372036854775807 := by rw [hs.size]; omega
  show Ret _ #[.agg #[.int .i64 0, .int .i64 m, .string s, .slice na ns.length nc, .slice ka ks.length kc], .int .i64 (d : Int)] w _
  dsimp only at hnc hkc ln1 ln2 lk1 lk2
  obtain ⟨I, hI⟩ : ∃ I, I = IsJ (n + 1) d (⟨0, m, t, ns, ks⟩ : JN (J n)) := ⟨_, rfl⟩
  rw [← hI]
  have hI2 : I = ((0 ≤ (0 : Int) ∧ (0 : Int) ≤ 5 ∧ (d = 0 → (0 : Int) ≤ 3)) ∧ ((0 : Int) ≠ 3 → t = []) ∧ ((0 : Int) ≠ 5 → ns.length = 0) ∧ ((0 : Int) ≠ 5 → (0 : Int) ≠ 4 → ks.length = 0) ∧
    ((0 : Int) = 2 → -1000000000000000 ≤ m ∧ m ≤ 1000000000000000) ∧ ((0 : Int) = 1 → m = 0 ∨ m = 1) ∧
    ((0 : Int) ≠ 2 → (0 : Int) ≠ 1 → m = 0 ∧ ((0 : Int) = 5 → ns.length = ks.length) ∧ NamesOk t ns ns.length ∧ ∀ k ∈ ks, IsJ n (d - 1) k)) := hI
  clear hI
  obtain ⟨N, hN⟩ : ∃ x, x = ns.length := ⟨_, rfl⟩
  obtain ⟨K, hK⟩ : ∃ x, x = ks.length := ⟨_, rfl⟩
  rw [← hN, ← hK] at hI2
  rw [← hK] at lk1 ⊢
  rw [← hN] at ln1 ⊢
  have bN : N ≤ 9223372036854775807 := Nat.le_trans ln1 ln2
  have bK : K ≤ 9223372036854775807 := Nat.le_trans lk1 lk2
  have HN : Hid (N = ns.length) := hN
  have HK : Hid (K = ks.length) := hK
  have hst := nonempty_str hs
  have B0 : Below w.heap.size w (w.alloc (.cells #[.int .i64 0, .int .i64 m, .string s, .slice na N nc, .slice ka K kc] 25)) := below1 _ _
  have X0 : BoxJ (w.alloc (.cells #[.int .i64 0, .int .i64 m, .string s, .slice na N nc, .slice ka K kc] 25)) w.heap.size 0 m s (.slice na N nc) (.slice ka K kc) := heap_alloc_new _ _
  have HX : Hid _ := X0
  clear X0 hN hK ln1 ln2 lk1 lk2
  unfold Ret
  have hd0b : ((d : Int) == 0) = false := kind_ne (by omega)
  by_cases hte : t = []
  case neg =>
    rw [decide_eq_false hte] at hst
    have hR : ¬ I := by rw [hI2]; simp [hte]
    have HR : Hid _ := hR
    clear hR hI2 ih hs hkc hnc HX htt htn htk HN HK hsz hm hd bN bK
    go_enter Tryd.func9, Tryd.ntmps9
    go_wp2
    go_ret
    exact ⟨_, rfl, B0, Tells.no HR.out⟩
  rw [decide_eq_true hte] at hst
  have HTE : Hid (t = []) := hte
  clear hte
  by_cases hN0 : N = 0
  case neg =>
    have hNi : (0 : Int) < (N : Int) := by omega
    have hR : ¬ I := by rw [hI2]; simp [hN0]
    have HR : Hid _ := hR
    clear hR hI2 ih hs hkc hnc HX htt htn htk HN HK hsz hm hd bN bK
    go_enter Tryd.func9, Tryd.ntmps9
    go_wp2
    go_ret
    exact ⟨_, rfl, B0, Tells.no HR.out⟩
  have hNi : ¬ (0 : Int) < (N : Int) := by omega
  have HN0 : Hid (N = 0) := hN0
  clear hN0
  by_cases hK0 : K = 0
  case neg =>
    have hKi : (0 : Int) < (K : Int) := by omega
    have hR : ¬ I := by rw [hI2]; simp [hK0]
    have HR : Hid _ := hR
    clear hR hI2 ih hs hkc hnc HX htt htn htk HN HK hsz hm hd bN bK
    go_enter Tryd.func9, Tryd.ntmps9
    go_wp2
    go_ret
    exact ⟨_, rfl, B0, Tells.no HR.out⟩
  have hKi : ¬ (0 : Int) < (K : Int) := by omega
  have HK0 : Hid (K = 0) := hK0
  clear hK0
  by_cases hm0 : m = 0
  case neg =>
    have hmi := kind_ne hm0
    have hR : ¬ I := by rw [hI2]; simp [hm0]
    have HR : Hid _ := hR
    clear hR hI2 ih hs hkc hnc HX htt htn htk HN HK hsz hm hd bN bK
    go_enter Tryd.func9, Tryd.ntmps9
    go_wp2
    go_ret
    exact ⟨_, rfl, B0, Tells.no HR.out⟩
  subst hm0
  have HI : Hid (I ↔ (NamesOk t ns N ∧ ∀ i (h : i < ks.length), IsJ n (d - 1) (ks[i]'h))) := by
    show _ ↔ _
    rw [hI2, ← all_at (P := IsJ n (d - 1))]
    simp [HTE.out, HN0.out, HK0.out]
  clear hI2
  go_enter Tryd.func9, Tryd.ntmps9
  go_wp2_with fail
  refine (letters14 _ hs hsz).mono ?_
  rintro e w1 ⟨rfl, rfl⟩
  go_wp2_with fail
  go_loopw [5, 6] (fun o i wr => ∃ k : Nat, k ≤ N ∧ i = .int .i64 k ∧ Below w.heap.size w wr ∧ BoxJ wr w.heap.size 0 0 s (.slice na N nc) (.slice ka K kc) ∧ Tells (NamesOk t ns k) o wr) (fun _ i _ => N - (intOf i).toNat)
  case atStart => exact ⟨0, by omega, rfl, B0, HX.out, _, rfl, by simp [NamesOk]⟩
  case round =>
    obtain ⟨k, hk, rfl, hB, hX, c, rfl, hc⟩ := hrel
    have c3' := hX.cell 3
    have HXa : Hid _ := hX
    have HC : Hid _ := hc
    clear hc hX HX hst
    by_cases hlt : k < N
    · have := HN0.out
      omega
    · obtain rfl : N = k := by omega
      go_wp2_with fail
      go_loopw [5, 9] (fun o i wr => ∃ k : Nat, k ≤ K ∧ i = .int .i64 k ∧ Below w.heap.size w wr ∧ BoxJ wr w.heap.size 0 0 s (.slice na N nc) (.slice ka K kc) ∧ Tells (NamesOk t ns N ∧ ∀ i (h : i < ks.length), i < k → IsJ n (d - 1) (ks[i]'h)) o wr) (fun _ i _ => K - (intOf i).toNat)
      case atStart => exact ⟨0, by omega, rfl, hB, HXa.out, _, rfl, by have h := HC.out; simpa using h⟩
      case round =>
        obtain ⟨k, hk, rfl, hB2, hX2, c2, rfl, hc2⟩ := hrel
        have e4 := hX2.cell 4
        have HC2 : Hid _ := hc2
        clear hc2 c3' HC HXa
        by_cases hlt2 : k < K
        · have := HK0.out
          omega
        · obtain rfl : K = k := by omega
          have hR : Tells I (.bool c2) wr := ⟨c2, rfl, by
            have h1 := HC2.out
            have h2 := HI.out
            rw [h1, h2]
            constructor
            · rintro ⟨h3, h4⟩; exact ⟨h3, fun i h => h4 i h (by rw [HK.out]; exact h)⟩
            · rintro ⟨h3, h4⟩; exact ⟨h3, fun i h _ => h4 i h⟩⟩
          go_wp2
          go_ret
          exact ⟨_, rfl, hB2, hR⟩
theorem is0 {n : Nat} (ih : IsC n) (d : Nat) (m : Int) (t : List Nat) (ns : List (List Nat)) (ks : List (J n)) (v : Value) (w : World) (hd : d < n + 1) (hd2 : d ≤ 1000) (ht : TxtJ 1000000000 (n + 1) (⟨0, m, t, ns, ks⟩ : JN (J n))) (hv : JV (n := n + 1) (⟨0, m, t, ns, ks⟩ : JN (J n)) v w) :
    Ret 9 #[v, .int .i64 (d : Int)] w (Tells (IsJ (n + 1) d (⟨0, m, t, ns, ks⟩ : JN (J n)))) := by
  by_cases hd0 : d = 0
  · exact is0z ih d m t ns ks v w hd0 hd hd2 ht hv
  · exact is0p ih d m t ns ks v w hd0 hd hd2 ht hv
theorem is1z {n : Nat} (ih : IsC n) (d : Nat) (m : Int) (t : List Nat) (ns : List (List Nat)) (ks : List (J n)) (v : Value) (w : World) (hd0 : d = 0) (hd : d < n + 1) (hd2 : d ≤ 1000) (ht : TxtJ 1000000000 (n + 1) (⟨1, m, t, ns, ks⟩ : JN (J n))) (hv : JV (n := n + 1) (⟨1, m, t, ns, ks⟩ : JN (J n)) v w) :
    Ret 9 #[v, .int .i64 (d : Int)] w (Tells (IsJ (n + 1) d (⟨1, m, t, ns, ks⟩ : JN (J n)))) := by
  obtain ⟨_, rfl, _, s, nv, kv, rfl, hs, hn, hk, _, hm⟩ := hv
  obtain ⟨na, nc, rfl, ln1, ln2, hnc⟩ := hn
  obtain ⟨ka, kc, rfl, lk1, lk2, hkc⟩ := hk
  obtain ⟨htt, htn, htk⟩ := ht
  have htt : t.length ≤ 1000000000 := htt
  have htn : ∀ x ∈ ns, x.length ≤ 1000000000 := htn
  have htk : ∀ k ∈ ks, TxtJ 1000000000 n k := htk
  have hs : Str s t := hs
  have hm : -9223372036854775808 ≤ m ∧ m ≤ 9223372036854775807 := hm
  have hsz : s.size ≤ 9223372036854775807 := by rw [hs.size]; omega
  show Ret _ #[.agg #[.int .i64 1, .int .i64 m, .string s, .slice na ns.length nc, .slice ka ks.length kc], .int .i64 (d : Int)] w _
  dsimp only at hnc hkc ln1 ln2 lk1 lk2
  obtain ⟨I, hI⟩ : ∃ I, I = IsJ (n + 1) d (⟨1, m, t, ns, ks⟩ : JN (J n)) := ⟨_, rfl⟩
  rw [← hI]
  have hI2 : I = ((0 ≤ (1 : Int) ∧ (1 : Int) ≤ 5 ∧ (d = 0 → (1 : Int) ≤ 3)) ∧ ((1 : Int) ≠ 3 → t = []) ∧ ((1 : Int) ≠ 5 → ns.length = 0) ∧ ((1 : Int) ≠ 5 → (1 : Int) ≠ 4 → ks.length = 0) ∧
    ((1 : Int) = 2 → -1000000000000000 ≤ m ∧ m ≤ 1000000000000000) ∧ ((1 : Int) = 1 → m = 0 ∨ m = 1) ∧
    ((1 : Int) ≠ 2 → (1 : Int) ≠ 1 → m = 0 ∧ ((1 : Int) = 5 → ns.length = ks.length) ∧ NamesOk t ns ns.length ∧ ∀ k ∈ ks, IsJ n (d - 1) k)) := hI
  clear hI
  obtain ⟨N, hN⟩ : ∃ x, x = ns.length := ⟨_, rfl⟩
  obtain ⟨K, hK⟩ : ∃ x, x = ks.length := ⟨_, rfl⟩
  rw [← hN, ← hK] at hI2
  rw [← hK] at lk1 ⊢
  rw [← hN] at ln1 ⊢
  have bN : N ≤ 9223372036854775807 := Nat.le_trans ln1 ln2
  have bK : K ≤ 9223372036854775807 := Nat.le_trans lk1 lk2
  have HN : Hid (N = ns.length) := hN
  have HK : Hid (K = ks.length) := hK
  have hst := nonempty_str hs
  have B0 : Below w.heap.size w (w.alloc (.cells #[.int .i64 1, .int .i64 m, .string s, .slice na N nc, .slice ka K kc] 25)) := below1 _ _
  have X0 : BoxJ (w.alloc (.cells #[.int .i64 1, .int .i64 m, .string s, .slice na N nc, .slice ka K kc] 25)) w.heap.size 1 m s (.slice na N nc) (.slice ka K kc) := heap_alloc_new _ _
  have HX : Hid _ := X0
  clear X0 hN hK ln1 ln2 lk1 lk2
  unfold Ret
  subst hd0
  by_cases hte : t = []
  case neg =>
    rw [decide_eq_false hte] at hst
    have hR : ¬ I := by rw [hI2]; simp [hte]
    have HR : Hid _ := hR
    clear hR hI2 ih hs hkc hnc HX htt htn htk HN HK hsz hm hd bN bK
    go_enter Tryd.func9, Tryd.ntmps9
    go_wp2
    go_ret
    exact ⟨_, rfl, B0, Tells.no HR.out⟩
  rw [decide_eq_true hte] at hst
  have HTE : Hid (t = []) := hte
  clear hte
  by_cases hN0 : N = 0
  case neg =>
    have hNi : (0 : Int) < (N : Int) := by omega
    have hR : ¬ I := by rw [hI2]; simp [hN0]
    have HR : Hid _ := hR
    clear hR hI2 ih hs hkc hnc HX htt htn htk HN HK hsz hm hd bN bK
    go_enter Tryd.func9, Tryd.ntmps9
    go_wp2
    go_ret
    exact ⟨_, rfl, B0, Tells.no HR.out⟩
  have hNi : ¬ (0 : Int) < (N : Int) := by omega
  have HN0 : Hid (N = 0) := hN0
  clear hN0
  by_cases hK0 : K = 0
  case neg =>
    have hKi : (0 : Int) < (K : Int) := by omega
    have hR : ¬ I := by rw [hI2]; simp [hK0]
    have HR : Hid _ := hR
    clear hR hI2 ih hs hkc hnc HX htt htn htk HN HK hsz hm hd bN bK
    go_enter Tryd.func9, Tryd.ntmps9
    go_wp2
    go_ret
    exact ⟨_, rfl, B0, Tells.no HR.out⟩
  have hKi : ¬ (0 : Int) < (K : Int) := by omega
  have HK0 : Hid (K = 0) := hK0
  clear hK0
  by_cases m0 : m = 0
  · subst m0
    have hR : I := by rw [hI2]; simp [HTE.out, HN0.out, HK0.out]
    have HR : Hid _ := hR
    clear hR hI2 ih hs hkc hnc HX htt htn htk HN HK hsz hm hd bN bK
    go_enter Tryd.func9, Tryd.ntmps9
    go_wp2
    go_ret
    exact ⟨_, rfl, B0, Tells.yes HR.out⟩
  by_cases m1 : m = 1
  · subst m1
    have hR : I := by rw [hI2]; simp [HTE.out, HN0.out, HK0.out]
    have HR : Hid _ := hR
    clear hR hI2 ih hs hkc hnc HX htt htn htk HN HK hsz hm hd bN bK
    go_enter Tryd.func9, Tryd.ntmps9
    go_wp2
    go_ret
    exact ⟨_, rfl, B0, Tells.yes HR.out⟩
  have i0 := kind_ne m0
  have i1 := kind_ne m1
  have hR : ¬ I := by rw [hI2]; simp [m0, m1]
  have HR : Hid _ := hR
  clear hR hI2 ih hs hkc hnc HX htt htn htk HN HK hsz hm hd bN bK
  go_enter Tryd.func9, Tryd.ntmps9
  go_wp2
  go_ret
  exact ⟨_, rfl, B0, Tells.no HR.out⟩
theorem is1p {n : Nat} (ih : IsC n) (d : Nat) (m : Int) (t : List Nat) (ns : List (List Nat)) (ks : List (J n)) (v : Value) (w : World) (hd0 : ¬ d = 0) (hd : d < n + 1) (hd2 : d ≤ 1000) (ht : TxtJ 1000000000 (n + 1) (⟨1, m, t, ns, ks⟩ : JN (J n))) (hv : JV (n := n + 1) (⟨1, m, t, ns, ks⟩ : JN (J n)) v w) :
    Ret 9 #[v, .int .i64 (d : Int)] w (Tells (IsJ (n + 1) d (⟨1, m, t, ns, ks⟩ : JN (J n)))) := by
  obtain ⟨_, rfl, _, s, nv, kv, rfl, hs, hn, hk, _, hm⟩ := hv
  obtain ⟨na, nc, rfl, ln1, ln2, hnc⟩ := hn
  obtain ⟨ka, kc, rfl, lk1, lk2, hkc⟩ := hk
  obtain ⟨htt, htn, htk⟩ := ht
  have htt : t.length ≤ 1000000000 := htt
  have htn : ∀ x ∈ ns, x.length ≤ 1000000000 := htn
  have htk : ∀ k ∈ ks, TxtJ 1000000000 n k := htk
  have hs : Str s t := hs
  have hm : -9223372036854775808 ≤ m ∧ m ≤ 9223372036854775807 := hm
  have hsz : s.size ≤ 9223372036854775807 := by rw [hs.size]; omega
  show Ret _ #[.agg #[.int .i64 1, .int .i64 m, .string s, .slice na ns.length nc, .slice ka ks.length kc], .int .i64 (d : Int)] w _
  dsimp only at hnc hkc ln1 ln2 lk1 lk2
  obtain ⟨I, hI⟩ : ∃ I, I = IsJ (n + 1) d (⟨1, m, t, ns, ks⟩ : JN (J n)) := ⟨_, rfl⟩
  rw [← hI]
  have hI2 : I = ((0 ≤ (1 : Int) ∧ (1 : Int) ≤ 5 ∧ (d = 0 → (1 : Int) ≤ 3)) ∧ ((1 : Int) ≠ 3 → t = []) ∧ ((1 : Int) ≠ 5 → ns.length = 0) ∧ ((1 : Int) ≠ 5 → (1 : Int) ≠ 4 → ks.length = 0) ∧
    ((1 : Int) = 2 → -1000000000000000 ≤ m ∧ m ≤ 1000000000000000) ∧ ((1 : Int) = 1 → m = 0 ∨ m = 1) ∧
    ((1 : Int) ≠ 2 → (1 : Int) ≠ 1 → m = 0 ∧ ((1 : Int) = 5 → ns.length = ks.length) ∧ NamesOk t ns ns.length ∧ ∀ k ∈ ks, IsJ n (d - 1) k)) := hI
  clear hI
  obtain ⟨N, hN⟩ : ∃ x, x = ns.length := ⟨_, rfl⟩
  obtain ⟨K, hK⟩ : ∃ x, x = ks.length := ⟨_, rfl⟩
  rw [← hN, ← hK] at hI2
  rw [← hK] at lk1 ⊢
  rw [← hN] at ln1 ⊢
  have bN : N ≤ 9223372036854775807 := Nat.le_trans ln1 ln2
  have bK : K ≤ 9223372036854775807 := Nat.le_trans lk1 lk2
  have HN : Hid (N = ns.length) := hN
  have HK : Hid (K = ks.length) := hK
  have hst := nonempty_str hs
  have B0 : Below w.heap.size w (w.alloc (.cells #[.int .i64 1, .int .i64 m, .string s, .slice na N nc, .slice ka K kc] 25)) := below1 _ _
  have X0 : BoxJ (w.alloc (.cells #[.int .i64 1, .int .i64 m, .string s, .slice na N nc, .slice ka K kc] 25)) w.heap.size 1 m s (.slice na N nc) (.slice ka K kc) := heap_alloc_new _ _
  have HX : Hid _ := X0
  clear X0 hN hK ln1 ln2 lk1 lk2
  unfold Ret
  have hd0b : ((d : Int) == 0) = false := kind_ne (by omega)
  by_cases hte : t = []
  case neg =>
    rw [decide_eq_false hte] at hst
    have hR : ¬ I := by rw [hI2]; simp [hte]
    have HR : Hid _ := hR
    clear hR hI2 ih hs hkc hnc HX htt htn htk HN HK hsz hm hd bN bK
    go_enter Tryd.func9, Tryd.ntmps9
    go_wp2
    go_ret
    exact ⟨_, rfl, B0, Tells.no HR.out⟩
  rw [decide_eq_true hte] at hst
  have HTE : Hid (t = []) := hte
  clear hte
  by_cases hN0 : N = 0
  case neg =>
    have hNi : (0 : Int) < (N : Int) := by omega
    have hR : ¬ I := by rw [hI2]; simp [hN0]
    have HR : Hid _ := hR
    clear hR hI2 ih hs hkc hnc HX htt htn htk HN HK hsz hm hd bN bK
    go_enter Tryd.func9, Tryd.ntmps9
    go_wp2
    go_ret
    exact ⟨_, rfl, B0, Tells.no HR.out⟩
  have hNi : ¬ (0 : Int) < (N : Int) := by omega
  have HN0 : Hid (N = 0) := hN0
  clear hN0
  by_cases hK0 : K = 0
  case neg =>
    have hKi : (0 : Int) < (K : Int) := by omega
    have hR : ¬ I := by rw [hI2]; simp [hK0]
    have HR : Hid _ := hR
    clear hR hI2 ih hs hkc hnc HX htt htn htk HN HK hsz hm hd bN bK
    go_enter Tryd.func9, Tryd.ntmps9
    go_wp2
    go_ret
    exact ⟨_, rfl, B0, Tells.no HR.out⟩
  have hKi : ¬ (0 : Int) < (K : Int) := by omega
  have HK0 : Hid (K = 0) := hK0
  clear hK0
  by_cases m0 : m = 0
  · subst m0
    have hR : I := by rw [hI2]; simp [HTE.out, HN0.out, HK0.out]
    have HR : Hid _ := hR
    clear hR hI2 ih hs hkc hnc HX htt htn htk HN HK hsz hm hd bN bK
    go_enter Tryd.func9, Tryd.ntmps9
    go_wp2
    go_ret
    exact ⟨_, rfl, B0, Tells.yes HR.out⟩
  by_cases m1 : m = 1
  · subst m1
    have hR : I := by rw [hI2]; simp [HTE.out, HN0.out, HK0.out]
    have HR : Hid _ := hR
    clear hR hI2 ih hs hkc hnc HX htt htn htk HN HK hsz hm hd bN bK
    go_enter Tryd.func9, Tryd.ntmps9
    go_wp2
    go_ret
    exact ⟨_, rfl, B0, Tells.yes HR.out⟩
  have i0 := kind_ne m0
  have i1 := kind_ne m1
  have hR : ¬ I := by rw [hI2]; simp [m0, m1]
  have HR : Hid _ := hR
  clear hR hI2 ih hs hkc hnc HX htt htn htk HN HK hsz hm hd bN bK
  go_enter Tryd.func9, Tryd.ntmps9
  go_wp2
  go_ret
  exact ⟨_, rfl, B0, Tells.no HR.out⟩
theorem is1 {n : Nat} (ih : IsC n) (d : Nat) (m : Int) (t : List Nat) (ns : List (List Nat)) (ks : List (J n)) (v : Value) (w : World) (hd : d < n + 1) (hd2 : d ≤ 1000) (ht : TxtJ 1000000000 (n + 1) (⟨1, m, t, ns, ks⟩ : JN (J n))) (hv : JV (n := n + 1) (⟨1, m, t, ns, ks⟩ : JN (J n)) v w) :
    Ret 9 #[v, .int .i64 (d : Int)] w (Tells (IsJ (n + 1) d (⟨1, m, t, ns, ks⟩ : JN (J n)))) := by
  by_cases hd0 : d = 0
  · exact is1z ih d m t ns ks v w hd0 hd hd2 ht hv
  · exact is1p ih d m t ns ks v w hd0 hd hd2 ht hv
end Go.Proofs.YtljgnpneeecafaaDoor
set_option linter.unusedVariables false
namespace Go.Proofs.YtljgnpneeecafaaDoor
open Go.RowKit Go.Sort Go.BigFrame
set_option maxRecDepth 100000
set_option maxHeartbeats 4000000
theorem is2z {n : Nat} (ih : IsC n) (d : Nat) (m : Int) (t : List Nat) (ns : List (List Nat)) (ks : List (J n)) (v : Value) (w : World) (hd0 : d = 0) (hd : d < n + 1) (hd2 : d ≤ 1000) (ht : TxtJ 1000000000 (n + 1) (⟨2, m, t, ns, ks⟩ : JN (J n))) (hv : JV (n := n + 1) (⟨2, m, t, ns, ks⟩ : JN (J n)) v w) :
    Ret 9 #[v, .int .i64 (d : Int)] w (Tells (IsJ (n + 1) d (⟨2, m, t, ns, ks⟩ : JN (J n)))) := by
  obtain ⟨_, rfl, _, s, nv, kv, rfl, hs, hn, hk, _, hm⟩ := hv
  obtain ⟨na, nc, rfl, ln1, ln2, hnc⟩ := hn
  obtain ⟨ka, kc, rfl, lk1, lk2, hkc⟩ := hk
  obtain ⟨htt, htn, htk⟩ := ht
  have htt : t.length ≤ 1000000000 := htt
  have htn : ∀ x ∈ ns, x.length ≤ 1000000000 := htn
  have htk : ∀ k ∈ ks, TxtJ 1000000000 n k := htk
  have hs : Str s t := hs
  have hm : -9223372036854775808 ≤ m ∧ m ≤ 9223372036854775807 := hm
  have hsz : s.size ≤ 9223372036854775807 := by rw [hs.size]; omega
  show Ret _ #[.agg #[.int .i64 2, .int .i64 m, .string s, .slice na ns.length nc, .slice ka ks.length kc], .int .i64 (d : Int)] w _
  dsimp only at hnc hkc ln1 ln2 lk1 lk2
  obtain ⟨I, hI⟩ : ∃ I, I = IsJ (n + 1) d (⟨2, m, t, ns, ks⟩ : JN (J n)) := ⟨_, rfl⟩
  rw [← hI]
  have hI2 : I = ((0 ≤ (2 : Int) ∧ (2 : Int) ≤ 5 ∧ (d = 0 → (2 : Int) ≤ 3)) ∧ ((2 : Int) ≠ 3 → t = []) ∧ ((2 : Int) ≠ 5 → ns.length = 0) ∧ ((2 : Int) ≠ 5 → (2 : Int) ≠ 4 → ks.length = 0) ∧
    ((2 : Int) = 2 → -1000000000000000 ≤ m ∧ m ≤ 1000000000000000) ∧ ((2 : Int) = 1 → m = 0 ∨ m = 1) ∧
    ((2 : Int) ≠ 2 → (2 : Int) ≠ 1 → m = 0 ∧ ((2 : Int) = 5 → ns.length = ks.length) ∧ NamesOk t ns ns.length ∧ ∀ k ∈ ks, IsJ n (d - 1) k)) := hI
  clear hI
  obtain ⟨N, hN⟩ : ∃ x, x = ns.length := ⟨_, rfl⟩
  obtain ⟨K, hK⟩ : ∃ x, x = ks.length := ⟨_, rfl⟩
  rw [← hN, ← hK] at hI2
  rw [← hK] at lk1 ⊢
  rw [← hN] at ln1 ⊢
  have bN : N ≤ 9223372036854775807 := Nat.le_trans ln1 ln2
  have bK : K ≤ 9223372036854775807 := Nat.le_trans lk1 lk2
  have HN : Hid (N = ns.length) := hN
  have HK : Hid (K = ks.length) := hK
  have hst := nonempty_str hs
  have B0 : Below w.heap.size w (w.alloc (.cells #[.int .i64 2, .int .i64 m, .string s, .slice na N nc, .slice ka K kc] 25)) := below1 _ _
  have X0 : BoxJ (w.alloc (.cells #[.int .i64 2, .int .i64 m, .string s, .slice na N nc, .slice ka K kc] 25)) w.heap.size 2 m s (.slice na N nc) (.slice ka K kc) := heap_alloc_new _ _
  have HX : Hid _ := X0
  clear X0 hN hK ln1 ln2 lk1 lk2
  unfold Ret
  subst hd0
  by_cases hte : t = []
  case neg =>
    rw [decide_eq_false hte] at hst
    have hR : ¬ I := by rw [hI2]; simp [hte]
    have HR : Hid _ := hR
    clear hR hI2 ih hs hkc hnc HX htt htn htk HN HK hsz hm hd bN bK
    go_enter Tryd.func9, Tryd.ntmps9
    go_wp2
    go_ret
    exact ⟨_, rfl, B0, Tells.no HR.out⟩
  rw [decide_eq_true hte] at hst
  have HTE : Hid (t = []) := hte
  clear hte
  by_cases hN0 : N = 0
  case neg =>
    have hNi : (0 : Int) < (N : Int) := by omega
    have hR : ¬ I := by rw [hI2]; simp [hN0]
    have HR : Hid _ := hR
    clear hR hI2 ih hs hkc hnc HX htt htn htk HN HK hsz hm hd bN bK
    go_enter Tryd.func9, Tryd.ntmps9
    go_wp2
    go_ret
    exact ⟨_, rfl, B0, Tells.no HR.out⟩
  have hNi : ¬ (0 : Int) < (N : Int) := by omega
  have HN0 : Hid (N = 0) := hN0
  clear hN0
  by_cases hK0 : K = 0
  case neg =>
    have hKi : (0 : Int) < (K : Int) := by omega
    have hR : ¬ I := by rw [hI2]; simp [hK0]
    have HR : Hid _ := hR
    clear hR hI2 ih hs hkc hnc HX htt htn htk HN HK hsz hm hd bN bK
    go_enter Tryd.func9, Tryd.ntmps9
    go_wp2
    go_ret
    exact ⟨_, rfl, B0, Tells.no HR.out⟩
  have hKi : ¬ (0 : Int) < (K : Int) := by omega
  have HK0 : Hid (K = 0) := hK0
  clear hK0
  by_cases m0 : -1000000000000000 ≤ m
  case neg =>
    have hR : ¬ I := by rw [hI2]; simp [m0]
    have HR : Hid _ := hR
    clear hR hI2 ih hs hkc hnc HX htt htn htk HN HK hsz hm hd bN bK
    go_enter Tryd.func9, Tryd.ntmps9
    go_wp2
    go_ret
    exact ⟨_, rfl, B0, Tells.no HR.out⟩
  by_cases m1 : m ≤ 1000000000000000
  case neg =>
    have hR : ¬ I := by rw [hI2]; simp [m1]
    have HR : Hid _ := hR
    clear hR hI2 ih hs hkc hnc HX htt htn htk HN HK hsz hm hd bN bK
    go_enter Tryd.func9, Tryd.ntmps9
    go_wp2
    go_ret
    exact ⟨_, rfl, B0, Tells.no HR.out⟩
  have hR : I := by rw [hI2]; simp [HTE.out, HN0.out, HK0.out, m0, m1]
  have HR : Hid _ := hR
  clear hR hI2 ih hs hkc hnc HX htt htn htk HN HK hsz hm hd bN bK
  go_enter Tryd.func9, Tryd.ntmps9
  go_wp2
  go_ret
  exact ⟨_, rfl, B0, Tells.yes HR.out⟩
theorem is2p {n : Nat} (ih : IsC n) (d : Nat) (m : Int) (t : List Nat) (ns : List (List Nat)) (ks : List (J n)) (v : Value) (w : World) (hd0 : ¬ d = 0) (hd : d < n + 1) (hd2 : d ≤ 1000) (ht : TxtJ 1000000000 (n + 1) (⟨2, m, t, ns, ks⟩ : JN (J n))) (hv : JV (n := n + 1) (⟨2, m, t, ns, ks⟩ : JN (J n)) v w) :
    Ret 9 #[v, .int .i64 (d : Int)] w (Tells (IsJ (n + 1) d (⟨2, m, t, ns, ks⟩ : JN (J n)))) := by
  obtain ⟨_, rfl, _, s, nv, kv, rfl, hs, hn, hk, _, hm⟩ := hv
  obtain ⟨na, nc, rfl, ln1, ln2, hnc⟩ := hn
  obtain ⟨ka, kc, rfl, lk1, lk2, hkc⟩ := hk
  obtain ⟨htt, htn, htk⟩ := ht
  have htt : t.length ≤ 1000000000 := htt
  have htn : ∀ x ∈ ns, x.length ≤ 1000000000 := htn
  have htk : ∀ k ∈ ks, TxtJ 1000000000 n k := htk
  have hs : Str s t := hs
  have hm : -9223372036854775808 ≤ m ∧ m ≤ 9223372036854775807 := hm
  have hsz : s.size ≤ 9223372036854775807 := by rw [hs.size]; omega
  show Ret _ #[.agg #[.int .i64 2, .int .i64 m, .string s, .slice na ns.length nc, .slice ka ks.length kc], .int .i64 (d : Int)] w _
  dsimp only at hnc hkc ln1 ln2 lk1 lk2
  obtain ⟨I, hI⟩ : ∃ I, I = IsJ (n + 1) d (⟨2, m, t, ns, ks⟩ : JN (J n)) := ⟨_, rfl⟩
  rw [← hI]
  have hI2 : I = ((0 ≤ (2 : Int) ∧ (2 : Int) ≤ 5 ∧ (d = 0 → (2 : Int) ≤ 3)) ∧ ((2 : Int) ≠ 3 → t = []) ∧ ((2 : Int) ≠ 5 → ns.length = 0) ∧ ((2 : Int) ≠ 5 → (2 : Int) ≠ 4 → ks.length = 0) ∧
    ((2 : Int) = 2 → -1000000000000000 ≤ m ∧ m ≤ 1000000000000000) ∧ ((2 : Int) = 1 → m = 0 ∨ m = 1) ∧
    ((2 : Int) ≠ 2 → (2 : Int) ≠ 1 → m = 0 ∧ ((2 : Int) = 5 → ns.length = ks.length) ∧ NamesOk t ns ns.length ∧ ∀ k ∈ ks, IsJ n (d - 1) k)) := hI
  clear hI
  obtain ⟨N, hN⟩ : ∃ x, x = ns.length := ⟨_, rfl⟩
  obtain ⟨K, hK⟩ : ∃ x, x = ks.length := ⟨_, rfl⟩
  rw [← hN, ← hK] at hI2
  rw [← hK] at lk1 ⊢
  rw [← hN] at ln1 ⊢
  have bN : N ≤ 9223372036854775807 := Nat.le_trans ln1 ln2
  have bK : K ≤ 9223372036854775807 := Nat.le_trans lk1 lk2
  have HN : Hid (N = ns.length) := hN
  have HK : Hid (K = ks.length) := hK
  have hst := nonempty_str hs
  have B0 : Below w.heap.size w (w.alloc (.cells #[.int .i64 2, .int .i64 m, .string s, .slice na N nc, .slice ka K kc] 25)) := below1 _ _
  have X0 : BoxJ (w.alloc (.cells #[.int .i64 2, .int .i64 m, .string s, .slice na N nc, .slice ka K kc] 25)) w.heap.size 2 m s (.slice na N nc) (.slice ka K kc) := heap_alloc_new _ _
  have HX : Hid _ := X0
  clear X0 hN hK ln1 ln2 lk1 lk2
  unfold Ret
  have hd0b : ((d : Int) == 0) = false := kind_ne (by omega)
  by_cases hte : t = []
  case neg =>
    rw [decide_eq_false hte] at hst
    have hR : ¬ I := by rw [hI2]; simp [hte]
    have HR : Hid _ := hR
    clear hR hI2 ih hs hkc hnc HX htt htn htk HN HK hsz hm hd bN bK
    go_enter Tryd.func9, Tryd.ntmps9
    go_wp2
    go_ret
    exact ⟨_, rfl, B0, Tells.no HR.out⟩
  rw [decide_eq_true hte] at hst
  have HTE : Hid (t = []) := hte
  clear hte
  by_cases hN0 : N = 0
  case neg =>
    have hNi : (0 : Int) < (N : Int) := by omega
    have hR : ¬ I := by rw [hI2]; simp [hN0]
    have HR : Hid _ := hR
    clear hR hI2 ih hs hkc hnc HX htt htn htk HN HK hsz hm hd bN bK
    go_enter Tryd.func9, Tryd.ntmps9
    go_wp2
    go_ret
    exact ⟨_, rfl, B0, Tells.no HR.out⟩
  have hNi : ¬ (0 : Int) < (N : Int) := by omega
  have HN0 : Hid (N = 0) := hN0
  clear hN0
  by_cases hK0 : K = 0
  case neg =>
    have hKi : (0 : Int) < (K : Int) := by omega
    have hR : ¬ I := by rw [hI2]; simp [hK0]
    have HR : Hid _ := hR
    clear hR hI2 ih hs hkc hnc HX htt htn htk HN HK hsz hm hd bN bK
    go_enter Tryd.func9, Tryd.ntmps9
    go_wp2
    go_ret
    exact ⟨_, rfl, B0, Tells.no HR.out⟩
  have hKi : ¬ (0 : Int) < (K : Int) := by omega
  have HK0 : Hid (K = 0) := hK0
  clear hK0
  by_cases m0 : -1000000000000000 ≤ m
  case neg =>
    have hR : ¬ I := by rw [hI2]; simp [m0]
    have HR : Hid _ := hR
    clear hR hI2 ih hs hkc hnc HX htt htn htk HN HK hsz hm hd bN bK
    go_enter Tryd.func9, Tryd.ntmps9
    go_wp2
    go_ret
    exact ⟨_, rfl, B0, Tells.no HR.out⟩
  by_cases m1 : m ≤ 1000000000000000
  case neg =>
    have hR : ¬ I := by rw [hI2]; simp [m1]
    have HR : Hid _ := hR
    clear hR hI2 ih hs hkc hnc HX htt htn htk HN HK hsz hm hd bN bK
    go_enter Tryd.func9, Tryd.ntmps9
    go_wp2
    go_ret
    exact ⟨_, rfl, B0, Tells.no HR.out⟩
  have hR : I := by rw [hI2]; simp [HTE.out, HN0.out, HK0.out, m0, m1]
  have HR : Hid _ := hR
  clear hR hI2 ih hs hkc hnc HX htt htn htk HN HK hsz hm hd bN bK
  go_enter Tryd.func9, Tryd.ntmps9
  go_wp2
  go_ret
  exact ⟨_, rfl, B0, Tells.yes HR.out⟩
theorem is2 {n : Nat} (ih : IsC n) (d : Nat) (m : Int) (t : List Nat) (ns : List (List Nat)) (ks : List (J n)) (v : Value) (w : World) (hd : d < n + 1) (hd2 : d ≤ 1000) (ht : TxtJ 1000000000 (n + 1) (⟨2, m, t, ns, ks⟩ : JN (J n))) (hv : JV (n := n + 1) (⟨2, m, t, ns, ks⟩ : JN (J n)) v w) :
    Ret 9 #[v, .int .i64 (d : Int)] w (Tells (IsJ (n + 1) d (⟨2, m, t, ns, ks⟩ : JN (J n)))) := by
  by_cases hd0 : d = 0
  · exact is2z ih d m t ns ks v w hd0 hd hd2 ht hv
  · exact is2p ih d m t ns ks v w hd0 hd hd2 ht hv
theorem is3z {n : Nat} (ih : IsC n) (d : Nat) (m : Int) (t : List Nat) (ns : List (List Nat)) (ks : List (J n)) (v : Value) (w : World) (hd0 : d = 0) (hd : d < n + 1) (hd2 : d ≤ 1000) (ht : TxtJ 1000000000 (n + 1) (⟨3, m, t, ns, ks⟩ : JN (J n))) (hv : JV (n := n + 1) (⟨3, m, t, ns, ks⟩ : JN (J n)) v w) :
    Ret 9 #[v, .int .i64 (d : Int)] w (Tells (IsJ (n + 1) d (⟨3, m, t, ns, ks⟩ : JN (J n)))) := by
  obtain ⟨_, rfl, _, s, nv, kv, rfl, hs, hn, hk, _, hm⟩ := hv
  obtain ⟨na, nc, rfl, ln1, ln2, hnc⟩ := hn
  obtain ⟨ka, kc, rfl, lk1, lk2, hkc⟩ := hk
  obtain ⟨htt, htn, htk⟩ := ht
  have htt : t.length ≤ 1000000000 := htt
  have htn : ∀ x ∈ ns, x.length ≤ 1000000000 := htn
  have htk : ∀ k ∈ ks, TxtJ 1000000000 n k := htk
  have hs : Str s t := hs
  have hm : -9223372036854775808 ≤ m ∧ m ≤ 9223372036854775807 := hm
  have hsz : s.size ≤ 9223372036854775807 := by rw [hs.size]; omega
  show Ret _ #[.agg #[.int .i64 3, .int .i64 m, .string s, .slice na ns.length nc, .slice ka ks.length kc], .int .i64 (d : Int)] w _
  dsimp only at hnc hkc ln1 ln2 lk1 lk2
  obtain ⟨I, hI⟩ : ∃ I, I = IsJ (n + 1) d (⟨3, m, t, ns, ks⟩ : JN (J n)) := ⟨_, rfl⟩
  rw [← hI]
  have hI2 : I = ((0 ≤ (3 : Int) ∧ (3 : Int) ≤ 5 ∧ (d = 0 → (3 : Int) ≤ 3)) ∧ ((3 : Int) ≠ 3 → t = []) ∧ ((3 : Int) ≠ 5 → ns.length = 0) ∧ ((3 : Int) ≠ 5 → (3 : Int) ≠ 4 → ks.length = 0) ∧
    ((3 : Int) = 2 → -1000000000000000 ≤ m ∧ m ≤ 1000000000000000) ∧ ((3 : Int) = 1 → m = 0 ∨ m = 1) ∧
    ((3 : Int) ≠ 2 → (3 : Int) ≠ 1 → m = 0 ∧ ((3 : Int) = 5 → ns.length = ks.length) ∧ NamesOk t ns ns.length ∧ ∀ k ∈ ks, IsJ n (d - 1) k)) := hI
  clear hI
  obtain ⟨N, hN⟩ : ∃ x, x = ns.length := ⟨_, rfl⟩
  obtain ⟨K, hK⟩ : ∃ x, x = ks.length := ⟨_, rfl⟩
  rw [← hN, ← hK] at hI2
  rw [← hK] at lk1 ⊢
  rw [← hN] at ln1 ⊢
  have bN : N ≤ 9223372036854775807 := Nat.le_trans ln1 ln2
  have bK : K ≤ 9223372036854775807 := Nat.le_trans lk1 lk2
  have HN : Hid (N = ns.length) := hN
  have HK : Hid (K = ks.length) := hK
  have hst := nonempty_str hs
  have B0 : Below w.heap.size w (w.alloc (.cells #[.int .i64 3, .int .i64 m, .string s, .slice na N nc, .slice ka K kc] 25)) := below1 _ _
  have X0 : BoxJ (w.alloc (.cells #[.int .i64 3, .int .i64 m, .string s, .slice na N nc, .slice ka K kc] 25)) w.heap.size 3 m s (.slice na N nc) (.slice ka K kc) := heap_alloc_new _ _
  have HX : Hid _ := X0
  clear X0 hN hK ln1 ln2 lk1 lk2
  unfold Ret
  subst hd0
  by_cases hN0 : N = 0
  case neg =>
    have hNi : (0 : Int) < (N : Int) := by omega
    have hR : ¬ I := by rw [hI2]; simp [hN0]
    have HR : Hid _ := hR
    clear hR hI2 ih hs hkc hnc HX htt htn htk HN HK hsz hm hd bN bK
    go_enter Tryd.func9, Tryd.ntmps9
    go_wp2
    go_ret
    exact ⟨_, rfl, B0, Tells.no HR.out⟩
  have hNi : ¬ (0 : Int) < (N : Int) := by omega
  have HN0 : Hid (N = 0) := hN0
  clear hN0
  by_cases hK0 : K = 0
  case neg =>
    have hKi : (0 : Int) < (K : Int) := by omega
    have hR : ¬ I := by rw [hI2]; simp [hK0]
    have HR : Hid _ := hR
    clear hR hI2 ih hs hkc hnc HX htt htn htk HN HK hsz hm hd bN bK
    go_enter Tryd.func9, Tryd.ntmps9
    go_wp2
    go_ret
    exact ⟨_, rfl, B0, Tells.no HR.out⟩
  have hKi : ¬ (0 : Int) < (K : Int) := by omega
  have HK0 : Hid (K = 0) := hK0
  clear hK0
  by_cases hm0 : m = 0
  case neg =>
    have hmi := kind_ne hm0
    have hR : ¬ I := by rw [hI2]; simp [hm0]
    have HR : Hid _ := hR
    clear hR hI2 ih hs hkc hnc HX htt htn htk HN HK hsz hm hd bN bK
    go_enter Tryd.func9, Tryd.ntmps9
    go_wp2
    go_ret
    exact ⟨_, rfl, B0, Tells.no HR.out⟩
  subst hm0
  have HI : Hid (I ↔ (NamesOk t ns N ∧ ∀ i (h : i < ks.length), IsJ n (0 - 1) (ks[i]'h))) := by
    show _ ↔ _
    rw [hI2, ← all_at (P := IsJ n (0 - 1))]
    simp [HN0.out, HK0.out]
  clear hI2
  go_enter Tryd.func9, Tryd.ntmps9
  go_wp2_with fail
  refine (letters14 _ hs hsz).mono ?_
  rintro e w1 ⟨rfl, rfl⟩
  go_wp2_with fail
  go_loopw [5, 6] (fun o i wr => ∃ k : Nat, k ≤ N ∧ i = .int .i64 k ∧ Below w.heap.size w wr ∧ BoxJ wr w.heap.size 3 0 s (.slice na N nc) (.slice ka K kc) ∧ Tells (NamesOk t ns k) o wr) (fun _ i _ => N - (intOf i).toNat)
  case atStart => exact ⟨0, by omega, rfl, B0, HX.out, _, rfl, by simp [NamesOk]⟩
  case round =>
    obtain ⟨k, hk, rfl, hB, hX, c, rfl, hc⟩ := hrel
    have c3' := hX.cell 3
    have HXa : Hid _ := hX
    have HC : Hid _ := hc
    clear hc hX HX hst
    by_cases hlt : k < N
    · have := HN0.out
      omega
    · obtain rfl : N = k := by omega
      go_wp2_with fail
      go_loopw [5, 9] (fun o i wr => ∃ k : Nat, k ≤ K ∧ i = .int .i64 k ∧ Below w.heap.size w wr ∧ BoxJ wr w.heap.size 3 0 s (.slice na N nc) (.slice ka K kc) ∧ Tells (NamesOk t ns N ∧ ∀ i (h : i < ks.length), i < k → IsJ n (0 - 1) (ks[i]'h)) o wr) (fun _ i _ => K - (intOf i).toNat)
      case atStart => exact ⟨0, by omega, rfl, hB, HXa.out, _, rfl, by have h := HC.out; simpa using h⟩
      case round =>
        obtain ⟨k, hk, rfl, hB2, hX2, c2, rfl, hc2⟩ := hrel
        have e4 := hX2.cell 4
        have HC2 : Hid _ := hc2
        clear hc2 c3' HC HXa
        by_cases hlt2 : k < K
        · have := HK0.out
          omega
        · obtain rfl : K = k := by omega
          have hR : Tells I (.bool c2) wr := ⟨c2, rfl, by
            have h1 := HC2.out
            have h2 := HI.out
            rw [h1, h2]
            constructor
            · rintro ⟨h3, h4⟩; exact ⟨h3, fun i h => h4 i h (by rw [HK.out]; exact h)⟩
            · rintro ⟨h3, h4⟩; exact ⟨h3, fun i h _ => h4 i h⟩⟩
          go_wp2
          go_ret
          exact ⟨_, rfl, hB2, hR⟩
theorem is3p {n : Nat} (ih : IsC n) (d : Nat) (m : Int) (t : List Nat) (ns : List (List Nat)) (ks : List (J n)) (v : Value) (w : World) (hd0 : ¬ d = 0) (hd : d < n + 1) (hd2 : d ≤ 1000) (ht : TxtJ 1000000000 (n + 1) (⟨3, m, t, ns, ks⟩ : JN (J n))) (hv : JV (n := n + 1) (⟨3, m, t, ns, ks⟩ : JN (J n)) v w) :
    Ret 9 #[v, .int .i64 (d : Int)] w (Tells (IsJ (n + 1) d (⟨3, m, t, ns, ks⟩ : JN (J n)))) := by
  obtain ⟨_, rfl, _, s, nv, kv, rfl, hs, hn, hk, _, hm⟩ := hv
  obtain ⟨na, nc, rfl, ln1, ln2, hnc⟩ := hn
  obtain ⟨ka, kc, rfl, lk1, lk2, hkc⟩ := hk
  obtain ⟨htt, htn, htk⟩ := ht
  have htt : t.length ≤ 1000000000 := htt
  have htn : ∀ x ∈ ns, x.length ≤ 1000000000 := htn
  have htk : ∀ k ∈ ks, TxtJ 1000000000 n k := htk
  have hs : Str s t := hs
  have hm : -9223372036854775808 ≤ m ∧ m ≤ 9223372036854775807 := hm
  have hsz : s.size ≤ 9223372036854775807 := by rw [hs.size]; omega
  show Ret _ #[.agg #[.int .i64 3, .int .i64 m, .string s, .slice na ns.length nc, .slice ka ks.length kc], .int .i64 (d : Int)] w _
  dsimp only at hnc hkc ln1 ln2 lk1 lk2
  obtain ⟨I, hI⟩ : ∃ I, I = IsJ (n + 1) d (⟨3, m, t, ns, ks⟩ : JN (J n)) := ⟨_, rfl⟩
  rw [← hI]
  have hI2 : I = ((0 ≤ (3 : Int) ∧ (3 : Int) ≤ 5 ∧ (d = 0 → (3 : Int) ≤ 3)) ∧ ((3 : Int) ≠ 3 → t = []) ∧ ((3 : Int) ≠ 5 → ns.length = 0) ∧ ((3 : Int) ≠ 5 → (3 : Int) ≠ 4 → ks.length = 0) ∧
    ((3 : Int) = 2 → -1000000000000000 ≤ m ∧ m ≤ 1000000000000000) ∧ ((3 : Int) = 1 → m = 0 ∨ m = 1) ∧
    ((3 : Int) ≠ 2 → (3 : Int) ≠ 1 → m = 0 ∧ ((3 : Int) = 5 → ns.length = ks.length) ∧ NamesOk t ns ns.length ∧ ∀ k ∈ ks, IsJ n (d - 1) k)) := hI
  clear hI
  obtain ⟨N, hN⟩ : ∃ x, x = ns.length := ⟨_, rfl⟩
  obtain ⟨K, hK⟩ : ∃ x, x = ks.length := ⟨_, rfl⟩
  rw [← hN, ← hK] at hI2
  rw [← hK] at lk1 ⊢
  rw [← hN] at ln1 ⊢
  have bN : N ≤ 9223372036854775807 := Nat.le_trans ln1 ln2
  have bK : K ≤ 9223372036854775807 := Nat.le_trans lk1 lk2
  have HN : Hid (N = ns.length) := hN
  have HK : Hid (K = ks.length) := hK
  have hst := nonempty_str hs
  have B0 : Below w.heap.size w (w.alloc (.cells #[.int .i64 3, .int .i64 m, .string s, .slice na N nc, .slice ka K kc] 25)) := below1 _ _
  have X0 : BoxJ (w.alloc (.cells #[.int .i64 3, .int .i64 m, .string s, .slice na N nc, .slice ka K kc] 25)) w.heap.size 3 m s (.slice na N nc) (.slice ka K kc) := heap_alloc_new _ _
  have HX : Hid _ := X0
  clear X0 hN hK ln1 ln2 lk1 lk2
  unfold Ret
  have hd0b : ((d : Int) == 0) = false := kind_ne (by omega)
  by_cases hN0 : N = 0
  case neg =>
    have hNi : (0 : Int) < (N : Int) := by omega
    have hR : ¬ I := by rw [hI2]; simp [hN0]
    have HR : Hid _ := hR
    clear hR hI2 ih hs hkc hnc HX htt htn htk HN HK hsz hm hd bN bK
    go_enter Tryd.func9, Tryd.ntmps9
    go_wp2
    go_ret
    exact ⟨_, rfl, B0, Tells.no HR.out⟩
  have hNi : ¬ (0 : Int) < (N : Int) := by omega
  have HN0 : Hid (N = 0) := hN0
  clear hN0
  by_cases hK0 : K = 0
  case neg =>
    have hKi : (0 : Int) < (K : Int) := by omega
    have hR : ¬ I := by rw [hI2]; simp [hK0]
    have HR : Hid _ := hR
    clear hR hI2 ih hs hkc hnc HX htt htn htk HN HK hsz hm hd bN bK
    go_enter Tryd.func9, Tryd.ntmps9
    go_wp2
    go_ret
    exact ⟨_, rfl, B0, Tells.no HR.out⟩
  have hKi : ¬ (0 : Int) < (K : Int) := by omega
  have HK0 : Hid (K = 0) := hK0
  clear hK0
  by_cases hm0 : m = 0
  case neg =>
    have hmi := kind_ne hm0
    have hR : ¬ I := by rw [hI2]; simp [hm0]
    have HR : Hid _ := hR
    clear hR hI2 ih hs hkc hnc HX htt htn htk HN HK hsz hm hd bN bK
    go_enter Tryd.func9, Tryd.ntmps9
    go_wp2
    go_ret
    exact ⟨_, rfl, B0, Tells.no HR.out⟩
  subst hm0
  have HI : Hid (I ↔ (NamesOk t ns N ∧ ∀ i (h : i < ks.length), IsJ n (d - 1) (ks[i]'h))) := by
    show _ ↔ _
    rw [hI2, ← all_at (P := IsJ n (d - 1))]
    simp [HN0.out, HK0.out]
  clear hI2
  go_enter Tryd.func9, Tryd.ntmps9
  go_wp2_with fail
  refine (letters14 _ hs hsz).mono ?_
  rintro e w1 ⟨rfl, rfl⟩
  go_wp2_with fail
  go_loopw [5, 6] (fun o i wr => ∃ k : Nat, k ≤ N ∧ i = .int .i64 k ∧ Below w.heap.size w wr ∧ BoxJ wr w.heap.size 3 0 s (.slice na N nc) (.slice ka K kc) ∧ Tells (NamesOk t ns k) o wr) (fun _ i _ => N - (intOf i).toNat)
  case atStart => exact ⟨0, by omega, rfl, B0, HX.out, _, rfl, by simp [NamesOk]⟩
  case round =>
    obtain ⟨k, hk, rfl, hB, hX, c, rfl, hc⟩ := hrel
    have c3' := hX.cell 3
    have HXa : Hid _ := hX
    have HC : Hid _ := hc
    clear hc hX HX hst
    by_cases hlt : k < N
    · have := HN0.out
      omega
    · obtain rfl : N = k := by omega
      go_wp2_with fail
      go_loopw [5, 9] (fun o i wr => ∃ k : Nat, k ≤ K ∧ i = .int .i64 k ∧ Below w.heap.size w wr ∧ BoxJ wr w.heap.size 3 0 s (.slice na N nc) (.slice ka K kc) ∧ Tells (NamesOk t ns N ∧ ∀ i (h : i < ks.length), i < k → IsJ n (d - 1) (ks[i]'h)) o wr) (fun _ i _ => K - (intOf i).toNat)
      case atStart => exact ⟨0, by omega, rfl, hB, HXa.out, _, rfl, by have h := HC.out; simpa using h⟩
      case round =>
        obtain ⟨k, hk, rfl, hB2, hX2, c2, rfl, hc2⟩ := hrel
        have e4 := hX2.cell 4
        have HC2 : Hid _ := hc2
        clear hc2 c3' HC HXa
        by_cases hlt2 : k < K
        · have := HK0.out
          omega
        · obtain rfl : K = k := by omega
          have hR : Tells I (.bool c2) wr := ⟨c2, rfl, by
            have h1 := HC2.out
            have h2 := HI.out
            rw [h1, h2]
            constructor
            · rintro ⟨h3, h4⟩; exact ⟨h3, fun i h => h4 i h (by rw [HK.out]; exact h)⟩
            · rintro ⟨h3, h4⟩; exact ⟨h3, fun i h _ => h4 i h⟩⟩
          go_wp2
          go_ret
          exact ⟨_, rfl, hB2, hR⟩
theorem is3 {n : Nat} (ih : IsC n) (d : Nat) (m : Int) (t : List Nat) (ns : List (List Nat)) (ks : List (J n)) (v : Value) (w : World) (hd : d < n + 1) (hd2 : d ≤ 1000) (ht : TxtJ 1000000000 (n + 1) (⟨3, m, t, ns, ks⟩ : JN (J n))) (hv : JV (n := n + 1) (⟨3, m, t, ns, ks⟩ : JN (J n)) v w) :
    Ret 9 #[v, .int .i64 (d : Int)] w (Tells (IsJ (n + 1) d (⟨3, m, t, ns, ks⟩ : JN (J n)))) := by
  by_cases hd0 : d = 0
  · exact is3z ih d m t ns ks v w hd0 hd hd2 ht hv
  · exact is3p ih d m t ns ks v w hd0 hd hd2 ht hv
end Go.Proofs.YtljgnpneeecafaaDoor
