/-
  The walks of the reference's Seal and Open.
-/
import Derived.Test.YtjnoohhjnnafcaaD
import Derived.Test.YtjnoohhjnnafcaaMoves
import Derived.Laws.AppendOwn
set_option linter.unusedVariables false
namespace Go.Proofs.Ytjnoohhjnnafcaa
open Go.RowKit Go.Sort Go.BigFrame
set_option maxRecDepth 100000
set_option maxHeartbeats 2000000
def bv (l : List Nat) : List Value := l.map fun (x : Nat) => Value.int .u8 (x : Int)
theorem bv_one {l : List Nat} : ∀ u ∈ bv l, u.oneCell' = true := fun u hu => by
  obtain ⟨x, _, rfl⟩ := List.mem_map.1 hu; rfl
theorem bv_len (l : List Nat) : (bv l).length = l.length := by simp [bv]
theorem news_view {w : World} {p : Addr} {bs : List Nat} (h : View w (some p) bs) : ∀ (j : Nat) u, (bv bs)[j]? = some u → w.cell? (p.add j) = some u := by
  intro j u hj
  have hj' : j < bs.length := by
    by_cases h : j < bs.length
    · exact h
    · rw [List.getElem?_eq_none (by simp [bv]; omega)] at hj; cases hj
  obtain ⟨b, off, e, hc⟩ := h (by omega)
  injection e with e
  rw [e, Addr.add_mid, hc j hj', ← hj]
  simp [bv, hj']
theorem info5 : ∃ i0, Try.prog.info? 5 = some i0 ∧ i0.zero = some (.int .u8 0) ∧ i0.size = 1 ∧ i0.bytes = 1 := by
  have h5i : (Try.prog.info? 5).map (fun i => (i.zero, i.size, i.bytes)) = some (some (.int .u8 0), 1, 1) := by kernel_rfl
  obtain ⟨i0, hi, hz⟩ := Option.map_eq_some_iff.1 h5i
  simp only [Prod.mk.injEq] at hz
  exact ⟨i0, hi, hz.1, hz.2.1, hz.2.2⟩
theorem wpList_append_data (w : World) {ops : Array Oper} {rest : List Oper} {o : Oper} {a : Act} {Q : Exit → Act → World → Prop} (hgd : o.guard = none) (s x : Operand)
    (ho : o.op = .call { callee := .builtin .append, args := #[s, x], argTypes := #[22, 22] }) (hs : a.eval s = .slice none 0 0) (ad : Option Addr) (len cap : Nat) (bs : List Nat) (hx : a.eval x = .slice ad len cap)
    (hlen : bs.length = len) (hv : View w ad bs) (base : Nat) (hbase : base ≤ w.heap.size) (hb : len ≤ 100000000000000)
    (h : ∀ v' w', w'.ownsRow base 5 1 v' len (bv bs) → w.grownBy w' none → wpList Try.prog ops Q rest (a.put o.dst v') w') : wpList Try.prog ops Q (o :: rest) a w := by
  obtain ⟨i0, hi, hz0, hz1, hz2⟩ := info5
  cases ad with
  | some p =>
    refine wpList_append_own w hgd s x 22 ho base 5 i0 (.int .u8 0) 1 1 Try.underlying22 hi hz0 hz1 hz2 rfl (by decide) (.slice none 0 0) 0 [] hs (World.ownsRow_nil _ _ _ _) p len cap (bv bs) hx (by simp [bv, hlen]) (news_view hv) bv_one (by unfold maxLen; omega) (by omega) hbase ?_
    intro v' w' h1 h2 _
    refine h v' w' ?_ h2
    rw [Nat.zero_add, List.nil_append] at h1
    exact h1
  | none =>
    have hb0 : bs = [] := by
      by_cases hp : 0 < bs.length
      · obtain ⟨b, off, e, _⟩ := hv hp; cases e
      · exact List.eq_nil_of_length_eq_zero (by omega)
    subst hb0
    obtain rfl : len = 0 := hlen.symm
    have hr : (Builtin.append_ #[22, 22] o.type #[.slice none 0 0, .slice none 0 cap]).run Try.prog w = .ok (.slice none 0 0) w := by kernel_rfl
    refine wpList_plain hgd fun K hK => ?_
    unfold Oper.wp execOp
    simp only [ho, resolve, invoke, builtin, Sem.run_bind, Sem.run_pure, Result.andThen_ok, List.map_toArray, List.map_cons, List.map_nil, hs, hx, hr]
    exact hK _ _ (h _ _ (World.ownsRow_nil _ _ _ _) ⟨rfl, rfl, rfl, Nat.le_refl _, fun _ _ _ => rfl⟩)
theorem news_one (w : World) (v : Value) (t : TypeId) : ∀ (j : Nat) u, [v][j]? = some u → (w.alloc (.cells #[v] t)).cell? ((⟨w.heap.size, 0, none⟩ : Addr).add j) = some u := by
  intro j u hj
  match j, hj with
  | 0, hj =>
    obtain rfl : v = u := by simpa using hj
    rw [Addr.add_mid, cell_of_row _ _ _ _ _ _ (heap_alloc_new _ _)]; rfl
theorem one_byte {n : Int} : ∀ u ∈ [Value.int .u8 n], u.oneCell' = true := fun u hu => by rw [List.mem_singleton.1 hu]; rfl
theorem owns_form {w : World} {base n : Nat} {v : Value} {xs : List Value} (h : w.ownsRow base 5 1 v n xs) (hn : 0 < n) : ∃ g cap, v = .slice (some ⟨g, 0, none⟩) n cap ∧ base ≤ g := by
  rcases h.2 with ⟨_, h0⟩ | ⟨g, cap, _, hv, hg, _⟩
  · omega
  · exact ⟨g, cap, hv, hg⟩
theorem own_view {w : World} {g B n c : Nat} {l : List Nat} (h : w.ownsRow B 5 1 (.slice (some ⟨g, 0, none⟩) n c) n (bv l)) : l.length = n ∧ BytesAt w g 0 l := by
  have hl : l.length = n := by have := h.1; rw [bv_len] at this; omega
  refine ⟨hl, fun i hi => ?_⟩
  rw [Nat.zero_add, h.cellAt i (by omega)]
  simp [bv, hi]
theorem refSeal13 (a : Option Addr) (len cap : Nat) (bs : List Nat) (w : World) (hlen0 : bs.length = len) (hcap : len ≤ cap) (hcap2 : cap ≤ 9223372036854775807) (hl4 : len ≤ 2000) (hb : ∀ j, bs.getD j 0 < 256) (hv : View w a bs) :
    Calls Try.prog 13 #[.slice a len cap] w fun e w' => ∃ g c, e = .returned (.slice (some ⟨g, 0, none⟩) (len + 4) c) ∧ w.heap.size ≤ g ∧ Below w.heap.size w w' ∧ w'.ownsRow w.heap.size 5 1 (.slice (some ⟨g, 0, none⟩) (len + 4) c) (len + 4) (bv (sealed bs)) := by
  have hS := fun w1 (h : Below w.heap.size w w1) => refSum10 a len cap bs w1 hlen0 hcap hcap2 hb (hv.below h)
  have hlen : Hid (bs.length = len) := hlen0
  clear hlen0
  obtain ⟨c, hc⟩ : ∃ c, c = crcOf bs := ⟨_, rfl⟩
  have hcl : c < 4294967296 := by rw [hc]; exact crc_lt _
  rw [← hc] at hS
  have HC : Hid (sealed bs = bs ++ tailN c 4) := by show sealed bs = _; rw [hc]; rfl
  clear hc
  obtain ⟨i0, hi, hz0, hz1, hz2⟩ := info5
  go_enter Try.func13, Try.ntmps13
  go_wp2_with (at_builtin; refine wpList_append_data _ rfl (.tmp 6) (.tmp 7) rfl rfl a len cap bs rfl hlen.out hv w.heap.size (Nat.le_refl _) (by omega) ?_; intro v1 w1 hown1 hgrow1)
  have hB1 : Below w.heap.size w w1 := (Below.refl _ _).grown hgrow1 (Nat.le_refl _) (by intro k hk; cases hk)
  clear hgrow1
  refine (hS w1 hB1).mono ?_
  intro e w2 ⟨he, hw2⟩
  subst he
  rw [hw2]
  clear hw2 hS
  go_wp2_with fail
  go_loopw [3, 4, 5] (fun v3 v4 i wr => ∃ k : Nat, k ≤ 4 ∧ i = .int .i64 k ∧ v4 = .int .i64 ((c >>> (8 * k) : Nat) : Int) ∧ Below w.heap.size w wr ∧ wr.ownsRow w.heap.size 5 1 v3 (len + k) (bv (bs ++ tailN c k))) (fun _ _ i _ => 4 - (intOf i).toNat)
  case atStart => exact ⟨0, by omega, rfl, rfl, hB1, by rw [show bs ++ tailN c 0 = bs from List.append_nil _]; exact hown1⟩
  case round =>
    obtain ⟨k, hk, rfl, rfl, hB, hown⟩ := hrel
    obtain ⟨x, hx⟩ : ∃ x, x = c >>> (8 * k) := ⟨_, rfl⟩
    have hxl : x < 4294967296 := by rw [hx, Nat.shiftRight_eq_div_pow]; exact Nat.lt_of_le_of_lt (Nat.div_le_self _ _) hcl
    have HX : Hid (x = c >>> (8 * k)) := hx
    rw [← hx]
    clear hx hown1 hB1
    by_cases hlt : k < 4
    · have hown' := hown.alloc (.cells #[.int .u8 ((x : Int) % 256)] 5)
      have hm1 : len + k + 1 ≤ maxLen := by unfold maxLen; omega
      have hm2 : (len + k + 1) * 1 ≤ 140737488355328 := by omega
      have hm3 : w.heap.size ≤ (wr.alloc (.cells #[.int .u8 ((x : Int) % 256)] 5)).heap.size := by have := hB.size; simp; omega
      go_wp2_with (at_builtin; refine wpList_append_own _ rfl (.tmp 15) (.tmp 19) 22 rfl w.heap.size 5 i0 (.int .u8 0) 1 1 Try.underlying22 hi hz0 hz1 hz2 rfl (by decide) u3 (len + k) (bv (bs ++ tailN c k)) rfl hown' ⟨wr.heap.size, 0, none⟩ 1 1 [.int .u8 ((x : Int) % 256)] rfl rfl (news_one _ _ _) one_byte hm1 hm2 hm3 ?_; intro v2 w2 hown2 hgrow2 _)
      have hx2 : x / 256 = c >>> (8 * (k + 1)) := by rw [HX.out, Nat.shiftRight_eq_div_pow, Nat.shiftRight_eq_div_pow, Nat.div_div_eq_div_mul, Nat.mul_add, Nat.pow_add]
      have hB2 : Below w.heap.size w w2 := (hB.alloc hB.size _).grown hgrow2 hm3 (fun j hj => (hown.lt j hj).1)
      have e : bv (bs ++ tailN c k) ++ [.int .u8 ((x : Int) % 256)] = bv (bs ++ tailN c (k + 1)) := by
        rw [tailN, ← HX.out, ← List.append_assoc]; simp [bv]
      rw [e] at hown2
      go_roundw
      case rel => first | exact ⟨k + 1, by omega, by go_num, by rw [← hx2]; go_num, hB2, hown2⟩ | ((repeat apply Exists.intro); exact ⟨⟨k + 1, by omega, by go_num, by rw [← hx2]; go_num, hB2, hown2⟩, rfl⟩)
      case measure => simp [intOf]; omega
    · obtain rfl : k = 4 := by omega
      obtain ⟨g, cp, rfl, hbg⟩ := owns_form hown (by omega)
      go_wp2_with fail
      go_ret
      exact ⟨g, cp, rfl, hbg, hB, by rw [HC.out]; exact hown⟩
theorem refOpen15_short (a : Option Addr) (len cap : Nat) (w : World) (h : len < 4) :
    Calls Try.prog 15 #[.slice a len cap] w fun e w' => e = .returned (.tuple #[.slice none 0 0, .int .i64 3]) ∧ w' = w := by
  go_enter Try.func15, Try.ntmps15
  go_wp2
  go_ret2
  exact ⟨rfl, rfl⟩
theorem sealed_good {bs : List Nat} (h : 4 ≤ bs.length) : decide (sealed (bs.take (bs.length - 4)) = bs) = goodB bs := by
  unfold goodB
  rw [decide_eq_decide]
  have e : bs.take (bs.length - 4) ++ bs.drop (bs.length - 4) = bs := List.take_append_drop _ _
  constructor
  · intro h1
    have h2 : sealed (bs.take (bs.length - 4)) = bs.take (bs.length - 4) ++ bs.drop (bs.length - 4) := by rw [e]; exact h1
    exact (List.append_cancel_left h2).symm
  · intro h1
    unfold sealed
    rw [← h1, e]
theorem run_neqStrO {ρ : Operand → Value} {x y : Operand} {w : World} {s t : ByteArray} {o : Oper} (ho : o.op = .binOp .neq 9 x y 9) (hx : ρ x = .string s) (hy : ρ y = .string t) : (execOp ρ o).run Try.prog w = .ok (.value (.bool (!(s.toList == t.toList)))) w := by
  simp [execOp, ho, hx, hy, go_sem]
theorem refOpen15 (a : Option Addr) (len cap : Nat) (bs : List Nat) (w : World) (hlen0 : bs.length = len) (h4l : 4 ≤ len) (hcap : len ≤ cap) (hcap2 : cap ≤ 9223372036854775807) (hl4 : len ≤ 2000) (hb : ∀ j, bs.getD j 0 < 256) (hv : View w a bs) :
    Calls Try.prog 15 #[.slice a len cap] w fun e w' => Below w.heap.size w w' ∧
      ((goodB bs = false ∧ e = .returned (.tuple #[.slice none 0 0, .int .i64 5])) ∨
       (goodB bs = true ∧ e = .returned (.tuple #[.slice a (len - 4) cap, .int .i64 0]))) := by
  obtain ⟨n, hn⟩ : ∃ n, n = len - 4 := ⟨_, rfl⟩
  rw [← hn]
  have hlen : Hid (bs.length = len) := hlen0
  have HN : Hid (n + 4 = len) := by show n + 4 = len; omega
  have hnl : n ≤ len := by omega
  have hI : (len : Int) - 4 = (n : Int) := by omega
  have htl : (bs.take n).length = n := by rw [List.length_take, hlen0]; omega
  have hvc : View w (cutA a 0 cap) (bs.take n) := by
    have := hv.cut 0 n cap (by omega) (by omega)
    rwa [List.drop_zero] at this
  have hT := refSeal13 (cutA a 0 cap) n cap (bs.take n) w.drew htl (by omega) hcap2 (by omega) (take_lt n hb) (hvc.below (Below.refl _ _).drew)
  clear hvc
  have HG : Hid (goodB bs = decide (sealed (bs.take n) = bs)) := by
    show goodB bs = _
    rw [← sealed_good (by omega), hlen0, ← hn]
  have hs0 := fun w1 (h : Below w.heap.size w w1) => toString_view (cap := cap) hlen0 (hv.below h)
  clear hlen0 hn htl
  go_enter Try.func15, Try.ntmps15
  go_wp2_with fail
  have hS0 : Below w.heap.size w w.drew := (Below.refl _ _).drew
  refine wp_region_held (S := fun w' => Below w.heap.size w w') (by kernel_rfl) ?_
  show wpAnyH _ _ _ _ _ 8 (Array.replicate 8 false) _ w.drew
  refine take_at (i := 0) (some 10) _ rfl rfl (by kernel_rfl) (by kernel_rfl) (by kernel_rfl) (fun _ _ _ h => h) (yields_move rfl (.tmp 0) rfl) hS0 ?_
  simp only [Act.put, List.setIfInBounds_toArray, List.set_cons_succ, List.set_cons_zero]
  refine take_at (i := 1) (some 11) _ rfl rfl (by kernel_rfl) (by kernel_rfl) (by kernel_rfl) (fun _ _ _ h => h) (yields_move rfl (.tmp 4) rfl) hS0 ?_
  simp only [Act.put, List.setIfInBounds_toArray, List.set_cons_succ, List.set_cons_zero]
  refine take_at (i := 2) (some 12) _ rfl rfl (by kernel_rfl) (by kernel_rfl) (by kernel_rfl) (fun _ _ _ h => h) (yields_run (v := .slice (cutA a 0 cap) n cap) rfl fun w' _ => run_sliceO (run_cut_h a len cap n w' (by omega)) rfl) hS0 ?_
  simp only [Act.put, List.setIfInBounds_toArray, List.set_cons_succ, List.set_cons_zero]
  refine take_at (i := 5) (some 15) _ rfl rfl (by kernel_rfl) (by kernel_rfl) (by kernel_rfl) (fun _ _ _ h => h) (yields_move rfl (.tmp 0) rfl) hS0 ?_
  simp only [Act.put, List.setIfInBounds_toArray, List.set_cons_succ, List.set_cons_zero]
  refine take_at (i := 6) (some 16) _ rfl rfl (by kernel_rfl) (by kernel_rfl) (by kernel_rfl) (fun _ _ _ h => h) (yields_run (v := .string (strOf bs)) rfl fun w' hw' => run_convertO (hs0 w' hw') rfl) hS0 ?_
  simp only [Act.put, List.setIfInBounds_toArray, List.set_cons_succ, List.set_cons_zero]
  refine one_at (i := 3) (by kernel_rfl) ?_
  refine call_at (some 13) rfl rfl rfl 13 #[.slice (cutA a 0 cap) n cap] (R := fun v w' => ∃ g c, v = .slice (some ⟨g, 0, none⟩) (n + 4) c ∧ Below w.heap.size w w' ∧ BytesAt w' g 0 (sealed (bs.take n)) ∧ (sealed (bs.take n)).length = n + 4) (by kernel_rfl) (hT.mono fun e w' h => by
    obtain ⟨g, c, h1, h2, h3, h4⟩ := h
    exact ⟨_, h1, g, c, rfl, hS0.trans h3, (own_view h4).2, (own_view h4).1⟩) ?_
  rintro v4 w4 ⟨g, c, rfl, hb4, hv4, hl4'⟩
  refine ⟨hb4, ?_⟩
  simp only [Act.put, List.setIfInBounds_toArray, List.set_cons_succ, List.set_cons_zero]
  refine one_at (i := 4) (by kernel_rfl) ?_
  refine run_at (some 14) (.string (strOf (sealed (bs.take n)))) rfl rfl rfl (run_convertO (toString_view (cap := c) hl4' (fun _ => ⟨g, 0, rfl, hv4⟩)) rfl) ?_
  refine ⟨hb4, ?_⟩
  simp only [Act.put, List.setIfInBounds_toArray, List.set_cons_succ, List.set_cons_zero]
  have he := strOf_eq (sealed_lt (take_lt n hb)) hb
  rw [← HG.out] at he
  refine one_at (i := 7) (by kernel_rfl) ?_
  refine run_at (some 17) (.bool (!goodB bs)) rfl rfl rfl ?c7 ?_
  case c7 => rw [← he]; exact run_neqStrO (x := .tmp 14) (y := .tmp 16) rfl rfl rfl
  refine ⟨hb4, wpAnyH_done (by kernel_rfl) ?_ _⟩
  simp only [Act.put, List.setIfInBounds_toArray, List.set_cons_succ, List.set_cons_zero]
  clear hT hs0 he hv4 hl4'
  by_cases hg : goodB bs = true
  · rw [hg]
    go_wp2
    go_ret2
    exact ⟨hb4, .inr ⟨hg, rfl⟩⟩
  · have hg' : goodB bs = false := by simpa using hg
    rw [hg']
    go_wp2
    go_ret2
    exact ⟨hb4, .inl ⟨hg', rfl⟩⟩
end Go.Proofs.Ytjnoohhjnnafcaa
