/-
  append(nil, data...), the data wherever they lie (nil too).
-/
import Derived.Test.YtomfnkbghlpkeaaDoorRQ
import Derived.Test.YtomfnkbghlpkeaaDoorG64
set_option linter.unusedVariables false
namespace Go.Proofs.YtomfnkbghlpkeaaDoor
open Go.RowKit Go.Sort Go.BigFrame
theorem bv_one {l : List Nat} : ∀ u ∈ bv l, u.oneCell' = true := fun u hu => by
  obtain ⟨x, _, rfl⟩ := List.mem_map.1 hu; rfl
theorem news_view {w : World} {p : Addr} {bs : List Nat} (h : View w (some p) bs) : ∀ (j : Nat) u, (bv bs)[j]? = some u → w.cell? (p.add j) = some u := by
  intro j u hj
  have hj' : j < bs.length := by
    by_cases h : j < bs.length
    · exact h
    · rw [List.getElem?_eq_none (by simp [bv]; omega)] at hj; cases hj
  obtain ⟨b, off, e, hc⟩ := h (by omega)
  injection e with e
  rw [e, Addr.add_mid, hc j hj', ← hj]
  simp [bv, hj']
theorem wpList_append_data (w : World) {ops : Array Oper} {rest : List Oper} {o : Oper} {a : Act} {Q : Exit → Act → World → Prop} (hgd : o.guard = none) (s x : Operand)
    (ho : o.op = .call { callee := .builtin .append, args := #[s, x], argTypes := #[22, 22] }) (hs : a.eval s = .slice none 0 0) (ad : Option Addr) (len cap : Nat) (bs : List Nat) (hx : a.eval x = .slice ad len cap)
    (hlen : bs.length = len) (hv : View w ad bs) (base : Nat) (hbase : base ≤ w.heap.size) (hb : len ≤ 100000000000000)
    (h : ∀ v' w', w'.ownsRow base 5 1 v' len (bv bs) → w.grownBy w' none → wpList Tryd.prog ops Q rest (a.put o.dst v') w') : wpList Tryd.prog ops Q (o :: rest) a w := by
  have h5i : (Tryd.prog.info? 5).map (fun i => (i.zero, i.size, i.bytes)) = some (some (.int .u8 0), 1, 1) := by kernel_rfl
  obtain ⟨i0, hi, hz0, hz1, hz2⟩ := info_parts h5i
  cases ad with
  | some p =>
    refine wpList_append_own w hgd s x 22 ho base 5 i0 (.int .u8 0) 1 1 Tryd.underlying22 hi hz0 hz1 hz2 rfl (by decide) (.slice none 0 0) 0 [] hs (World.ownsRow_nil _ _ _ _) p len cap (bv bs) hx (by simp [bv, hlen]) (news_view hv) bv_one (by unfold maxLen; omega) (by omega) hbase ?_
    intro v' w' h1 h2 _
    refine h v' w' ?_ h2
    rw [Nat.zero_add, List.nil_append] at h1
    exact h1
  | none =>
    have hb0 : bs = [] := by
      by_cases hp : 0 < bs.length
      · obtain ⟨b, off, e, _⟩ := hv hp; cases e
      · exact List.eq_nil_of_length_eq_zero (by omega)
    subst hb0
    obtain rfl : len = 0 := hlen.symm
    have hr : (Builtin.append_ #[22, 22] o.type #[.slice none 0 0, .slice none 0 cap]).run Tryd.prog w = .ok (.slice none 0 0) w := by kernel_rfl
    refine wpList_plain hgd fun K hK => ?_
    unfold Oper.wp execOp
    simp only [ho, resolve, invoke, builtin, Sem.run_bind, Sem.run_pure, Result.andThen_ok, List.map_toArray, List.map_cons, List.map_nil, hs, hx, hr]
    exact hK _ _ (h _ _ (World.ownsRow_nil _ _ _ _) ⟨rfl, rfl, rfl, Nat.le_refl _, fun _ _ _ => rfl⟩)
end Go.Proofs.YtomfnkbghlpkeaaDoor
