/-
  A region that draws its order, by what each operation yields: one step for each operation, whatever the order; then a tail of forced order.
-/
import Derived.Test.YtpfcboakafbnlaaDoorQTail
import Derived.Deep.MidRow
set_option linter.unusedVariables false
namespace Go.Proofs.YtpfcboakafbnlaaDoor
open Go.RowKit Go.Sort
section
variable {P : Program}
/-- An operation ends with a value and a world that R allows. -/
def Does (P : Program) (o : Oper) (ρ : Operand → Value) (w : World) (R : Value → World → Prop) : Prop :=
  (∃ v w', (execOp ρ o).run P w = .ok (.value v) w' ∧ R v w') ∨ (∃ f args, (execOp ρ o).run P w = .ok (.enter f args) w ∧ Calls P f args w fun e w' => ∃ v, e = .returned v ∧ R v w')
theorem Does.wp {o : Oper} {a : Act} {w : World} {R : Value → World → Prop} {K : Act → World → Prop} {Q : Exit → Act → World → Prop} (h : Does P o a.eval w R) (hk : ∀ v w', R v w' → K (a.put o.dst v) w') : o.wp P a w K Q := by
  unfold Oper.wp
  rcases h with ⟨v, w', hr, hR⟩ | ⟨f, args, hr, hc⟩
  · rw [hr]; exact hk v w' hR
  · rw [hr]
    exact hc.mono fun e w' ⟨v, he, hR⟩ => by subst he; exact hk v w' hR
def upd {α : Type} (f : Nat → α) (i : Nat) (v : α) : Nat → α := fun j => if j = i then v else f j
theorem upd_same {α : Type} (f : Nat → α) (i : Nat) (v : α) : upd f i v i = v := by simp [upd]
theorem upd_ne {α : Type} (f : Nat → α) {i j : Nat} (v : α) (h : j ≠ i) : upd f i v j = f j := by simp [upd, h]
def acts (vs : Nat → Value) (ls : Nat → Bool) : List Oper → Nat → Act → Act
  | [], _, a => a
  | o :: l, k, a => acts vs ls l (k + 1) (if ls k = true then a.put o.dst (vs k) else a)
def dsB (m : Nat) : List Oper → Bool
  | [] => true
  | o :: l => (match o.dst with | some d => decide (d < m) && l.all (fun o' => o'.dst != some d) | none => false) && dsB m l
theorem acts_congr {vs vs' : Nat → Value} {ls ls' : Nat → Bool} : ∀ (l : List Oper) (k : Nat) (a : Act), (∀ j, k ≤ j → vs j = vs' j ∧ ls j = ls' j) → acts vs ls l k a = acts vs' ls' l k a
  | [], _, _, _ => rfl
  | o :: l, k, a, h => by
    unfold acts
    rw [(h k (Nat.le_refl _)).1, (h k (Nat.le_refl _)).2]
    exact acts_congr l (k + 1) _ fun j hj => h j (by omega)
theorem put_comm (a : Act) {d e : Nat} (h : d ≠ e) (v x : Value) : (a.put (some d) v).put (some e) x = (a.put (some e) x).put (some d) v := by
  simp only [Act.put]
  rw [Array.setIfInBounds_comm _ _ h]
theorem acts_put {vs : Nat → Value} {ls : Nat → Bool} {d : Nat} {v : Value} {m : Nat} : ∀ (l : List Oper) (k : Nat) (a : Act), dsB m l = true → l.all (fun o' => o'.dst != some d) = true → (acts vs ls l k a).put (some d) v = acts vs ls l k (a.put (some d) v)
  | [], _, _, _, _ => rfl
  | o :: l, k, a, hm, h => by
    unfold dsB at hm
    rw [Bool.and_eq_true] at hm
    rw [List.all_cons, Bool.and_eq_true] at h
    unfold acts
    rw [acts_put l (k + 1) _ hm.2 h.2]
    congr 1
    split
    · cases ho : o.dst with
      | none => simp [ho] at hm
      | some e =>
        have : e ≠ d := by
          intro he
          have h1 := h.1
          simp [ho, he] at h1
        exact put_comm a this _ _
    · rfl
theorem acts_set {vs : Nat → Value} {ls : Nat → Bool} {v : Value} {m : Nat} : ∀ (l : List Oper) (k i : Nat) (a : Act) (o : Oper), dsB m l = true → l[i]? = some o → ls (k + i) = false →
    (acts vs ls l k a).put o.dst v = acts (upd vs (k + i) v) (upd ls (k + i) true) l k a
  | [], _, _, _, _, _, h, _ => by simp at h
  | o' :: l, k, 0, a, o, hm, h, hl => by
    obtain rfl : o' = o := by simpa using h
    unfold dsB at hm
    rw [Bool.and_eq_true] at hm
    rw [Nat.add_zero] at hl ⊢
    unfold acts
    rw [hl, upd_same, upd_same]
    cases ho : o'.dst with
    | none => simp [ho] at hm
    | some e =>
      simp only [ho, Bool.and_eq_true] at hm
      simp only [if_true, Bool.false_eq_true, if_false]
      rw [acts_put l (k + 1) _ hm.2 hm.1.2]
      exact acts_congr l (k + 1) _ fun j hj => ⟨(upd_ne _ _ (by omega)).symm, (upd_ne _ _ (by omega)).symm⟩
  | o' :: l, k, i + 1, a, o, hm, h, hl => by
    unfold dsB at hm
    rw [Bool.and_eq_true] at hm
    unfold acts
    rw [upd_ne _ _ (by omega), upd_ne _ _ (by omega), show k + (i + 1) = k + 1 + i by omega] at *
    exact acts_set l (k + 1) i _ o hm.2 (by simpa using h) hl
theorem put_size (a : Act) (d : Option Nat) (v : Value) : (a.put d v).tmps.size = a.tmps.size := by cases d <;> simp [Act.put]
theorem acts_size {vs : Nat → Value} {ls : Nat → Bool} : ∀ (l : List Oper) (k : Nat) (a : Act), (acts vs ls l k a).tmps.size = a.tmps.size
  | [], _, _ => rfl
  | o :: l, k, a => by
    unfold acts
    rw [acts_size l]
    split
    · exact put_size _ _ _
    · rfl
theorem acts_other {vs : Nat → Value} {ls : Nat → Bool} {s : Nat} : ∀ (l : List Oper) (k : Nat) (a : Act), l.all (fun o' => o'.dst != some s) = true → (acts vs ls l k a).tmps[s]? = a.tmps[s]?
  | [], _, _, _ => rfl
  | o :: l, k, a, h => by
    rw [List.all_cons, Bool.and_eq_true] at h
    unfold acts
    rw [acts_other l (k + 1) _ h.2]
    split
    · cases ho : o.dst with
      | none => rfl
      | some e =>
        have he : e ≠ s := by
          intro he
          have h1 := h.1
          simp [ho, he] at h1
        simp only [Act.put]
        rw [Array.getElem?_setIfInBounds_ne he]
    · rfl
theorem acts_at {vs : Nat → Value} {ls : Nat → Bool} {m d : Nat} : ∀ (l : List Oper) (k i : Nat) (a : Act) (o : Oper), a.tmps.size = m → dsB m l = true → l[i]? = some o → o.dst = some d → ls (k + i) = true →
    (acts vs ls l k a).tmps[d]? = some (vs (k + i))
  | [], _, _, _, _, _, _, h, _, _ => by simp at h
  | o' :: l, k, 0, a, o, hs, hm, h, hd, hl => by
    obtain rfl : o' = o := by simpa using h
    unfold dsB at hm
    rw [Bool.and_eq_true] at hm
    rw [Nat.add_zero] at hl ⊢
    simp only [hd, Bool.and_eq_true, decide_eq_true_eq] at hm
    unfold acts
    rw [acts_other l (k + 1) _ hm.1.2, if_pos hl, hd]
    simp only [Act.put]
    rw [Array.getElem?_setIfInBounds_self_of_lt (by rw [hs]; exact hm.1.1)]
  | o' :: l, k, i + 1, a, o, hs, hm, h, hd, hl => by
    unfold dsB at hm
    rw [Bool.and_eq_true] at hm
    unfold acts
    rw [show k + (i + 1) = k + 1 + i by omega] at *
    refine acts_at l (k + 1) i _ o ?_ hm.2 (by simpa using h) hd hl
    split
    · rw [put_size]; exact hs
    · exact hs
/- counting -/
def cnt : Nat → (Nat → Bool) → Nat
  | 0, _ => 0
  | n + 1, p => cnt n p + (if p n = true then 0 else 1)
theorem cnt_congr : ∀ (n : Nat) {p q : Nat → Bool}, (∀ j, j < n → p j = q j) → cnt n p = cnt n q
  | 0, _, _, _ => rfl
  | n + 1, p, q, h => by
    unfold cnt
    rw [cnt_congr n fun j hj => h j (by omega), h n (by omega)]
theorem cnt_set : ∀ (n : Nat) {p : Nat → Bool} {i : Nat}, i < n → p i = false → cnt n (upd p i true) + 1 = cnt n p
  | 0, _, _, h, _ => by omega
  | n + 1, p, i, h, hp => by
    unfold cnt
    by_cases hi : i = n
    · subst hi
      rw [upd_same, hp, cnt_congr i (q := p) fun j hj => upd_ne _ _ (by omega)]
      simp
    · rw [upd_ne _ _ (by omega)]
      have := cnt_set n (p := p) (i := i) (by omega) hp
      omega
theorem cnt_zero : ∀ (n : Nat) {p : Nat → Bool}, cnt n p = 0 → ∀ j, j < n → p j = true
  | 0, _, _, j, h => by omega
  | n + 1, p, h, j, hj => by
    unfold cnt at h
    by_cases hi : j = n
    · subst hi
      cases hp : p j with
      | true => rfl
      | false => rw [hp] at h; simp at h
    · exact cnt_zero n (by omega) j (by omega)
theorem cnt_pos : ∀ (n : Nat) {p : Nat → Bool}, cnt n p ≠ 0 → ∃ j, j < n ∧ p j = false ∧ ∀ k, k < j → p k = true
  | 0, _, h => absurd rfl h
  | n + 1, p, h => by
    by_cases h0 : cnt n p = 0
    · refine ⟨n, by omega, ?_, cnt_zero n h0⟩
      unfold cnt at h
      cases hp : p n with
      | false => rfl
      | true => rw [hp, h0] at h; simp at h
    · obtain ⟨j, h1, h2, h3⟩ := cnt_pos n h0
      exact ⟨j, by omega, h2, h3⟩
theorem cnt_all : ∀ (n : Nat), cnt n (fun _ => false) = n
  | 0 => rfl
  | n + 1 => by unfold cnt; rw [cnt_all n]; simp
def ordB (l : List Oper) : Nat → Bool
  | 0 => true
  | n + 1 => ordB l n && (match l[n]? with | some o => o.after.all (fun e => decide (e.on < n)) | none => false)
theorem ordB_spec {l : List Oper} : ∀ (n : Nat), ordB l n = true → ∀ j, j < n → ∃ o, l[j]? = some o ∧ ∀ e ∈ o.after, e.on < j
  | 0, _, j, h => by omega
  | n + 1, h, j, hj => by
    unfold ordB at h
    rw [Bool.and_eq_true] at h
    by_cases hi : j = n
    · subst hi
      cases ho : l[j]? with
      | none => simp [ho] at h
      | some o =>
        rw [ho] at h
        refine ⟨o, rfl, fun e he => ?_⟩
        have := Array.all_eq_true'.1 h.2 e he
        simpa using this
    · exact ordB_spec n h.1 j (by omega)
def fullB (n s : Nat) : Array Bool := ((List.range s).map fun j => decide (j < n)).toArray
/-- The region may be walked so: n operations in any order, then the others in theirs. -/
def headB (l : List Oper) (m n : Nat) : Bool :=
  dsB m (l.take n) && ordB l n && (decide (n = l.length) || (decide (n < l.length) && Region.sinkB .any l.toArray n && Region.chainB .any l.toArray n)) && Region.seqB .any l.toArray (l.length - n) n (fullB n l.length)
def depB (l : List Oper) (k j d : Nat) : Bool :=
  (match l[k]? with | some o => o.after.any (fun e => Region.binds .any e && e.on == j) | none => false) && (match l[j]? with | some o => o.dst == some d | none => false)
def freeB (l : List Oper) (n s : Nat) : Bool := (l.take n).all (fun o' => o'.dst != some s)
def Step (P : Program) (l : List Oper) (V : Nat → Value → World → Prop) (k : Nat) (o : Oper) (a : Act) (w : World) : Prop :=
  (Region.wanted o (yielded l.toArray a.tmps) = true ∧ Does P o a.eval w (fun v w' => Below w.heap.size w w' ∧ V k v w')) ∨ (Region.wanted o (yielded l.toArray a.tmps) = false ∧ V k undef w)
def OpsOK (P : Program) (l : List Oper) (dep : Nat → Nat → Nat → Bool) (n : Nat) (V : Nat → Value → World → Prop) (u : World) (a0 : Act) : List Oper → Nat → Prop
  | [], _ => True
  | o :: r, k => (∀ a w, Below u.heap.size u w → (∀ s, freeB l n s = true → a.eval (.tmp s) = a0.eval (.tmp s)) → (∀ j d, dep k j d = true → V j (a.eval (.tmp d)) w) → Step P l V k o a w) ∧ OpsOK P l dep n V u a0 r (k + 1)
theorem OpsOK.at {l : List Oper} {dep : Nat → Nat → Nat → Bool} {n : Nat} {V : Nat → Value → World → Prop} {u : World} {a0 : Act} : ∀ (r : List Oper) (k i : Nat) (o : Oper), OpsOK P l dep n V u a0 r k → r[i]? = some o →
    ∀ a w, Below u.heap.size u w → (∀ s, freeB l n s = true → a.eval (.tmp s) = a0.eval (.tmp s)) → (∀ j d, dep (k + i) j d = true → V j (a.eval (.tmp d)) w) → Step P l V (k + i) o a w
  | [], _, _, _, _, h => by simp at h
  | o' :: r, k, 0, o, h, ho => by
    obtain rfl : o' = o := by simpa using ho
    exact h.1
  | o' :: r, k, i + 1, o, h, ho => by
    have := OpsOK.at r (k + 1) i o h.2 (by simpa using ho)
    rw [show k + (i + 1) = k + 1 + i by omega]
    exact this
def FinAll (V : Nat → Value → World → Prop) (w : World) (K : Act → Prop) : List Oper → Nat → Act → Prop
  | [], _, a => K a
  | o :: l, k, a => ∀ v, V k v w → FinAll V w K l (k + 1) (a.put o.dst v)
theorem FinAll.acts {V : Nat → Value → World → Prop} {w : World} {K : Act → Prop} {vs : Nat → Value} {ls : Nat → Bool} : ∀ (l : List Oper) (k : Nat) (a : Act), FinAll V w K l k a → (∀ j, j < l.length → ls (k + j) = true ∧ V (k + j) (vs (k + j)) w) → K (acts vs ls l k a)
  | [], _, _, h, _ => h
  | o :: l, k, a, h, hV => by
    have h0 := hV 0 (by simp)
    rw [Nat.add_zero] at h0
    unfold Go.Proofs.YtpfcboakafbnlaaDoor.acts
    rw [if_pos h0.1]
    exact FinAll.acts l (k + 1) _ (h _ h0.2) fun j hj => by
      have := hV (j + 1) (by simp; omega)
      rwa [show k + (j + 1) = k + 1 + j by omega] at this
theorem eval_of {a : Act} {t : Nat} {v : Value} (h : a.tmps[t]? = some v) : a.eval (.tmp t) = v := by
  simp only [Act.eval]
  rw [Array.getD_eq_getD_getElem?, h]; rfl
theorem getD_upd {listed : Array Bool} {i : Nat} (hi : i < listed.size) : (fun j => (listed.setIfInBounds i true).getD j false) = upd (fun j => listed.getD j false) i true := by
  funext j
  by_cases h : j = i
  · subst h
    rw [upd_same, Array.getD_eq_getD_getElem?, Array.getElem?_setIfInBounds_self_of_lt hi]; rfl
  · rw [upd_ne _ _ h, Array.getD_eq_getD_getElem?, Array.getD_eq_getD_getElem?, Array.getElem?_setIfInBounds_ne (Ne.symm h)]
theorem any_inv {l : List Oper} {n : Nat} {V : Nat → Value → World → Prop} {u : World} {a0 : Act} {Q : Exit → Act → World → Prop} (hst : ∀ j v w w', Below w.heap.size w w' → V j v w → V j v w')
    (hB : headB l a0.tmps.size n = true) (hop : OpsOK P l (depB l) n V u a0 (l.take n) 0) (hfin : ∀ w, Below u.heap.size u w → FinAll V w (fun a => wpList P l.toArray Q (l.drop n) a w) (l.take n) 0 a0) :
    ∀ (f : Nat) (listed : Array Bool) (a : Act) (w : World), cnt n (fun j => listed.getD j false) = f → HeadInv .any l.toArray n listed → Below u.heap.size u w →
      (∃ vs, a = acts vs (fun j => listed.getD j false) (l.take n) 0 a0 ∧ ∀ j, j < n → listed.getD j false = true → V j (vs j) w) → wpAny P .any l.toArray Q (f + (l.length - n)) listed a w := by
  simp only [headB, Bool.and_eq_true, Bool.or_eq_true, decide_eq_true_eq] at hB
  obtain ⟨⟨⟨hds, hord⟩, htl⟩, hseq⟩ := hB
  have hnl : n ≤ l.length := by rcases htl with h | h <;> omega
  have htk : (l.take n).length = n := by simp; omega
  intro f
  induction f with
  | zero =>
    intro listed a w hc inv hw ⟨vs, ha, hV⟩
    have hall := cnt_zero n hc
    have hfull : listed = fullB n l.length := by
      apply Array.ext
      · rw [inv.size]; simp [fullB]
      · intro i h1 h2
        have hsz := inv.size
        simp only [List.size_toArray] at hsz
        simp only [fullB, List.getElem_toArray, List.getElem_map, List.getElem_range]
        by_cases hi : i < n
        · have := hall i hi
          simp only [Array.getD_eq_getD_getElem?, Array.getElem?_eq_getElem h1, Option.getD_some] at this
          rw [this]; simp [hi]
        · have := inv.tail i (by omega) (by simp; omega)
          simp only [Array.getD_eq_getD_getElem?, Array.getElem?_eq_getElem h1, Option.getD_some] at this
          rw [this]; simp [hi]
    have hK := (hfin w hw).acts (vs := vs) (ls := fun j => listed.getD j false) (l.take n) 0 a0 fun j hj => by
      rw [htk] at hj
      rw [Nat.zero_add]
      exact ⟨hall j hj, hV j hj (hall j hj)⟩
    rw [← ha] at hK
    have := wpAny_of_seq (md := .any) (Q' := Q) (l.drop n) n listed a w (fun j => by simp [List.getElem?_drop]) (by rw [hfull, List.length_drop]; exact hseq) hK
    rw [List.length_drop] at this
    rw [Nat.zero_add]; exact this
  | succ f ih =>
    intro listed a w hc inv hw ⟨vs, ha, hV⟩
    obtain ⟨j0, hj0, hun, hbefore⟩ := cnt_pos n (p := fun j => listed.getD j false) (by omega)
    have hsz := inv.size
    simp only [List.size_toArray] at hsz
    rw [show f + 1 + (l.length - n) = (f + (l.length - n)) + 1 by omega]
    refine ⟨fun h0 => ?_, fun i hi => ?_⟩
    · obtain ⟨o, ho, hbe⟩ := ordB_spec n hord j0 hj0
      have : j0 ∈ Region.ready .any l.toArray listed := mem_ready.2 ⟨getD_in (by omega) hun, o, by simpa using ho, fun e he _ => hbefore e.on (hbe e he)⟩
      rw [h0] at this; cases this
    · have hin : i < n := by
        rcases htl with h | h
        · obtain ⟨_, o, ho, _⟩ := mem_ready.1 hi
          have := (Array.getElem?_eq_some_iff.1 ho).1
          simp only [List.size_toArray] at this
          omega
        · exact Nat.lt_of_not_le fun hge => tail_waits h.1.2 h.2 (by simp; exact h.1.1) inv _ j0 rfl hj0 (getD_in (by omega) hun) i hge hi
      obtain ⟨hiu, o, ho, hdep⟩ := mem_ready.1 hi
      have hol : l[i]? = some o := by simpa using ho
      have hot : (l.take n)[i]? = some o := by rw [List.getElem?_take_of_lt hin]; exact hol
      have hS := hop.at (l.take n) 0 i o hot a w hw (fun s hs => by
        have := acts_other (vs := vs) (ls := fun j => listed.getD j false) (l.take n) 0 a0 hs
        rw [← ha] at this
        simp only [Act.eval, Array.getD_eq_getD_getElem?, this]) (fun j d hjd => by
        rw [Nat.zero_add] at hjd
        simp only [depB, hol, Bool.and_eq_true] at hjd
        obtain ⟨e, he, hb⟩ := Array.any_eq_true'.1 hjd.1
        simp only [Bool.and_eq_true, beq_iff_eq] at hb
        cases hoj : l[j]? with
        | none => simp [hoj] at hjd
        | some oj =>
          have hjd2 : oj.dst = some d := by simpa [hoj] using hjd.2
          have hjl : listed.getD j false = true := by rw [← hb.2]; exact hdep e he hb.1
          obtain ⟨o2, ho2, hbe⟩ := ordB_spec n hord i hin
          obtain rfl : o2 = o := Option.some.inj (ho2.symm.trans hol)
          have hji : j < i := by rw [← hb.2]; exact hbe e he
          have hjt : (l.take n)[j]? = some oj := by rw [List.getElem?_take_of_lt (by omega)]; exact hoj
          have hat := acts_at (vs := vs) (ls := fun j => listed.getD j false) (l.take n) 0 j a0 oj rfl hds hjt hjd2 (by rw [Nat.zero_add]; exact hjl)
          rw [← ha, Nat.zero_add] at hat
          rw [eval_of hat]
          exact hV j (by omega) hjl)
      rw [Nat.zero_add] at hS
      have next : ∀ v w', Below w.heap.size w w' → V i v w' → wpAny P .any l.toArray Q (f + (l.length - n)) (listed.setIfInBounds i true) (a.put o.dst v) w' := fun v w' hb hv => by
        have hil : i < listed.size := by omega
        have hif : listed.getD i false = false := getD_both hiu
        refine ih _ _ w' ?_ (inv.set hi hin) (hw.trans (hb.mono hw.size)) ⟨upd vs i v, ?_, fun j hj hjl => ?_⟩
        · rw [getD_upd hil]
          have := cnt_set n (p := fun j => listed.getD j false) hin hif
          omega
        · rw [ha, getD_upd hil]
          have := acts_set (vs := vs) (ls := fun j => listed.getD j false) (v := v) (l.take n) 0 i a0 o hds hot (by rw [Nat.zero_add]; exact hif)
          rw [Nat.zero_add] at this
          exact this
        · by_cases hji : j = i
          · subst hji; rw [upd_same]; exact hv
          · rw [upd_ne _ _ hji]
            have h2 := congrFun (getD_upd hil) j
            simp only [hjl] at h2
            rw [upd_ne _ _ hji] at h2
            exact hst j _ w w' hb (hV j hj h2.symm)
      unfold wpOp
      simp only [ho]
      rcases hS with ⟨hwt, hD⟩ | ⟨hwt, hu⟩
      · rw [if_pos hwt]
        exact .inl (hD.wp fun v w' h => next v w' h.1 h.2)
      · rw [if_neg (by rw [hwt]; decide)]
        exact next _ w (Below.refl _ _) hu
theorem wp_region_inv {id : Nat} {l : List Oper} {Q : Exit → Act → World → Prop} {a0 : Act} {u : World} (n : Nat) (V : Nat → Value → World → Prop) (hm : P.follows .mixedOrders = true) (hst : ∀ j v w w', Below w.heap.size w w' → V j v w → V j v w')
    (hB : headB l a0.tmps.size n = true) (hop : OpsOK P l (depB l) n V u a0 (l.take n) 0) (hfin : ∀ w, Below u.heap.size u w → FinAll V w (fun a => wpList P l.toArray Q (l.drop n) a w) (l.take n) 0 a0) : (Code.region id l.toArray true).wp P Q a0 u := by
  refine wp_region_any hm ?_
  have hnl : n ≤ l.length := by
    simp only [headB, Bool.and_eq_true, Bool.or_eq_true, decide_eq_true_eq] at hB
    rcases hB.1.2 with h | h <;> omega
  have inv0 : HeadInv .any l.toArray n (Array.replicate l.toArray.size false) :=
    ⟨by simp, fun j oj _ hl => (by rw [getD_replicate_false] at hl; cases hl), fun t _ ht => getD_in (by simpa using ht) (getD_replicate_false _ _)⟩
  have h0 : (fun j => (Array.replicate l.toArray.size false).getD j false) = fun _ => false := funext fun j => getD_replicate_false _ _
  have a00 : ∀ (r : List Oper) (k : Nat) (a : Act), acts (fun _ => undef) (fun _ => false) r k a = a := by
    intro r
    induction r with
    | nil => intro k a; rfl
    | cons o r ih => intro k a; unfold acts; simp only [Bool.false_eq_true, if_false]; exact ih _ _
  have := any_inv hst hB hop hfin n (Array.replicate l.toArray.size false) a0 { u with drawn := u.drawn + 1 } (by rw [h0, cnt_all]) inv0 (Below.refl _ _).drew ⟨fun _ => undef, by rw [h0, a00], fun j _ h => by rw [getD_replicate_false] at h; cases h⟩
  rw [show n + (l.length - n) = l.toArray.size by simp; omega] at this
  exact this
/- the same where two operations lay blocks: these are two -/
def newPtr (w : World) : Value := .pointer (some ⟨w.heap.size, 0, none⟩)
def Apart (v v' : Value) : Prop := ∀ g g', v = .pointer (some ⟨g, 0, none⟩) → v' = .pointer (some ⟨g', 0, none⟩) → g ≠ g'
theorem Does.more {o : Oper} {ρ : Operand → Value} {w : World} {R : Value → World → Prop} (h : Does P o ρ w R) (E : Value → World → Prop)
    (he : ∀ v w', ((execOp ρ o).run P w = .ok (.value v) w' ∨ ∃ f args, (execOp ρ o).run P w = .ok (.enter f args) w) → E v w') : Does P o ρ w (fun v w' => R v w' ∧ E v w') := by
  rcases h with ⟨v, w', hr, hR⟩ | ⟨f, args, hr, hc⟩
  · exact .inl ⟨v, w', hr, hR, he v w' (.inl hr)⟩
  · exact .inr ⟨f, args, hr, hc.mono fun e w' ⟨v, h1, h2⟩ => ⟨v, h1, h2, he v w' (.inr ⟨f, args, hr⟩)⟩⟩
theorem any_inv2 {pi pj di dj : Nat} {l : List Oper} {n : Nat} {V : Nat → Value → World → Prop} {u : World} {a0 : Act} {Q : Exit → Act → World → Prop} (hst : ∀ j v w w', Below w.heap.size w w' → V j v w → V j v w')
    (hB : headB l a0.tmps.size n = true) (hop : OpsOK P l (depB l) n V u a0 (l.take n) 0) (hne : pi ≠ pj) (hpi : pi < n) (hpj : pj < n) (hal : ∀ i, i = pi ∨ i = pj → ∃ o ob, l[i]? = some o ∧ ∀ ρ w, (execOp ρ o).run P w = .ok (.value (newPtr w)) (World.alloc w ob)) (hap : ∀ i, i = pi ∨ i = pj → ∀ v w g, V i v w → v = .pointer (some ⟨g, 0, none⟩) → g < w.heap.size)
    (hguard : ∀ i o, (i = pi ∨ i = pj) → l[i]? = some o → o.guard = none) (hdi : (l[pi]?).bind (·.dst) = some di) (hdj : (l[pj]?).bind (·.dst) = some dj)
    (hfin : ∀ w, Below u.heap.size u w → FinAll V w (fun a => (∀ g g', a.eval (.tmp di) = .pointer (some ⟨g, 0, none⟩) → a.eval (.tmp dj) = .pointer (some ⟨g', 0, none⟩) → g ≠ g') → wpList P l.toArray Q (l.drop n) a w) (l.take n) 0 a0) :
    ∀ (f : Nat) (listed : Array Bool) (a : Act) (w : World), cnt n (fun j => listed.getD j false) = f → HeadInv .any l.toArray n listed → Below u.heap.size u w →
      (∃ vs, a = acts vs (fun j => listed.getD j false) (l.take n) 0 a0 ∧ (∀ j, j < n → listed.getD j false = true → V j (vs j) w) ∧ (listed.getD pi false = true → listed.getD pj false = true → Apart (vs pi) (vs pj))) → wpAny P .any l.toArray Q (f + (l.length - n)) listed a w := by
  simp only [headB, Bool.and_eq_true, Bool.or_eq_true, decide_eq_true_eq] at hB
  obtain ⟨⟨⟨hds, hord⟩, htl⟩, hseq⟩ := hB
  have hnl : n ≤ l.length := by rcases htl with h | h <;> omega
  have htk : (l.take n).length = n := by simp; omega
  intro f
  induction f with
  | zero =>
    intro listed a w hc inv hw ⟨vs, ha, hV, hpr⟩
    have hall := cnt_zero n hc
    have hfull : listed = fullB n l.length := by
      apply Array.ext
      · rw [inv.size]; simp [fullB]
      · intro i h1 h2
        have hsz := inv.size
        simp only [List.size_toArray] at hsz
        simp only [fullB, List.getElem_toArray, List.getElem_map, List.getElem_range]
        by_cases hi : i < n
        · have := hall i hi
          simp only [Array.getD_eq_getD_getElem?, Array.getElem?_eq_getElem h1, Option.getD_some] at this
          rw [this]; simp [hi]
        · have := inv.tail i (by omega) (by simp; omega)
          simp only [Array.getD_eq_getD_getElem?, Array.getElem?_eq_getElem h1, Option.getD_some] at this
          rw [this]; simp [hi]
    have hK := (hfin w hw).acts (vs := vs) (ls := fun j => listed.getD j false) (l.take n) 0 a0 fun j hj => by
      rw [htk] at hj
      rw [Nat.zero_add]
      exact ⟨hall j hj, hV j hj (hall j hj)⟩
    rw [← ha] at hK
    have at1 : ∀ p d, p < n → (l[p]?).bind (·.dst) = some d → a.eval (.tmp d) = vs p := fun p d hp hd => by
      cases hop : l[p]? with
      | none => simp [hop] at hd
      | some op =>
        have hd2 : op.dst = some d := by simpa [hop] using hd
        have hjt : (l.take n)[p]? = some op := by rw [List.getElem?_take_of_lt hp]; exact hop
        have hat := acts_at (vs := vs) (ls := fun j => listed.getD j false) (l.take n) 0 p a0 op rfl hds hjt hd2 (by rw [Nat.zero_add]; exact hall p hp)
        rw [← ha, Nat.zero_add] at hat
        exact eval_of hat
    replace hK := hK (fun g g' h1 h2 => hpr (hall pi hpi) (hall pj hpj) g g' (by rw [← at1 pi di hpi hdi]; exact h1) (by rw [← at1 pj dj hpj hdj]; exact h2))
    have := wpAny_of_seq (md := .any) (Q' := Q) (l.drop n) n listed a w (fun j => by simp [List.getElem?_drop]) (by rw [hfull, List.length_drop]; exact hseq) hK
    rw [List.length_drop] at this
    rw [Nat.zero_add]; exact this
  | succ f ih =>
    intro listed a w hc inv hw ⟨vs, ha, hV, hpr⟩
    obtain ⟨j0, hj0, hun, hbefore⟩ := cnt_pos n (p := fun j => listed.getD j false) (by omega)
    have hsz := inv.size
    simp only [List.size_toArray] at hsz
    rw [show f + 1 + (l.length - n) = (f + (l.length - n)) + 1 by omega]
    refine ⟨fun h0 => ?_, fun i hi => ?_⟩
    · obtain ⟨o, ho, hbe⟩ := ordB_spec n hord j0 hj0
      have : j0 ∈ Region.ready .any l.toArray listed := mem_ready.2 ⟨getD_in (by omega) hun, o, by simpa using ho, fun e he _ => hbefore e.on (hbe e he)⟩
      rw [h0] at this; cases this
    · have hin : i < n := by
        rcases htl with h | h
        · obtain ⟨_, o, ho, _⟩ := mem_ready.1 hi
          have := (Array.getElem?_eq_some_iff.1 ho).1
          simp only [List.size_toArray] at this
          omega
        · exact Nat.lt_of_not_le fun hge => tail_waits h.1.2 h.2 (by simp; exact h.1.1) inv _ j0 rfl hj0 (getD_in (by omega) hun) i hge hi
      obtain ⟨hiu, o, ho, hdep⟩ := mem_ready.1 hi
      have hol : l[i]? = some o := by simpa using ho
      have hot : (l.take n)[i]? = some o := by rw [List.getElem?_take_of_lt hin]; exact hol
      have hS := hop.at (l.take n) 0 i o hot a w hw (fun s hs => by
        have := acts_other (vs := vs) (ls := fun j => listed.getD j false) (l.take n) 0 a0 hs
        rw [← ha] at this
        simp only [Act.eval, Array.getD_eq_getD_getElem?, this]) (fun j d hjd => by
        rw [Nat.zero_add] at hjd
        simp only [depB, hol, Bool.and_eq_true] at hjd
        obtain ⟨e, he, hb⟩ := Array.any_eq_true'.1 hjd.1
        simp only [Bool.and_eq_true, beq_iff_eq] at hb
        cases hoj : l[j]? with
        | none => simp [hoj] at hjd
        | some oj =>
          have hjd2 : oj.dst = some d := by simpa [hoj] using hjd.2
          have hjl : listed.getD j false = true := by rw [← hb.2]; exact hdep e he hb.1
          obtain ⟨o2, ho2, hbe⟩ := ordB_spec n hord i hin
          obtain rfl : o2 = o := Option.some.inj (ho2.symm.trans hol)
          have hji : j < i := by rw [← hb.2]; exact hbe e he
          have hjt : (l.take n)[j]? = some oj := by rw [List.getElem?_take_of_lt (by omega)]; exact hoj
          have hat := acts_at (vs := vs) (ls := fun j => listed.getD j false) (l.take n) 0 j a0 oj rfl hds hjt hjd2 (by rw [Nat.zero_add]; exact hjl)
          rw [← ha, Nat.zero_add] at hat
          rw [eval_of hat]
          exact hV j (by omega) hjl)
      rw [Nat.zero_add] at hS
      have next : ∀ v w', Below w.heap.size w w' → V i v w' → ((i = pi ∨ i = pj) → v = newPtr w) → wpAny P .any l.toArray Q (f + (l.length - n)) (listed.setIfInBounds i true) (a.put o.dst v) w' := fun v w' hb hv hnw => by
        have hil : i < listed.size := by omega
        have hif : listed.getD i false = false := getD_both hiu
        refine ih _ _ w' ?_ (inv.set hi hin) (hw.trans (hb.mono hw.size)) ⟨upd vs i v, ?_, fun j hj hjl => ?_, ?_⟩
        · rw [getD_upd hil]
          have := cnt_set n (p := fun j => listed.getD j false) hin hif
          omega
        · rw [ha, getD_upd hil]
          have := acts_set (vs := vs) (ls := fun j => listed.getD j false) (v := v) (l.take n) 0 i a0 o hds hot (by rw [Nat.zero_add]; exact hif)
          rw [Nat.zero_add] at this
          exact this
        · by_cases hji : j = i
          · subst hji; rw [upd_same]; exact hv
          · rw [upd_ne _ _ hji]
            have h2 := congrFun (getD_upd hil) j
            simp only [hjl] at h2
            rw [upd_ne _ _ hji] at h2
            exact hst j _ w w' hb (hV j hj h2.symm)
        · have h2 := getD_upd hil
          rw [congrFun h2 pi, congrFun h2 pj]
          by_cases e1 : i = pi
          · have e2 : pj ≠ i := by omega
            rw [← e1, upd_same, upd_same, upd_ne _ _ e2, upd_ne _ _ e2]
            intro _ hl g g' h3 h4
            have h5 := hap pj (.inr rfl) _ w g' (hV pj hpj hl) h4
            rw [hnw (.inl e1)] at h3
            have h6 : w.heap.size = g := by simpa [newPtr] using h3
            omega
          · by_cases e2 : i = pj
            · have e3 : pi ≠ i := fun h => e1 h.symm
              rw [← e2, upd_same, upd_same, upd_ne _ _ e3, upd_ne _ _ e3]
              intro hl _ g g' h3 h4
              have h5 := hap pi (.inl rfl) _ w g (hV pi hpi hl) h3
              rw [hnw (.inr e2)] at h4
              have h6 : w.heap.size = g' := by simpa [newPtr] using h4
              omega
            · have e3 : pi ≠ i := fun h => e1 h.symm
              have e4 : pj ≠ i := fun h => e2 h.symm
              rw [upd_ne _ _ e3, upd_ne _ _ e3, upd_ne _ _ e4, upd_ne _ _ e4]
              exact hpr
      unfold wpOp
      simp only [ho]
      rcases hS with ⟨hwt, hD⟩ | ⟨hwt, hu⟩
      · rw [if_pos hwt]
        refine .inl ((hD.more (fun v _ => ((i = pi ∨ i = pj) → v = newPtr w)) fun v w' hr hi2 => ?_).wp fun v w' h => next v w' h.1.1 h.1.2 h.2)
        obtain ⟨o2, ob, ho2, hrun⟩ := hal i hi2
        obtain rfl : o2 = o := Option.some.inj (ho2.symm.trans hol)
        rcases hr with hr | ⟨f, args, hr⟩
        · rw [hrun] at hr
          have : newPtr w = v := by injection hr with h1 h2; injection h1
          exact this.symm
        · rw [hrun] at hr
          injection hr with h1 h2; injection h1
      · rw [if_neg (by rw [hwt]; decide)]
        refine next _ w (Below.refl _ _) hu fun hi2 => ?_
        exact absurd (hguard i o hi2 hol) (by simp [Region.wanted] at hwt ⊢; intro hg; rw [hg] at hwt; simp at hwt)
theorem wp_region_inv2 {pi pj di dj : Nat} {id : Nat} {l : List Oper} {Q : Exit → Act → World → Prop} {a0 : Act} {u : World} (n : Nat) (V : Nat → Value → World → Prop) (hm : P.follows .mixedOrders = true) (hst : ∀ j v w w', Below w.heap.size w w' → V j v w → V j v w')
    (hB : headB l a0.tmps.size n = true) (hop : OpsOK P l (depB l) n V u a0 (l.take n) 0) (hne : pi ≠ pj) (hpi : pi < n) (hpj : pj < n) (hal : ∀ i, i = pi ∨ i = pj → ∃ o ob, l[i]? = some o ∧ ∀ ρ w, (execOp ρ o).run P w = .ok (.value (newPtr w)) (World.alloc w ob)) (hap : ∀ i, i = pi ∨ i = pj → ∀ v w g, V i v w → v = .pointer (some ⟨g, 0, none⟩) → g < w.heap.size)
    (hguard : ∀ i o, (i = pi ∨ i = pj) → l[i]? = some o → o.guard = none) (hdi : (l[pi]?).bind (·.dst) = some di) (hdj : (l[pj]?).bind (·.dst) = some dj)
    (hfin : ∀ w, Below u.heap.size u w → FinAll V w (fun a => (∀ g g', a.eval (.tmp di) = .pointer (some ⟨g, 0, none⟩) → a.eval (.tmp dj) = .pointer (some ⟨g', 0, none⟩) → g ≠ g') → wpList P l.toArray Q (l.drop n) a w) (l.take n) 0 a0) : (Code.region id l.toArray true).wp P Q a0 u := by
  refine wp_region_any hm ?_
  have hnl : n ≤ l.length := by
    simp only [headB, Bool.and_eq_true, Bool.or_eq_true, decide_eq_true_eq] at hB
    rcases hB.1.2 with h | h <;> omega
  have inv0 : HeadInv .any l.toArray n (Array.replicate l.toArray.size false) :=
    ⟨by simp, fun j oj _ hl => (by rw [getD_replicate_false] at hl; cases hl), fun t _ ht => getD_in (by simpa using ht) (getD_replicate_false _ _)⟩
  have h0 : (fun j => (Array.replicate l.toArray.size false).getD j false) = fun _ => false := funext fun j => getD_replicate_false _ _
  have a00 : ∀ (r : List Oper) (k : Nat) (a : Act), acts (fun _ => undef) (fun _ => false) r k a = a := by
    intro r
    induction r with
    | nil => intro k a; rfl
    | cons o r ih => intro k a; unfold acts; simp only [Bool.false_eq_true, if_false]; exact ih _ _
  have := any_inv2 hst hB hop hne hpi hpj hal hap hguard hdi hdj hfin n (Array.replicate l.toArray.size false) a0 { u with drawn := u.drawn + 1 } (by rw [h0, cnt_all]) inv0 (Below.refl _ _).drew ⟨fun _ => undef, by rw [h0, a00], fun j _ h => (by rw [getD_replicate_false] at h; cases h), fun h => (by rw [getD_replicate_false] at h; cases h)⟩
  rw [show n + (l.length - n) = l.toArray.size by simp; omega] at this
  exact this
/- the same for a region in the order of its text -/
def depP (l : List Oper) (k j d : Nat) : Bool := decide (j < k) && (match l[j]? with | some o => o.dst == some d | none => false)
theorem list_inv {l : List Oper} {n : Nat} {V : Nat → Value → World → Prop} {u : World} {a0 : Act} {Q : Exit → Act → World → Prop} (hst : ∀ j v w w', Below w.heap.size w w' → V j v w → V j v w')
    (hds : dsB a0.tmps.size (l.take n) = true) (hnl : n ≤ l.length) (hop : OpsOK P l (depP l) n V u a0 (l.take n) 0) (hfin : ∀ w, Below u.heap.size u w → FinAll V w (fun a => wpList P l.toArray Q (l.drop n) a w) (l.take n) 0 a0) :
    ∀ (f k : Nat) (a : Act) (w : World), k + f = n → Below u.heap.size u w → (∃ vs, a = acts vs (fun j => decide (j < k)) (l.take n) 0 a0 ∧ ∀ j, j < k → V j (vs j) w) → wpList P l.toArray Q (l.drop k) a w := by
  have htk : (l.take n).length = n := by simp; omega
  intro f
  induction f with
  | zero =>
    intro k a w hk hw ⟨vs, ha, hV⟩
    obtain rfl : k = n := by omega
    have hK := (hfin w hw).acts (vs := vs) (ls := fun j => decide (j < k)) (l.take k) 0 a0 fun j hj => by
      rw [htk] at hj
      rw [Nat.zero_add]
      exact ⟨by simp [hj], hV j hj⟩
    rw [← ha] at hK
    exact hK
  | succ f ih =>
    intro k a w hk hw ⟨vs, ha, hV⟩
    have hkl : k < l.length := by omega
    obtain ⟨o, hol⟩ : ∃ o, l[k]? = some o := ⟨l[k], by simp [hkl]⟩
    have hot : (l.take n)[k]? = some o := by rw [List.getElem?_take_of_lt (by omega)]; exact hol
    have hS := hop.at (l.take n) 0 k o hot a w hw (fun s hs => by
        have := acts_other (vs := vs) (ls := fun j => decide (j < k)) (l.take n) 0 a0 hs
        rw [← ha] at this
        simp only [Act.eval, Array.getD_eq_getD_getElem?, this]) (fun j d hjd => by
        rw [Nat.zero_add] at hjd
        simp only [depP, Bool.and_eq_true, decide_eq_true_eq] at hjd
        cases hoj : l[j]? with
        | none => simp [hoj] at hjd
        | some oj =>
          have hjd2 : oj.dst = some d := by simpa [hoj] using hjd.2
          have hjt : (l.take n)[j]? = some oj := by rw [List.getElem?_take_of_lt (by omega)]; exact hoj
          have hat := acts_at (vs := vs) (ls := fun j => decide (j < k)) (l.take n) 0 j a0 oj rfl hds hjt hjd2 (by rw [Nat.zero_add]; simp [hjd.1])
          rw [← ha, Nat.zero_add] at hat
          rw [eval_of hat]
          exact hV j hjd.1)
    rw [Nat.zero_add] at hS
    have hupd : upd (fun j => decide (j < k)) k true = fun j => decide (j < k + 1) := by
      funext j
      by_cases h : j = k
      · subst h; rw [upd_same]; simp
      · rw [upd_ne _ _ h]; congr 1; apply propext; omega
    have next : ∀ v w', Below w.heap.size w w' → V k v w' → wpList P l.toArray Q (l.drop (k + 1)) (a.put o.dst v) w' := fun v w' hb hv => by
      refine ih (k + 1) _ w' (by omega) (hw.trans (hb.mono hw.size)) ⟨upd vs k v, ?_, fun j hj => ?_⟩
      · rw [ha]
        have := acts_set (vs := vs) (ls := fun j => decide (j < k)) (v := v) (l.take n) 0 k a0 o hds hot (by rw [Nat.zero_add]; simp)
        rw [Nat.zero_add, hupd] at this
        exact this
      · by_cases hjk : j = k
        · subst hjk; rw [upd_same]; exact hv
        · rw [upd_ne _ _ hjk]
          exact hst j _ w w' hb (hV j (by omega))
    have hdr : l.drop k = o :: l.drop (k + 1) := by
      rw [List.drop_eq_getElem_cons hkl]
      have : l[k] = o := by simpa [hkl] using hol
      rw [this]
    rw [hdr]
    show if Region.wanted o (yielded l.toArray a.tmps) then _ else _
    rcases hS with ⟨hwt, hD⟩ | ⟨hwt, hu⟩
    · rw [if_pos hwt]
      exact .inl (hD.wp fun v w' h => next v w' h.1 h.2)
    · rw [if_neg (by rw [hwt]; decide)]
      exact next _ w (Below.refl _ _) hu
theorem wp_plain_inv {id : Nat} {l : List Oper} {Q : Exit → Act → World → Prop} {a0 : Act} {u : World} (n : Nat) (V : Nat → Value → World → Prop) (hst : ∀ j v w w', Below w.heap.size w w' → V j v w → V j v w')
    (hB : (dsB a0.tmps.size (l.take n) && decide (n ≤ l.length)) = true) (hop : OpsOK P l (depP l) n V u a0 (l.take n) 0) (hfin : ∀ w, Below u.heap.size u w → FinAll V w (fun a => wpList P l.toArray Q (l.drop n) a w) (l.take n) 0 a0) : (Code.region id l.toArray false).wp P Q a0 u := by
  rw [Bool.and_eq_true, decide_eq_true_eq] at hB
  have a00 : ∀ (r : List Oper) (k : Nat) (a : Act), acts (fun _ => undef) (fun j => decide (j < 0)) r k a = a := by
    intro r
    induction r with
    | nil => intro k a; rfl
    | cons o r ih => intro k a; unfold acts; simp only [Nat.not_lt_zero, decide_false, Bool.false_eq_true, if_false]; exact ih _ _
  exact wp_region_lit (list_inv hst hB.1 hB.2 hop hfin n 0 a0 u (by omega) (Below.refl _ _) ⟨fun _ => undef, (a00 _ _ _).symm, fun j h => by omega⟩)
/-- What holds of a value goes on to hold where memory grows. -/
def Stb (R : Value → World → Prop) : Prop := ∀ v w w', Below w.heap.size w w' → R v w → R v w'
def AllStb : List (Value → World → Prop) → Prop
  | [] => True
  | R :: l => Stb R ∧ AllStb l
def specs (l : List (Value → World → Prop)) (j : Nat) : Value → World → Prop := l.getD j (fun _ _ => True)
theorem specs_stb : ∀ {l : List (Value → World → Prop)}, AllStb l → ∀ j v w w', Below w.heap.size w w' → specs l j v w → specs l j v w'
  | [], _, j, v, w, w', _, _ => by simp [specs]
  | R :: l, h, 0, v, w, w', hb, hv => h.1 v w w' hb hv
  | R :: l, h, j + 1, v, w, w', hb, hv => by
    have := specs_stb h.2 j v w w' hb (by simpa [specs] using hv)
    simpa [specs] using this
/- single steps -/
theorem Step.plain {l : List Oper} {V : Nat → Value → World → Prop} {k : Nat} {o : Oper} {a : Act} {w : World} (hg : o.guard = none) (h : Does P o a.eval w (fun v w' => Below w.heap.size w w' ∧ V k v w')) : Step P l V k o a w :=
  .inl ⟨by simp [Region.wanted, hg], h⟩
theorem undef_ne (c : Bool) : undef ≠ .bool c := by unfold undef; intro h; cases h
theorem yielded_at {l : List Oper} {a : Act} {j d : Nat} {c : Bool} (hd : (l[j]?).bind (·.dst) = some d) (he : a.eval (.tmp d) = .bool c) : yielded l.toArray a.tmps j = some c := by
  unfold yielded
  rw [List.getElem?_toArray, hd]
  simp only [Act.eval, Array.getD_eq_getD_getElem?] at he
  simp only [Option.bind_some]
  cases ht : a.tmps[d]? with
  | none => rw [ht] at he; exact absurd he (undef_ne c)
  | some v => rw [ht] at he; simp only [Option.getD_some] at he; rw [he]
theorem Step.yes {l : List Oper} {V : Nat → Value → World → Prop} {k : Nat} {o : Oper} {a : Act} {w : World} (j d : Nat) (b : Bool) (hg : o.guard = some (j, b)) (hd : (l[j]?).bind (·.dst) = some d) (he : a.eval (.tmp d) = .bool b)
    (h : Does P o a.eval w (fun v w' => Below w.heap.size w w' ∧ V k v w')) : Step P l V k o a w :=
  .inl ⟨by simp [Region.wanted, hg, yielded_at hd he], h⟩
theorem Step.no {l : List Oper} {V : Nat → Value → World → Prop} {k : Nat} {o : Oper} {a : Act} {w : World} (j d : Nat) (b : Bool) (hg : o.guard = some (j, b)) (hd : (l[j]?).bind (·.dst) = some d) (he : a.eval (.tmp d) = .bool (!b))
    (h : V k undef w) : Step P l V k o a w :=
  .inr ⟨by simp [Region.wanted, hg, yielded_at hd he], h⟩
theorem Does.run {o : Oper} {ρ : Operand → Value} {w : World} {R : Value → World → Prop} (v : Value) (hr : (execOp ρ o).run P w = .ok (.value v) w) (h : R v w) : Does P o ρ w (fun v w' => Below w.heap.size w w' ∧ R v w') :=
  .inl ⟨v, w, hr, Below.refl _ _, h⟩
theorem Does.new {o : Oper} {ρ : Operand → Value} {w : World} {R : Value → World → Prop} (v : Value) (ob : Obj) (hr : (execOp ρ o).run P w = .ok (.value v) (w.alloc ob)) (h : R v (w.alloc ob)) : Does P o ρ w (fun v w' => Below w.heap.size w w' ∧ R v w') :=
  .inl ⟨v, _, hr, below1 _ _, h⟩
theorem Does.call {o : Oper} {ρ : Operand → Value} {w : World} {R : Value → World → Prop} (f : FuncId) (args : Array Value) (hr : (execOp ρ o).run P w = .ok (.enter f args) w) (hc : Calls P f args w fun e w' => ∃ v, e = .returned v ∧ (Below w.heap.size w w' ∧ R v w')) : Does P o ρ w (fun v w' => Below w.heap.size w w' ∧ R v w') :=
  .inr ⟨f, args, hr, hc⟩
end
end Go.Proofs.YtpfcboakafbnlaaDoor
