/-
  A region that draws its order, by what each operation yields: one step for each operation, whatever the order; then a tail of forced order. What values tell: elements, points; the field's contracts in these words; single operations. negative, ofPair. plus, Neg. slices.Reverse, turned, known. turned, known. known; the known numbers; twiceD, Zero, Base, Add, Equal. Equal, xWith's root.
-/
import Derived.Test.YtabgihjffjlfiaaGreatDoorC0
import Derived.Deep.MidRow
import Derived.Test.YtabgihjffjlfiaaGreatDoorC2
import Derived.Laws.IdiomCopy
set_option linter.unusedVariables false
namespace Go.Proofs.YtabgihjffjlfiaaGreatDoor
open Go.RowKit Go.Sort
section
variable {P : Program}
def Does (P : Program) (o : Oper) (ρ : Operand → Value) (w : World) (R : Value → World → Prop) : Prop :=
 (∃ v w', (execOp ρ o).run P w = .ok (.value v) w' ∧ R v w') ∨ (∃ f args, (execOp ρ o).run P w = .ok (.enter f args) w ∧ Calls P f args w fun e w' => ∃ v, e = .returned v ∧ R v w')
theorem Does.wp {o : Oper} {a : Act} {w : World} {R : Value → World → Prop} {K : Act → World → Prop} {Q : Exit → Act → World → Prop} (h : Does P o a.eval w R) (hk : ∀ v w', R v w' → K (a.put o.dst v) w') : o.wp P a w K Q := by
 unfold Oper.wp
 rcases h with ⟨v, w', hr, hR⟩ | ⟨f, args, hr, hc⟩
 ·rw [hr]; exact hk v w' hR
 ·rw [hr]
  exact hc.mono fun e w' ⟨v, he, hR⟩ => by subst he; exact hk v w' hR
def upd {α : Type} (f : Nat → α) (i : Nat) (v : α) : Nat → α := fun j => if j = i then v else f j
theorem upd_same {α : Type} (f : Nat → α) (i : Nat) (v : α) : upd f i v i = v := by simp [upd]
theorem upd_ne {α : Type} (f : Nat → α) {i j : Nat} (v : α) (h : j ≠ i) : upd f i v j = f j := by simp [upd, h]
def acts (vs : Nat → Value) (ls : Nat → Bool) : List Oper → Nat → Act → Act
 | [], _, a => a
 | o :: l, k, a => acts vs ls l (k + 1) (if ls k = true then a.put o.dst (vs k) else a)
def dsB (m : Nat) : List Oper → Bool
 | [] => true
 | o :: l => (match o.dst with | some d => decide (d < m) && l.all (fun o' => o'.dst != some d) | none => false) && dsB m l
theorem acts_congr {vs vs' : Nat → Value} {ls ls' : Nat → Bool} : ∀ (l : List Oper) (k : Nat) (a : Act), (∀ j, k ≤ j → vs j = vs' j ∧ ls j = ls' j) → acts vs ls l k a = acts vs' ls' l k a
 | [], _, _, _ => rfl
 | o :: l, k, a, h => by
  unfold acts
  rw [(h k (Nat.le_refl _)).1, (h k (Nat.le_refl _)).2]
  exact acts_congr l (k + 1) _ fun j hj => h j (by omega)
theorem put_comm (a : Act) {d e : Nat} (h : d ≠ e) (v x : Value) : (a.put (some d) v).put (some e) x = (a.put (some e) x).put (some d) v := by
 simp only [Act.put]
 rw [Array.setIfInBounds_comm _ _ h]
theorem acts_put {vs : Nat → Value} {ls : Nat → Bool} {d : Nat} {v : Value} {m : Nat} : ∀ (l : List Oper) (k : Nat) (a : Act), dsB m l = true → l.all (fun o' => o'.dst != some d) = true → (acts vs ls l k a).put (some d) v = acts vs ls l k (a.put (some d) v)
 | [], _, _, _, _ => rfl
 | o :: l, k, a, hm, h => by
  unfold dsB at hm
  rw [Bool.and_eq_true] at hm
  rw [List.all_cons, Bool.and_eq_true] at h
  unfold acts
  rw [acts_put l (k + 1) _ hm.2 h.2]
  congr 1
  split
  ·cases ho : o.dst with
   | none => simp [ho] at hm
   | some e =>
    have : e ≠ d := by
     intro he
     have h1 := h.1
     simp [ho, he] at h1
    exact put_comm a this _ _
  ·rfl
theorem acts_set {vs : Nat → Value} {ls : Nat → Bool} {v : Value} {m : Nat} : ∀ (l : List Oper) (k i : Nat) (a : Act) (o : Oper), dsB m l = true → l[i]? = some o → ls (k + i) = false →
  (acts vs ls l k a).put o.dst v = acts (upd vs (k + i) v) (upd ls (k + i) true) l k a
 | [], _, _, _, _, _, h, _ => by simp at h
 | o' :: l, k, 0, a, o, hm, h, hl => by
  obtain rfl : o' = o := by simpa using h
  unfold dsB at hm
  rw [Bool.and_eq_true] at hm
  rw [Nat.add_zero] at hl ⊢
  unfold acts
  rw [hl, upd_same, upd_same]
  cases ho : o'.dst with
  | none => simp [ho] at hm
  | some e =>
   simp only [ho, Bool.and_eq_true] at hm
   simp only [if_true, Bool.false_eq_true, if_false]
   rw [acts_put l (k + 1) _ hm.2 hm.1.2]
   exact acts_congr l (k + 1) _ fun j hj => ⟨(upd_ne _ _ (by omega)).symm, (upd_ne _ _ (by omega)).symm⟩
 | o' :: l, k, i + 1, a, o, hm, h, hl => by
  unfold dsB at hm
  rw [Bool.and_eq_true] at hm
  unfold acts
  rw [upd_ne _ _ (by omega), upd_ne _ _ (by omega), show k + (i + 1) = k + 1 + i by omega] at *
  exact acts_set l (k + 1) i _ o hm.2 (by simpa using h) hl
theorem put_size (a : Act) (d : Option Nat) (v : Value) : (a.put d v).tmps.size = a.tmps.size := by cases d <;> simp [Act.put]
theorem acts_other {vs : Nat → Value} {ls : Nat → Bool} {s : Nat} : ∀ (l : List Oper) (k : Nat) (a : Act), l.all (fun o' => o'.dst != some s) = true → (acts vs ls l k a).tmps[s]? = a.tmps[s]?
 | [], _, _, _ => rfl
 | o :: l, k, a, h => by
  rw [List.all_cons, Bool.and_eq_true] at h
  unfold acts
  rw [acts_other l (k + 1) _ h.2]
  split
  ·cases ho : o.dst with
   | none => rfl
   | some e =>
    have he : e ≠ s := by
     intro he
     have h1 := h.1
     simp [ho, he] at h1
    simp only [Act.put]
    rw [Array.getElem?_setIfInBounds_ne he]
  ·rfl
theorem acts_at {vs : Nat → Value} {ls : Nat → Bool} {m d : Nat} : ∀ (l : List Oper) (k i : Nat) (a : Act) (o : Oper), a.tmps.size = m → dsB m l = true → l[i]? = some o → o.dst = some d → ls (k + i) = true →
  (acts vs ls l k a).tmps[d]? = some (vs (k + i))
 | [], _, _, _, _, _, _, h, _, _ => by simp at h
 | o' :: l, k, 0, a, o, hs, hm, h, hd, hl => by
  obtain rfl : o' = o := by simpa using h
  unfold dsB at hm
  rw [Bool.and_eq_true] at hm
  rw [Nat.add_zero] at hl ⊢
  simp only [hd, Bool.and_eq_true, decide_eq_true_eq] at hm
  unfold acts
  rw [acts_other l (k + 1) _ hm.1.2, if_pos hl, hd]
  simp only [Act.put]
  rw [Array.getElem?_setIfInBounds_self_of_lt (by rw [hs]; exact hm.1.1)]
 | o' :: l, k, i + 1, a, o, hs, hm, h, hd, hl => by
  unfold dsB at hm
  rw [Bool.and_eq_true] at hm
  unfold acts
  rw [show k + (i + 1) = k + 1 + i by omega] at *
  refine acts_at l (k + 1) i _ o ?_ hm.2 (by simpa using h) hd hl
  split
  ·rw [put_size]; exact hs
  ·exact hs
/- counting -/
def cnt : Nat → (Nat → Bool) → Nat
 | 0, _ => 0
 | n + 1, p => cnt n p + (if p n = true then 0 else 1)
theorem cnt_congr : ∀ (n : Nat) {p q : Nat → Bool}, (∀ j, j < n → p j = q j) → cnt n p = cnt n q
 | 0, _, _, _ => rfl
 | n + 1, p, q, h => by
  unfold cnt
  rw [cnt_congr n fun j hj => h j (by omega), h n (by omega)]
theorem cnt_set : ∀ (n : Nat) {p : Nat → Bool} {i : Nat}, i < n → p i = false → cnt n (upd p i true) + 1 = cnt n p
 | 0, _, _, h, _ => by omega
 | n + 1, p, i, h, hp => by
  unfold cnt
  by_cases hi : i = n
  ·subst hi
   rw [upd_same, hp, cnt_congr i (q := p) fun j hj => upd_ne _ _ (by omega)]
   simp
  ·rw [upd_ne _ _ (by omega)]
   have := cnt_set n (p := p) (i := i) (by omega) hp
   omega
theorem cnt_zero : ∀ (n : Nat) {p : Nat → Bool}, cnt n p = 0 → ∀ j, j < n → p j = true
 | 0, _, _, j, h => by omega
 | n + 1, p, h, j, hj => by
  unfold cnt at h
  by_cases hi : j = n
  ·subst hi
   cases hp : p j with
   | true => rfl
   | false => rw [hp] at h; simp at h
  ·exact cnt_zero n (by omega) j (by omega)
theorem cnt_pos : ∀ (n : Nat) {p : Nat → Bool}, cnt n p ≠ 0 → ∃ j, j < n ∧ p j = false ∧ ∀ k, k < j → p k = true
 | 0, _, h => absurd rfl h
 | n + 1, p, h => by
  by_cases h0 : cnt n p = 0
  ·refine ⟨n, by omega, ?_, cnt_zero n h0⟩
   unfold cnt at h
   cases hp : p n with
   | false => rfl
   | true => rw [hp, h0] at h; simp at h
  ·obtain ⟨j, h1, h2, h3⟩ := cnt_pos n h0
   exact ⟨j, by omega, h2, h3⟩
theorem cnt_all : ∀ (n : Nat), cnt n (fun _ => false) = n
 | 0 => rfl
 | n + 1 => by unfold cnt; rw [cnt_all n]; simp
def ordB (l : List Oper) : Nat → Bool
 | 0 => true
 | n + 1 => ordB l n && (match l[n]? with | some o => o.after.all (fun e => decide (e.on < n)) | none => false)
theorem ordB_spec {l : List Oper} : ∀ (n : Nat), ordB l n = true → ∀ j, j < n → ∃ o, l[j]? = some o ∧ ∀ e ∈ o.after, e.on < j
 | 0, _, j, h => by omega
 | n + 1, h, j, hj => by
  unfold ordB at h
  rw [Bool.and_eq_true] at h
  by_cases hi : j = n
  ·subst hi
   cases ho : l[j]? with
   | none => simp [ho] at h
   | some o =>
    rw [ho] at h
    refine ⟨o, rfl, fun e he => ?_⟩
    have := Array.all_eq_true'.1 h.2 e he
    simpa using this
  ·exact ordB_spec n h.1 j (by omega)
def fullB (n s : Nat) : Array Bool := ((List.range s).map fun j => decide (j < n)).toArray
def headB (l : List Oper) (m n : Nat) : Bool :=
 dsB m (l.take n) && ordB l n && (decide (n = l.length) || (decide (n < l.length) && Region.sinkB .any l.toArray n && Region.chainB .any l.toArray n)) && Region.seqB .any l.toArray (l.length - n) n (fullB n l.length)
def depB (l : List Oper) (k j d : Nat) : Bool :=
 (match l[k]? with | some o => o.after.any (fun e => Region.binds .any e && e.on == j) | none => false) && (match l[j]? with | some o => o.dst == some d | none => false)
def freeB (l : List Oper) (n s : Nat) : Bool := (l.take n).all (fun o' => o'.dst != some s)
def Step (P : Program) (l : List Oper) (V : Nat → Value → World → Prop) (k : Nat) (o : Oper) (a : Act) (w : World) : Prop :=
 (Region.wanted o (yielded l.toArray a.tmps) = true ∧ Does P o a.eval w (fun v w' => Below w.heap.size w w' ∧ V k v w')) ∨ (Region.wanted o (yielded l.toArray a.tmps) = false ∧ V k undef w)
def OpsOK (P : Program) (l : List Oper) (dep : Nat → Nat → Nat → Bool) (n : Nat) (V : Nat → Value → World → Prop) (u : World) (a0 : Act) : List Oper → Nat → Prop
 | [], _ => True
 | o :: r, k => (∀ a w, Below u.heap.size u w → (∀ s, freeB l n s = true → a.eval (.tmp s) = a0.eval (.tmp s)) → (∀ j d, dep k j d = true → V j (a.eval (.tmp d)) w) → Step P l V k o a w) ∧ OpsOK P l dep n V u a0 r (k + 1)
theorem OpsOK.at {l : List Oper} {dep : Nat → Nat → Nat → Bool} {n : Nat} {V : Nat → Value → World → Prop} {u : World} {a0 : Act} : ∀ (r : List Oper) (k i : Nat) (o : Oper), OpsOK P l dep n V u a0 r k → r[i]? = some o →
  ∀ a w, Below u.heap.size u w → (∀ s, freeB l n s = true → a.eval (.tmp s) = a0.eval (.tmp s)) → (∀ j d, dep (k + i) j d = true → V j (a.eval (.tmp d)) w) → Step P l V (k + i) o a w
 | [], _, _, _, _, h => by simp at h
 | o' :: r, k, 0, o, h, ho => by
  obtain rfl : o' = o := by simpa using ho
  exact h.1
 | o' :: r, k, i + 1, o, h, ho => by
  have := OpsOK.at r (k + 1) i o h.2 (by simpa using ho)
  rw [show k + (i + 1) = k + 1 + i by omega]
  exact this
def FinAll (V : Nat → Value → World → Prop) (w : World) (K : Act → Prop) : List Oper → Nat → Act → Prop
 | [], _, a => K a
 | o :: l, k, a => ∀ v, V k v w → FinAll V w K l (k + 1) (a.put o.dst v)
theorem FinAll.acts {V : Nat → Value → World → Prop} {w : World} {K : Act → Prop} {vs : Nat → Value} {ls : Nat → Bool} : ∀ (l : List Oper) (k : Nat) (a : Act), FinAll V w K l k a → (∀ j, j < l.length → ls (k + j) = true ∧ V (k + j) (vs (k + j)) w) → K (acts vs ls l k a)
 | [], _, _, h, _ => h
 | o :: l, k, a, h, hV => by
  have h0 := hV 0 (by simp)
  rw [Nat.add_zero] at h0
  unfold Go.Proofs.YtabgihjffjlfiaaGreatDoor.acts
  rw [if_pos h0.1]
  exact FinAll.acts l (k + 1) _ (h _ h0.2) fun j hj => by
   have := hV (j + 1) (by simp; omega)
   rwa [show k + (j + 1) = k + 1 + j by omega] at this
theorem eval_of {a : Act} {t : Nat} {v : Value} (h : a.tmps[t]? = some v) : a.eval (.tmp t) = v := by
 simp only [Act.eval]
 rw [Array.getD_eq_getD_getElem?, h]; rfl
theorem getD_upd {listed : Array Bool} {i : Nat} (hi : i < listed.size) : (fun j => (listed.setIfInBounds i true).getD j false) = upd (fun j => listed.getD j false) i true := by
 funext j
 by_cases h : j = i
 ·subst h
  rw [upd_same, Array.getD_eq_getD_getElem?, Array.getElem?_setIfInBounds_self_of_lt hi]; rfl
 ·rw [upd_ne _ _ h, Array.getD_eq_getD_getElem?, Array.getD_eq_getD_getElem?, Array.getElem?_setIfInBounds_ne (Ne.symm h)]
theorem any_inv {l : List Oper} {n : Nat} {V : Nat → Value → World → Prop} {u : World} {a0 : Act} {Q : Exit → Act → World → Prop} (hst : ∀ j v w w', Below w.heap.size w w' → V j v w → V j v w')
  (hB : headB l a0.tmps.size n = true) (hop : OpsOK P l (depB l) n V u a0 (l.take n) 0) (hfin : ∀ w, Below u.heap.size u w → FinAll V w (fun a => wpList P l.toArray Q (l.drop n) a w) (l.take n) 0 a0) :
  ∀ (f : Nat) (listed : Array Bool) (a : Act) (w : World), cnt n (fun j => listed.getD j false) = f → HeadInv .any l.toArray n listed → Below u.heap.size u w →
   (∃ vs, a = acts vs (fun j => listed.getD j false) (l.take n) 0 a0 ∧ ∀ j, j < n → listed.getD j false = true → V j (vs j) w) → wpAny P .any l.toArray Q (f + (l.length - n)) listed a w := by
 simp only [headB, Bool.and_eq_true, Bool.or_eq_true, decide_eq_true_eq] at hB
 obtain ⟨⟨⟨hds, hord⟩, htl⟩, hseq⟩ := hB
 have hnl : n ≤ l.length := by rcases htl with h | h <;> omega
 have htk : (l.take n).length = n := by simp; omega
 intro f
 induction f with
 | zero =>
  intro listed a w hc inv hw ⟨vs, ha, hV⟩
  have hall := cnt_zero n hc
  have hfull : listed = fullB n l.length := by
   apply Array.ext
   ·rw [inv.size]; simp [fullB]
   ·intro i h1 h2
    have hsz := inv.size
    simp only [List.size_toArray] at hsz
    simp only [fullB, List.getElem_toArray, List.getElem_map, List.getElem_range]
    by_cases hi : i < n
    ·have := hall i hi
     simp only [Array.getD_eq_getD_getElem?, Array.getElem?_eq_getElem h1, Option.getD_some] at this
     rw [this]; simp [hi]
    ·have := inv.tail i (by omega) (by simp; omega)
     simp only [Array.getD_eq_getD_getElem?, Array.getElem?_eq_getElem h1, Option.getD_some] at this
     rw [this]; simp [hi]
  have hK := (hfin w hw).acts (vs := vs) (ls := fun j => listed.getD j false) (l.take n) 0 a0 fun j hj => by
   rw [htk] at hj
   rw [Nat.zero_add]
   exact ⟨hall j hj, hV j hj (hall j hj)⟩
  rw [← ha] at hK
  have := wpAny_of_seq (md := .any) (Q' := Q) (l.drop n) n listed a w (fun j => by simp [List.getElem?_drop]) (by rw [hfull, List.length_drop]; exact hseq) hK
  rw [List.length_drop] at this
  rw [Nat.zero_add]; exact this
 | succ f ih =>
  intro listed a w hc inv hw ⟨vs, ha, hV⟩
  obtain ⟨j0, hj0, hun, hbefore⟩ := cnt_pos n (p := fun j => listed.getD j false) (by omega)
  have hsz := inv.size
  simp only [List.size_toArray] at hsz
  rw [show f + 1 + (l.length - n) = (f + (l.length - n)) + 1 by omega]
  refine ⟨fun h0 => ?_, fun i hi => ?_⟩
  ·obtain ⟨o, ho, hbe⟩ := ordB_spec n hord j0 hj0
   have : j0 ∈ Region.ready .any l.toArray listed := mem_ready.2 ⟨getD_in (by omega) hun, o, by simpa using ho, fun e he _ => hbefore e.on (hbe e he)⟩
   rw [h0] at this; cases this
  ·have hin : i < n := by
    rcases htl with h | h
    ·obtain ⟨_, o, ho, _⟩ := mem_ready.1 hi
     have := (Array.getElem?_eq_some_iff.1 ho).1
     simp only [List.size_toArray] at this
     omega
    ·exact Nat.lt_of_not_le fun hge => tail_waits h.1.2 h.2 (by simp; exact h.1.1) inv _ j0 rfl hj0 (getD_in (by omega) hun) i hge hi
   obtain ⟨hiu, o, ho, hdep⟩ := mem_ready.1 hi
   have hol : l[i]? = some o := by simpa using ho
   have hot : (l.take n)[i]? = some o := by rw [List.getElem?_take_of_lt hin]; exact hol
   have hS := hop.at (l.take n) 0 i o hot a w hw (fun s hs => by
    have := acts_other (vs := vs) (ls := fun j => listed.getD j false) (l.take n) 0 a0 hs
    rw [← ha] at this
    simp only [Act.eval, Array.getD_eq_getD_getElem?, this]) (fun j d hjd => by
    rw [Nat.zero_add] at hjd
    simp only [depB, hol, Bool.and_eq_true] at hjd
    obtain ⟨e, he, hb⟩ := Array.any_eq_true'.1 hjd.1
    simp only [Bool.and_eq_true, beq_iff_eq] at hb
    cases hoj : l[j]? with
    | none => simp [hoj] at hjd
    | some oj =>
     have hjd2 : oj.dst = some d := by simpa [hoj] using hjd.2
     have hjl : listed.getD j false = true := by rw [← hb.2]; exact hdep e he hb.1
     obtain ⟨o2, ho2, hbe⟩ := ordB_spec n hord i hin
     obtain rfl : o2 = o := Option.some.inj (ho2.symm.trans hol)
     have hji : j < i := by rw [← hb.2]; exact hbe e he
     have hjt : (l.take n)[j]? = some oj := by rw [List.getElem?_take_of_lt (by omega)]; exact hoj
     have hat := acts_at (vs := vs) (ls := fun j => listed.getD j false) (l.take n) 0 j a0 oj rfl hds hjt hjd2 (by rw [Nat.zero_add]; exact hjl)
     rw [← ha, Nat.zero_add] at hat
     rw [eval_of hat]
     exact hV j (by omega) hjl)
   rw [Nat.zero_add] at hS
   have next : ∀ v w', Below w.heap.size w w' → V i v w' → wpAny P .any l.toArray Q (f + (l.length - n)) (listed.setIfInBounds i true) (a.put o.dst v) w' := fun v w' hb hv => by
    have hil : i < listed.size := by omega
    have hif : listed.getD i false = false := getD_both hiu
    refine ih _ _ w' ?_ (inv.set hi hin) (hw.trans (hb.mono hw.size)) ⟨upd vs i v, ?_, fun j hj hjl => ?_⟩
    ·rw [getD_upd hil]
     have := cnt_set n (p := fun j => listed.getD j false) hin hif
     omega
    ·rw [ha, getD_upd hil]
     have := acts_set (vs := vs) (ls := fun j => listed.getD j false) (v := v) (l.take n) 0 i a0 o hds hot (by rw [Nat.zero_add]; exact hif)
     rw [Nat.zero_add] at this
     exact this
    ·by_cases hji : j = i
     ·subst hji; rw [upd_same]; exact hv
     ·rw [upd_ne _ _ hji]
      have h2 := congrFun (getD_upd hil) j
      simp only [hjl] at h2
      rw [upd_ne _ _ hji] at h2
      exact hst j _ w w' hb (hV j hj h2.symm)
   unfold wpOp
   simp only [ho]
   rcases hS with ⟨hwt, hD⟩ | ⟨hwt, hu⟩
   ·rw [if_pos hwt]
    exact .inl (hD.wp fun v w' h => next v w' h.1 h.2)
   ·rw [if_neg (by rw [hwt]; decide)]
    exact next _ w (Below.refl _ _) hu
theorem wp_region_inv {id : Nat} {l : List Oper} {Q : Exit → Act → World → Prop} {a0 : Act} {u : World} (n : Nat) (V : Nat → Value → World → Prop) (hm : P.follows .mixedOrders = true) (hst : ∀ j v w w', Below w.heap.size w w' → V j v w → V j v w')
  (hB : headB l a0.tmps.size n = true) (hop : OpsOK P l (depB l) n V u a0 (l.take n) 0) (hfin : ∀ w, Below u.heap.size u w → FinAll V w (fun a => wpList P l.toArray Q (l.drop n) a w) (l.take n) 0 a0) : (Code.region id l.toArray true).wp P Q a0 u := by
 refine wp_region_any hm ?_
 have hnl : n ≤ l.length := by
  simp only [headB, Bool.and_eq_true, Bool.or_eq_true, decide_eq_true_eq] at hB
  rcases hB.1.2 with h | h <;> omega
 have inv0 : HeadInv .any l.toArray n (Array.replicate l.toArray.size false) :=
  ⟨by simp, fun j oj _ hl => (by rw [getD_replicate_false] at hl; cases hl), fun t _ ht => getD_in (by simpa using ht) (getD_replicate_false _ _)⟩
 have h0 : (fun j => (Array.replicate l.toArray.size false).getD j false) = fun _ => false := funext fun j => getD_replicate_false _ _
 have a00 : ∀ (r : List Oper) (k : Nat) (a : Act), acts (fun _ => undef) (fun _ => false) r k a = a := by
  intro r
  induction r with
  | nil => intro k a; rfl
  | cons o r ih => intro k a; unfold acts; simp only [Bool.false_eq_true, if_false]; exact ih _ _
 have := any_inv hst hB hop hfin n (Array.replicate l.toArray.size false) a0 { u with drawn := u.drawn + 1 } (by rw [h0, cnt_all]) inv0 (Below.refl _ _).drew ⟨fun _ => undef, by rw [h0, a00], fun j _ h => by rw [getD_replicate_false] at h; cases h⟩
 rw [show n + (l.length - n) = l.toArray.size by simp; omega] at this
 exact this
/- the same where two operations lay blocks: these are two -/
def newPtr (w : World) : Value := .pointer (some ⟨w.heap.size, 0, none⟩)
def Apart (v v' : Value) : Prop := ∀ g g', v = .pointer (some ⟨g, 0, none⟩) → v' = .pointer (some ⟨g', 0, none⟩) → g ≠ g'
theorem Does.more {o : Oper} {ρ : Operand → Value} {w : World} {R : Value → World → Prop} (h : Does P o ρ w R) (E : Value → World → Prop)
  (he : ∀ v w', ((execOp ρ o).run P w = .ok (.value v) w' ∨ ∃ f args, (execOp ρ o).run P w = .ok (.enter f args) w) → E v w') : Does P o ρ w (fun v w' => R v w' ∧ E v w') := by
 rcases h with ⟨v, w', hr, hR⟩ | ⟨f, args, hr, hc⟩
 ·exact .inl ⟨v, w', hr, hR, he v w' (.inl hr)⟩
 ·exact .inr ⟨f, args, hr, hc.mono fun e w' ⟨v, h1, h2⟩ => ⟨v, h1, h2, he v w' (.inr ⟨f, args, hr⟩)⟩⟩
theorem any_inv2 {pi pj di dj : Nat} {l : List Oper} {n : Nat} {V : Nat → Value → World → Prop} {u : World} {a0 : Act} {Q : Exit → Act → World → Prop} (hst : ∀ j v w w', Below w.heap.size w w' → V j v w → V j v w')
  (hB : headB l a0.tmps.size n = true) (hop : OpsOK P l (depB l) n V u a0 (l.take n) 0) (hne : pi ≠ pj) (hpi : pi < n) (hpj : pj < n) (hal : ∀ i, i = pi ∨ i = pj → ∃ o ob, l[i]? = some o ∧ ∀ ρ w, (execOp ρ o).run P w = .ok (.value (newPtr w)) (World.alloc w ob)) (hap : ∀ i, i = pi ∨ i = pj → ∀ v w g, V i v w → v = .pointer (some ⟨g, 0, none⟩) → g < w.heap.size)
  (hguard : ∀ i o, (i = pi ∨ i = pj) → l[i]? = some o → o.guard = none) (hdi : (l[pi]?).bind (·.dst) = some di) (hdj : (l[pj]?).bind (·.dst) = some dj)
  (hfin : ∀ w, Below u.heap.size u w → FinAll V w (fun a => (∀ g g', a.eval (.tmp di) = .pointer (some ⟨g, 0, none⟩) → a.eval (.tmp dj) = .pointer (some ⟨g', 0, none⟩) → g ≠ g') → wpList P l.toArray Q (l.drop n) a w) (l.take n) 0 a0) :
  ∀ (f : Nat) (listed : Array Bool) (a : Act) (w : World), cnt n (fun j => listed.getD j false) = f → HeadInv .any l.toArray n listed → Below u.heap.size u w →
   (∃ vs, a = acts vs (fun j => listed.getD j false) (l.take n) 0 a0 ∧ (∀ j, j < n → listed.getD j false = true → V j (vs j) w) ∧ (listed.getD pi false = true → listed.getD pj false = true → Apart (vs pi) (vs pj))) → wpAny P .any l.toArray Q (f + (l.length - n)) listed a w := by
 simp only [headB, Bool.and_eq_true, Bool.or_eq_true, decide_eq_true_eq] at hB
 obtain ⟨⟨⟨hds, hord⟩, htl⟩, hseq⟩ := hB
 have hnl : n ≤ l.length := by rcases htl with h | h <;> omega
 have htk : (l.take n).length = n := by simp; omega
 intro f
 induction f with
 | zero =>
  intro listed a w hc inv hw ⟨vs, ha, hV, hpr⟩
  have hall := cnt_zero n hc
  have hfull : listed = fullB n l.length := by
   apply Array.ext
   ·rw [inv.size]; simp [fullB]
   ·intro i h1 h2
    have hsz := inv.size
    simp only [List.size_toArray] at hsz
    simp only [fullB, List.getElem_toArray, List.getElem_map, List.getElem_range]
    by_cases hi : i < n
    ·have := hall i hi
     simp only [Array.getD_eq_getD_getElem?, Array.getElem?_eq_getElem h1, Option.getD_some] at this
     rw [this]; simp [hi]
    ·have := inv.tail i (by omega) (by simp; omega)
     simp only [Array.getD_eq_getD_getElem?, Array.getElem?_eq_getElem h1, Option.getD_some] at this
     rw [this]; simp [hi]
  have hK := (hfin w hw).acts (vs := vs) (ls := fun j => listed.getD j false) (l.take n) 0 a0 fun j hj => by
   rw [htk] at hj
   rw [Nat.zero_add]
   exact ⟨hall j hj, hV j hj (hall j hj)⟩
  rw [← ha] at hK
  have at1 : ∀ p d, p < n → (l[p]?).bind (·.dst) = some d → a.eval (.tmp d) = vs p := fun p d hp hd => by
   cases hop : l[p]? with
   | none => simp [hop] at hd
   | some op =>
    have hd2 : op.dst = some d := by simpa [hop] using hd
    have hjt : (l.take n)[p]? = some op := by rw [List.getElem?_take_of_lt hp]; exact hop
    have hat := acts_at (vs := vs) (ls := fun j => listed.getD j false) (l.take n) 0 p a0 op rfl hds hjt hd2 (by rw [Nat.zero_add]; exact hall p hp)
    rw [← ha, Nat.zero_add] at hat
    exact eval_of hat
  replace hK := hK (fun g g' h1 h2 => hpr (hall pi hpi) (hall pj hpj) g g' (by rw [← at1 pi di hpi hdi]; exact h1) (by rw [← at1 pj dj hpj hdj]; exact h2))
  have := wpAny_of_seq (md := .any) (Q' := Q) (l.drop n) n listed a w (fun j => by simp [List.getElem?_drop]) (by rw [hfull, List.length_drop]; exact hseq) hK
  rw [List.length_drop] at this
  rw [Nat.zero_add]; exact this
 | succ f ih =>
  intro listed a w hc inv hw ⟨vs, ha, hV, hpr⟩
  obtain ⟨j0, hj0, hun, hbefore⟩ := cnt_pos n (p := fun j => listed.getD j false) (by omega)
  have hsz := inv.size
  simp only [List.size_toArray] at hsz
  rw [show f + 1 + (l.length - n) = (f + (l.length - n)) + 1 by omega]
  refine ⟨fun h0 => ?_, fun i hi => ?_⟩
  ·obtain ⟨o, ho, hbe⟩ := ordB_spec n hord j0 hj0
   have : j0 ∈ Region.ready .any l.toArray listed := mem_ready.2 ⟨getD_in (by omega) hun, o, by simpa using ho, fun e he _ => hbefore e.on (hbe e he)⟩
   rw [h0] at this; cases this
  ·have hin : i < n := by
    rcases htl with h | h
    ·obtain ⟨_, o, ho, _⟩ := mem_ready.1 hi
     have := (Array.getElem?_eq_some_iff.1 ho).1
     simp only [List.size_toArray] at this
     omega
    ·exact Nat.lt_of_not_le fun hge => tail_waits h.1.2 h.2 (by simp; exact h.1.1) inv _ j0 rfl hj0 (getD_in (by omega) hun) i hge hi
   obtain ⟨hiu, o, ho, hdep⟩ := mem_ready.1 hi
   have hol : l[i]? = some o := by simpa using ho
   have hot : (l.take n)[i]? = some o := by rw [List.getElem?_take_of_lt hin]; exact hol
   have hS := hop.at (l.take n) 0 i o hot a w hw (fun s hs => by
    have := acts_other (vs := vs) (ls := fun j => listed.getD j false) (l.take n) 0 a0 hs
    rw [← ha] at this
    simp only [Act.eval, Array.getD_eq_getD_getElem?, this]) (fun j d hjd => by
    rw [Nat.zero_add] at hjd
    simp only [depB, hol, Bool.and_eq_true] at hjd
    obtain ⟨e, he, hb⟩ := Array.any_eq_true'.1 hjd.1
    simp only [Bool.and_eq_true, beq_iff_eq] at hb
    cases hoj : l[j]? with
    | none => simp [hoj] at hjd
    | some oj =>
     have hjd2 : oj.dst = some d := by simpa [hoj] using hjd.2
     have hjl : listed.getD j false = true := by rw [← hb.2]; exact hdep e he hb.1
     obtain ⟨o2, ho2, hbe⟩ := ordB_spec n hord i hin
     obtain rfl : o2 = o := Option.some.inj (ho2.symm.trans hol)
     have hji : j < i := by rw [← hb.2]; exact hbe e he
     have hjt : (l.take n)[j]? = some oj := by rw [List.getElem?_take_of_lt (by omega)]; exact hoj
     have hat := acts_at (vs := vs) (ls := fun j => listed.getD j false) (l.take n) 0 j a0 oj rfl hds hjt hjd2 (by rw [Nat.zero_add]; exact hjl)
     rw [← ha, Nat.zero_add] at hat
     rw [eval_of hat]
     exact hV j (by omega) hjl)
   rw [Nat.zero_add] at hS
   have next : ∀ v w', Below w.heap.size w w' → V i v w' → ((i = pi ∨ i = pj) → v = newPtr w) → wpAny P .any l.toArray Q (f + (l.length - n)) (listed.setIfInBounds i true) (a.put o.dst v) w' := fun v w' hb hv hnw => by
    have hil : i < listed.size := by omega
    have hif : listed.getD i false = false := getD_both hiu
    refine ih _ _ w' ?_ (inv.set hi hin) (hw.trans (hb.mono hw.size)) ⟨upd vs i v, ?_, fun j hj hjl => ?_, ?_⟩
    ·rw [getD_upd hil]
     have := cnt_set n (p := fun j => listed.getD j false) hin hif
     omega
    ·rw [ha, getD_upd hil]
     have := acts_set (vs := vs) (ls := fun j => listed.getD j false) (v := v) (l.take n) 0 i a0 o hds hot (by rw [Nat.zero_add]; exact hif)
     rw [Nat.zero_add] at this
     exact this
    ·by_cases hji : j = i
     ·subst hji; rw [upd_same]; exact hv
     ·rw [upd_ne _ _ hji]
      have h2 := congrFun (getD_upd hil) j
      simp only [hjl] at h2
      rw [upd_ne _ _ hji] at h2
      exact hst j _ w w' hb (hV j hj h2.symm)
    ·have h2 := getD_upd hil
     rw [congrFun h2 pi, congrFun h2 pj]
     by_cases e1 : i = pi
     ·have e2 : pj ≠ i := by omega
      rw [← e1, upd_same, upd_same, upd_ne _ _ e2, upd_ne _ _ e2]
      intro _ hl g g' h3 h4
      have h5 := hap pj (.inr rfl) _ w g' (hV pj hpj hl) h4
      rw [hnw (.inl e1)] at h3
      have h6 : w.heap.size = g := by simpa [newPtr] using h3
      omega
     ·by_cases e2 : i = pj
      ·have e3 : pi ≠ i := fun h => e1 h.symm
       rw [← e2, upd_same, upd_same, upd_ne _ _ e3, upd_ne _ _ e3]
       intro hl _ g g' h3 h4
       have h5 := hap pi (.inl rfl) _ w g (hV pi hpi hl) h3
       rw [hnw (.inr e2)] at h4
       have h6 : w.heap.size = g' := by simpa [newPtr] using h4
       omega
      ·have e3 : pi ≠ i := fun h => e1 h.symm
       have e4 : pj ≠ i := fun h => e2 h.symm
       rw [upd_ne _ _ e3, upd_ne _ _ e3, upd_ne _ _ e4, upd_ne _ _ e4]
       exact hpr
   unfold wpOp
   simp only [ho]
   rcases hS with ⟨hwt, hD⟩ | ⟨hwt, hu⟩
   ·rw [if_pos hwt]
    refine .inl ((hD.more (fun v _ => ((i = pi ∨ i = pj) → v = newPtr w)) fun v w' hr hi2 => ?_).wp fun v w' h => next v w' h.1.1 h.1.2 h.2)
    obtain ⟨o2, ob, ho2, hrun⟩ := hal i hi2
    obtain rfl : o2 = o := Option.some.inj (ho2.symm.trans hol)
    rcases hr with hr | ⟨f, args, hr⟩
    ·rw [hrun] at hr
     have : newPtr w = v := by injection hr with h1 h2; injection h1
     exact this.symm
    ·rw [hrun] at hr
     injection hr with h1 h2; injection h1
   ·rw [if_neg (by rw [hwt]; decide)]
    refine next _ w (Below.refl _ _) hu fun hi2 => ?_
    exact absurd (hguard i o hi2 hol) (by simp [Region.wanted] at hwt ⊢; intro hg; rw [hg] at hwt; simp at hwt)
theorem wp_region_inv2 {pi pj di dj : Nat} {id : Nat} {l : List Oper} {Q : Exit → Act → World → Prop} {a0 : Act} {u : World} (n : Nat) (V : Nat → Value → World → Prop) (hm : P.follows .mixedOrders = true) (hst : ∀ j v w w', Below w.heap.size w w' → V j v w → V j v w')
  (hB : headB l a0.tmps.size n = true) (hop : OpsOK P l (depB l) n V u a0 (l.take n) 0) (hne : pi ≠ pj) (hpi : pi < n) (hpj : pj < n) (hal : ∀ i, i = pi ∨ i = pj → ∃ o ob, l[i]? = some o ∧ ∀ ρ w, (execOp ρ o).run P w = .ok (.value (newPtr w)) (World.alloc w ob)) (hap : ∀ i, i = pi ∨ i = pj → ∀ v w g, V i v w → v = .pointer (some ⟨g, 0, none⟩) → g < w.heap.size)
  (hguard : ∀ i o, (i = pi ∨ i = pj) → l[i]? = some o → o.guard = none) (hdi : (l[pi]?).bind (·.dst) = some di) (hdj : (l[pj]?).bind (·.dst) = some dj)
  (hfin : ∀ w, Below u.heap.size u w → FinAll V w (fun a => (∀ g g', a.eval (.tmp di) = .pointer (some ⟨g, 0, none⟩) → a.eval (.tmp dj) = .pointer (some ⟨g', 0, none⟩) → g ≠ g') → wpList P l.toArray Q (l.drop n) a w) (l.take n) 0 a0) : (Code.region id l.toArray true).wp P Q a0 u := by
 refine wp_region_any hm ?_
 have hnl : n ≤ l.length := by
  simp only [headB, Bool.and_eq_true, Bool.or_eq_true, decide_eq_true_eq] at hB
  rcases hB.1.2 with h | h <;> omega
 have inv0 : HeadInv .any l.toArray n (Array.replicate l.toArray.size false) :=
  ⟨by simp, fun j oj _ hl => (by rw [getD_replicate_false] at hl; cases hl), fun t _ ht => getD_in (by simpa using ht) (getD_replicate_false _ _)⟩
 have h0 : (fun j => (Array.replicate l.toArray.size false).getD j false) = fun _ => false := funext fun j => getD_replicate_false _ _
 have a00 : ∀ (r : List Oper) (k : Nat) (a : Act), acts (fun _ => undef) (fun _ => false) r k a = a := by
  intro r
  induction r with
  | nil => intro k a; rfl
  | cons o r ih => intro k a; unfold acts; simp only [Bool.false_eq_true, if_false]; exact ih _ _
 have := any_inv2 hst hB hop hne hpi hpj hal hap hguard hdi hdj hfin n (Array.replicate l.toArray.size false) a0 { u with drawn := u.drawn + 1 } (by rw [h0, cnt_all]) inv0 (Below.refl _ _).drew ⟨fun _ => undef, by rw [h0, a00], fun j _ h => (by rw [getD_replicate_false] at h; cases h), fun h => (by rw [getD_replicate_false] at h; cases h)⟩
 rw [show n + (l.length - n) = l.toArray.size by simp; omega] at this
 exact this
/- the same for a region in the order of its text -/
def depP (l : List Oper) (k j d : Nat) : Bool := decide (j < k) && (match l[j]? with | some o => o.dst == some d | none => false)
theorem list_inv {l : List Oper} {n : Nat} {V : Nat → Value → World → Prop} {u : World} {a0 : Act} {Q : Exit → Act → World → Prop} (hst : ∀ j v w w', Below w.heap.size w w' → V j v w → V j v w')
  (hds : dsB a0.tmps.size (l.take n) = true) (hnl : n ≤ l.length) (hop : OpsOK P l (depP l) n V u a0 (l.take n) 0) (hfin : ∀ w, Below u.heap.size u w → FinAll V w (fun a => wpList P l.toArray Q (l.drop n) a w) (l.take n) 0 a0) :
  ∀ (f k : Nat) (a : Act) (w : World), k + f = n → Below u.heap.size u w → (∃ vs, a = acts vs (fun j => decide (j < k)) (l.take n) 0 a0 ∧ ∀ j, j < k → V j (vs j) w) → wpList P l.toArray Q (l.drop k) a w := by
 have htk : (l.take n).length = n := by simp; omega
 intro f
 induction f with
 | zero =>
  intro k a w hk hw ⟨vs, ha, hV⟩
  obtain rfl : k = n := by omega
  have hK := (hfin w hw).acts (vs := vs) (ls := fun j => decide (j < k)) (l.take k) 0 a0 fun j hj => by
   rw [htk] at hj
   rw [Nat.zero_add]
   exact ⟨by simp [hj], hV j hj⟩
  rw [← ha] at hK
  exact hK
 | succ f ih =>
  intro k a w hk hw ⟨vs, ha, hV⟩
  have hkl : k < l.length := by omega
  obtain ⟨o, hol⟩ : ∃ o, l[k]? = some o := ⟨l[k], by simp [hkl]⟩
  have hot : (l.take n)[k]? = some o := by rw [List.getElem?_take_of_lt (by omega)]; exact hol
  have hS := hop.at (l.take n) 0 k o hot a w hw (fun s hs => by
    have := acts_other (vs := vs) (ls := fun j => decide (j < k)) (l.take n) 0 a0 hs
    rw [← ha] at this
    simp only [Act.eval, Array.getD_eq_getD_getElem?, this]) (fun j d hjd => by
    rw [Nat.zero_add] at hjd
    simp only [depP, Bool.and_eq_true, decide_eq_true_eq] at hjd
    cases hoj : l[j]? with
    | none => simp [hoj] at hjd
    | some oj =>
     have hjd2 : oj.dst = some d := by simpa [hoj] using hjd.2
     have hjt : (l.take n)[j]? = some oj := by rw [List.getElem?_take_of_lt (by omega)]; exact hoj
     have hat := acts_at (vs := vs) (ls := fun j => decide (j < k)) (l.take n) 0 j a0 oj rfl hds hjt hjd2 (by rw [Nat.zero_add]; simp [hjd.1])
     rw [← ha, Nat.zero_add] at hat
     rw [eval_of hat]
     exact hV j hjd.1)
  rw [Nat.zero_add] at hS
  have hupd : upd (fun j => decide (j < k)) k true = fun j => decide (j < k + 1) := by
   funext j
   by_cases h : j = k
   ·subst h; rw [upd_same]; simp
   ·rw [upd_ne _ _ h]; congr 1; apply propext; omega
  have next : ∀ v w', Below w.heap.size w w' → V k v w' → wpList P l.toArray Q (l.drop (k + 1)) (a.put o.dst v) w' := fun v w' hb hv => by
   refine ih (k + 1) _ w' (by omega) (hw.trans (hb.mono hw.size)) ⟨upd vs k v, ?_, fun j hj => ?_⟩
   ·rw [ha]
    have := acts_set (vs := vs) (ls := fun j => decide (j < k)) (v := v) (l.take n) 0 k a0 o hds hot (by rw [Nat.zero_add]; simp)
    rw [Nat.zero_add, hupd] at this
    exact this
   ·by_cases hjk : j = k
    ·subst hjk; rw [upd_same]; exact hv
    ·rw [upd_ne _ _ hjk]
     exact hst j _ w w' hb (hV j (by omega))
  have hdr : l.drop k = o :: l.drop (k + 1) := by
   rw [List.drop_eq_getElem_cons hkl]
   have : l[k] = o := by simpa [hkl] using hol
   rw [this]
  rw [hdr]
  show if Region.wanted o (yielded l.toArray a.tmps) then _ else _
  rcases hS with ⟨hwt, hD⟩ | ⟨hwt, hu⟩
  ·rw [if_pos hwt]
   exact .inl (hD.wp fun v w' h => next v w' h.1 h.2)
  ·rw [if_neg (by rw [hwt]; decide)]
   exact next _ w (Below.refl _ _) hu
theorem wp_plain_inv {id : Nat} {l : List Oper} {Q : Exit → Act → World → Prop} {a0 : Act} {u : World} (n : Nat) (V : Nat → Value → World → Prop) (hst : ∀ j v w w', Below w.heap.size w w' → V j v w → V j v w')
  (hB : (dsB a0.tmps.size (l.take n) && decide (n ≤ l.length)) = true) (hop : OpsOK P l (depP l) n V u a0 (l.take n) 0) (hfin : ∀ w, Below u.heap.size u w → FinAll V w (fun a => wpList P l.toArray Q (l.drop n) a w) (l.take n) 0 a0) : (Code.region id l.toArray false).wp P Q a0 u := by
 rw [Bool.and_eq_true, decide_eq_true_eq] at hB
 have a00 : ∀ (r : List Oper) (k : Nat) (a : Act), acts (fun _ => undef) (fun j => decide (j < 0)) r k a = a := by
  intro r
  induction r with
  | nil => intro k a; rfl
  | cons o r ih => intro k a; unfold acts; simp only [Nat.not_lt_zero, decide_false, Bool.false_eq_true, if_false]; exact ih _ _
 exact wp_region_lit (list_inv hst hB.1 hB.2 hop hfin n 0 a0 u (by omega) (Below.refl _ _) ⟨fun _ => undef, (a00 _ _ _).symm, fun j h => by omega⟩)
def Stb (R : Value → World → Prop) : Prop := ∀ v w w', Below w.heap.size w w' → R v w → R v w'
def AllStb : List (Value → World → Prop) → Prop
 | [] => True
 | R :: l => Stb R ∧ AllStb l
def specs (l : List (Value → World → Prop)) (j : Nat) : Value → World → Prop := l.getD j (fun _ _ => True)
theorem specs_stb : ∀ {l : List (Value → World → Prop)}, AllStb l → ∀ j v w w', Below w.heap.size w w' → specs l j v w → specs l j v w'
 | [], _, j, v, w, w', _, _ => by simp [specs]
 | R :: l, h, 0, v, w, w', hb, hv => h.1 v w w' hb hv
 | R :: l, h, j + 1, v, w, w', hb, hv => by
  have := specs_stb h.2 j v w w' hb (by simpa [specs] using hv)
  simpa [specs] using this
/- single steps -/
theorem Step.plain {l : List Oper} {V : Nat → Value → World → Prop} {k : Nat} {o : Oper} {a : Act} {w : World} (hg : o.guard = none) (h : Does P o a.eval w (fun v w' => Below w.heap.size w w' ∧ V k v w')) : Step P l V k o a w :=
 .inl ⟨by simp [Region.wanted, hg], h⟩
theorem undef_ne (c : Bool) : undef ≠ .bool c := by unfold undef; intro h; cases h
theorem yielded_at {l : List Oper} {a : Act} {j d : Nat} {c : Bool} (hd : (l[j]?).bind (·.dst) = some d) (he : a.eval (.tmp d) = .bool c) : yielded l.toArray a.tmps j = some c := by
 unfold yielded
 rw [List.getElem?_toArray, hd]
 simp only [Act.eval, Array.getD_eq_getD_getElem?] at he
 simp only [Option.bind_some]
 cases ht : a.tmps[d]? with
 | none => rw [ht] at he; exact absurd he (undef_ne c)
 | some v => rw [ht] at he; simp only [Option.getD_some] at he; rw [he]
theorem Step.yes {l : List Oper} {V : Nat → Value → World → Prop} {k : Nat} {o : Oper} {a : Act} {w : World} (j d : Nat) (b : Bool) (hg : o.guard = some (j, b)) (hd : (l[j]?).bind (·.dst) = some d) (he : a.eval (.tmp d) = .bool b)
  (h : Does P o a.eval w (fun v w' => Below w.heap.size w w' ∧ V k v w')) : Step P l V k o a w :=
 .inl ⟨by simp [Region.wanted, hg, yielded_at hd he], h⟩
theorem Step.no {l : List Oper} {V : Nat → Value → World → Prop} {k : Nat} {o : Oper} {a : Act} {w : World} (j d : Nat) (b : Bool) (hg : o.guard = some (j, b)) (hd : (l[j]?).bind (·.dst) = some d) (he : a.eval (.tmp d) = .bool (!b))
  (h : V k undef w) : Step P l V k o a w :=
 .inr ⟨by simp [Region.wanted, hg, yielded_at hd he], h⟩
theorem Does.run {o : Oper} {ρ : Operand → Value} {w : World} {R : Value → World → Prop} (v : Value) (hr : (execOp ρ o).run P w = .ok (.value v) w) (h : R v w) : Does P o ρ w (fun v w' => Below w.heap.size w w' ∧ R v w') :=
 .inl ⟨v, w, hr, Below.refl _ _, h⟩
theorem Does.new {o : Oper} {ρ : Operand → Value} {w : World} {R : Value → World → Prop} (v : Value) (ob : Obj) (hr : (execOp ρ o).run P w = .ok (.value v) (w.alloc ob)) (h : R v (w.alloc ob)) : Does P o ρ w (fun v w' => Below w.heap.size w w' ∧ R v w') :=
 .inl ⟨v, _, hr, below1 _ _, h⟩
theorem Does.call {o : Oper} {ρ : Operand → Value} {w : World} {R : Value → World → Prop} (f : FuncId) (args : Array Value) (hr : (execOp ρ o).run P w = .ok (.enter f args) w) (hc : Calls P f args w fun e w' => ∃ v, e = .returned v ∧ (Below w.heap.size w w' ∧ R v w')) : Does P o ρ w (fun v w' => Below w.heap.size w w' ∧ R v w') :=
 .inr ⟨f, args, hr, hc⟩
end
end Go.Proofs.YtabgihjffjlfiaaGreatDoor
set_option linter.unusedVariables false
namespace Go.Proofs.YtabgihjffjlfiaaGreatDoor
open Go.RowKit Go.Sort Go.BigFrame
set_option maxRecDepth 100000
set_option maxHeartbeats 2000000
def Ret (f : FuncId) (args : Array Value) (w : World) (R : Value → World → Prop) : Prop := Calls Tryz.prog f args w fun e w' => ∃ v, e = .returned v ∧ (Below w.heap.size w w' ∧ R v w')
def El (x : Fe) (v : Value) (_ : World) : Prop := ∃ e : E5, e.wf ∧ v = .agg (elc e) ∧ fe e.val = x
theorem El.stb (x : Fe) : Stb (El x) := fun _ _ _ _ h => h
def ptc (x y z t : E5) : Array Value := #[.int .u64 (x.a0 : Int), .int .u64 (x.a1 : Int), .int .u64 (x.a2 : Int), .int .u64 (x.a3 : Int), .int .u64 (x.a4 : Int), .int .u64 (y.a0 : Int), .int .u64 (y.a1 : Int), .int .u64 (y.a2 : Int), .int .u64 (y.a3 : Int), .int .u64 (y.a4 : Int), .int .u64 (z.a0 : Int), .int .u64 (z.a1 : Int), .int .u64 (z.a2 : Int), .int .u64 (z.a3 : Int), .int .u64 (z.a4 : Int), .int .u64 (t.a0 : Int), .int .u64 (t.a1 : Int), .int .u64 (t.a2 : Int), .int .u64 (t.a3 : Int), .int .u64 (t.a4 : Int)]
def Cells4 (cs : Array Value) (X Y Z T : Fe) : Prop := ∃ x y z t : E5, x.wf ∧ y.wf ∧ z.wf ∧ t.wf ∧ cs = ptc x y z t ∧ fe x.val = X ∧ fe y.val = Y ∧ fe z.val = Z ∧ fe t.val = T
def CellsP (cs : Array Value) (p : Pt) : Prop := ∃ X Y Z T, Cells4 cs X Y Z T ∧ Rep X Y Z T p
def PtV (p : Pt) (v : Value) (_ : World) : Prop := ∃ cs, v = .agg cs ∧ CellsP cs p
theorem PtV.stb (p : Pt) : Stb (PtV p) := fun _ _ _ _ h => h
def Is (x v : Value) (_ : World) : Prop := v = x
theorem Is.stb (x : Value) : Stb (Is x) := fun _ _ _ _ h => h
def Box (lo : Nat) (cs : Array Value) (t : TypeId) (v : Value) (w : World) : Prop := ∃ g, v = .pointer (some ⟨g, 0, none⟩) ∧ lo ≤ g ∧ w.heap[g]? = some (.cells cs t (0, 0))
theorem Box.stb (lo : Nat) (cs : Array Value) (t : TypeId) : Stb (Box lo cs t) := fun _ _ _ hb ⟨g, h1, h2, h3⟩ => ⟨g, h1, h2, block_below hb (lt_of_heap h3) h3⟩
theorem info29 : (Tryz.prog.info? 60).map (·.size) = some 20 := by kernel_rfl
theorem info35 : (Tryz.prog.info? 45).map (·.size) = some 2 := by kernel_rfl
theorem info68 : (Tryz.prog.info? 90).map (·.size) = some 32 := by kernel_rfl
theorem ptc_one (x y z t : E5) : (ptc x y z t).all (·.oneCell') = true := by simp [ptc, Value.oneCell']
/- the field's contracts -/
theorem fe_of_mod {a b : Nat} (h : a % pp = b % pp) : fe a = fe b := fe_eq h
theorem cAdd {x y : Fe} {v1 v2 : Value} (w w0 w1 : World) (h1 : El x v1 w0) (h2 : El y v2 w1) : Ret 90 #[v1, v2] w (El (x + y)) := by
 obtain ⟨a, ha, rfl, rfl⟩ := h1
 obtain ⟨b, hb, rfl, rfl⟩ := h2
 exact (add22 a b w ha hb).mono fun e w' ⟨h, hB⟩ => ⟨_, h, hB, _, addE_wf ha hb, rfl, by rw [← fe_add]; exact fe_of_mod (addE_mod a b)⟩
theorem cSub {x y : Fe} {v1 v2 : Value} (w w0 w1 : World) (h1 : El x v1 w0) (h2 : El y v2 w1) : Ret 92 #[v1, v2] w (El (x - y)) := by
 obtain ⟨a, ha, rfl, rfl⟩ := h1
 obtain ⟨b, hb, rfl, rfl⟩ := h2
 refine (sub20 a b w ha hb).mono fun e w' ⟨h, hB⟩ => ⟨_, h, hB, _, subE_wf ha hb, rfl, ?_⟩
 have h3 : fe (subE a b).val + fe b.val = fe a.val := by rw [← fe_add]; exact fe_of_mod (subE_mod hb)
 grobner
theorem cMul {x y : Fe} {v1 v2 : Value} (w w0 w1 : World) (h1 : El x v1 w0) (h2 : El y v2 w1) : Ret 77 #[v1, v2] w (El (x * y)) := by
 obtain ⟨a, ha, rfl, rfl⟩ := h1
 obtain ⟨b, hb, rfl, rfl⟩ := h2
 exact (mul24 a b w ha hb).mono fun e w' ⟨h, hB⟩ => ⟨_, h, hB, _, mulE_wf ha hb, rfl, by rw [← fe_mul]; exact fe_of_mod (mulE_mod a b)⟩
theorem cInt (w : World) (n : Nat) (h : n ≤ 9223372036854775807) : Ret 89 #[.int .i64 (n : Int)] w (El (fe n)) :=
 (int17p n w h).mono fun e w' ⟨h1, hB⟩ => ⟨_, h1, hB, _, wordE_wf (by omega), rfl, by rw [wordE_val]⟩
theorem cInt0 (w : World) : Ret 89 #[.int .i64 0] w (El 0) := cInt w 0 (by omega)
theorem cInt1 (w : World) : Ret 89 #[.int .i64 1] w (El 1) := cInt w 1 (by omega)
theorem cInv {x : Fe} {v1 : Value} (w w0 : World) (h1 : El x v1 w0) : Ret 76 #[v1] w (El (fin x)) := by
 obtain ⟨a, ha, rfl, rfl⟩ := h1
 refine (inv28 a w ha).mono fun e w' ⟨r, hr, hre, h, hB⟩ => ⟨_, h, hB, r, hr, rfl, ?_⟩
 obtain ⟨X, hX⟩ : ∃ X, X = 57896044618658097711785492504343953926634992332820282019728792003956564819947 := ⟨_, rfl⟩
 rw [← hX] at hre
 rw [fin_pw _ (n := X) (by rw [hX]; decide), pw_fe]
 exact fe_of_mod hre
theorem cEq {x y : Fe} {v1 v2 : Value} (w w0 w1 : World) (h1 : El x v1 w0) (h2 : El y v2 w1) : Ret 110 #[v1, v2] w (Is (.bool (decide (x = y)))) := by
 obtain ⟨a, ha, rfl, rfl⟩ := h1
 obtain ⟨b, hb, rfl, rfl⟩ := h2
 refine (equal13 a b w ha hb).mono fun e w' ⟨h, hB⟩ => ⟨_, h, hB, ?_⟩
 show Value.bool _ = Value.bool _
 congr 1
 rw [decide_eq_decide]
 exact fe_iff.symm
theorem cOdd {x : Fe} {v1 : Value} (w w0 : World) (h1 : El x v1 w0) : Ret 68 #[v1] w (Is (.bool (decide (x.val % 2 = 1)))) := by
 obtain ⟨a, ha, rfl, rfl⟩ := h1
 exact (odd27 a w ha).mono fun e w' ⟨h, hB⟩ => ⟨_, h, hB, rfl⟩
def Own (lo : Nat) (l : List Nat) (v : Value) (w : World) : Prop := ∃ g, v = .slice (some ⟨g, 0, none⟩) l.length l.length ∧ lo ≤ g ∧ w.heap[g]? = some (.cells (ints .u8 l) 5 (0, 0))
theorem Own.stb (lo : Nat) (l : List Nat) : Stb (Own lo l) := fun _ _ _ hb ⟨g, h1, h2, h3⟩ => ⟨g, h1, h2, block_below hb (lt_of_heap h3) h3⟩
theorem cBytes {x : Fe} {v1 : Value} (w w0 : World) (h1 : El x v1 w0) : Ret 78 #[v1] w (Own w.heap.size (digs 32 x.val)) := by
 obtain ⟨a, ha, rfl, rfl⟩ := h1
 refine (bytes15 a w ha).mono fun e w' ⟨g, h, hg, hB, hr⟩ => ⟨_, h, hB, g, by rw [digs_len], hg, hr⟩
def Bts (l : List Nat) (v : Value) (w : World) : Prop := ∃ a cap, v = .slice a l.length cap ∧ l.length ≤ cap ∧ cap ≤ 9223372036854775807 ∧ View w a l
theorem Bts.stb (l : List Nat) : Stb (Bts l) := fun _ _ _ hb ⟨a, c, h1, h2, h3, h4⟩ => ⟨a, c, h1, h2, h3, h4.below hb⟩
theorem Own.bts {lo : Nat} {l : List Nat} {v : Value} {w : World} (h : Own lo l v w) (hl : l.length ≤ 1000) : Bts l v w := by
 obtain ⟨g, h1, h2, h3⟩ := h
 exact ⟨_, _, h1, Nat.le_refl _, by omega, fun _ => ⟨g, 0, rfl, bytes_row h3⟩⟩
theorem cPow {x : Fe} {v1 v2 : Value} {l : List Nat} (w w0 : World) (h1 : El x v1 w0) (h2 : Bts l v2 w) (hl : l.length ≤ 64) (hd : Dig l) : Ret 95 #[v1, v2] w (El (pw x (valD l))) := by
 obtain ⟨a, ha, rfl, rfl⟩ := h1
 obtain ⟨ad, cap, rfl, hc, hc2, hv⟩ := h2
 refine (pow30 a ad l.length cap l w ha rfl hc hc2 hl hd hv).mono fun e w' ⟨r, hr, hre, h, hB⟩ => ⟨_, h, hB, r, hr, rfl, ?_⟩
 rw [pw_fe]
 exact fe_of_mod hre
def Tup2 (R1 R2 : Value → World → Prop) (v : Value) (w : World) : Prop := ∃ v1 v2, v = .tuple #[v1, v2] ∧ R1 v1 w ∧ R2 v2 w
theorem Tup2.stb {R1 R2 : Value → World → Prop} (h1 : Stb R1) (h2 : Stb R2) : Stb (Tup2 R1 R2) := fun _ w w' hb ⟨v1, v2, h, a, b⟩ => ⟨v1, v2, h, h1 v1 w w' hb a, h2 v2 w w' hb b⟩
theorem cRead {v : Value} {l : List Nat} (w : World) (h : Bts l v w) (hl : l.length = 32) (hd : Dig l) (hlt : valD l < pp) : Ret 66 #[v] w (Tup2 (El (fe (valD l))) (Is (.int .i64 0))) := by
 obtain ⟨a, cap, rfl, hc, hc2, hv⟩ := h
 have := read9 a cap l w hl (by omega) hc2 hd hv
 rw [if_pos hlt] at this
 rw [hl]
 refine this.mono fun e w' ⟨h, hB⟩ => ⟨_, h, hB, _, _, rfl, ⟨_, splitE_wf _, rfl, ?_⟩, rfl⟩
 rw [splitE_val, Nat.mod_eq_of_lt (by have := pp_lt; omega)]
theorem cReadNot {v : Value} {l : List Nat} (w : World) (h : Bts l v w) (hl : l.length = 32) (hd : Dig l) (hlt : ¬ valD l < pp) : Ret 66 #[v] w (Tup2 (El 0) (Is (.int .i64 2))) := by
 obtain ⟨a, cap, rfl, hc, hc2, hv⟩ := h
 have := read9 a cap l w hl (by omega) hc2 hd hv
 rw [if_neg hlt] at this
 rw [hl]
 exact this.mono fun e w' ⟨h, hB⟩ => ⟨_, h, hB, _, _, rfl, ⟨_, zeroE_wf, rfl, rfl⟩, rfl⟩
/- single operations -/
section
variable {ρ : Operand → Value} {o : Oper} {x y z t : Operand} {w : World}
theorem fa29 (g k : Nat) (hk : k < 4) (ho : o.op = .fieldAddr 60 x k) (hx : ρ x = .pointer (some ⟨g, 0, none⟩)) : (execOp ρ o).run Tryz.prog w = .ok (.value (.pointer (some ⟨g, 5 * k, none⟩))) w := by
 simp only [execOp, ho, hx]
 rcases (by omega : k = 0 ∨ k = 1 ∨ k = 2 ∨ k = 3) with rfl | rfl | rfl | rfl <;> kernel_rfl
theorem fa35 (g k : Nat) (hk : k < 2) (ho : o.op = .fieldAddr 45 x k) (hx : ρ x = .pointer (some ⟨g, 0, none⟩)) : (execOp ρ o).run Tryz.prog w = .ok (.value (.pointer (some ⟨g, k, none⟩))) w := by
 simp only [execOp, ho, hx]
 rcases (by omega : k = 0 ∨ k = 1) with rfl | rfl <;> kernel_rfl
theorem bu29 (e1 e2 e3 e4 : E5) (ho : o.op = .build 60 #[(0, x), (1, y), (2, z), (3, t)]) (hx : ρ x = .agg (elc e1)) (hy : ρ y = .agg (elc e2)) (hz : ρ z = .agg (elc e3)) (ht : ρ t = .agg (elc e4)) : (execOp ρ o).run Tryz.prog w = .ok (.value (.agg (ptc e1 e2 e3 e4))) w := by
 simp only [execOp, ho, List.map_toArray, List.map, hx, hy, hz, ht]
 kernel_rfl
theorem bu35 (a b : Option Addr) (n m k l : Nat) (ho : o.op = .build 45 #[(0, x), (1, y)]) (hx : ρ x = .slice a n m) (hy : ρ y = .slice b k l) : (execOp ρ o).run Tryz.prog w = .ok (.value (.agg #[.slice a n m, .slice b k l])) w := by
 simp only [execOp, ho, List.map_toArray, List.map, hx, hy]
 kernel_rfl
theorem al27 (ho : o.op = .alloc 58) : (execOp ρ o).run Tryz.prog w = .ok (.value (.pointer (some ⟨w.heap.size, 0, none⟩))) (w.alloc (.cells (elc zeroE) 58)) := by
 simp only [execOp, ho]
 kernel_rfl
theorem al29 (ho : o.op = .alloc 60) : (execOp ρ o).run Tryz.prog w = .ok (.value (.pointer (some ⟨w.heap.size, 0, none⟩))) (w.alloc (.cells (ptc zeroE zeroE zeroE zeroE) 60)) := by
 simp only [execOp, ho]
 kernel_rfl
theorem al35 (ho : o.op = .alloc 45) : (execOp ρ o).run Tryz.prog w = .ok (.value (.pointer (some ⟨w.heap.size, 0, none⟩))) (w.alloc (.cells #[.slice none 0 0, .slice none 0 0] 45)) := by
 simp only [execOp, ho]
 kernel_rfl
theorem loadRow {P : Program} {ty t : TypeId} {g : Nat} {cs : Array Value} {fr : Nat × Nat} {d : TypeDesc} (ho : o.op = .load ty x) (hx : ρ x = .pointer (some ⟨g, 0, none⟩)) (h : w.heap[g]? = some (.cells cs t fr)) (hu : P.underlying ty = some d) (hd : (match d with | .struct _ | .array _ _ => true | _ => false) = true)
  (hi : (P.info? ty).map (·.size) = some cs.size) : (execOp ρ o).run P w = .ok (.value (.agg cs)) w := by
 unfold execOp
 simp only [ho, hx, Instr.loadAt, Instr.sureAddr, Sem.run_bind, Sem.run_pure, Result.andThen_ok, run_loadVar_row w g t ty cs fr d h hu hd hi]
theorem range_of {g t : Nat} {cs : Array Value} {fr : Nat × Nat} (h : w.heap[g]? = some (.cells cs t fr)) (o : Nat) (l : List Value) (hl : ∀ j v, l[j]? = some v → cs[o + j]? = some v) : w.rangeAt g o l := fun j v hv => by
 rw [cell_of_row w g (o + j) _ t _ h]; exact hl j v hv
theorem loadMid {g off : Nat} {e : E5} (ho : o.op = .load 58 x) (hx : ρ x = .pointer (some ⟨g, off, none⟩)) (h : w.rangeAt g off (elc e).toList) : (execOp ρ o).run Tryz.prog w = .ok (.value (.agg (elc e))) w := by
 unfold execOp
 simp only [ho, hx, Instr.loadAt, Instr.sureAddr, Sem.run_bind, Sem.run_pure, Result.andThen_ok, run_loadVar_mid w g off 58 (elc e).toList _ h Tryz.underlying58 rfl (info26 : _)]
theorem part_at {g tt : Nat} {fr : Nat × Nat} {e1 e2 e3 e4 : E5} (h : w.heap[g]? = some (.cells (ptc e1 e2 e3 e4) tt fr)) : w.rangeAt g (5 * 0) (elc e1).toList ∧ w.rangeAt g (5 * 1) (elc e2).toList ∧ w.rangeAt g (5 * 2) (elc e3).toList ∧ w.rangeAt g (5 * 3) (elc e4).toList := by
 have five : ∀ (off : Nat) (e : E5), (∀ j, j < 5 → (ptc e1 e2 e3 e4)[off + j]? = (elc e).toList[j]?) → w.rangeAt g off (elc e).toList := fun off e H => range_of h off _ fun j v hv => by
  have hj : j < 5 := by
   have := (List.getElem?_eq_some_iff.1 hv).1
   simpa [elc] using this
  rw [H j hj]; exact hv
 refine ⟨five _ _ ?_, five _ _ ?_, five _ _ ?_, five _ _ ?_⟩ <;> intro j hj <;> rcases (by omega : j = 0 ∨ j = 1 ∨ j = 2 ∨ j = 3 ∨ j = 4) with rfl | rfl | rfl | rfl | rfl <;> rfl
theorem dLoadPart {R : Value → World → Prop} {g k : Nat} {X Y Z T : Fe} {cs : Array Value} {tt : Nat} {fr : Nat × Nat} (hc : Cells4 cs X Y Z T) (h : w.heap[g]? = some (.cells cs tt fr)) (hk : k < 4) (ho : o.op = .load 58 x) (hx : ρ x = .pointer (some ⟨g, 5 * k, none⟩))
  (hR : ∀ v, El (if k = 0 then X else if k = 1 then Y else if k = 2 then Z else T) v w → R v w) : Does Tryz.prog o ρ w (fun v w' => Below w.heap.size w w' ∧ R v w') := by
 obtain ⟨e1, e2, e3, e4, h1, h2, h3, h4, rfl, rfl, rfl, rfl, rfl⟩ := hc
 obtain ⟨p1, p2, p3, p4⟩ := part_at h
 rcases (by omega : k = 0 ∨ k = 1 ∨ k = 2 ∨ k = 3) with rfl | rfl | rfl | rfl
 ·exact Does.run _ (loadMid ho hx p1) (hR _ ⟨_, h1, rfl, rfl⟩)
 ·exact Does.run _ (loadMid ho hx p2) (hR _ ⟨_, h2, rfl, rfl⟩)
 ·exact Does.run _ (loadMid ho hx p3) (hR _ ⟨_, h3, rfl, rfl⟩)
 ·exact Does.run _ (loadMid ho hx p4) (hR _ ⟨_, h4, rfl, rfl⟩)
theorem dLoadEl {R : Value → World → Prop} {g : Nat} {e : E5} {tt : Nat} {fr : Nat × Nat} {X : Fe} (he : e.wf) (hX : fe e.val = X) (h : w.heap[g]? = some (.cells (elc e) tt fr)) (ho : o.op = .load 58 x) (hx : ρ x = .pointer (some ⟨g, 0, none⟩)) (hR : ∀ v, El X v w → R v w) : Does Tryz.prog o ρ w (fun v w' => Below w.heap.size w w' ∧ R v w') :=
 Does.run _ (loadRow ho hx h Tryz.underlying58 rfl info26) (hR _ ⟨e, he, rfl, hX⟩)
theorem dLoadPt {R : Value → World → Prop} {g : Nat} {cs : Array Value} {tt : Nat} {fr : Nat × Nat} {p : Pt} (hp : CellsP cs p) (h : w.heap[g]? = some (.cells cs tt fr)) (ho : o.op = .load 60 x) (hx : ρ x = .pointer (some ⟨g, 0, none⟩)) (hR : ∀ v, PtV p v w → R v w) : Does Tryz.prog o ρ w (fun v w' => Below w.heap.size w w' ∧ R v w') := by
 refine Does.run _ (loadRow ho hx h Tryz.underlying60 rfl ?_) (hR _ ⟨cs, rfl, hp⟩)
 obtain ⟨X, Y, Z, T, ⟨e1, e2, e3, e4, _, _, _, _, rfl, _⟩, _⟩ := hp
 exact info29
theorem dAlloc27 {lo : Nat} (hlo : lo ≤ w.heap.size) (ho : o.op = .alloc 58) : Does Tryz.prog o ρ w (fun v w' => Below w.heap.size w w' ∧ Box lo (elc zeroE) 58 v w') :=
 Does.new _ _ (al27 ho) ⟨_, rfl, hlo, heap_alloc_new _ _⟩
theorem dAlloc29 {lo : Nat} (hlo : lo ≤ w.heap.size) (ho : o.op = .alloc 60) : Does Tryz.prog o ρ w (fun v w' => Below w.heap.size w w' ∧ Box lo (ptc zeroE zeroE zeroE zeroE) 60 v w') :=
 Does.new _ _ (al29 ho) ⟨_, rfl, hlo, heap_alloc_new _ _⟩
theorem dAlloc35 {lo : Nat} (hlo : lo ≤ w.heap.size) (ho : o.op = .alloc 45) : Does Tryz.prog o ρ w (fun v w' => Below w.heap.size w w' ∧ Box lo #[.slice none 0 0, .slice none 0 0] 45 v w') :=
 Does.new _ _ (al35 ho) ⟨_, rfl, hlo, heap_alloc_new _ _⟩
def Pt4 (X Y Z T : Fe) (v : Value) (_ : World) : Prop := ∃ cs, v = .agg cs ∧ Cells4 cs X Y Z T
theorem Pt4.stb (X Y Z T : Fe) : Stb (Pt4 X Y Z T) := fun _ _ _ _ h => h
theorem dBuild29 {X Y Z T : Fe} {w1 w2 w3 w4 : World} (ho : o.op = .build 60 #[(0, x), (1, y), (2, z), (3, t)]) (hx : El X (ρ x) w1) (hy : El Y (ρ y) w2) (hz : El Z (ρ z) w3) (ht : El T (ρ t) w4) : Does Tryz.prog o ρ w (fun v w' => Below w.heap.size w w' ∧ Pt4 X Y Z T v w') := by
 obtain ⟨e1, a1, b1, c1⟩ := hx
 obtain ⟨e2, a2, b2, c2⟩ := hy
 obtain ⟨e3, a3, b3, c3⟩ := hz
 obtain ⟨e4, a4, b4, c4⟩ := ht
 exact Does.run _ (bu29 e1 e2 e3 e4 ho b1 b2 b3 b4) ⟨_, rfl, e1, e2, e3, e4, a1, a2, a3, a4, rfl, c1, c2, c3, c4⟩
theorem dMove {R : Value → World → Prop} (ho : o.op = .move x) (h : R (ρ x) w) : Does Tryz.prog o ρ w (fun v w' => Below w.heap.size w w' ∧ R v w') :=
 Does.run _ (BigFrame.run_move x ho w) h
theorem dAssign {R : Value → World → Prop} (ho : o.op = .assign x) (h : R (ρ x) w) : Does Tryz.prog o ρ w (fun v w' => Below w.heap.size w w' ∧ R v w') :=
 Does.run _ (run_assignO x ho w) h
theorem dFa29 (g k : Nat) (hk : k < 4) (ho : o.op = .fieldAddr 60 x k) (hx : ρ x = .pointer (some ⟨g, 0, none⟩)) : Does Tryz.prog o ρ w (fun v w' => Below w.heap.size w w' ∧ Is (.pointer (some ⟨g, 5 * k, none⟩)) v w') :=
 Does.run _ (fa29 g k hk ho hx) rfl
theorem dFa35 (g k : Nat) (hk : k < 2) (ho : o.op = .fieldAddr 45 x k) (hx : ρ x = .pointer (some ⟨g, 0, none⟩)) : Does Tryz.prog o ρ w (fun v w' => Below w.heap.size w w' ∧ Is (.pointer (some ⟨g, k, none⟩)) v w') :=
 Does.run _ (fa35 g k hk ho hx) rfl
end
theorem cellsP_size {cs : Array Value} {p : Pt} (h : CellsP cs p) : cs.size = 20 := by
 obtain ⟨X, Y, Z, T, ⟨e1, e2, e3, e4, _, _, _, _, rfl, _⟩, _⟩ := h
 rfl
theorem cellsP_one {cs : Array Value} {p : Pt} (h : CellsP cs p) : cs.all (·.oneCell') = true := by
 obtain ⟨X, Y, Z, T, ⟨e1, e2, e3, e4, _, _, _, _, rfl, _⟩, _⟩ := h
 exact ptc_one _ _ _ _
theorem Pt4.cells {cs : Array Value} {X Y Z T : Fe} (h : Cells4 cs X Y Z T) : cs.size = 20 ∧ cs.all (·.oneCell') = true := by
 obtain ⟨e1, e2, e3, e4, _, _, _, _, rfl, _⟩ := h
 exact ⟨rfl, ptc_one _ _ _ _⟩
end Go.Proofs.YtabgihjffjlfiaaGreatDoor
set_option linter.unusedVariables false
namespace Go.Proofs.YtabgihjffjlfiaaGreatDoor
open Go.RowKit Go.Sort Go.BigFrame
set_option maxRecDepth 100000
set_option maxHeartbeats 2000000
theorem use {R : Value → World → Prop} {a v : Value} {w : World} (h : a = v) (hv : R v w) : R a w := by subst h; exact hv
section
variable {ρ : Operand → Value} {o : Oper} {x y z t : Operand} {w : World}
theorem dBox27 {lo : Nat} {e : E5} (hlo : lo ≤ w.heap.size) (ho : o.op = .box 58 x) (hx : ρ x = .agg (elc e)) (_ : True) : Does Tryz.prog o ρ w (fun v w' => Below w.heap.size w w' ∧ Box lo (elc e) 58 v w') :=
 Does.new _ (.cells (elc e) 58) (by simp only [execOp, ho, hx]; kernel_rfl) ⟨_, rfl, hlo, heap_alloc_new _ _⟩
theorem dBox29 {lo : Nat} {cs : Array Value} {X Y Z T : Fe} (hlo : lo ≤ w.heap.size) (ho : o.op = .box 60 x) (hx : ρ x = .agg cs) (hc : Cells4 cs X Y Z T) : Does Tryz.prog o ρ w (fun v w' => Below w.heap.size w w' ∧ Box lo cs 60 v w') := by
 obtain ⟨e1, e2, e3, e4, _, _, _, _, rfl, _⟩ := hc
 exact Does.new _ (.cells (ptc e1 e2 e3 e4) 60) (by simp only [execOp, ho, hx]; kernel_rfl) ⟨_, rfl, hlo, heap_alloc_new _ _⟩
end
theorem wpList_assign {P : Program} {ops : Array Oper} {Q : Exit → Act → World → Prop} {o : Oper} {rest : List Oper} {a : Act} {w : World} {x : Operand} {d : Nat} (hg : o.guard = none) (ho : o.op = .assign x) (hd : o.dst = some d)
  (h : wpList P ops Q rest (a.put (some d) (a.eval x)) w) : wpList P ops Q (o :: rest) a w :=
 wpList_plain hg fun _ hK => by
  unfold Oper.wp
  rw [run_assignO x ho w, Oper.upon_value, hd]
  exact hK _ _ h
theorem cNegEl {x : Fe} {v : Value} (w w0 : World) (h : El x v w0) : Ret 69 #[v] w (El (0 - (x))) := by
 obtain ⟨e, he, rfl, hx⟩ := h
 unfold Ret
 have hO0 : Below w.heap.size w w := Below.refl _ _
 go_enter Tryz.func69, Tryz.ntmps69
 refine wp_seq_k fun K1 hK1 => ?_
 refine wp_plain_inv 2 (specs [Box w.heap.size (elc e) 58, Box w.heap.size (elc zeroE) 58]) (specs_stb ⟨Box.stb _ _ _, Box.stb _ _ _, trivial⟩) (by kernel_rfl) ?_ ?_
 ·refine ⟨fun a w hB hfr hdep => Step.plain rfl (dBox27 hB.size rfl (hfr 0 (by kernel_rfl)) trivial),
   fun a w hB hfr hdep => Step.plain rfl (dAlloc27 hB.size rfl), trivial⟩
 intro u1 hb1
 simp only [List.take, List.drop, FinAll, Act.put, lA, lS, lZ]
 rintro _ ⟨g1_1, rfl, l1_1, m1_1⟩ _ ⟨g2_1, rfl, l2_1, m2_1⟩
 have hO1 := (hO0).trans (hb1.mono (hO0).size)
 have lwm1_1 := Nat.le_trans (hO0).size l1_1
 have lwm2_1 := Nat.le_trans (hO0).size l2_1
 refine hK1 _ _ ?_
 clear hK1 K1
 refine wp_seq_k fun K2 hK2 => ?_
 refine wp_region_inv 3 (specs [El (0), El (x), El ((0) - (x))]) (by kernel_rfl) (specs_stb ⟨El.stb _, El.stb _, El.stb _, trivial⟩) (by kernel_rfl) ?_ ?_
 ·refine ⟨fun a w hB hfr hdep => Step.plain rfl (Does.call 89 #[.int .i64 0] (by kernel_rfl) (cInt0 w)),
   fun a w hB hfr hdep => Step.plain rfl (dLoadEl he hx (block_below hB (lt_of_heap m1_1) m1_1) rfl (hfr 1 (by kernel_rfl)) (fun _ h => h)),
   fun a w hB hfr hdep => Step.plain rfl (Does.call 92 #[(a.eval (.tmp 3)), (a.eval (.tmp 4))] (by kernel_rfl) (cSub w w w (hdep 0 3 (by kernel_rfl)) (hdep 1 4 (by kernel_rfl)))), trivial⟩
 intro u2 hb2
 simp only [List.take, List.drop, FinAll, Act.put, lA, lS, lZ]
 rintro v3_2 h3_2 v4_2 h4_2 _ ⟨e5_2, q5_2, rfl, x5_2⟩
 have om2_1 := block_below hb2 (lt_of_heap m2_1) m2_1
 refine wpList_store_row rfl 58 (.tmp 2) (.tmp 5) rfl _ (elc e5_2) rfl rfl 58 _ om2_1 info26 rfl (elc_one _) ?_
 have n2_2 := setRow_heap _ _ _ (elc e5_2) _ _ om2_1
 have hO2 := setRow_below (hO1.trans (hb2.mono (hO1).size)) lwm2_1 (elc e5_2)
 refine hK2 _ _ ?_
 clear hK2 K2
 refine wp_ret ?_
 refine bodyPost_ret (v := .agg (elc e5_2)) ?_ rfl ⟨_, rfl, hO2, ⟨_, q5_2, rfl, x5_2⟩⟩
 exact results_cell_row Tryz.results69 _ _ _ 58 _ (0, 0) _ rfl n2_2 Tryz.underlying58 rfl (by first | exact info26 | exact info29 | exact info35 | (rw [(Pt4.cells (by assumption)).1]; exact info29) | (rw [cellsP_size (by assumption)]; exact info29))
theorem cOfPair {x y : Fe} {v1 v2 : Value} (w w0 w1 : World) (h : El x v1 w0) (h' : El y v2 w1) : Ret 70 #[v1, v2] w (Pt4 (x) (y) 1 ((x) * (y))) := by
 obtain ⟨e, he, rfl, hx⟩ := h
 obtain ⟨d, hd, rfl, hy⟩ := h'
 unfold Ret
 have hO0 : Below w.heap.size w w := Below.refl _ _
 go_enter Tryz.func70, Tryz.ntmps70
 refine wp_seq_k fun K1 hK1 => ?_
 refine wp_plain_inv 3 (specs [Box w.heap.size (elc e) 58, Box w.heap.size (elc d) 58, Box w.heap.size (ptc zeroE zeroE zeroE zeroE) 60]) (specs_stb ⟨Box.stb _ _ _, Box.stb _ _ _, Box.stb _ _ _, trivial⟩) (by kernel_rfl) ?_ ?_
 ·refine ⟨fun a w hB hfr hdep => Step.plain rfl (dBox27 hB.size rfl (hfr 0 (by kernel_rfl)) trivial),
   fun a w hB hfr hdep => Step.plain rfl (dBox27 hB.size rfl (hfr 1 (by kernel_rfl)) trivial),
   fun a w hB hfr hdep => Step.plain rfl (dAlloc29 hB.size rfl), trivial⟩
 intro u1 hb1
 simp only [List.take, List.drop, FinAll, Act.put, lA, lS, lZ]
 rintro _ ⟨g2_1, rfl, l2_1, m2_1⟩ _ ⟨g3_1, rfl, l3_1, m3_1⟩ _ ⟨g4_1, rfl, l4_1, m4_1⟩
 have hO1 := (hO0).trans (hb1.mono (hO0).size)
 have lwm2_1 := Nat.le_trans (hO0).size l2_1
 have lwm3_1 := Nat.le_trans (hO0).size l3_1
 have lwm4_1 := Nat.le_trans (hO0).size l4_1
 refine hK1 _ _ ?_
 clear hK1 K1
 refine wp_seq_k fun K2 hK2 => ?_
 refine wp_region_inv 7 (specs [El (x), El (y), El (1), El (x), El (y), El ((x) * (y)), Pt4 (x) (y) (1) ((x) * (y))]) (by kernel_rfl) (specs_stb ⟨El.stb _, El.stb _, El.stb _, El.stb _, El.stb _, El.stb _, Pt4.stb _ _ _ _, trivial⟩) (by kernel_rfl) ?_ ?_
 ·refine ⟨fun a w hB hfr hdep => Step.plain rfl (dLoadEl he hx (block_below hB (lt_of_heap m2_1) m2_1) rfl (hfr 2 (by kernel_rfl)) (fun _ h => h)),
   fun a w hB hfr hdep => Step.plain rfl (dLoadEl hd hy (block_below hB (lt_of_heap m3_1) m3_1) rfl (hfr 3 (by kernel_rfl)) (fun _ h => h)),
   fun a w hB hfr hdep => Step.plain rfl (Does.call 89 #[.int .i64 1] (by kernel_rfl) (cInt1 w)),
   fun a w hB hfr hdep => Step.plain rfl (dLoadEl he hx (block_below hB (lt_of_heap m2_1) m2_1) rfl (hfr 2 (by kernel_rfl)) (fun _ h => h)),
   fun a w hB hfr hdep => Step.plain rfl (dLoadEl hd hy (block_below hB (lt_of_heap m3_1) m3_1) rfl (hfr 3 (by kernel_rfl)) (fun _ h => h)),
   fun a w hB hfr hdep => Step.plain rfl (Does.call 77 #[(a.eval (.tmp 8)), (a.eval (.tmp 9))] (by kernel_rfl) (cMul w w w (hdep 3 8 (by kernel_rfl)) (hdep 4 9 (by kernel_rfl)))),
   fun a w hB hfr hdep => Step.plain rfl (dBuild29 (w1 := w) (w2 := w) (w3 := w) (w4 := w) rfl (hdep 0 5 (by kernel_rfl)) (hdep 1 6 (by kernel_rfl)) (hdep 2 7 (by kernel_rfl)) (hdep 5 10 (by kernel_rfl))), trivial⟩
 intro u2 hb2
 simp only [List.take, List.drop, FinAll, Act.put, lA, lS, lZ]
 rintro v5_2 h5_2 v6_2 h6_2 v7_2 h7_2 v8_2 h8_2 v9_2 h9_2 v10_2 h10_2 _ ⟨e11_2, rfl, x11_2⟩
 have om4_1 := block_below hb2 (lt_of_heap m4_1) m4_1
 refine wpList_store_row rfl 60 (.tmp 4) (.tmp 11) rfl _ (e11_2) rfl rfl 60 _ om4_1 (by rw [(Pt4.cells x11_2).1]; exact info29) (by rw [(Pt4.cells x11_2).1]; rfl) (Pt4.cells x11_2).2 ?_
 have n4_2 := setRow_heap _ _ _ (e11_2) _ _ om4_1
 have hO2 := setRow_below (hO1.trans (hb2.mono (hO1).size)) lwm4_1 (e11_2)
 refine hK2 _ _ ?_
 clear hK2 K2
 refine wp_ret ?_
 refine bodyPost_ret (v := .agg (e11_2)) ?_ rfl ⟨_, rfl, hO2, ⟨_, rfl, x11_2⟩⟩
 exact results_cell_row Tryz.results70 _ _ _ 60 _ (0, 0) _ rfl n4_2 Tryz.underlying60 rfl (by first | exact info26 | exact info29 | exact info35 | (rw [(Pt4.cells (by assumption)).1]; exact info29) | (rw [cellsP_size (by assumption)]; exact info29))
end Go.Proofs.YtabgihjffjlfiaaGreatDoor
set_option linter.unusedVariables false
namespace Go.Proofs.YtabgihjffjlfiaaGreatDoor
open Go.RowKit Go.Sort Go.BigFrame
set_option maxRecDepth 100000
set_option maxHeartbeats 2000000
theorem cPlus {p q : Pt} {v1 v2 v3 : Value} (w w0 w1 w2 : World) (h1 : PtV p v1 w0) (h2 : PtV q v2 w1) (h3 : El (dd + dd) v3 w2) : Ret 75 #[v1, v2, v3] w (PtV (p.add q)) := by
 obtain ⟨cs1, rfl, X1, Y1, Z1, T1, h41, hr1⟩ := h1
 obtain ⟨cs2, rfl, X2, Y2, Z2, T2, h42, hr2⟩ := h2
 obtain ⟨d, hd, rfl, hdd⟩ := h3
 unfold Ret
 have hO0 : Below w.heap.size w w := Below.refl _ _
 go_enter Tryz.func75, Tryz.ntmps75
 refine wp_seq_k fun K1 hK1 => ?_
 refine wp_plain_inv 4 (specs [Box w.heap.size (cs1) 60, Box w.heap.size (cs2) 60, Box w.heap.size (elc d) 58, Box w.heap.size (ptc zeroE zeroE zeroE zeroE) 60]) (specs_stb ⟨Box.stb _ _ _, Box.stb _ _ _, Box.stb _ _ _, Box.stb _ _ _, trivial⟩) (by kernel_rfl) ?_ ?_
 ·refine ⟨fun a w hB hfr hdep => Step.plain rfl (dBox29 hB.size rfl (hfr 0 (by kernel_rfl)) h41),
   fun a w hB hfr hdep => Step.plain rfl (dBox29 hB.size rfl (hfr 1 (by kernel_rfl)) h42),
   fun a w hB hfr hdep => Step.plain rfl (dBox27 hB.size rfl (hfr 2 (by kernel_rfl)) trivial),
   fun a w hB hfr hdep => Step.plain rfl (dAlloc29 hB.size rfl), trivial⟩
 intro u1 hb1
 simp only [List.take, List.drop, FinAll, Act.put, lA, lS, lZ]
 rintro _ ⟨g3_1, rfl, l3_1, m3_1⟩ _ ⟨g4_1, rfl, l4_1, m4_1⟩ _ ⟨g5_1, rfl, l5_1, m5_1⟩ _ ⟨g6_1, rfl, l6_1, m6_1⟩
 have hO1 := (hO0).trans (hb1.mono (hO0).size)
 have lwm3_1 := Nat.le_trans (hO0).size l3_1
 have lwm4_1 := Nat.le_trans (hO0).size l4_1
 have lwm5_1 := Nat.le_trans (hO0).size l5_1
 have lwm6_1 := Nat.le_trans (hO0).size l6_1
 refine hK1 _ _ ?_
 clear hK1 K1
 refine wp_seq_k fun K2 hK2 => ?_
 refine wp_region_inv 12 (specs [Is (.pointer (some ⟨g3_1, 5, none⟩)), El (Y1), Is (.pointer (some ⟨g3_1, 0, none⟩)), El (X1), El ((Y1) - (X1)), Is (.pointer (some ⟨g4_1, 5, none⟩)), El (Y2), Is (.pointer (some ⟨g4_1, 0, none⟩)), El (X2), El ((Y2) - (X2)), El (((Y1) - (X1)) * ((Y2) - (X2))), Box u1.heap.size (elc zeroE) 58]) (by kernel_rfl) (specs_stb ⟨Is.stb _, El.stb _, Is.stb _, El.stb _, El.stb _, Is.stb _, El.stb _, Is.stb _, El.stb _, El.stb _, El.stb _, Box.stb _ _ _, trivial⟩) (by kernel_rfl) ?_ ?_
 ·refine ⟨fun a w hB hfr hdep => Step.plain rfl (dFa29 g3_1 1 (by decide) rfl (hfr 3 (by kernel_rfl))),
   fun a w hB hfr hdep => Step.plain rfl (dLoadPart (k := 1) h41 (block_below hB (lt_of_heap m3_1) m3_1) (by decide) rfl (hdep 0 16 (by kernel_rfl)) (fun _ h => h)),
   fun a w hB hfr hdep => Step.plain rfl (dFa29 g3_1 0 (by decide) rfl (hfr 3 (by kernel_rfl))),
   fun a w hB hfr hdep => Step.plain rfl (dLoadPart (k := 0) h41 (block_below hB (lt_of_heap m3_1) m3_1) (by decide) rfl (hdep 2 18 (by kernel_rfl)) (fun _ h => h)),
   fun a w hB hfr hdep => Step.plain rfl (Does.call 92 #[(a.eval (.tmp 17)), (a.eval (.tmp 19))] (by kernel_rfl) (cSub w w w (hdep 1 17 (by kernel_rfl)) (hdep 3 19 (by kernel_rfl)))),
   fun a w hB hfr hdep => Step.plain rfl (dFa29 g4_1 1 (by decide) rfl (hfr 4 (by kernel_rfl))),
   fun a w hB hfr hdep => Step.plain rfl (dLoadPart (k := 1) h42 (block_below hB (lt_of_heap m4_1) m4_1) (by decide) rfl (hdep 5 21 (by kernel_rfl)) (fun _ h => h)),
   fun a w hB hfr hdep => Step.plain rfl (dFa29 g4_1 0 (by decide) rfl (hfr 4 (by kernel_rfl))),
   fun a w hB hfr hdep => Step.plain rfl (dLoadPart (k := 0) h42 (block_below hB (lt_of_heap m4_1) m4_1) (by decide) rfl (hdep 7 23 (by kernel_rfl)) (fun _ h => h)),
   fun a w hB hfr hdep => Step.plain rfl (Does.call 92 #[(a.eval (.tmp 22)), (a.eval (.tmp 24))] (by kernel_rfl) (cSub w w w (hdep 6 22 (by kernel_rfl)) (hdep 8 24 (by kernel_rfl)))),
   fun a w hB hfr hdep => Step.plain rfl (Does.call 77 #[(a.eval (.tmp 20)), (a.eval (.tmp 25))] (by kernel_rfl) (cMul w w w (hdep 4 20 (by kernel_rfl)) (hdep 9 25 (by kernel_rfl)))),
   fun a w hB hfr hdep => Step.plain rfl (dAlloc27 hB.size rfl), trivial⟩
 intro u2 hb2
 simp only [List.take, List.drop, FinAll, Act.put, lA, lS, lZ]
 rintro _ rfl v17_2 h17_2 _ rfl v19_2 h19_2 v20_2 h20_2 _ rfl v22_2 h22_2 _ rfl v24_2 h24_2 v25_2 h25_2 _ ⟨e26_2, q26_2, rfl, x26_2⟩ _ ⟨g7_2, rfl, l7_2, m7_2⟩
 refine wpList_store_row rfl 58 (.tmp 7) (.tmp 26) rfl _ (elc e26_2) rfl rfl 58 _ m7_2 info26 rfl (elc_one _) ?_
 have n7_2 := setRow_heap _ _ _ (elc e26_2) _ _ m7_2
 replace hb2 := setRow_below hb2 l7_2 (elc e26_2)
 generalize hw2_1 : u2.setRow g7_2 (elc e26_2) = u2_1 at n7_2 hb2  ⊢
 clear hw2_1 m7_2
 have hO2 := (hO1).trans (hb2.mono (hO1).size)
 have m3_1__2 := block_below hb2 (lt_of_heap m3_1) m3_1
 have m4_1__2 := block_below hb2 (lt_of_heap m4_1) m4_1
 have m5_1__2 := block_below hb2 (lt_of_heap m5_1) m5_1
 have m6_1__2 := block_below hb2 (lt_of_heap m6_1) m6_1
 have lwn7_2 := Nat.le_trans (hO1).size l7_2
 refine hK2 _ _ ?_
 clear hK2 K2
 obtain ⟨A, hA⟩ : ∃ A, A = ((Y1) - (X1)) * ((Y2) - (X2)) := ⟨_, rfl⟩
 rw [← hA] at x26_2
 refine wp_seq_k fun K3 hK3 => ?_
 refine wp_region_inv 12 (specs [Is (.pointer (some ⟨g3_1, 5, none⟩)), El (Y1), Is (.pointer (some ⟨g3_1, 0, none⟩)), El (X1), El ((Y1) + (X1)), Is (.pointer (some ⟨g4_1, 5, none⟩)), El (Y2), Is (.pointer (some ⟨g4_1, 0, none⟩)), El (X2), El ((Y2) + (X2)), El (((Y1) + (X1)) * ((Y2) + (X2))), Box u2_1.heap.size (elc zeroE) 58]) (by kernel_rfl) (specs_stb ⟨Is.stb _, El.stb _, Is.stb _, El.stb _, El.stb _, Is.stb _, El.stb _, Is.stb _, El.stb _, El.stb _, El.stb _, Box.stb _ _ _, trivial⟩) (by kernel_rfl) ?_ ?_
 ·refine ⟨fun a w hB hfr hdep => Step.plain rfl (dFa29 g3_1 1 (by decide) rfl (hfr 3 (by kernel_rfl))),
   fun a w hB hfr hdep => Step.plain rfl (dLoadPart (k := 1) h41 (block_below hB (lt_of_heap m3_1__2) m3_1__2) (by decide) rfl (hdep 0 27 (by kernel_rfl)) (fun _ h => h)),
   fun a w hB hfr hdep => Step.plain rfl (dFa29 g3_1 0 (by decide) rfl (hfr 3 (by kernel_rfl))),
   fun a w hB hfr hdep => Step.plain rfl (dLoadPart (k := 0) h41 (block_below hB (lt_of_heap m3_1__2) m3_1__2) (by decide) rfl (hdep 2 29 (by kernel_rfl)) (fun _ h => h)),
   fun a w hB hfr hdep => Step.plain rfl (Does.call 90 #[(a.eval (.tmp 28)), (a.eval (.tmp 30))] (by kernel_rfl) (cAdd w w w (hdep 1 28 (by kernel_rfl)) (hdep 3 30 (by kernel_rfl)))),
   fun a w hB hfr hdep => Step.plain rfl (dFa29 g4_1 1 (by decide) rfl (hfr 4 (by kernel_rfl))),
   fun a w hB hfr hdep => Step.plain rfl (dLoadPart (k := 1) h42 (block_below hB (lt_of_heap m4_1__2) m4_1__2) (by decide) rfl (hdep 5 32 (by kernel_rfl)) (fun _ h => h)),
   fun a w hB hfr hdep => Step.plain rfl (dFa29 g4_1 0 (by decide) rfl (hfr 4 (by kernel_rfl))),
   fun a w hB hfr hdep => Step.plain rfl (dLoadPart (k := 0) h42 (block_below hB (lt_of_heap m4_1__2) m4_1__2) (by decide) rfl (hdep 7 34 (by kernel_rfl)) (fun _ h => h)),
   fun a w hB hfr hdep => Step.plain rfl (Does.call 90 #[(a.eval (.tmp 33)), (a.eval (.tmp 35))] (by kernel_rfl) (cAdd w w w (hdep 6 33 (by kernel_rfl)) (hdep 8 35 (by kernel_rfl)))),
   fun a w hB hfr hdep => Step.plain rfl (Does.call 77 #[(a.eval (.tmp 31)), (a.eval (.tmp 36))] (by kernel_rfl) (cMul w w w (hdep 4 31 (by kernel_rfl)) (hdep 9 36 (by kernel_rfl)))),
   fun a w hB hfr hdep => Step.plain rfl (dAlloc27 hB.size rfl), trivial⟩
 intro u3 hb3
 simp only [List.take, List.drop, FinAll, Act.put, lA, lS, lZ]
 rintro _ rfl v28_3 h28_3 _ rfl v30_3 h30_3 v31_3 h31_3 _ rfl v33_3 h33_3 _ rfl v35_3 h35_3 v36_3 h36_3 _ ⟨e37_3, q37_3, rfl, x37_3⟩ _ ⟨g8_3, rfl, l8_3, m8_3⟩
 refine wpList_store_row rfl 58 (.tmp 8) (.tmp 37) rfl _ (elc e37_3) rfl rfl 58 _ m8_3 info26 rfl (elc_one _) ?_
 have n8_3 := setRow_heap _ _ _ (elc e37_3) _ _ m8_3
 replace hb3 := setRow_below hb3 l8_3 (elc e37_3)
 generalize hw3_1 : u3.setRow g8_3 (elc e37_3) = u3_1 at n8_3 hb3  ⊢
 clear hw3_1 m8_3
 have hO3 := (hO2).trans (hb3.mono (hO2).size)
 have m3_1__3 := block_below hb3 (lt_of_heap m3_1__2) m3_1__2
 have m4_1__3 := block_below hb3 (lt_of_heap m4_1__2) m4_1__2
 have m5_1__3 := block_below hb3 (lt_of_heap m5_1__2) m5_1__2
 have m6_1__3 := block_below hb3 (lt_of_heap m6_1__2) m6_1__2
 have n7_2__3 := block_below hb3 (lt_of_heap n7_2) n7_2
 have lwn8_3 := Nat.le_trans (hO2).size l8_3
 refine hK3 _ _ ?_
 clear hK3 K3
 obtain ⟨B, hB⟩ : ∃ B, B = ((Y1) + (X1)) * ((Y2) + (X2)) := ⟨_, rfl⟩
 rw [← hB] at x37_3
 refine wp_seq_k fun K4 hK4 => ?_
 refine wp_region_inv 8 (specs [Is (.pointer (some ⟨g3_1, 15, none⟩)), El (T1), El (dd + dd), El ((T1) * (dd + dd)), Is (.pointer (some ⟨g4_1, 15, none⟩)), El (T2), El (((T1) * (dd + dd)) * (T2)), Box u3_1.heap.size (elc zeroE) 58]) (by kernel_rfl) (specs_stb ⟨Is.stb _, El.stb _, El.stb _, El.stb _, Is.stb _, El.stb _, El.stb _, Box.stb _ _ _, trivial⟩) (by kernel_rfl) ?_ ?_
 ·refine ⟨fun a w hB hfr hdep => Step.plain rfl (dFa29 g3_1 3 (by decide) rfl (hfr 3 (by kernel_rfl))),
   fun a w hB hfr hdep => Step.plain rfl (dLoadPart (k := 3) h41 (block_below hB (lt_of_heap m3_1__3) m3_1__3) (by decide) rfl (hdep 0 38 (by kernel_rfl)) (fun _ h => h)),
   fun a w hB hfr hdep => Step.plain rfl (dLoadEl hd hdd (block_below hB (lt_of_heap m5_1__3) m5_1__3) rfl (hfr 5 (by kernel_rfl)) (fun _ h => h)),
   fun a w hB hfr hdep => Step.plain rfl (Does.call 77 #[(a.eval (.tmp 39)), (a.eval (.tmp 40))] (by kernel_rfl) (cMul w w w (hdep 1 39 (by kernel_rfl)) (hdep 2 40 (by kernel_rfl)))),
   fun a w hB hfr hdep => Step.plain rfl (dFa29 g4_1 3 (by decide) rfl (hfr 4 (by kernel_rfl))),
   fun a w hB hfr hdep => Step.plain rfl (dLoadPart (k := 3) h42 (block_below hB (lt_of_heap m4_1__3) m4_1__3) (by decide) rfl (hdep 4 42 (by kernel_rfl)) (fun _ h => h)),
   fun a w hB hfr hdep => Step.plain rfl (Does.call 77 #[(a.eval (.tmp 41)), (a.eval (.tmp 43))] (by kernel_rfl) (cMul w w w (hdep 3 41 (by kernel_rfl)) (hdep 5 43 (by kernel_rfl)))),
   fun a w hB hfr hdep => Step.plain rfl (dAlloc27 hB.size rfl), trivial⟩
 intro u4 hb4
 simp only [List.take, List.drop, FinAll, Act.put, lA, lS, lZ]
 rintro _ rfl v39_4 h39_4 v40_4 h40_4 v41_4 h41_4 _ rfl v43_4 h43_4 _ ⟨e44_4, q44_4, rfl, x44_4⟩ _ ⟨g9_4, rfl, l9_4, m9_4⟩
 refine wpList_store_row rfl 58 (.tmp 9) (.tmp 44) rfl _ (elc e44_4) rfl rfl 58 _ m9_4 info26 rfl (elc_one _) ?_
 have n9_4 := setRow_heap _ _ _ (elc e44_4) _ _ m9_4
 replace hb4 := setRow_below hb4 l9_4 (elc e44_4)
 generalize hw4_1 : u4.setRow g9_4 (elc e44_4) = u4_1 at n9_4 hb4  ⊢
 clear hw4_1 m9_4
 have hO4 := (hO3).trans (hb4.mono (hO3).size)
 have m3_1__4 := block_below hb4 (lt_of_heap m3_1__3) m3_1__3
 have m4_1__4 := block_below hb4 (lt_of_heap m4_1__3) m4_1__3
 have m5_1__4 := block_below hb4 (lt_of_heap m5_1__3) m5_1__3
 have m6_1__4 := block_below hb4 (lt_of_heap m6_1__3) m6_1__3
 have n7_2__4 := block_below hb4 (lt_of_heap n7_2__3) n7_2__3
 have n8_3__4 := block_below hb4 (lt_of_heap n8_3) n8_3
 have lwn9_4 := Nat.le_trans (hO3).size l9_4
 refine hK4 _ _ ?_
 clear hK4 K4
 obtain ⟨C, hC⟩ : ∃ C, C = ((T1) * (dd + dd)) * (T2) := ⟨_, rfl⟩
 rw [← hC] at x44_4
 refine wp_seq_k fun K5 hK5 => ?_
 refine wp_plain_inv 6 (specs [Is (.pointer (some ⟨g3_1, 10, none⟩)), El (Z1), Is (.pointer (some ⟨g4_1, 10, none⟩)), El (Z2), El ((Z1) * (Z2)), Box u4_1.heap.size (elc zeroE) 58]) (specs_stb ⟨Is.stb _, El.stb _, Is.stb _, El.stb _, El.stb _, Box.stb _ _ _, trivial⟩) (by kernel_rfl) ?_ ?_
 ·refine ⟨fun a w hB hfr hdep => Step.plain rfl (dFa29 g3_1 2 (by decide) rfl (hfr 3 (by kernel_rfl))),
   fun a w hB hfr hdep => Step.plain rfl (dLoadPart (k := 2) h41 (block_below hB (lt_of_heap m3_1__4) m3_1__4) (by decide) rfl (hdep 0 45 (by kernel_rfl)) (fun _ h => h)),
   fun a w hB hfr hdep => Step.plain rfl (dFa29 g4_1 2 (by decide) rfl (hfr 4 (by kernel_rfl))),
   fun a w hB hfr hdep => Step.plain rfl (dLoadPart (k := 2) h42 (block_below hB (lt_of_heap m4_1__4) m4_1__4) (by decide) rfl (hdep 2 47 (by kernel_rfl)) (fun _ h => h)),
   fun a w hB hfr hdep => Step.plain rfl (Does.call 77 #[(a.eval (.tmp 46)), (a.eval (.tmp 48))] (by kernel_rfl) (cMul w w w (hdep 1 46 (by kernel_rfl)) (hdep 3 48 (by kernel_rfl)))),
   fun a w hB hfr hdep => Step.plain rfl (dAlloc27 hB.size rfl), trivial⟩
 intro u5 hb5
 simp only [List.take, List.drop, FinAll, Act.put, lA, lS, lZ]
 rintro _ rfl v46_5 h46_5 _ rfl v48_5 h48_5 _ ⟨e49_5, q49_5, rfl, x49_5⟩ _ ⟨g10_5, rfl, l10_5, m10_5⟩
 refine wpList_store_row rfl 58 (.tmp 10) (.tmp 49) rfl _ (elc e49_5) rfl rfl 58 _ m10_5 info26 rfl (elc_one _) ?_
 have n10_5 := setRow_heap _ _ _ (elc e49_5) _ _ m10_5
 replace hb5 := setRow_below hb5 l10_5 (elc e49_5)
 generalize hw5_1 : u5.setRow g10_5 (elc e49_5) = u5_1 at n10_5 hb5  ⊢
 clear hw5_1 m10_5
 have hO5 := (hO4).trans (hb5.mono (hO4).size)
 have m3_1__5 := block_below hb5 (lt_of_heap m3_1__4) m3_1__4
 have m4_1__5 := block_below hb5 (lt_of_heap m4_1__4) m4_1__4
 have m5_1__5 := block_below hb5 (lt_of_heap m5_1__4) m5_1__4
 have m6_1__5 := block_below hb5 (lt_of_heap m6_1__4) m6_1__4
 have n7_2__5 := block_below hb5 (lt_of_heap n7_2__4) n7_2__4
 have n8_3__5 := block_below hb5 (lt_of_heap n8_3__4) n8_3__4
 have n9_4__5 := block_below hb5 (lt_of_heap n9_4) n9_4
 have lwn10_5 := Nat.le_trans (hO4).size l10_5
 refine hK5 _ _ ?_
 clear hK5 K5
 obtain ⟨Z, hZ⟩ : ∃ Z, Z = (Z1) * (Z2) := ⟨_, rfl⟩
 rw [← hZ] at x49_5
 refine wp_seq_k fun K6 hK6 => ?_
 refine wp_plain_inv 4 (specs [El (Z), El (Z), El ((Z) + (Z)), Box u5_1.heap.size (elc zeroE) 58]) (specs_stb ⟨El.stb _, El.stb _, El.stb _, Box.stb _ _ _, trivial⟩) (by kernel_rfl) ?_ ?_
 ·refine ⟨fun a w hB hfr hdep => Step.plain rfl (dLoadEl q49_5 x49_5 (block_below hB (lt_of_heap n10_5) n10_5) rfl (hfr 10 (by kernel_rfl)) (fun _ h => h)),
   fun a w hB hfr hdep => Step.plain rfl (dLoadEl q49_5 x49_5 (block_below hB (lt_of_heap n10_5) n10_5) rfl (hfr 10 (by kernel_rfl)) (fun _ h => h)),
   fun a w hB hfr hdep => Step.plain rfl (Does.call 90 #[(a.eval (.tmp 50)), (a.eval (.tmp 51))] (by kernel_rfl) (cAdd w w w (hdep 0 50 (by kernel_rfl)) (hdep 1 51 (by kernel_rfl)))),
   fun a w hB hfr hdep => Step.plain rfl (dAlloc27 hB.size rfl), trivial⟩
 intro u6 hb6
 simp only [List.take, List.drop, FinAll, Act.put, lA, lS, lZ]
 rintro v50_6 h50_6 v51_6 h51_6 _ ⟨e52_6, q52_6, rfl, x52_6⟩ _ ⟨g11_6, rfl, l11_6, m11_6⟩
 refine wpList_store_row rfl 58 (.tmp 11) (.tmp 52) rfl _ (elc e52_6) rfl rfl 58 _ m11_6 info26 rfl (elc_one _) ?_
 have n11_6 := setRow_heap _ _ _ (elc e52_6) _ _ m11_6
 replace hb6 := setRow_below hb6 l11_6 (elc e52_6)
 generalize hw6_1 : u6.setRow g11_6 (elc e52_6) = u6_1 at n11_6 hb6  ⊢
 clear hw6_1 m11_6
 have hO6 := (hO5).trans (hb6.mono (hO5).size)
 have m3_1__6 := block_below hb6 (lt_of_heap m3_1__5) m3_1__5
 have m4_1__6 := block_below hb6 (lt_of_heap m4_1__5) m4_1__5
 have m5_1__6 := block_below hb6 (lt_of_heap m5_1__5) m5_1__5
 have m6_1__6 := block_below hb6 (lt_of_heap m6_1__5) m6_1__5
 have n7_2__6 := block_below hb6 (lt_of_heap n7_2__5) n7_2__5
 have n8_3__6 := block_below hb6 (lt_of_heap n8_3__5) n8_3__5
 have n9_4__6 := block_below hb6 (lt_of_heap n9_4__5) n9_4__5
 have n10_5__6 := block_below hb6 (lt_of_heap n10_5) n10_5
 have lwn11_6 := Nat.le_trans (hO5).size l11_6
 refine hK6 _ _ ?_
 clear hK6 K6
 obtain ⟨D, hD⟩ : ∃ D, D = (Z) + (Z) := ⟨_, rfl⟩
 rw [← hD] at x52_6
 refine wp_seq_k fun K7 hK7 => ?_
 refine wp_region_inv2 (pi := 6) (pj := 7) (di := 12) (dj := 13) 8 (specs [El (B), El (A), El ((B) - (A)), El (D), El (C), El ((D) + (C)), Box u6_1.heap.size (elc zeroE) 58, Box u6_1.heap.size (elc zeroE) 58]) (by kernel_rfl) (specs_stb ⟨El.stb _, El.stb _, El.stb _, El.stb _, El.stb _, El.stb _, Box.stb _ _ _, Box.stb _ _ _, trivial⟩) (by kernel_rfl) ?_ (by decide) (by decide) (by decide) ?_ ?_ ?_ rfl rfl ?_
 ·refine ⟨fun a w hB hfr hdep => Step.plain rfl (dLoadEl q37_3 x37_3 (block_below hB (lt_of_heap n8_3__6) n8_3__6) rfl (hfr 8 (by kernel_rfl)) (fun _ h => h)),
   fun a w hB hfr hdep => Step.plain rfl (dLoadEl q26_2 x26_2 (block_below hB (lt_of_heap n7_2__6) n7_2__6) rfl (hfr 7 (by kernel_rfl)) (fun _ h => h)),
   fun a w hB hfr hdep => Step.plain rfl (Does.call 92 #[(a.eval (.tmp 53)), (a.eval (.tmp 54))] (by kernel_rfl) (cSub w w w (hdep 0 53 (by kernel_rfl)) (hdep 1 54 (by kernel_rfl)))),
   fun a w hB hfr hdep => Step.plain rfl (dLoadEl q52_6 x52_6 (block_below hB (lt_of_heap n11_6) n11_6) rfl (hfr 11 (by kernel_rfl)) (fun _ h => h)),
   fun a w hB hfr hdep => Step.plain rfl (dLoadEl q44_4 x44_4 (block_below hB (lt_of_heap n9_4__6) n9_4__6) rfl (hfr 9 (by kernel_rfl)) (fun _ h => h)),
   fun a w hB hfr hdep => Step.plain rfl (Does.call 90 #[(a.eval (.tmp 56)), (a.eval (.tmp 57))] (by kernel_rfl) (cAdd w w w (hdep 3 56 (by kernel_rfl)) (hdep 4 57 (by kernel_rfl)))),
   fun a w hB hfr hdep => Step.plain rfl (dAlloc27 hB.size rfl),
   fun a w hB hfr hdep => Step.plain rfl (dAlloc27 hB.size rfl), trivial⟩
 ·rintro i (rfl | rfl)
  ·exact ⟨_, _, rfl, fun ρ w => al27 rfl⟩
  ·exact ⟨_, _, rfl, fun ρ w => al27 rfl⟩
 ·rintro i (rfl | rfl) v w g ⟨g1, h1, h2, h3⟩ h4
  ·rw [h1] at h4; injection h4 with h5; injection h5 with h6; injection h6 with h7; exact h7 ▸ lt_of_heap h3
  ·rw [h1] at h4; injection h4 with h5; injection h5 with h6; injection h6 with h7; exact h7 ▸ lt_of_heap h3
 ·rintro i o (rfl | rfl) h
  ·injection h with h; rw [← h]
  ·injection h with h; rw [← h]
 intro u7 hb7
 simp only [List.take, List.drop, FinAll, Act.put, lA, lS, lZ]
 rintro v53_7 h53_7 v54_7 h54_7 _ ⟨e55_7, q55_7, rfl, x55_7⟩ v56_7 h56_7 v57_7 h57_7 _ ⟨e58_7, q58_7, rfl, x58_7⟩ _ ⟨g12_7, rfl, l12_7, m12_7⟩ _ ⟨g13_7, rfl, l13_7, m13_7⟩ nn7
 replace nn7 := nn7 _ _ rfl rfl
 refine wpList_store_row rfl 58 (.tmp 12) (.tmp 55) rfl _ (elc e55_7) rfl rfl 58 _ m12_7 info26 rfl (elc_one _) ?_
 have n12_7 := setRow_heap _ _ _ (elc e55_7) _ _ m12_7
 replace m13_7 := (setRow_other u7 g12_7 g13_7 (elc e55_7) (by first | exact nn7 | exact Ne.symm nn7 | omega)).trans m13_7
 replace hb7 := setRow_below hb7 l12_7 (elc e55_7)
 generalize hw7_1 : u7.setRow g12_7 (elc e55_7) = u7_1 at n12_7 hb7 m13_7 ⊢
 clear hw7_1 m12_7
 refine wpList_store_row rfl 58 (.tmp 13) (.tmp 58) rfl _ (elc e58_7) rfl rfl 58 _ m13_7 info26 rfl (elc_one _) ?_
 have n13_7 := setRow_heap _ _ _ (elc e58_7) _ _ m13_7
 replace n12_7 := (setRow_other u7_1 g13_7 g12_7 (elc e58_7) (by first | exact nn7 | exact Ne.symm nn7 | omega)).trans n12_7
 replace hb7 := setRow_below hb7 l13_7 (elc e58_7)
 generalize hw7_2 : u7_1.setRow g13_7 (elc e58_7) = u7_2 at n13_7 hb7 n12_7 ⊢
 clear hw7_2 m13_7
 have hO7 := (hO6).trans (hb7.mono (hO6).size)
 have m3_1__7 := block_below hb7 (lt_of_heap m3_1__6) m3_1__6
 have m4_1__7 := block_below hb7 (lt_of_heap m4_1__6) m4_1__6
 have m5_1__7 := block_below hb7 (lt_of_heap m5_1__6) m5_1__6
 have m6_1__7 := block_below hb7 (lt_of_heap m6_1__6) m6_1__6
 have n7_2__7 := block_below hb7 (lt_of_heap n7_2__6) n7_2__6
 have n8_3__7 := block_below hb7 (lt_of_heap n8_3__6) n8_3__6
 have n9_4__7 := block_below hb7 (lt_of_heap n9_4__6) n9_4__6
 have n10_5__7 := block_below hb7 (lt_of_heap n10_5__6) n10_5__6
 have n11_6__7 := block_below hb7 (lt_of_heap n11_6) n11_6
 have lwn12_7 := Nat.le_trans (hO6).size l12_7
 have lwn13_7 := Nat.le_trans (hO6).size l13_7
 refine hK7 _ _ ?_
 clear hK7 K7
 obtain ⟨E, hE⟩ : ∃ E, E = (B) - (A) := ⟨_, rfl⟩
 rw [← hE] at x55_7
 obtain ⟨G, hG⟩ : ∃ G, G = (D) + (C) := ⟨_, rfl⟩
 rw [← hG] at x58_7
 refine wp_seq_k fun K8 hK8 => ?_
 refine wp_region_inv2 (pi := 6) (pj := 7) (di := 14) (dj := 15) 8 (specs [El (B), El (A), El ((B) + (A)), El (D), El (C), El ((D) - (C)), Box u7_2.heap.size (elc zeroE) 58, Box u7_2.heap.size (elc zeroE) 58]) (by kernel_rfl) (specs_stb ⟨El.stb _, El.stb _, El.stb _, El.stb _, El.stb _, El.stb _, Box.stb _ _ _, Box.stb _ _ _, trivial⟩) (by kernel_rfl) ?_ (by decide) (by decide) (by decide) ?_ ?_ ?_ rfl rfl ?_
 ·refine ⟨fun a w hB hfr hdep => Step.plain rfl (dLoadEl q37_3 x37_3 (block_below hB (lt_of_heap n8_3__7) n8_3__7) rfl (hfr 8 (by kernel_rfl)) (fun _ h => h)),
   fun a w hB hfr hdep => Step.plain rfl (dLoadEl q26_2 x26_2 (block_below hB (lt_of_heap n7_2__7) n7_2__7) rfl (hfr 7 (by kernel_rfl)) (fun _ h => h)),
   fun a w hB hfr hdep => Step.plain rfl (Does.call 90 #[(a.eval (.tmp 59)), (a.eval (.tmp 60))] (by kernel_rfl) (cAdd w w w (hdep 0 59 (by kernel_rfl)) (hdep 1 60 (by kernel_rfl)))),
   fun a w hB hfr hdep => Step.plain rfl (dLoadEl q52_6 x52_6 (block_below hB (lt_of_heap n11_6__7) n11_6__7) rfl (hfr 11 (by kernel_rfl)) (fun _ h => h)),
   fun a w hB hfr hdep => Step.plain rfl (dLoadEl q44_4 x44_4 (block_below hB (lt_of_heap n9_4__7) n9_4__7) rfl (hfr 9 (by kernel_rfl)) (fun _ h => h)),
   fun a w hB hfr hdep => Step.plain rfl (Does.call 92 #[(a.eval (.tmp 62)), (a.eval (.tmp 63))] (by kernel_rfl) (cSub w w w (hdep 3 62 (by kernel_rfl)) (hdep 4 63 (by kernel_rfl)))),
   fun a w hB hfr hdep => Step.plain rfl (dAlloc27 hB.size rfl),
   fun a w hB hfr hdep => Step.plain rfl (dAlloc27 hB.size rfl), trivial⟩
 ·rintro i (rfl | rfl)
  ·exact ⟨_, _, rfl, fun ρ w => al27 rfl⟩
  ·exact ⟨_, _, rfl, fun ρ w => al27 rfl⟩
 ·rintro i (rfl | rfl) v w g ⟨g1, h1, h2, h3⟩ h4
  ·rw [h1] at h4; injection h4 with h5; injection h5 with h6; injection h6 with h7; exact h7 ▸ lt_of_heap h3
  ·rw [h1] at h4; injection h4 with h5; injection h5 with h6; injection h6 with h7; exact h7 ▸ lt_of_heap h3
 ·rintro i o (rfl | rfl) h
  ·injection h with h; rw [← h]
  ·injection h with h; rw [← h]
 intro u8 hb8
 simp only [List.take, List.drop, FinAll, Act.put, lA, lS, lZ]
 rintro v59_8 h59_8 v60_8 h60_8 _ ⟨e61_8, q61_8, rfl, x61_8⟩ v62_8 h62_8 v63_8 h63_8 _ ⟨e64_8, q64_8, rfl, x64_8⟩ _ ⟨g14_8, rfl, l14_8, m14_8⟩ _ ⟨g15_8, rfl, l15_8, m15_8⟩ nn8
 replace nn8 := nn8 _ _ rfl rfl
 refine wpList_store_row rfl 58 (.tmp 14) (.tmp 61) rfl _ (elc e61_8) rfl rfl 58 _ m14_8 info26 rfl (elc_one _) ?_
 have n14_8 := setRow_heap _ _ _ (elc e61_8) _ _ m14_8
 replace m15_8 := (setRow_other u8 g14_8 g15_8 (elc e61_8) (by first | exact nn8 | exact Ne.symm nn8 | omega)).trans m15_8
 replace hb8 := setRow_below hb8 l14_8 (elc e61_8)
 generalize hw8_1 : u8.setRow g14_8 (elc e61_8) = u8_1 at n14_8 hb8 m15_8 ⊢
 clear hw8_1 m14_8
 refine wpList_store_row rfl 58 (.tmp 15) (.tmp 64) rfl _ (elc e64_8) rfl rfl 58 _ m15_8 info26 rfl (elc_one _) ?_
 have n15_8 := setRow_heap _ _ _ (elc e64_8) _ _ m15_8
 replace n14_8 := (setRow_other u8_1 g15_8 g14_8 (elc e64_8) (by first | exact nn8 | exact Ne.symm nn8 | omega)).trans n14_8
 replace hb8 := setRow_below hb8 l15_8 (elc e64_8)
 generalize hw8_2 : u8_1.setRow g15_8 (elc e64_8) = u8_2 at n15_8 hb8 n14_8 ⊢
 clear hw8_2 m15_8
 have hO8 := (hO7).trans (hb8.mono (hO7).size)
 have m3_1__8 := block_below hb8 (lt_of_heap m3_1__7) m3_1__7
 have m4_1__8 := block_below hb8 (lt_of_heap m4_1__7) m4_1__7
 have m5_1__8 := block_below hb8 (lt_of_heap m5_1__7) m5_1__7
 have m6_1__8 := block_below hb8 (lt_of_heap m6_1__7) m6_1__7
 have n7_2__8 := block_below hb8 (lt_of_heap n7_2__7) n7_2__7
 have n8_3__8 := block_below hb8 (lt_of_heap n8_3__7) n8_3__7
 have n9_4__8 := block_below hb8 (lt_of_heap n9_4__7) n9_4__7
 have n10_5__8 := block_below hb8 (lt_of_heap n10_5__7) n10_5__7
 have n11_6__8 := block_below hb8 (lt_of_heap n11_6__7) n11_6__7
 have n12_7__8 := block_below hb8 (lt_of_heap n12_7) n12_7
 have n13_7__8 := block_below hb8 (lt_of_heap n13_7) n13_7
 have lwn14_8 := Nat.le_trans (hO7).size l14_8
 have lwn15_8 := Nat.le_trans (hO7).size l15_8
 refine hK8 _ _ ?_
 clear hK8 K8
 obtain ⟨H, hH⟩ : ∃ H, H = (B) + (A) := ⟨_, rfl⟩
 rw [← hH] at x61_8
 obtain ⟨F, hF⟩ : ∃ F, F = (D) - (C) := ⟨_, rfl⟩
 rw [← hF] at x64_8
 refine wp_seq_k fun K9 hK9 => ?_
 refine wp_region_inv 13 (specs [El (E), El (F), El ((E) * (F)), El (H), El (G), El ((H) * (G)), El (G), El (F), El ((G) * (F)), El (E), El (H), El ((E) * (H)), Pt4 ((E) * (F)) ((H) * (G)) ((G) * (F)) ((E) * (H))]) (by kernel_rfl) (specs_stb ⟨El.stb _, El.stb _, El.stb _, El.stb _, El.stb _, El.stb _, El.stb _, El.stb _, El.stb _, El.stb _, El.stb _, El.stb _, Pt4.stb _ _ _ _, trivial⟩) (by kernel_rfl) ?_ ?_
 ·refine ⟨fun a w hB hfr hdep => Step.plain rfl (dLoadEl q55_7 x55_7 (block_below hB (lt_of_heap n12_7__8) n12_7__8) rfl (hfr 12 (by kernel_rfl)) (fun _ h => h)),
   fun a w hB hfr hdep => Step.plain rfl (dLoadEl q64_8 x64_8 (block_below hB (lt_of_heap n15_8) n15_8) rfl (hfr 15 (by kernel_rfl)) (fun _ h => h)),
   fun a w hB hfr hdep => Step.plain rfl (Does.call 77 #[(a.eval (.tmp 65)), (a.eval (.tmp 66))] (by kernel_rfl) (cMul w w w (hdep 0 65 (by kernel_rfl)) (hdep 1 66 (by kernel_rfl)))),
   fun a w hB hfr hdep => Step.plain rfl (dLoadEl q61_8 x61_8 (block_below hB (lt_of_heap n14_8) n14_8) rfl (hfr 14 (by kernel_rfl)) (fun _ h => h)),
   fun a w hB hfr hdep => Step.plain rfl (dLoadEl q58_7 x58_7 (block_below hB (lt_of_heap n13_7__8) n13_7__8) rfl (hfr 13 (by kernel_rfl)) (fun _ h => h)),
   fun a w hB hfr hdep => Step.plain rfl (Does.call 77 #[(a.eval (.tmp 68)), (a.eval (.tmp 69))] (by kernel_rfl) (cMul w w w (hdep 3 68 (by kernel_rfl)) (hdep 4 69 (by kernel_rfl)))),
   fun a w hB hfr hdep => Step.plain rfl (dLoadEl q58_7 x58_7 (block_below hB (lt_of_heap n13_7__8) n13_7__8) rfl (hfr 13 (by kernel_rfl)) (fun _ h => h)),
   fun a w hB hfr hdep => Step.plain rfl (dLoadEl q64_8 x64_8 (block_below hB (lt_of_heap n15_8) n15_8) rfl (hfr 15 (by kernel_rfl)) (fun _ h => h)),
   fun a w hB hfr hdep => Step.plain rfl (Does.call 77 #[(a.eval (.tmp 71)), (a.eval (.tmp 72))] (by kernel_rfl) (cMul w w w (hdep 6 71 (by kernel_rfl)) (hdep 7 72 (by kernel_rfl)))),
   fun a w hB hfr hdep => Step.plain rfl (dLoadEl q55_7 x55_7 (block_below hB (lt_of_heap n12_7__8) n12_7__8) rfl (hfr 12 (by kernel_rfl)) (fun _ h => h)),
   fun a w hB hfr hdep => Step.plain rfl (dLoadEl q61_8 x61_8 (block_below hB (lt_of_heap n14_8) n14_8) rfl (hfr 14 (by kernel_rfl)) (fun _ h => h)),
   fun a w hB hfr hdep => Step.plain rfl (Does.call 77 #[(a.eval (.tmp 74)), (a.eval (.tmp 75))] (by kernel_rfl) (cMul w w w (hdep 9 74 (by kernel_rfl)) (hdep 10 75 (by kernel_rfl)))),
   fun a w hB hfr hdep => Step.plain rfl (dBuild29 (w1 := w) (w2 := w) (w3 := w) (w4 := w) rfl (hdep 2 67 (by kernel_rfl)) (hdep 5 70 (by kernel_rfl)) (hdep 8 73 (by kernel_rfl)) (hdep 11 76 (by kernel_rfl))), trivial⟩
 intro u9 hb9
 simp only [List.take, List.drop, FinAll, Act.put, lA, lS, lZ]
 rintro v65_9 h65_9 v66_9 h66_9 v67_9 h67_9 v68_9 h68_9 v69_9 h69_9 v70_9 h70_9 v71_9 h71_9 v72_9 h72_9 v73_9 h73_9 v74_9 h74_9 v75_9 h75_9 v76_9 h76_9 _ ⟨e77_9, rfl, x77_9⟩
 have om6_1__8 := block_below hb9 (lt_of_heap m6_1__8) m6_1__8
 refine wpList_store_row rfl 60 (.tmp 6) (.tmp 77) rfl _ (e77_9) rfl rfl 60 _ om6_1__8 (by rw [(Pt4.cells x77_9).1]; exact info29) (by rw [(Pt4.cells x77_9).1]; rfl) (Pt4.cells x77_9).2 ?_
 have n6_9 := setRow_heap _ _ _ (e77_9) _ _ om6_1__8
 have hO9 := setRow_below (hO8.trans (hb9.mono (hO8).size)) lwm6_1 (e77_9)
 have hr := rep_add hr1 hr2 (A := A) (B := B) (C := C) (D := D) (E := E) (F := F) (G := G) (H := H) hA hB (by rw [hC]; grobner) (by rw [hD, hZ]; grobner) hE hF hG hH
 rw [Fin.mul_comm G H, Fin.mul_comm F G] at hr
 refine hK9 _ _ ?_
 clear hK9 K9
 refine wp_ret ?_
 refine bodyPost_ret (v := .agg (e77_9)) ?_ rfl ⟨_, rfl, hO9, ⟨_, rfl, _, _, _, _, x77_9, hr⟩⟩
 exact results_cell_row Tryz.results75 _ _ _ 60 _ (0, 0) _ rfl n6_9 Tryz.underlying60 rfl (by first | exact info26 | exact info29 | exact info35 | (rw [(Pt4.cells (by assumption)).1]; exact info29) | (rw [cellsP_size (by assumption)]; exact info29))
theorem cNeg {p : Pt} {v1 : Value} (w w0 : World) (h1 : PtV p v1 w0) : Ret 36 #[v1] w (PtV (p.neg)) := by
 obtain ⟨cs1, rfl, X1, Y1, Z1, T1, h41, hr1⟩ := h1
 unfold Ret
 have hO0 : Below w.heap.size w w := Below.refl _ _
 go_enter Tryz.func36, Tryz.ntmps36
 refine wp_seq_k fun K1 hK1 => ?_
 refine wp_plain_inv 2 (specs [Box w.heap.size (cs1) 60, Box w.heap.size (ptc zeroE zeroE zeroE zeroE) 60]) (specs_stb ⟨Box.stb _ _ _, Box.stb _ _ _, trivial⟩) (by kernel_rfl) ?_ ?_
 ·refine ⟨fun a w hB hfr hdep => Step.plain rfl (dBox29 hB.size rfl (hfr 0 (by kernel_rfl)) h41),
   fun a w hB hfr hdep => Step.plain rfl (dAlloc29 hB.size rfl), trivial⟩
 intro u1 hb1
 simp only [List.take, List.drop, FinAll, Act.put, lA, lS, lZ]
 rintro _ ⟨g1_1, rfl, l1_1, m1_1⟩ _ ⟨g2_1, rfl, l2_1, m2_1⟩
 have hO1 := (hO0).trans (hb1.mono (hO0).size)
 have lwm1_1 := Nat.le_trans (hO0).size l1_1
 have lwm2_1 := Nat.le_trans (hO0).size l2_1
 refine hK1 _ _ ?_
 clear hK1 K1
 refine wp_seq_k fun K2 hK2 => ?_
 refine wp_region_inv 11 (specs [Is (.pointer (some ⟨g1_1, 0, none⟩)), El (X1), El (0 - (X1)), Is (.pointer (some ⟨g1_1, 5, none⟩)), El (Y1), Is (.pointer (some ⟨g1_1, 10, none⟩)), El (Z1), Is (.pointer (some ⟨g1_1, 15, none⟩)), El (T1), El (0 - (T1)), Pt4 (0 - (X1)) (Y1) (Z1) (0 - (T1))]) (by kernel_rfl) (specs_stb ⟨Is.stb _, El.stb _, El.stb _, Is.stb _, El.stb _, Is.stb _, El.stb _, Is.stb _, El.stb _, El.stb _, Pt4.stb _ _ _ _, trivial⟩) (by kernel_rfl) ?_ ?_
 ·refine ⟨fun a w hB hfr hdep => Step.plain rfl (dFa29 g1_1 0 (by decide) rfl (hfr 1 (by kernel_rfl))),
   fun a w hB hfr hdep => Step.plain rfl (dLoadPart (k := 0) h41 (block_below hB (lt_of_heap m1_1) m1_1) (by decide) rfl (hdep 0 3 (by kernel_rfl)) (fun _ h => h)),
   fun a w hB hfr hdep => Step.plain rfl (Does.call 69 #[(a.eval (.tmp 4))] (by kernel_rfl) (cNegEl w w (hdep 1 4 (by kernel_rfl)))),
   fun a w hB hfr hdep => Step.plain rfl (dFa29 g1_1 1 (by decide) rfl (hfr 1 (by kernel_rfl))),
   fun a w hB hfr hdep => Step.plain rfl (dLoadPart (k := 1) h41 (block_below hB (lt_of_heap m1_1) m1_1) (by decide) rfl (hdep 3 6 (by kernel_rfl)) (fun _ h => h)),
   fun a w hB hfr hdep => Step.plain rfl (dFa29 g1_1 2 (by decide) rfl (hfr 1 (by kernel_rfl))),
   fun a w hB hfr hdep => Step.plain rfl (dLoadPart (k := 2) h41 (block_below hB (lt_of_heap m1_1) m1_1) (by decide) rfl (hdep 5 8 (by kernel_rfl)) (fun _ h => h)),
   fun a w hB hfr hdep => Step.plain rfl (dFa29 g1_1 3 (by decide) rfl (hfr 1 (by kernel_rfl))),
   fun a w hB hfr hdep => Step.plain rfl (dLoadPart (k := 3) h41 (block_below hB (lt_of_heap m1_1) m1_1) (by decide) rfl (hdep 7 10 (by kernel_rfl)) (fun _ h => h)),
   fun a w hB hfr hdep => Step.plain rfl (Does.call 69 #[(a.eval (.tmp 11))] (by kernel_rfl) (cNegEl w w (hdep 8 11 (by kernel_rfl)))),
   fun a w hB hfr hdep => Step.plain rfl (dBuild29 (w1 := w) (w2 := w) (w3 := w) (w4 := w) rfl (hdep 2 5 (by kernel_rfl)) (hdep 4 7 (by kernel_rfl)) (hdep 6 9 (by kernel_rfl)) (hdep 9 12 (by kernel_rfl))), trivial⟩
 intro u2 hb2
 simp only [List.take, List.drop, FinAll, Act.put, lA, lS, lZ]
 rintro _ rfl v4_2 h4_2 v5_2 h5_2 _ rfl v7_2 h7_2 _ rfl v9_2 h9_2 _ rfl v11_2 h11_2 v12_2 h12_2 _ ⟨e13_2, rfl, x13_2⟩
 have om2_1 := block_below hb2 (lt_of_heap m2_1) m2_1
 refine wpList_store_row rfl 60 (.tmp 2) (.tmp 13) rfl _ (e13_2) rfl rfl 60 _ om2_1 (by rw [(Pt4.cells x13_2).1]; exact info29) (by rw [(Pt4.cells x13_2).1]; rfl) (Pt4.cells x13_2).2 ?_
 have n2_2 := setRow_heap _ _ _ (e13_2) _ _ om2_1
 have hO2 := setRow_below (hO1.trans (hb2.mono (hO1).size)) lwm2_1 (e13_2)
 have hr := rep_neg hr1
 have e0 : ∀ z : Fe, 0 - z = -z := fun z => by grobner
 rw [← e0, ← e0] at hr
 refine hK2 _ _ ?_
 clear hK2 K2
 refine wp_ret ?_
 refine bodyPost_ret (v := .agg (e13_2)) ?_ rfl ⟨_, rfl, hO2, ⟨_, rfl, _, _, _, _, x13_2, hr⟩⟩
 exact results_cell_row Tryz.results36 _ _ _ 60 _ (0, 0) _ rfl n2_2 Tryz.underlying60 rfl (by first | exact info26 | exact info29 | exact info35 | (rw [(Pt4.cells (by assumption)).1]; exact info29) | (rw [cellsP_size (by assumption)]; exact info29))
end Go.Proofs.YtabgihjffjlfiaaGreatDoor
set_option linter.unusedVariables false
namespace Go.Proofs.YtabgihjffjlfiaaGreatDoor
open Go.RowKit Go.Sort Go.BigFrame
set_option maxRecDepth 100000
set_option maxHeartbeats 2000000
structure Frm (g : Nat) (w w' : World) : Prop where
 os : w'.os = w.os
 tape : w'.tape = w.tape
 output : w'.output = w.output
 size : w'.heap.size = w.heap.size
 block : ∀ k, k ≠ g → w'.heap[k]? = w.heap[k]?
theorem Frm.refl (g : Nat) (w : World) : Frm g w w := ⟨rfl, rfl, rfl, rfl, fun _ _ => rfl⟩
theorem Frm.trans {g : Nat} {a b c : World} (h : Frm g a b) (h' : Frm g b c) : Frm g a c :=
 ⟨h'.os.trans h.os, h'.tape.trans h.tape, h'.output.trans h.output, h'.size.trans h.size, fun k hk => (h'.block k hk).trans (h.block k hk)⟩
theorem Frm.below {g B : Nat} {w0 w w' : World} (h : Frm g w w') (hb : Below B w0 w) (hg : B ≤ g) : Below B w0 w' :=
 ⟨h.os.trans hb.os, h.tape.trans hb.tape, h.output.trans hb.output, by rw [h.size]; exact hb.size, fun k hk => (h.block k (by omega)).trans (hb.block k hk)⟩
theorem Frm.set {g : Nat} {w w' : World} (h : Frm g w w') (j : Nat) (v : Value) : Frm g w (w'.setCell ⟨g, j, none⟩ v) := by
 have hb : Below g w' (w'.setCell ⟨g, j, none⟩ v) := (Below.refl g w').setCell (p := ⟨g, j, none⟩) (Nat.le_refl g) v
 refine h.trans ⟨hb.os, hb.tape, hb.output, by simp, fun k hk => ?_⟩
 exact heap_setCell_other _ _ _ _ (by simpa using hk)
theorem Frm.drew {g : Nat} {w w' : World} (h : Frm g w w') : Frm g w w'.drew := ⟨h.os, h.tape, h.output, h.size, h.block⟩
def Rvk (l m : List Nat) (k : Nat) : Prop := m.length = 32 ∧ ∀ i, i < 32 → m.getD i 0 = if i < k ∨ 32 ≤ i + k then l.getD (31 - i) 0 else l.getD i 0
theorem getD_set2 (m : List Nat) (i j x : Nat) (hi : i < m.length) : (m.set i x).getD j 0 = if j = i then x else m.getD j 0 := by
 simp only [List.getD_eq_getElem?_getD, List.getElem?_set]
 by_cases h : j = i
 ·subst h; simp [hi]
 ·simp [h, Ne.symm h]
theorem Rvk.step {l m : List Nat} {k : Nat} (h : Rvk l m k) (hk : k < 16) : Rvk l ((m.set k (m.getD (31 - k) 0)).set (31 - k) (m.getD k 0)) (k + 1) := by
 obtain ⟨hl, hm⟩ := h
 refine ⟨by simp [hl], fun i hi => ?_⟩
 rw [getD_set2 _ _ _ _ (by simp; omega), getD_set2 _ _ _ _ (by omega), hm (31 - k) (by omega), hm k (by omega)]
 by_cases e1 : i = 31 - k
 ·rw [if_pos e1, if_neg (by omega), if_pos (by omega), e1]; congr 1; omega
 ·rw [if_neg e1]
  by_cases e2 : i = k
  ·rw [if_pos e2, if_neg (by omega), if_pos (by omega), e2]
  ·rw [if_neg e2, hm i hi]
   by_cases e3 : i < k ∨ 32 ≤ i + k
   ·rw [if_pos e3, if_pos (by omega)]
   ·rw [if_neg e3, if_neg (by omega)]
theorem Rvk.done {l m : List Nat} (hl : l.length = 32) (h : Rvk l m 16) : m = l.reverse := by
 obtain ⟨hm, h⟩ := h
 apply List.ext_getElem
 ·simp [hl, hm]
 ·intro i h1 h2
  have := h i (by omega)
  rw [if_pos (by omega)] at this
  rw [List.getElem_reverse]
  simp only [List.getD_eq_getElem?_getD, List.getElem?_eq_getElem h1, Option.getD_some, List.getElem?_eq_getElem (show 31 - i < l.length by omega)] at this
  rw [this]
  congr 1
  omega
theorem Rvk.zero {l : List Nat} (hl : l.length = 32) : Rvk l l 0 := ⟨hl, fun i hi => by rw [if_neg (by omega)]⟩
def RelV (w wr : World) (g : Nat) (l : List Nat) (k : Nat) : Prop := ∃ m, Rvk l m k ∧ Frm g w wr ∧ wr.heap[g]? = some (.cells (ints .u8 m) 5 (0, 0))
theorem reverse74 (g : Nat) (l : List Nat) (w : World) (hl : Hid (l.length = 32)) (hg : w.heap[g]? = some (.cells (ints .u8 l) 5 (0, 0))) :
  Calls Tryz.prog 111 #[.slice (some ⟨g, 0, none⟩) 32 32] w fun e w' => e = .returned (.tuple #[]) ∧ Frm g w w' ∧ w'.heap[g]? = some (.cells (ints .u8 l.reverse) 5 (0, 0)) := by
 have hR0 : RelV w w g l 0 := ⟨l, Rvk.zero hl.out, Frm.refl _ _, hg⟩
 clear hg
 go_enter Tryz.func111, Tryz.ntmps111
 go_wp2_with fail
 go_loopw [2, 3] (fun i j wr => ∃ k : Nat, k ≤ 16 ∧ i = .int .i64 k ∧ j = .int .i64 (31 - (k : Int)) ∧ RelV w wr g l k) (fun i _ _ => 16 - (intOf i).toNat)
 case atStart => exact ⟨0, by omega, rfl, rfl, hR0⟩
 case round =>
  obtain ⟨k, hk, rfl, rfl, m, hm, hF, hrow⟩ := hrel
  clear hR0
  by_cases hlt : k < 16
  ·have hml := hm.1
   have ej : (31 - (k : Int)) = ((31 - k : Nat) : Int) := by omega
   have c0 := cell_ints hrow k (by omega)
   have c1 := cell_ints hrow (31 - k) (by omega)
   have f0 := free_ints hrow k
   have f1 := free_ints hrow (31 - k)
   have hs := hm.step hlt
   obtain ⟨x, hx⟩ : ∃ x, x = m.getD k 0 := ⟨_, rfl⟩
   obtain ⟨y, hy⟩ : ∃ y, y = m.getD (31 - k) 0 := ⟨_, rfl⟩
   rw [← hx] at c0 hs
   rw [← hy] at c1 hs
   have HN : Hid (RelV w ((wr.setCell ⟨g, k, none⟩ (.int .u8 (y : Int))).setCell ⟨g, 31 - k, none⟩ (.int .u8 (x : Int))).drew g l (k + 1)) :=
    ⟨_, hs, ((hF.set _ _).set _ _).drew, set_ints (set_ints hrow k y) (31 - k) x⟩
   have HL : Hid (31 - k < 32) := by show _ < _; omega
   obtain ⟨j, hj⟩ : ∃ j, j = 31 - k := ⟨_, rfl⟩
   rw [← hj] at c1 f1 HN ej
   have hj32 : j < 32 := by omega
   have hkj : k < j := by omega
   have ejn : (j : Int) - 1 = 31 - ((k + 1 : Nat) : Int) := by omega
   rw [ej]
   have HEN : Hid ((j : Int) - 1 = 31 - ((k + 1 : Nat) : Int)) := ejn
   clear hx hy hs hj ej hm hF hrow hml ejn
   go_wp2_with fail
   go_region
   go_wp2
   go_roundw
   case rel => exact ⟨k + 1, by omega, by go_num, by rw [← HEN.out], HN.out⟩
   case measure => simp [intOf]; omega
  ·obtain rfl : k = 16 := by omega
   have HM : Hid (m = l.reverse) := hm.done hl.out
   clear hm
   go_wp2
   go_end0
   exact ⟨rfl, hF, by rw [← HM.out]; exact hrow⟩
end Go.Proofs.YtabgihjffjlfiaaGreatDoor
set_option linter.unusedVariables false
namespace Go.Proofs.YtabgihjffjlfiaaGreatDoor
open Go.RowKit Go.Sort Go.BigFrame
set_option maxRecDepth 100000
set_option maxHeartbeats 2000000
def CopyFrom (w : World) (a : Option Addr) (rest : List Nat) : Prop := 0 < (ints .u8 rest).toList.length → ∃ ad, a = some ad ∧ ∀ j v, (ints .u8 rest).toList[j]? = some v → w.cell? (ad.add j) = some v
theorem copyFrom {w : World} {a : Option Addr} {rest : List Nat} (hv : View w a rest) : CopyFrom w a rest := by
 intro h0
 obtain ⟨b, off, ha, hc⟩ := hv (by simpa [ints] using h0)
 refine ⟨_, ha, fun j v hj => ?_⟩
 have hj' : j < rest.length := by
  by_cases h : j < rest.length
  ·exact h
  ·rw [ints_list, List.getElem?_eq_none (by simp; omega)] at hj; cases hj
 rw [Addr.add_mid, hc j hj']
 rw [← hj, ints_list]
 simp [hj']
theorem ints_u8_one (l : List Nat) : ∀ v ∈ (ints .u8 l).toList, v.oneCell' = true := fun v hv => by rw [ints_list] at hv; obtain ⟨x, _, rfl⟩ := List.mem_map.1 hv; rfl
theorem ints_toList_len (l : List Nat) : (ints .u8 l).toList.length = l.length := by simp [ints]
theorem splice_ints (z rest : List Nat) (o : Nat) : (splice (ints .u8 z).toList o (ints .u8 rest).toList).toArray = ints .u8 (z.take o ++ rest ++ z.drop (o + rest.length)) := by
 simp [splice, ints]
theorem turned69 (l : List Nat) (w : World) (hl : l.length = 32) : Ret 94 #[.agg (ints .u8 l)] w (Own w.heap.size l.reverse) := by
 unfold Ret
 have hmk := make32
 have h1 : (Tryz.prog.info? 5).map (·.size) = some 1 := by kernel_rfl
 obtain ⟨va, hva⟩ : ∃ x, x = ints .u8 l := ⟨_, rfl⟩
 have hsv : va.size = 32 := by rw [hva, ints_size, hl]
 have HVA : Hid (va = ints .u8 l) := hva
 have hl' : Hid (l.length = 32) := hl
 rw [← hva]
 clear hva hl
 have hgn : ((w.alloc (.cells va 90)).alloc (.cells (ints .u8 (digs 32 0)) 5)).heap[w.heap.size + 1]? = some (.cells (ints .u8 (digs 32 0)).toList.toArray 5 (0, 0)) := heap_alloc2_new _ _ _
 have hB2 : Below w.heap.size w ((w.alloc (.cells va 90)).alloc (.cells (ints .u8 (digs 32 0)) 5)) := below2 _ _ _
 have hg0 : ((w.alloc (.cells va 90)).alloc (.cells (ints .u8 (digs 32 0)) 5)).heap[w.heap.size]? = some (.cells va 90 (0, 0)) := heap2_0 _ _ _
 have hcl : (ints .u8 l).toList.length = Nat.min 32 32 := by rw [ints_toList_len, hl'.out]; rfl
 have hfit : 0 + (ints .u8 l).toList.length ≤ (ints .u8 (digs 32 0)).toList.length := by rw [ints_toList_len, ints_toList_len, hl'.out, digs_len]; omega
 have hpos : CopyFrom ((w.alloc (.cells va 90)).alloc (.cells (ints .u8 (digs 32 0)) 5)) (some ⟨w.heap.size, 0, none⟩) l := copyFrom (fun _ => ⟨w.heap.size, 0, rfl, by rw [HVA.out] at hg0 ⊢; exact bytes_row hg0⟩)
 go_enter Tryz.func94, Tryz.ntmps94
 go_wp2_with (refine wpList_copy_splice rfl (.tmp 5) (.tmp 6) 22 22 rfl 5 Tryz.underlying22 h1 _ _ _ _ _ _ rfl rfl (w.heap.size + 1) 0 (ints .u8 (digs 32 0)).toList 5 hgn (ints .u8 l).toList hcl (fun h => ⟨rfl, hpos h⟩) hfit (ints_u8_one _) w.heap.size w hB2 (by omega) ?_; intro w2 hw2 hB3)
 have hg2 : w2.heap[w.heap.size + 1]? = some (.cells (ints .u8 l) 5 (0, 0)) := by
  rw [hw2.out, splice_ints]
  have : (digs 32 0).take 0 ++ l ++ (digs 32 0).drop (0 + l.length) = l := by rw [hl'.out]; simp [digs]
  rw [this]
 refine (reverse74 (w.heap.size + 1) l w2 hl' hg2).mono ?_
 rintro e w3 ⟨rfl, hF, hrow⟩
 have hB4 : Below w.heap.size w w3 := hF.below hB3 (by omega)
 have HL : Hid (l.reverse.length = 32) := by show _ = _; rw [List.length_reverse]; exact hl'.out
 clear hg2 hB3 hw2 hpos hfit hcl hg0 hB2 hgn hmk
 go_wp2
 go_ret
 exact ⟨_, rfl, hB4, w.heap.size + 1, by rw [HL.out]; rfl, by omega, hrow⟩
section
variable {ρ : Operand → Value} {o : Oper} {x y z t : Operand} {w : World}
theorem dBox68 {lo : Nat} {l : List Nat} (hlo : lo ≤ w.heap.size) (ho : o.op = .box 90 x) (hx : ρ x = .agg (ints .u8 l)) (hl : l.length = 32) : Does Tryz.prog o ρ w (fun v w' => Below w.heap.size w w' ∧ Box lo (ints .u8 l) 90 v w') := by
 obtain ⟨va, hva⟩ : ∃ x, x = ints .u8 l := ⟨_, rfl⟩
 rw [← hva] at hx ⊢
 exact Does.new _ (.cells va 90) (by simp [execOp, ho, hx, go_sem]) ⟨_, rfl, hlo, heap_alloc_new _ _⟩
theorem dLoad68 {g : Nat} {l : List Nat} (hl : l.length = 32) (h : w.heap[g]? = some (.cells (ints .u8 l) 90 (0, 0))) (ho : o.op = .load 90 x) (hx : ρ x = .pointer (some ⟨g, 0, none⟩)) : Does Tryz.prog o ρ w (fun v w' => Below w.heap.size w w' ∧ Is (.agg (ints .u8 l)) v w') :=
 Does.run _ (loadRow ho hx h Tryz.underlying90 rfl (by rw [ints_size, hl]; exact info68)) rfl
theorem dExt0 {R1 R2 : Value → World → Prop} (ho : o.op = .extract x 0) (h : Tup2 R1 R2 (ρ x) w) : Does Tryz.prog o ρ w (fun v w' => Below w.heap.size w w' ∧ R1 v w') := by
 obtain ⟨v1, v2, hv, h1, h2⟩ := h
 exact Does.run v1 (by simp only [execOp, ho, hv]; kernel_rfl) h1
theorem dExt1 {R1 R2 : Value → World → Prop} (ho : o.op = .extract x 1) (h : Tup2 R1 R2 (ρ x) w) : Does Tryz.prog o ρ w (fun v w' => Below w.heap.size w w' ∧ R2 v w') := by
 obtain ⟨v1, v2, hv, h1, h2⟩ := h
 exact Does.run v2 (by simp only [execOp, ho, hv]; kernel_rfl) h2
end
theorem cTurned {v : Value} {l : List Nat} (w w0 : World) (h : Is (.agg (ints .u8 l)) v w0) (hl : l.length = 32) : Ret 94 #[v] w (Own w.heap.size l.reverse) := by
 have h' : v = .agg (ints .u8 l) := h
 subst h'
 exact turned69 l w hl
theorem ownLo {f : FuncId} {args : Array Value} {w : World} {l : List Nat} {lo : Nat} (hlo : lo ≤ w.heap.size) (h : Ret f args w (Own w.heap.size l)) : Ret f args w (Own lo l) :=
 h.mono fun e w' ⟨v, h1, h2, g, h3, h4, h5⟩ => ⟨v, h1, h2, g, h3, by omega, h5⟩
end Go.Proofs.YtabgihjffjlfiaaGreatDoor
set_option linter.unusedVariables false
namespace Go.Proofs.YtabgihjffjlfiaaGreatDoor
open Go.RowKit Go.Sort Go.BigFrame
set_option maxRecDepth 100000
set_option maxHeartbeats 2000000
theorem known47 (l : List Nat) (w : World) (hl : l.length = 32) (hd : Dig l) (hlt : valD (l.reverse) < pp) : Ret 72 #[.agg (ints .u8 l)] w (El (fe (valD (l.reverse)))) := by
 have hrl : l.reverse.length = 32 := by rw [List.length_reverse]; exact hl
 have hrd : Dig l.reverse := by
  intro j
  by_cases hj : j < l.reverse.length
  ·rw [List.getD_eq_getElem?_getD, List.getElem?_eq_getElem hj, Option.getD_some, List.getElem_reverse]
   have := hd (l.length - 1 - j)
   rw [List.getD_eq_getElem?_getD, List.getElem?_eq_getElem (by rw [List.length_reverse] at hj; omega), Option.getD_some] at this
   exact this
  ·rw [List.getD_eq_getElem?_getD, List.getElem?_eq_none (by omega)]; decide
 unfold Ret
 have hO0 : Below w.heap.size w w := Below.refl _ _
 go_enter Tryz.func72, Tryz.ntmps72
 refine wp_seq_k fun K1 hK1 => ?_
 refine wp_plain_inv 2 (specs [Box w.heap.size (ints .u8 l) 90, Box w.heap.size (elc zeroE) 58]) (specs_stb ⟨Box.stb _ _ _, Box.stb _ _ _, trivial⟩) (by kernel_rfl) ?_ ?_
 ·refine ⟨fun a w hB hfr hdep => Step.plain rfl (dBox68 hB.size rfl (hfr 0 (by kernel_rfl)) hl),
   fun a w hB hfr hdep => Step.plain rfl (dAlloc27 hB.size rfl), trivial⟩
 intro u1 hb1
 simp only [List.take, List.drop, FinAll, Act.put, lA, lS, lZ]
 rintro _ ⟨g1_1, rfl, l1_1, m1_1⟩ _ ⟨g2_1, rfl, l2_1, m2_1⟩
 have hO1 := (hO0).trans (hb1.mono (hO0).size)
 have lwm1_1 := Nat.le_trans (hO0).size l1_1
 have lwm2_1 := Nat.le_trans (hO0).size l2_1
 refine hK1 _ _ ?_
 clear hK1 K1
 refine wp_seq_k fun K2 hK2 => ?_
 refine wp_plain_inv 7 (specs [Is (.agg (ints .u8 l)), Own u1.heap.size (l.reverse), Tup2 (El (fe (valD (l.reverse)))) (Is (.int .i64 0)), Tup2 (El (fe (valD (l.reverse)))) (Is (.int .i64 0)), El (fe (valD (l.reverse))), Is (.int .i64 0), Box u1.heap.size (elc zeroE) 58]) (specs_stb ⟨Is.stb _, Own.stb _ _, Tup2.stb (El.stb _) (Is.stb _), Tup2.stb (El.stb _) (Is.stb _), El.stb _, Is.stb _, Box.stb _ _ _, trivial⟩) (by kernel_rfl) ?_ ?_
 ·refine ⟨fun a w hB hfr hdep => Step.plain rfl (dLoad68 hl (block_below hB (lt_of_heap m1_1) m1_1) rfl (hfr 1 (by kernel_rfl))),
   fun a w hB hfr hdep => Step.plain rfl (Does.call 94 #[(a.eval (.tmp 6))] (by kernel_rfl) (ownLo hB.size (cTurned w w (hdep 0 6 (by kernel_rfl)) hl))),
   fun a w hB hfr hdep => Step.plain rfl (Does.call 66 #[(a.eval (.tmp 7))] (by kernel_rfl) (cRead w (Own.bts (hdep 1 7 (by kernel_rfl)) (by omega)) hrl hrd hlt)),
   fun a w hB hfr hdep => Step.plain rfl (dMove (R := Tup2 (El (fe (valD (l.reverse)))) (Is (.int .i64 0))) rfl (hdep 2 8 (by kernel_rfl))),
   fun a w hB hfr hdep => Step.plain rfl (dExt0 rfl (hdep 3 5 (by kernel_rfl))),
   fun a w hB hfr hdep => Step.plain rfl (dExt1 rfl (hdep 3 5 (by kernel_rfl))),
   fun a w hB hfr hdep => Step.plain rfl (dAlloc27 hB.size rfl), trivial⟩
 intro u2 hb2
 simp only [List.take, List.drop, FinAll, Act.put, lA, lS, lZ]
 rintro _ rfl v7_2 h7_2 v8_2 h8_2 v5_2 h5_2 _ ⟨e9_2, q9_2, rfl, x9_2⟩ _ rfl _ ⟨g3_2, rfl, l3_2, m3_2⟩
 refine wpList_store_row rfl 58 (.tmp 3) (.tmp 9) rfl _ (elc e9_2) rfl rfl 58 _ m3_2 info26 rfl (elc_one _) ?_
 have n3_2 := setRow_heap _ _ _ (elc e9_2) _ _ m3_2
 replace hb2 := setRow_below hb2 l3_2 (elc e9_2)
 generalize hw2_1 : u2.setRow g3_2 (elc e9_2) = u2_1 at n3_2 hb2  ⊢
 clear hw2_1 m3_2
 refine wpList_assign rfl rfl rfl ?_
 simp only [Act.put, Act.eval, Array.getD_eq_getD_getElem?, List.getElem?_toArray, List.getElem?_cons_succ, List.getElem?_cons_zero, Option.getD_some, lA, lS, lZ]
 have hO2 := (hO1).trans (hb2.mono (hO1).size)
 have m1_1__2 := block_below hb2 (lt_of_heap m1_1) m1_1
 have m2_1__2 := block_below hb2 (lt_of_heap m2_1) m2_1
 have lwn3_2 := Nat.le_trans (hO1).size l3_2
 refine hK2 _ _ ?_
 clear hK2 K2
 refine wp_seq_k fun K3 hK3 => ?_
 refine wp_plain_inv 1 (specs [El (fe (valD (l.reverse)))]) (specs_stb ⟨El.stb _, trivial⟩) (by kernel_rfl) ?_ ?_
 ·refine ⟨fun a w hB hfr hdep => Step.plain rfl (dLoadEl q9_2 x9_2 (block_below hB (lt_of_heap n3_2) n3_2) rfl (hfr 3 (by kernel_rfl)) (fun _ h => h)), trivial⟩
 intro u3 hb3
 simp only [List.take, List.drop, FinAll, Act.put, lA, lS, lZ]
 rintro _ ⟨e11_3, q11_3, rfl, x11_3⟩
 have om2_1__2 := block_below hb3 (lt_of_heap m2_1__2) m2_1__2
 refine wpList_store_row rfl 58 (.tmp 2) (.tmp 11) rfl _ (elc e11_3) rfl rfl 58 _ om2_1__2 info26 rfl (elc_one _) ?_
 have n2_3 := setRow_heap _ _ _ (elc e11_3) _ _ om2_1__2
 have hO3 := setRow_below (hO2.trans (hb3.mono (hO2).size)) lwm2_1 (elc e11_3)
 refine hK3 _ _ ?_
 clear hK3 K3
 refine wp_ret ?_
 refine bodyPost_ret (v := .agg (elc e11_3)) ?_ rfl ⟨_, rfl, hO3, ⟨_, q11_3, rfl, x11_3⟩⟩
 exact results_cell_row Tryz.results72 _ _ _ 58 _ (0, 0) _ rfl n2_3 Tryz.underlying58 rfl (by first | exact info26 | exact info29 | exact info35 | (rw [(Pt4.cells (by assumption)).1]; exact info29) | (rw [cellsP_size (by assumption)]; exact info29))
def tab0 : List Nat := [33, 105, 54, 211, 205, 110, 83, 254, 192, 164, 226, 49, 253, 214, 220, 92, 105, 44, 199, 96, 149, 37, 167, 178, 201, 86, 45, 96, 143, 37, 213, 26]
def tab1 : List Nat := [102, 102, 102, 102, 102, 102, 102, 102, 102, 102, 102, 102, 102, 102, 102, 102, 102, 102, 102, 102, 102, 102, 102, 102, 102, 102, 102, 102, 102, 102, 102, 88]
def tab2 : List Nat := [82, 3, 108, 238, 43, 111, 254, 115, 140, 199, 64, 121, 119, 121, 232, 152, 0, 112, 10, 77, 65, 65, 216, 171, 117, 235, 77, 202, 19, 89, 120, 163]
def tab3 : List Nat := [15, 255, 255, 255, 255, 255, 255, 255, 255, 255, 255, 255, 255, 255, 255, 255, 255, 255, 255, 255, 255, 255, 255, 255, 255, 255, 255, 255, 255, 255, 255, 254]
def tab4 : List Nat := [43, 131, 36, 128, 79, 193, 223, 11, 43, 77, 0, 153, 61, 251, 215, 167, 47, 67, 24, 6, 173, 47, 228, 120, 196, 238, 27, 39, 74, 14, 160, 176]
structure Tab (w : World) : Prop where
 t0 : BytesAt w 0 0 tab0
 t1 : BytesAt w 1 0 tab1
 t2 : BytesAt w 2 0 tab2
structure Tab5 (w : World) : Prop extends Tab w where
 t3 : BytesAt w 5 0 tab3
 t4 : BytesAt w 6 0 tab4
theorem bytesAt_below {w w' : World} {b : Nat} {l : List Nat} (h : BytesAt w b 0 l) (h0 : 0 < l.length) (hb : Below w.heap.size w w') : BytesAt w' b 0 l := h.below hb (block_lt_of_cell (h 0 h0))
theorem Tab.below {w w' : World} (h : Tab w) (hb : Below w.heap.size w w') : Tab w' := ⟨bytesAt_below h.t0 (by decide) hb, bytesAt_below h.t1 (by decide) hb, bytesAt_below h.t2 (by decide) hb⟩
theorem Tab5.below {w w' : World} (h : Tab5 w) (hb : Below w.heap.size w w') : Tab5 w' := ⟨h.toTab.below hb, bytesAt_below h.t3 (by decide) hb, bytesAt_below h.t4 (by decide) hb⟩
theorem dLoadTab {ρ : Operand → Value} {o : Oper} {w : World} {k : Nat} {l : List Nat} (h : BytesAt w k 0 l) (hl : l.length = 32) (ho : o.op = .load 90 (.global k)) (hx : ρ (.global k) = .pointer (some ⟨k, 0, none⟩)) : Does Tryz.prog o ρ w (fun v w' => Below w.heap.size w w' ∧ Is (.agg (ints .u8 l)) v w') := by
 have hr : w.rangeAt k 0 (ints .u8 l).toList := fun j v hv => by
  have hj : j < l.length := by
   have := (List.getElem?_eq_some_iff.1 hv).1
   rwa [ints_toList_len] at this
  rw [h j hj]
  rw [ints_list] at hv
  simp [hj] at hv
  simp [hj, hv]
 have hi : (Tryz.prog.info? 90).map (·.size) = some (ints .u8 l).toList.length := by rw [ints_toList_len, hl]; exact info68
 refine Does.run _ ?_ rfl
 unfold execOp
 simp only [ho, hx, Instr.loadAt, Instr.sureAddr, Sem.run_bind, Sem.run_pure, Result.andThen_ok, run_loadVar_mid w k 0 90 (ints .u8 l).toList _ hr Tryz.underlying90 rfl hi]
theorem cKnown {v : Value} {l : List Nat} {X : Fe} (w w0 : World) (h : Is (.agg (ints .u8 l)) v w0) (hl : l.length = 32) (hd : Dig l) (hlt : valD (l.reverse) < pp) (hX : fe (valD l.reverse) = X) : Ret 72 #[v] w (El X) := by
 have h' : v = .agg (ints .u8 l) := h
 subst h' hX
 exact known47 l w hl hd hlt
theorem dig_lt {l : List Nat} (h : ∀ x ∈ l, x < 256) : Dig l := fun j => by
 by_cases hj : j < l.length
 ·have := h l[j] (List.getElem_mem hj)
  simpa [hj] using this
 ·rw [List.getD_eq_getElem?_getD, List.getElem?_eq_none (by omega)]; decide
theorem tab0_dig : Dig tab0 := dig_lt (by decide)
theorem tab1_dig : Dig tab1 := dig_lt (by decide)
theorem tab2_dig : Dig tab2 := dig_lt (by decide)
theorem tab3_dig : Dig tab3 := dig_lt (by decide)
theorem tab4_dig : Dig tab4 := dig_lt (by decide)
theorem tab0_val : fe (valD tab0.reverse) = bp.x := by decide
theorem tab1_val : fe (valD tab1.reverse) = bp.y := by decide
theorem tab2_val : fe (valD tab2.reverse) = dd := by decide
theorem tab4_val : fe (valD tab4.reverse) = ii := by decide
theorem cTwiceD (w : World) (hT : Tab w) : Ret 73 #[] w (El (dd + dd)) := by
 unfold Ret
 have hO0 : Below w.heap.size w w := Below.refl _ _
 go_enter Tryz.func73, Tryz.ntmps73
 refine wp_seq_k fun K1 hK1 => ?_
 refine wp_plain_inv 1 (specs [Box w.heap.size (elc zeroE) 58]) (specs_stb ⟨Box.stb _ _ _, trivial⟩) (by kernel_rfl) ?_ ?_
 ·refine ⟨fun a w hB hfr hdep => Step.plain rfl (dAlloc27 hB.size rfl), trivial⟩
 intro u1 hb1
 simp only [List.take, List.drop, FinAll, Act.put, lA, lZ]
 rintro _ ⟨g0_1, rfl, l0_1, m0_1⟩
 have hO1 := (hO0).trans (hb1.mono (hO0).size)
 have lwm0_1 := Nat.le_trans (hO0).size l0_1
 have hT1 := Tab.below hT hb1
 refine hK1 _ _ ?_
 clear hK1 K1
 refine wp_seq_k fun K2 hK2 => ?_
 refine wp_plain_inv 3 (specs [Is (.agg (ints .u8 tab2)), El (dd), Box u1.heap.size (elc zeroE) 58]) (specs_stb ⟨Is.stb _, El.stb _, Box.stb _ _ _, trivial⟩) (by kernel_rfl) ?_ ?_
 ·refine ⟨fun a w hB hfr hdep => Step.plain rfl (dLoadTab (Tab.below hT1 hB).t2 rfl rfl rfl),
   fun a w hB hfr hdep => Step.plain rfl (Does.call 72 #[(a.eval (.tmp 2))] (by kernel_rfl) (cKnown w w (hdep 0 2 (by kernel_rfl)) rfl tab2_dig (by decide) tab2_val)),
   fun a w hB hfr hdep => Step.plain rfl (dAlloc27 hB.size rfl), trivial⟩
 intro u2 hb2
 simp only [List.take, List.drop, FinAll, Act.put, lA, lS, lZ]
 rintro _ rfl _ ⟨e3_2, q3_2, rfl, x3_2⟩ _ ⟨g1_2, rfl, l1_2, m1_2⟩
 refine wpList_store_row rfl 58 (.tmp 1) (.tmp 3) rfl _ (elc e3_2) rfl rfl 58 _ m1_2 info26 rfl (elc_one _) ?_
 have n1_2 := setRow_heap _ _ _ (elc e3_2) _ _ m1_2
 replace hb2 := setRow_below hb2 l1_2 (elc e3_2)
 generalize hw2_1 : u2.setRow g1_2 (elc e3_2) = u2_1 at n1_2 hb2  ⊢
 clear hw2_1 m1_2
 have hO2 := (hO1).trans (hb2.mono (hO1).size)
 have m0_1__2 := block_below hb2 (lt_of_heap m0_1) m0_1
 have lwn1_2 := Nat.le_trans (hO1).size l1_2
 have hT2 := Tab.below hT1 hb2
 refine hK2 _ _ ?_
 clear hK2 K2
 refine wp_seq_k fun K3 hK3 => ?_
 refine wp_plain_inv 3 (specs [El (dd), El (dd), El ((dd) + (dd))]) (specs_stb ⟨El.stb _, El.stb _, El.stb _, trivial⟩) (by kernel_rfl) ?_ ?_
 ·refine ⟨fun a w hB hfr hdep => Step.plain rfl (dLoadEl q3_2 x3_2 (block_below hB (lt_of_heap n1_2) n1_2) rfl (hfr 1 (by kernel_rfl)) (fun _ h => h)),
   fun a w hB hfr hdep => Step.plain rfl (dLoadEl q3_2 x3_2 (block_below hB (lt_of_heap n1_2) n1_2) rfl (hfr 1 (by kernel_rfl)) (fun _ h => h)),
   fun a w hB hfr hdep => Step.plain rfl (Does.call 90 #[(a.eval (.tmp 4)), (a.eval (.tmp 5))] (by kernel_rfl) (cAdd w w w (hdep 0 4 (by kernel_rfl)) (hdep 1 5 (by kernel_rfl)))), trivial⟩
 intro u3 hb3
 simp only [List.take, List.drop, FinAll, Act.put, lA, lS, lZ]
 rintro v4_3 h4_3 v5_3 h5_3 _ ⟨e6_3, q6_3, rfl, x6_3⟩
 have om0_1__2 := block_below hb3 (lt_of_heap m0_1__2) m0_1__2
 refine wpList_store_row rfl 58 (.tmp 0) (.tmp 6) rfl _ (elc e6_3) rfl rfl 58 _ om0_1__2 info26 rfl (elc_one _) ?_
 have n0_3 := setRow_heap _ _ _ (elc e6_3) _ _ om0_1__2
 have hO3 := setRow_below (hO2.trans (hb3.mono (hO2).size)) lwm0_1 (elc e6_3)
 refine hK3 _ _ ?_
 clear hK3 K3
 refine wp_ret ?_
 refine bodyPost_ret (v := .agg (elc e6_3)) ?_ rfl ⟨_, rfl, hO3, ⟨_, q6_3, rfl, x6_3⟩⟩
 exact results_cell_row Tryz.results73 _ _ _ 58 _ (0, 0) _ rfl n0_3 Tryz.underlying58 rfl (by first | exact info26 | exact info29 | exact info35 | (rw [(Pt4.cells (by assumption)).1]; exact info29) | (rw [cellsP_size (by assumption)]; exact info29))
theorem cZero (w : World) : Ret 74 #[] w (PtV Pt.zero) := by
 unfold Ret
 have hO0 : Below w.heap.size w w := Below.refl _ _
 go_enter Tryz.func74, Tryz.ntmps74
 refine wp_seq_k fun K1 hK1 => ?_
 refine wp_plain_inv 1 (specs [Box w.heap.size (ptc zeroE zeroE zeroE zeroE) 60]) (specs_stb ⟨Box.stb _ _ _, trivial⟩) (by kernel_rfl) ?_ ?_
 ·refine ⟨fun a w hB hfr hdep => Step.plain rfl (dAlloc29 hB.size rfl), trivial⟩
 intro u1 hb1
 simp only [List.take, List.drop, FinAll, Act.put, lA, lZ]
 rintro _ ⟨g0_1, rfl, l0_1, m0_1⟩
 have hO1 := (hO0).trans (hb1.mono (hO0).size)
 have lwm0_1 := Nat.le_trans (hO0).size l0_1
 refine hK1 _ _ ?_
 clear hK1 K1
 refine wp_seq_k fun K2 hK2 => ?_
 refine wp_plain_inv 3 (specs [El (0), El (1), Pt4 (0) (1) (1) ((0) * (1))]) (specs_stb ⟨El.stb _, El.stb _, Pt4.stb _ _ _ _, trivial⟩) (by kernel_rfl) ?_ ?_
 ·refine ⟨fun a w hB hfr hdep => Step.plain rfl (Does.call 89 #[.int .i64 0] (by kernel_rfl) (cInt0 w)),
   fun a w hB hfr hdep => Step.plain rfl (Does.call 89 #[.int .i64 1] (by kernel_rfl) (cInt1 w)),
   fun a w hB hfr hdep => Step.plain rfl (Does.call 70 #[(a.eval (.tmp 1)), (a.eval (.tmp 2))] (by kernel_rfl) (cOfPair w w w (hdep 0 1 (by kernel_rfl)) (hdep 1 2 (by kernel_rfl)))), trivial⟩
 intro u2 hb2
 simp only [List.take, List.drop, FinAll, Act.put, lA, lS, lZ]
 rintro v1_2 h1_2 v2_2 h2_2 _ ⟨e3_2, rfl, x3_2⟩
 have om0_1 := block_below hb2 (lt_of_heap m0_1) m0_1
 refine wpList_store_row rfl 60 (.tmp 0) (.tmp 3) rfl _ (e3_2) rfl rfl 60 _ om0_1 (by rw [(Pt4.cells x3_2).1]; exact info29) (by rw [(Pt4.cells x3_2).1]; rfl) (Pt4.cells x3_2).2 ?_
 have n0_2 := setRow_heap _ _ _ (e3_2) _ _ om0_1
 have hO2 := setRow_below (hO1.trans (hb2.mono (hO1).size)) lwm0_1 (e3_2)
 refine hK2 _ _ ?_
 clear hK2 K2
 refine wp_ret ?_
 refine bodyPost_ret (v := .agg (e3_2)) ?_ rfl ⟨_, rfl, hO2, ⟨_, rfl, _, _, _, _, x3_2, rep_aff Pt.zero⟩⟩
 exact results_cell_row Tryz.results74 _ _ _ 60 _ (0, 0) _ rfl n0_2 Tryz.underlying60 rfl (by first | exact info26 | exact info29 | exact info35 | (rw [(Pt4.cells (by assumption)).1]; exact info29) | (rw [cellsP_size (by assumption)]; exact info29))
theorem cBase (w : World) (hT : Tab w) : Ret 33 #[] w (PtV bp) := by
 unfold Ret
 have hO0 : Below w.heap.size w w := Below.refl _ _
 go_enter Tryz.func33, Tryz.ntmps33
 refine wp_seq_k fun K1 hK1 => ?_
 refine wp_plain_inv 1 (specs [Box w.heap.size (ptc zeroE zeroE zeroE zeroE) 60]) (specs_stb ⟨Box.stb _ _ _, trivial⟩) (by kernel_rfl) ?_ ?_
 ·refine ⟨fun a w hB hfr hdep => Step.plain rfl (dAlloc29 hB.size rfl), trivial⟩
 intro u1 hb1
 simp only [List.take, List.drop, FinAll, Act.put, lA, lZ]
 rintro _ ⟨g0_1, rfl, l0_1, m0_1⟩
 have hO1 := (hO0).trans (hb1.mono (hO0).size)
 have lwm0_1 := Nat.le_trans (hO0).size l0_1
 have hT1 := Tab.below hT hb1
 refine hK1 _ _ ?_
 clear hK1 K1
 refine wp_seq_k fun K2 hK2 => ?_
 refine wp_region_inv 5 (specs [Is (.agg (ints .u8 tab0)), El (bp.x), Is (.agg (ints .u8 tab1)), El (bp.y), Pt4 (bp.x) (bp.y) (1) ((bp.x) * (bp.y))]) (by kernel_rfl) (specs_stb ⟨Is.stb _, El.stb _, Is.stb _, El.stb _, Pt4.stb _ _ _ _, trivial⟩) (by kernel_rfl) ?_ ?_
 ·refine ⟨fun a w hB hfr hdep => Step.plain rfl (dLoadTab (Tab.below hT1 hB).t0 rfl rfl rfl),
   fun a w hB hfr hdep => Step.plain rfl (Does.call 72 #[(a.eval (.tmp 1))] (by kernel_rfl) (cKnown w w (hdep 0 1 (by kernel_rfl)) rfl tab0_dig (by decide) tab0_val)),
   fun a w hB hfr hdep => Step.plain rfl (dLoadTab (Tab.below hT1 hB).t1 rfl rfl rfl),
   fun a w hB hfr hdep => Step.plain rfl (Does.call 72 #[(a.eval (.tmp 3))] (by kernel_rfl) (cKnown w w (hdep 2 3 (by kernel_rfl)) rfl tab1_dig (by decide) tab1_val)),
   fun a w hB hfr hdep => Step.plain rfl (Does.call 70 #[(a.eval (.tmp 2)), (a.eval (.tmp 4))] (by kernel_rfl) (cOfPair w w w (hdep 1 2 (by kernel_rfl)) (hdep 3 4 (by kernel_rfl)))), trivial⟩
 intro u2 hb2
 simp only [List.take, List.drop, FinAll, Act.put, lA, lS, lZ]
 rintro _ rfl v2_2 h2_2 _ rfl v4_2 h4_2 _ ⟨e5_2, rfl, x5_2⟩
 have om0_1 := block_below hb2 (lt_of_heap m0_1) m0_1
 refine wpList_store_row rfl 60 (.tmp 0) (.tmp 5) rfl _ (e5_2) rfl rfl 60 _ om0_1 (by rw [(Pt4.cells x5_2).1]; exact info29) (by rw [(Pt4.cells x5_2).1]; rfl) (Pt4.cells x5_2).2 ?_
 have n0_2 := setRow_heap _ _ _ (e5_2) _ _ om0_1
 have hO2 := setRow_below (hO1.trans (hb2.mono (hO1).size)) lwm0_1 (e5_2)
 refine hK2 _ _ ?_
 clear hK2 K2
 refine wp_ret ?_
 refine bodyPost_ret (v := .agg (e5_2)) ?_ rfl ⟨_, rfl, hO2, ⟨_, rfl, _, _, _, _, x5_2, rep_aff bp⟩⟩
 exact results_cell_row Tryz.results33 _ _ _ 60 _ (0, 0) _ rfl n0_2 Tryz.underlying60 rfl (by first | exact info26 | exact info29 | exact info35 | (rw [(Pt4.cells (by assumption)).1]; exact info29) | (rw [cellsP_size (by assumption)]; exact info29))
theorem cPAdd {p q : Pt} {v1 v2 : Value} (w w0 w1 : World) (hT : Tab w) (h1 : PtV p v1 w0) (h2 : PtV q v2 w1) : Ret 35 #[v1, v2] w (PtV (p.add q)) := by
 obtain ⟨cs1, rfl, hp1⟩ := h1
 obtain ⟨cs2, rfl, hp2⟩ := h2
 obtain ⟨X1, Y1, Z1, T1, h41, hr1⟩ := id hp1
 obtain ⟨X2, Y2, Z2, T2, h42, hr2⟩ := id hp2
 unfold Ret
 have hO0 : Below w.heap.size w w := Below.refl _ _
 go_enter Tryz.func35, Tryz.ntmps35
 refine wp_seq_k fun K1 hK1 => ?_
 refine wp_plain_inv 3 (specs [Box w.heap.size (cs1) 60, Box w.heap.size (cs2) 60, Box w.heap.size (ptc zeroE zeroE zeroE zeroE) 60]) (specs_stb ⟨Box.stb _ _ _, Box.stb _ _ _, Box.stb _ _ _, trivial⟩) (by kernel_rfl) ?_ ?_
 ·refine ⟨fun a w hB hfr hdep => Step.plain rfl (dBox29 hB.size rfl (hfr 0 (by kernel_rfl)) h41),
   fun a w hB hfr hdep => Step.plain rfl (dBox29 hB.size rfl (hfr 1 (by kernel_rfl)) h42),
   fun a w hB hfr hdep => Step.plain rfl (dAlloc29 hB.size rfl), trivial⟩
 intro u1 hb1
 simp only [List.take, List.drop, FinAll, Act.put, lA, lS, lZ]
 rintro _ ⟨g2_1, rfl, l2_1, m2_1⟩ _ ⟨g3_1, rfl, l3_1, m3_1⟩ _ ⟨g4_1, rfl, l4_1, m4_1⟩
 have hO1 := (hO0).trans (hb1.mono (hO0).size)
 have lwm2_1 := Nat.le_trans (hO0).size l2_1
 have lwm3_1 := Nat.le_trans (hO0).size l3_1
 have lwm4_1 := Nat.le_trans (hO0).size l4_1
 have hT1 := Tab.below hT hb1
 refine hK1 _ _ ?_
 clear hK1 K1
 refine wp_seq_k fun K2 hK2 => ?_
 refine wp_region_inv 4 (specs [PtV (p), PtV (q), El (dd + dd), PtV ((p).add (q))]) (by kernel_rfl) (specs_stb ⟨PtV.stb _, PtV.stb _, El.stb _, PtV.stb _, trivial⟩) (by kernel_rfl) ?_ ?_
 ·refine ⟨fun a w hB hfr hdep => Step.plain rfl (dLoadPt hp1 (block_below hB (lt_of_heap m2_1) m2_1) rfl (hfr 2 (by kernel_rfl)) (fun _ h => h)),
   fun a w hB hfr hdep => Step.plain rfl (dLoadPt hp2 (block_below hB (lt_of_heap m3_1) m3_1) rfl (hfr 3 (by kernel_rfl)) (fun _ h => h)),
   fun a w hB hfr hdep => Step.plain rfl (Does.call 73 #[] (by kernel_rfl) (cTwiceD w (Tab.below hT1 hB))),
   fun a w hB hfr hdep => Step.plain rfl (Does.call 75 #[(a.eval (.tmp 5)), (a.eval (.tmp 6)), (a.eval (.tmp 7))] (by kernel_rfl) (cPlus w w w w (hdep 0 5 (by kernel_rfl)) (hdep 1 6 (by kernel_rfl)) (hdep 2 7 (by kernel_rfl)))), trivial⟩
 intro u2 hb2
 simp only [List.take, List.drop, FinAll, Act.put, lA, lS, lZ]
 rintro v5_2 h5_2 v6_2 h6_2 v7_2 h7_2 _ ⟨e8_2, rfl, x8_2⟩
 have om4_1 := block_below hb2 (lt_of_heap m4_1) m4_1
 refine wpList_store_row rfl 60 (.tmp 4) (.tmp 8) rfl _ (e8_2) rfl rfl 60 _ om4_1 (by rw [cellsP_size x8_2]; exact info29) (by rw [cellsP_size x8_2]; rfl) (cellsP_one x8_2) ?_
 have n4_2 := setRow_heap _ _ _ (e8_2) _ _ om4_1
 have hO2 := setRow_below (hO1.trans (hb2.mono (hO1).size)) lwm4_1 (e8_2)
 refine hK2 _ _ ?_
 clear hK2 K2
 refine wp_ret ?_
 refine bodyPost_ret (v := .agg (e8_2)) ?_ rfl ⟨_, rfl, hO2, ⟨_, rfl, x8_2⟩⟩
 exact results_cell_row Tryz.results35 _ _ _ 60 _ (0, 0) _ rfl n4_2 Tryz.underlying60 rfl (by first | exact info26 | exact info29 | exact info35 | (rw [(Pt4.cells (by assumption)).1]; exact info29) | (rw [cellsP_size (by assumption)]; exact info29))
end Go.Proofs.YtabgihjffjlfiaaGreatDoor
set_option linter.unusedVariables false
namespace Go.Proofs.YtabgihjffjlfiaaGreatDoor
open Go.RowKit Go.Sort Go.BigFrame
set_option maxRecDepth 100000
set_option maxHeartbeats 2000000
section
variable {ρ : Operand → Value} {o : Oper} {x y z t : Operand} {w : World}
theorem dPickT {R : Value → World → Prop} (ho : o.op = .pick x y z) (hx : ρ x = .bool true) (h : R (ρ y) w) : Does Tryz.prog o ρ w (fun v w' => Below w.heap.size w w' ∧ R v w') :=
 Does.run _ (by simp only [execOp, ho, hx]; kernel_rfl) h
theorem run_notO {b : Bool} (ho : o.op = .unOp .not 4 x) (hx : ρ x = .bool b) : (execOp ρ o).run Tryz.prog w = .ok (.value (.bool (!b))) w := by
 simp only [execOp, ho, hx]
 cases b <;> kernel_rfl
end
theorem cEqT {x y : Fe} (h : x = y) {v1 v2 : Value} (w w0 w1 : World) (h1 : El x v1 w0) (h2 : El y v2 w1) : Ret 110 #[v1, v2] w (Is (.bool true)) := by
 have := cEq w w0 w1 h1 h2
 rwa [decide_eq_true h] at this
theorem cEqF {x y : Fe} (h : ¬ x = y) {v1 v2 : Value} (w w0 w1 : World) (h1 : El x v1 w0) (h2 : El y v2 w1) : Ret 110 #[v1, v2] w (Is (.bool false)) := by
 have := cEq w w0 w1 h1 h2
 rwa [decide_eq_false h] at this
end Go.Proofs.YtabgihjffjlfiaaGreatDoor
