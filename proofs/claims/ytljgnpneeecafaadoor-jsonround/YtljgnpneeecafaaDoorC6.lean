/-
  A region that draws its order: some operations first, in any order; then whatever comes. JSON: a list's next kid. A region that draws its order, some of whose operations change what is there: what each may change is told one by one. JSON: a map's next name and kid: the region that appends both. JSON: a map's next name and kid. JSON: lists and maps are read. JSON: what reads a value, by its first byte. JSON: a value is read.
-/
import Derived.Test.YtljgnpneeecafaaDoorC0
import Derived.Test.YtljgnpneeecafaaDoorC5
import Derived.Deep.MidRow
import Derived.MapKept
set_option linter.unusedVariables false
namespace Go.Proofs.YtljgnpneeecafaaDoor
open Go.RowKit Go.Sort
section
variable {P : Program}
/-- Every operation from n on waits for the n. -/
def waitG (l : List Oper) (n : Nat) : Bool := (l.drop n).all fun o => (List.range n).all fun j => o.after.any fun e => Region.binds .any e && e.on == j
theorem waitG_spec {l : List Oper} {n i : Nat} {o : Oper} (h : waitG l n = true) (hi : n ≤ i) (ho : l[i]? = some o) (j : Nat) (hj : j < n) : ∃ e ∈ o.after, Region.binds .any e = true ∧ e.on = j := by
  unfold waitG at h
  have hm : o ∈ l.drop n := List.mem_iff_getElem?.2 ⟨i - n, by rw [List.getElem?_drop, show n + (i - n) = i by omega]; exact ho⟩
  have h2 := List.all_eq_true.1 (List.all_eq_true.1 h o hm) j (by simpa using hj)
  obtain ⟨e, he, hb⟩ := Array.any_eq_true'.1 h2
  simp only [Bool.and_eq_true, beq_iff_eq] at hb
  exact ⟨e, he, hb.1, hb.2⟩
def ordG (l : List Oper) : Nat → Bool
  | 0 => true
  | n + 1 => ordG l n && (match l[n]? with | some o => o.after.all (fun e => !Region.binds .any e || decide (e.on < n)) | none => false)
theorem ordG_spec {l : List Oper} : ∀ (n : Nat), ordG l n = true → ∀ j, j < n → ∃ o, l[j]? = some o ∧ ∀ e ∈ o.after, Region.binds .any e = true → e.on < j
  | 0, _, j, h => by omega
  | n + 1, h, j, hj => by
    unfold ordG at h
    rw [Bool.and_eq_true] at h
    by_cases hi : j = n
    · subst hi
      cases ho : l[j]? with
      | none => simp [ho] at h
      | some o =>
        rw [ho] at h
        refine ⟨o, rfl, fun e he hb => ?_⟩
        have := Array.all_eq_true'.1 h.2 e he
        simpa [hb] using this
    · exact ordG_spec n h.1 j (by omega)
def headG (l : List Oper) (m n : Nat) : Bool := dsB m (l.take n) && ordG l n && decide (n ≤ l.length) && waitG l n
theorem any_invG {l : List Oper} {n : Nat} {V : Nat → Value → World → Prop} {u : World} {a0 : Act} {Q : Exit → Act → World → Prop} (hst : ∀ j v w w', Below w.heap.size w w' → V j v w → V j v w')
    (hB : headG l a0.tmps.size n = true) (hop : OpsOK P l (depB l) n V u a0 (l.take n) 0) (hfin : ∀ w, Below u.heap.size u w → FinAll V w (fun a => wpAny P .any l.toArray Q (l.length - n) (fullB n l.length) a w) (l.take n) 0 a0) :
    ∀ (f : Nat) (listed : Array Bool) (a : Act) (w : World), cnt n (fun j => listed.getD j false) = f → HeadInv .any l.toArray n listed → Below u.heap.size u w →
      (∃ vs, a = acts vs (fun j => listed.getD j false) (l.take n) 0 a0 ∧ ∀ j, j < n → listed.getD j false = true → V j (vs j) w) → wpAny P .any l.toArray Q (f + (l.length - n)) listed a w := by
  simp only [headG, Bool.and_eq_true, decide_eq_true_eq] at hB
  obtain ⟨⟨⟨hds, hord⟩, hnl⟩, hwait⟩ := hB
  have htk : (l.take n).length = n := by simp; omega
  intro f
  induction f with
  | zero =>
    intro listed a w hc inv hw ⟨vs, ha, hV⟩
    have hall := cnt_zero n hc
    have hfull : listed = fullB n l.length := by
      apply Array.ext
      · rw [inv.size]; simp [fullB]
      · intro i h1 h2
        have hsz := inv.size
        simp only [List.size_toArray] at hsz
        simp only [fullB, List.getElem_toArray, List.getElem_map, List.getElem_range]
        by_cases hi : i < n
        · have := hall i hi
          simp only [Array.getD_eq_getD_getElem?, Array.getElem?_eq_getElem h1, Option.getD_some] at this
          rw [this]; simp [hi]
        · have := inv.tail i (by omega) (by simp; omega)
          simp only [Array.getD_eq_getD_getElem?, Array.getElem?_eq_getElem h1, Option.getD_some] at this
          rw [this]; simp [hi]
    have hK := (hfin w hw).acts (vs := vs) (ls := fun j => listed.getD j false) (l.take n) 0 a0 fun j hj => by
      rw [htk] at hj
      rw [Nat.zero_add]
      exact ⟨hall j hj, hV j hj (hall j hj)⟩
    rw [← ha] at hK
    rw [hfull, Nat.zero_add]
    exact hK
  | succ f ih =>
    intro listed a w hc inv hw ⟨vs, ha, hV⟩
    obtain ⟨j0, hj0, hun, hbefore⟩ := cnt_pos n (p := fun j => listed.getD j false) (by omega)
    have hsz := inv.size
    simp only [List.size_toArray] at hsz
    rw [show f + 1 + (l.length - n) = (f + (l.length - n)) + 1 by omega]
    refine ⟨fun h0 => ?_, fun i hi => ?_⟩
    · obtain ⟨o, ho, hbe⟩ := ordG_spec n hord j0 hj0
      have : j0 ∈ Region.ready .any l.toArray listed := mem_ready.2 ⟨getD_in (by omega) hun, o, by simpa using ho, fun e he hb => hbefore e.on (hbe e he hb)⟩
      rw [h0] at this; cases this
    · have hin : i < n := Nat.lt_of_not_le fun hge => by
        obtain ⟨_, o, ho, hd⟩ := mem_ready.1 hi
        obtain ⟨e, he, hb, rfl⟩ := waitG_spec hwait hge (by simpa using ho) j0 hj0
        have := hd e he hb
        rw [this] at hun
        cases hun
      obtain ⟨hiu, o, ho, hdep⟩ := mem_ready.1 hi
      have hol : l[i]? = some o := by simpa using ho
      have hot : (l.take n)[i]? = some o := by rw [List.getElem?_take_of_lt hin]; exact hol
      have hS := hop.at (l.take n) 0 i o hot a w hw (fun s hs => by
        have := acts_other (vs := vs) (ls := fun j => listed.getD j false) (l.take n) 0 a0 hs
        rw [← ha] at this
        simp only [Act.eval, Array.getD_eq_getD_getElem?, this]) (fun j d hjd => by
        rw [Nat.zero_add] at hjd
        simp only [depB, hol, Bool.and_eq_true] at hjd
        obtain ⟨e, he, hb⟩ := Array.any_eq_true'.1 hjd.1
        simp only [Bool.and_eq_true, beq_iff_eq] at hb
        cases hoj : l[j]? with
        | none => simp [hoj] at hjd
        | some oj =>
          have hjd2 : oj.dst = some d := by simpa [hoj] using hjd.2
          have hjl : listed.getD j false = true := by rw [← hb.2]; exact hdep e he hb.1
          obtain ⟨o2, ho2, hbe⟩ := ordG_spec n hord i hin
          obtain rfl : o2 = o := Option.some.inj (ho2.symm.trans hol)
          have hji : j < i := by rw [← hb.2]; exact hbe e he hb.1
          have hjt : (l.take n)[j]? = some oj := by rw [List.getElem?_take_of_lt (by omega)]; exact hoj
          have hat := acts_at (vs := vs) (ls := fun j => listed.getD j false) (l.take n) 0 j a0 oj rfl hds hjt hjd2 (by rw [Nat.zero_add]; exact hjl)
          rw [← ha, Nat.zero_add] at hat
          rw [eval_of hat]
          exact hV j (by omega) hjl)
      rw [Nat.zero_add] at hS
      have next : ∀ v w', Below w.heap.size w w' → V i v w' → wpAny P .any l.toArray Q (f + (l.length - n)) (listed.setIfInBounds i true) (a.put o.dst v) w' := fun v w' hb hv => by
        have hil : i < listed.size := by omega
        have hif : listed.getD i false = false := getD_both hiu
        refine ih _ _ w' ?_ (inv.set hi hin) (hw.trans (hb.mono hw.size)) ⟨upd vs i v, ?_, fun j hj hjl => ?_⟩
        · rw [getD_upd hil]
          have := cnt_set n (p := fun j => listed.getD j false) hin hif
          omega
        · rw [ha, getD_upd hil]
          have := acts_set (vs := vs) (ls := fun j => listed.getD j false) (v := v) (l.take n) 0 i a0 o hds hot (by rw [Nat.zero_add]; exact hif)
          rw [Nat.zero_add] at this
          exact this
        · by_cases hji : j = i
          · subst hji; rw [upd_same]; exact hv
          · rw [upd_ne _ _ hji]
            have h2 := congrFun (getD_upd hil) j
            simp only [hjl] at h2
            rw [upd_ne _ _ hji] at h2
            exact hst j _ w w' hb (hV j hj h2.symm)
      unfold wpOp
      simp only [ho]
      rcases hS with ⟨hwt, hD⟩ | ⟨hwt, hu⟩
      · rw [if_pos hwt]
        exact .inl (hD.wp fun v w' h => next v w' h.1 h.2)
      · rw [if_neg (by rw [hwt]; decide)]
        exact next _ w (Below.refl _ _) hu
theorem wp_region_invG {id : Nat} {l : List Oper} {Q : Exit → Act → World → Prop} {a0 : Act} {u : World} (n : Nat) (V : Nat → Value → World → Prop) (hm : P.follows .mixedOrders = true) (hst : ∀ j v w w', Below w.heap.size w w' → V j v w → V j v w')
    (hB : headG l a0.tmps.size n = true) (hop : OpsOK P l (depB l) n V u a0 (l.take n) 0) (hfin : ∀ w, Below u.heap.size u w → FinAll V w (fun a => wpAny P .any l.toArray Q (l.length - n) (fullB n l.length) a w) (l.take n) 0 a0) : (Code.region id l.toArray true).wp P Q a0 u := by
  refine wp_region_any hm ?_
  have hnl : n ≤ l.length := by
    simp only [headG, Bool.and_eq_true, decide_eq_true_eq] at hB
    exact hB.1.2
  have inv0 : HeadInv .any l.toArray n (Array.replicate l.toArray.size false) :=
    ⟨by simp, fun j oj _ hl => (by rw [getD_replicate_false] at hl; cases hl), fun t _ ht => getD_in (by simpa using ht) (getD_replicate_false _ _)⟩
  have h0 : (fun j => (Array.replicate l.toArray.size false).getD j false) = fun _ => false := funext fun j => getD_replicate_false _ _
  have a00 : ∀ (r : List Oper) (k : Nat) (a : Act), acts (fun _ => undef) (fun _ => false) r k a = a := by
    intro r
    induction r with
    | nil => intro k a; rfl
    | cons o r ih => intro k a; unfold acts; simp only [Bool.false_eq_true, if_false]; exact ih _ _
  have := any_invG hst hB hop hfin n (Array.replicate l.toArray.size false) a0 { u with drawn := u.drawn + 1 } (by rw [h0, cnt_all]) inv0 (Below.refl _ _).drew ⟨fun _ => undef, by rw [h0, a00], fun j _ h => by rw [getD_replicate_false] at h; cases h⟩
  rw [show n + (l.length - n) = l.toArray.size by simp; omega] at this
  exact this
theorem wpOp_run {ops : Array Oper} {Q : Exit → Act → World → Prop} {i : Nat} {K : Act → World → Prop} {a : Act} {w w' : World} {o : Oper} {v : Value} (ho : ops[i]? = some o) (hg : o.guard = none) (hr : (execOp a.eval o).run P w = .ok (.value v) w') (hK : K (a.put o.dst v) w') : wpOp P ops Q i K a w := by
  unfold wpOp
  simp only [ho]
  rw [if_pos (by simp [Region.wanted, hg])]
  refine .inl ?_
  unfold Oper.wp
  rw [hr]
  exact hK
theorem wpOp_skip {ops : Array Oper} {Q : Exit → Act → World → Prop} {i : Nat} {K : Act → World → Prop} {a : Act} {w w' : World} {o : Oper} (ho : ops[i]? = some o) (hg : o.guard = none) (hr : (execOp a.eval o).run P w = .ok .skip w') (hK : K (a.put o.dst undef) w') : wpOp P ops Q i K a w := by
  unfold wpOp
  simp only [ho]
  rw [if_pos (by simp [Region.wanted, hg])]
  refine .inl ?_
  unfold Oper.wp
  rw [hr]
  exact hK
theorem wpOp_law {ops : Array Oper} {Q : Exit → Act → World → Prop} {i : Nat} {K : Act → World → Prop} {a : Act} {w : World} {o : Oper} (ho : ops[i]? = some o) (hg : o.guard = none) (h : o.wp P a w K Q) : wpOp P ops Q i K a w := by
  unfold wpOp
  simp only [ho]
  rw [if_pos (by simp [Region.wanted, hg])]
  exact .inl h
end
end Go.Proofs.YtljgnpneeecafaaDoor
set_option linter.unusedVariables false
set_option linter.unusedSimpArgs false
namespace Go.Proofs.YtljgnpneeecafaaDoor
open Go.RowKit Go.Sort Go.BigFrame
set_option maxRecDepth 100000
set_option maxHeartbeats 4000000
/-- What the closure of a list sees. -/
def LSt (n g bR bV B mb : Nat) (OB : Obj) (ks : List (J n)) (w : World) : Prop := w.heap[mb]? = some OB ∧ w.heap[bR]? = some (.cells #[.pointer (some ⟨g, 0, none⟩)] 65 (0, 0)) ∧ ∃ kv css, BoxJ w bV 4 0 ⟨#[]⟩ (.slice none 0 0) kv ∧ KidsL n B none ks kv css w
theorem LSt.keep {n g bR bV B mb : Nat} {OB : Obj} {ks : List (J n)} {w w' : World} (hm : mb ≠ g) (hr : bR ≠ g) (hv : bV ≠ g) (hB : g < B) (h : LSt n g bR bV B mb OB ks w) (hF : Fg g w w') : LSt n g bR bV B mb OB ks w' := by
  obtain ⟨h1, h2, kv, css, h3, h4⟩ := h
  exact ⟨hF.block h1 hm, hF.block h2 hr, kv, css, hF.block h3 hv, h4.move fun b hb hl => hF.2 b hl (by omega)⟩
/-- Where the value is made there are five cells. -/
def ErB (lo : Nat) (ki : Int) (w : World) : Prop := ∃ nv kv, BoxJ w lo ki 0 ⟨#[]⟩ nv kv ∧ nv.oneCell' = true ∧ kv.oneCell' = true
theorem ErB.keep {g lo : Nat} {ki : Int} (hg : lo ≠ g) (w w' : World) (h : ErB lo ki w) (hF : Fg g w w') : ErB lo ki w' := by
  obtain ⟨nv, kv, h1, h2⟩ := h
  exact ⟨nv, kv, hF.block h1 hg, h2⟩
theorem LSt.box {n g bR bV B mb : Nat} {OB : Obj} (ks : List (J n)) (w : World) (h : LSt n g bR bV B mb OB ks w) : ErB bV 4 w := by
  obtain ⟨_, _, kv, css, h3, h4⟩ := h
  exact ⟨_, kv, h3, rfl, own_one h4.1⟩
theorem lenK {o : Oper} {ρ : Operand → Value} {x : Operand} {w : World} {a : Option Addr} {n cap : Nat} (ho : o.op = .call { callee := .builtin .len, args := #[x], argTypes := #[23] }) (hx : ρ x = .slice a n cap) : (execOp ρ o).run Tryd.prog w = .ok (.value (.int .i64 (n : Int))) w := by
  simp [execOp, ho, hx, go_sem]
theorem ldRow {o : Oper} {ρ : Operand → Value} {x : Operand} {w : World} {g : Nat} {d0 d1 d2 d3 d4 : Value} (ho : o.op = .load 25 x) (hx : ρ x = .pointer (some ⟨g, 0, none⟩)) (hg : w.heap[g]? = some (.cells #[d0, d1, d2, d3, d4] 25 (0, 0))) : (execOp ρ o).run Tryd.prog w = .ok (.value (.agg #[d0, d1, d2, d3, d4])) w := by
  have := run_loadAt_mid (P := Tryd.prog) w g 0 25 [d0, d1, d2, d3, d4] _ (fun j v hv => by rw [cell_of_row _ _ _ _ _ _ hg]; simpa using hv) Tryd.underlying25 rfl size25
  simp only [execOp, ho, hx, Sem.run_bind, this, Result.andThen_ok]
  rfl
/-- A row of one zero value. -/
def NewZ (v : Value) (w : World) : Prop := ∃ g, v = .slice (some ⟨g, 0, none⟩) 1 1 ∧ w.heap[g]? = some (.cells zero5 25 (0, 0))
theorem NewZ.stb : Stb NewZ := fun v w w' hb ⟨g, h1, h2⟩ => ⟨g, h1, block_below hb (lt_of_heap h2) h2⟩
theorem newZ {ρ : Operand → Value} {o : Oper} {x : Operand} {w : World} (ho : o.op = .buildSlice 23 1 #[(0, x)]) (hx : ρ x = .agg #[.int .i64 0, .int .i64 0, .string ⟨#[]⟩, .slice none 0 0, .slice none 0 0]) : Does Tryd.prog o ρ w (fun v w' => Below w.heap.size w w' ∧ NewZ v w') :=
  Does.new _ _ (bldK ho hx) ⟨w.heap.size, rfl, heap_alloc_new _ _⟩
theorem stK {o : Oper} {ρ : Operand → Value} {x y : Operand} {w : World} {p : Addr} {a : Option Addr} {n c : Nat} {u : Value} (ho : o.op = .store 23 x y) (hx : ρ x = .pointer (some p)) (hy : ρ y = .slice a n c) (hc : w.cell? p = some u) (hf : w.frozen? p = false) : (execOp ρ o).run Tryd.prog w = .ok .skip (w.setCell p (.slice a n c)) := by
  simp [execOp, ho, hx, hy, go_sem, hc, hf, Instr.storeAt, Instr.sureAddr]
theorem idxK0 {o : Oper} {ρ : Operand → Value} {x y : Operand} {w : World} {g n cap i : Nat} (ho : o.op = .indexAddr 23 x y) (hx : ρ x = .slice (some ⟨g, 0, none⟩) n cap) (hy : ρ y = .int .i64 (i : Int)) (hi : i < n) : (execOp ρ o).run Tryd.prog w = .ok (.value (.pointer (some ⟨g, i * 5, none⟩))) w := by
  have := idxK (w := w) ho hx hy hi
  rwa [Nat.zero_add] at this
theorem list50 {m g ar bR mb lo : Nat} {OB : Obj} {mv : Value} {kp : List Nat → Rd (J (m + 1))} {ks : List (J (m + 1))} {l : List Nat} {w : World} (hg : g < lo) (hrl : bR < lo) (hrg : bR ≠ g) (hml : mb < lo) (hmg : mb ≠ g)
    (hV : ∀ l w, RdAt g ar l mv w → w.heap[mb]? = some OB → l.length ≤ 100000 → Calls Tryd.prog 21 #[.pointer (some ⟨g, 0, none⟩)] w (RdR g ar mv w (gapR (kp l))))
    (hkp : ∀ l k r, kp l = .ok (k, r) → r.length < l.length)
    (hs : LSt (m + 1) g bR lo (lo + 1) mb OB ks w) (h : RdAt g ar l mv w) (hl : ks.length + l.length ≤ 100000) :
    Calls Tryd.prog 50 #[.pointer (some ⟨bR, 0, none⟩), .pointer (some ⟨lo, 0, none⟩)] w fun e w' => ∃ er l', e = .returned (.int .i64 er) ∧ RdAt g ar l' mv w' ∧ Fo lo g w w' ∧ StpM (LSt (m + 1) g bR lo (lo + 1) mb OB) (ErB lo 4) l er l' (stepL kp ks l) w' := by
  have hv := hV l w h hs.1 (by omega)
  obtain ⟨X, hX⟩ : ∃ X, X = gapR (kp l) := ⟨_, rfl⟩
  rw [← hX] at hv
  have hXs : stepL kp ks l = rdMap (fun k => ks ++ [k]) X := by rw [hX]; rfl
  rw [hXs]
  have hXr : ∀ k r, X = .ok (k, r) → r.length < l.length := fun k r e => by
    obtain ⟨r0, h1, h2⟩ := gapR_ok (hX.symm.trans e)
    have := hkp _ _ _ h1
    omega
  have HXR : Hid _ := hXr
  obtain ⟨p1, p2, kv, css, p3, p4⟩ := hs
  have hkl0 : ∀ b, kv.ownBlock = some b → lo + 1 ≤ b ∧ b < w.heap.size := World.ownsRow.lt p4.1
  have P3 : Hid (BoxJ w lo 4 0 ⟨#[]⟩ (.slice none 0 0) kv) := p3
  have P4 : Hid (KidsL (m + 1) (lo + 1) none ks kv css w) := p4
  have P1 : Hid _ := p1
  have P2 : Hid _ := p2
  have cR : w.cell? ⟨bR, 0, none⟩ = some (.pointer (some ⟨g, 0, none⟩)) := (cell_of_row _ _ _ _ _ _ p2).trans rfl
  have hltV : lo < w.heap.size := lt_of_heap p3
  clear hX hXs hXr hV hkp p1 p2 p3 p4
  go_enter Tryd.func50, Tryd.ntmps50
  go_wp2_with fail
  refine hv.mono ?_
  rintro e w1 ⟨cs, er, l', rfl, h5, hone, hF1, hR1, hm1⟩
  obtain ⟨d0, d1, d2, d3, d4, rfl⟩ := arr5 h5
  have hsz1 := hF1.size
  have hZ := heap_alloc_new w1 (.cells zero5 25)
  unfold zero5 at hZ
  clear hv h5
  go_wp2_with (refine wpList_store_row rfl 25 (.tmp 3) (.tmp 8) rfl w1.heap.size #[d0, d1, d2, d3, d4] rfl rfl 25 _ hZ size25 rfl hone ?_)
  obtain ⟨w2, hw2⟩ : ∃ w2, w2 = (w1.alloc (.cells #[.int .i64 0, .int .i64 0, .string ⟨#[]⟩, .slice none 0 0, .slice none 0 0] 25)).setRow w1.heap.size #[d0, d1, d2, d3, d4] := ⟨_, rfl⟩
  rw [← hw2]
  have hB2 : Below w1.heap.size w1 w2 := by rw [hw2]; exact (below1 _ _).trans ⟨rfl, rfl, rfl, by simp, fun b hb => setRow_other _ _ _ _ (by omega)⟩
  have hX2 : w2.heap[w1.heap.size]? = some (.cells #[d0, d1, d2, d3, d4] 25 (0, 0)) := by rw [hw2]; exact setRow_heap _ _ _ _ _ _ hZ
  have hFw2 := hF1.then (hB2.mono hsz1)
  have hR2 := hR1.new hB2
  have q1 := hFw2.block P1.out hmg
  have q2 := hFw2.block P2.out hrg
  have q3 : BoxJ w2 lo 4 0 ⟨#[]⟩ (.slice none 0 0) kv := hFw2.block P3.out (by omega)
  have q4 : KidsL (m + 1) (lo + 1) none ks kv css w2 := KidsL.move P4.out fun b hb hl => hFw2.2 b hl (by omega)
  have c4 : w2.cell? ⟨lo, 4, none⟩ = some kv := (q3.cell 4).trans rfl
  have hkn : ∃ a cap, kv = .slice a ks.length cap := by
    rcases q4.1.2 with ⟨rfl, h0⟩ | ⟨g0, cap, cur, rfl, _⟩
    · exact ⟨none, 0, by rw [h0]⟩
    · exact ⟨_, _, rfl⟩
  obtain ⟨ka, kc, hkv⟩ := hkn
  have hsz2 := hB2.size
  obtain ⟨i1, hi1, hy0, hy1, hy2⟩ := info25
  have HQ4 : Hid (KidsL (m + 1) (lo + 1) none ks kv css w2) := q4
  have HFW : Hid (Fg g w w2) := hFw2
  have HR2 : Hid (RdAt g ar l' mv w2) := hR2
  have HM1 : Hid (RdM w #[d0, d1, d2, d3, d4] er l' X w1) := hm1
  have HQ1 : Hid _ := q1
  have HQ2 : Hid _ := q2
  have HB2 : Hid _ := hB2
  clear hw2 hZ hF1 hR1 hm1 hFw2 hR2 q4 cR h q1 q2 hB2
  refine wp_region_invG 5 (specs [Is (.pointer (some ⟨lo, 4, none⟩)), Is kv, Is (.agg #[d0, d1, d2, d3, d4]), Is (.int .i64 (ks.length : Int)), NewZ])
    (by kernel_rfl) (specs_stb ⟨Is.stb _, Is.stb _, Is.stb _, Is.stb _, NewZ.stb, trivial⟩) (by kernel_rfl) ?_ ?_
  · refine ⟨fun a w2 hB2 hfr hdep => Step.plain rfl (Does.run _ (fa25 _ 4 (by decide) rfl (hfr 1 (by kernel_rfl))) rfl),
      fun a w2 hB2 hfr hdep => Step.plain rfl (Does.run _ (ldK rfl (hdep 0 10 (by kernel_rfl)) ((hB2.cell (p := ⟨lo, 4, none⟩) (lt_of_heap q3)).trans c4)) rfl),
      fun a w2 hB2 hfr hdep => Step.plain rfl (Does.run _ (ldRow rfl (hfr 3 (by kernel_rfl)) (block_below hB2 (lt_of_heap hX2) hX2)) rfl),
      fun a w2 hB2 hfr hdep => Step.plain rfl (Does.run _ (lenK rfl (Eq.trans (hdep 1 11 (by kernel_rfl)) hkv)) rfl),
      fun a w2 hB2 hfr hdep => Step.plain rfl (newZ rfl rfl), trivial⟩
  intro u hu
  simp only [List.take, FinAll, Act.put, List.setIfInBounds_toArray, List.set_cons_succ, List.set_cons_zero]
  rintro _ rfl v11 h11 _ rfl _ rfl _ ⟨g0, rfl, hgc⟩
  have h11 : v11 = kv := h11
  subst v11
  have hKu : KidsL (m + 1) (lo + 1) none ks kv css u := KidsL.move HQ4.out (fun b _ hb => hu.block b hb)
  have hnews : ∀ (j : Nat) x, ([.int .i64 0, .int .i64 0, .string ⟨#[]⟩, .slice none 0 0, .slice none 0 0] : List Value)[j]? = some x → u.cell? ((⟨g0, 0, none⟩ : Addr).add j) = some x := fun j x hj => by
    rw [Addr.add_mid, Nat.zero_add, cell_of_row _ _ _ _ _ _ hgc, ← hj]; simp [zero5]
  have hlu : lo + 1 ≤ u.heap.size := by have := hu.size; omega
  have HKU : Hid (KidsL (m + 1) (lo + 1) none ks kv css u) := hKu
  refine wpAny_all (rs := [5]) (fuel := 4) (by kernel_rfl) (by simp) ?_
  intro i hi
  obtain rfl : i = 5 := by simpa using hi
  refine wpOp_law rfl rfl (wp_append_lies u (.tmp 11) (.tmp 14) 23 rfl (lo + 1) 25 i1 _ 5 80 Tryd.underlying23 hi1 hy0 hy1 hy2 rfl (by decide) kv ks.length css.flatten rfl hKu.1 ⟨g0, 0, none⟩ 1 1 [.int .i64 0, .int .i64 0, .string ⟨#[]⟩, .slice none 0 0, .slice none 0 0] rfl rfl hnews
    (fun x hx => (Array.all_eq_true_iff_forall_mem.1 (one5 0 0 _)) x (by simpa using hx)) (by decide) (by unfold maxLen; omega) (by omega) hlu _ rfl ?_)
  intro g5 cap w4 hown4 hgrow4 hat4 hlt4
  have hlk : ∀ b, kv.ownBlock = some b → lo + 1 ≤ b ∧ b < u.heap.size := World.ownsRow.lt hKu.1
  have hfl : css.flatten.length = ks.length * 5 := hKu.1.1
  have hO4 : w4.heap[lo]? = some (.cells #[.int .i64 4, .int .i64 0, .string ⟨#[]⟩, .slice none 0 0, kv] 25 (0, 0)) := grown_keep0 (block_below hu (lt_of_heap q3) q3) hgrow4 hlk (by omega)
  obtain ⟨hown5, hgrow5⟩ := own_setCells (cs := [d0, d1, d2, d3, d4]) hown4 rfl
  rw [hfl] at hown5 hgrow5
  have hg5 : lo + 1 ≤ g5 := (World.ownsRow.lt hown4 g5 rfl).1
  have hth : w4.there g5 (ks.length * 5) 5 := own_there hown4 (by omega)
  have hkv1 : (Value.slice (some ⟨g5, 0, none⟩) (ks.length + 1) cap).oneCell' = true := rfl
  have hcm := setCells_comm (g := g5) (b := ⟨lo, 4, none⟩) (by show g5 ≠ lo; omega) (.slice (some ⟨g5, 0, none⟩) (ks.length + 1) cap) [d0, d1, d2, d3, d4] (ks.length * 5) w4
  obtain ⟨w7, hw7⟩ : ∃ w7, w7 = w4.setCells g5 (ks.length * 5) [d0, d1, d2, d3, d4] := ⟨_, rfl⟩
  obtain ⟨w9, hw9⟩ : ∃ w9, w9 = w4.setCell ⟨lo, 4, none⟩ (.slice (some ⟨g5, 0, none⟩) (ks.length + 1) cap) := ⟨_, rfl⟩
  obtain ⟨wE, hwE⟩ : ∃ wE, wE = w7.setCell ⟨lo, 4, none⟩ (.slice (some ⟨g5, 0, none⟩) (ks.length + 1) cap) := ⟨_, rfl⟩
  have h97 : w9.setCells g5 (ks.length * 5) [d0, d1, d2, d3, d4] = wE := by rw [hwE, hw7, hw9]; exact hcm.symm
  rw [← hw7] at hown5 hgrow5
  have hsz4 := hgrow4.size
  have hO7 : w7.heap[lo]? = some (.cells #[.int .i64 4, .int .i64 0, .string ⟨#[]⟩, .slice none 0 0, kv] 25 (0, 0)) := (hgrow5.block lo (by omega) (by intro e; injection e with e; omega)).trans hO4
  have c7 : w7.cell? ⟨lo, 4, none⟩ = some kv := (cell_of_row _ _ _ _ _ _ hO7).trans rfl
  have f7 : w7.frozen? ⟨lo, 4, none⟩ = false := frozen_of_row _ _ _ _ _ hO7
  have c4' : w4.cell? ⟨lo, 4, none⟩ = some kv := (cell_of_row _ _ _ _ _ _ hO4).trans rfl
  have f4 : w4.frozen? ⟨lo, 4, none⟩ = false := frozen_of_row _ _ _ _ _ hO4
  have hth9 : w9.there g5 (ks.length * 5) 5 := by
    rw [hw9]
    exact own_there (owned_setCell (base := lo + 1) hown4 (by omega)) (by omega)
  have hB7 : Below lo u w7 := (((Below.refl lo u).grown hgrow4 (by omega) (fun k hk => by have := (hlk k hk).1; omega)).grown hgrow5 (by omega) (fun k hk => by injection hk with hk; omega))
  have hBE : Below lo w2 wE := by
    rw [hwE]
    exact (hu.mono (by have := lt_of_heap q3; omega)).trans (hB7.setCell (by show lo ≤ lo; omega) _)
  have hgl2 : g < w2.heap.size := HR2.out.lt
  have hRE : RdAt g ar l' mv wE := HR2.out.under hBE hg
  have hFE : Fo lo g w wE := (HFW.out.fo (by omega)).trans ⟨hBE.mono (Nat.zero_le _), fun k hk _ => hBE.block k hk⟩
  have hbE : wE.heap[mb]? = some OB := (hBE.block mb hml).trans HQ1.out
  have hrE : wE.heap[bR]? = some (.cells #[.pointer (some ⟨g, 0, none⟩)] 65 (0, 0)) := (hBE.block bR hrl).trans HQ2.out
  have hVE : BoxJ wE lo 4 0 ⟨#[]⟩ (.slice none 0 0) (.slice (some ⟨g5, 0, none⟩) (ks.length + 1) cap) := by
    rw [hwE]
    unfold BoxJ
    rw [heap_setCell_same _ _ _ _ _ _ hO7]
    rfl
  have hfin : StpM (LSt (m + 1) g bR lo (lo + 1) mb OB) (ErB lo 4) l er l' (rdMap (fun k => ks ++ [k]) X) wE := by
    cases X with
    | error e0 => exact ⟨HM1.out, _, _, hVE, rfl, rfl⟩
    | ok p =>
      obtain ⟨j, r⟩ := p
      obtain ⟨z1, z2, z3⟩ := HM1.out
      have hJ : JM (fun b => lo + 1 ≤ b ∧ kv.ownBlock ≠ some b ∧ (none : Option Nat) ≠ some b) (m + 1) j [d0, d1, d2, d3, d4] w1 := JM.move (w' := w1) (fun b hb hS => ⟨⟨by omega, fun e => by have := (hkl0 b e).2; omega, by simp⟩, rfl⟩) _ _ _ z3
      have hJu : JM (fun b => lo + 1 ≤ b ∧ kv.ownBlock ≠ some b ∧ (none : Option Nat) ≠ some b) (m + 1) j [d0, d1, d2, d3, d4] u := (hJ.stb HB2.out).stb hu
      have hKE := (KidsL.app (w5 := w7) HKU.out (fun _ _ h => h) (fun b hb hB hk _ => (hgrow5.block b (by omega) (fun e => by injection e with e; rcases hat4 with h | h; exact hk (by rw [h, e]); omega)).trans (hgrow4.block b hb (fun e => hk e.symm))) hown5 (hat4.imp id (fun h => by omega)) rfl hJu).move (w' := wE) (fun b hb _ => by rw [hwE]; exact heap_setCell_other _ _ _ _ (by simp; omega))
      refine ⟨z1, z2, ⟨hbE, hrE, _, _, ?_, hKE⟩, HXR.out _ _ rfl⟩
      exact hVE
  have FIN : Hid _ := (⟨hRE, hFE, hfin⟩ : _ ∧ _ ∧ _)
  have HW7 : Hid (w7 = w4.setCells g5 (ks.length * 5) [d0, d1, d2, d3, d4]) := hw7
  have HW9 : Hid (w9 = w4.setCell ⟨lo, 4, none⟩ (.slice (some ⟨g5, 0, none⟩) (ks.length + 1) cap)) := hw9
  have HWE : Hid (wE = w7.setCell ⟨lo, 4, none⟩ (.slice (some ⟨g5, 0, none⟩) (ks.length + 1) cap)) := hwE
  have H97 : Hid (w9.setCells g5 (ks.length * 5) [d0, d1, d2, d3, d4] = wE) := h97
  have HTH : Hid (w4.there g5 (ks.length * 5) 5) := hth
  have HTH9 : Hid (w9.there g5 (ks.length * 5) 5) := hth9
  have H47 : Hid _ := (⟨c4', f4, c7, f7⟩ : _ ∧ _ ∧ _ ∧ _)
  clear hfin hRE hFE hbE hrE hVE hBE hB7 hcm hw7 hw9 hwE h97 hth hth9 c4' f4 c7 f7 hown4 hgrow4 hown5 hgrow5 hO4 hO7 hat4 hnews hgc hX2 q3 c4 hkl0 hlk hfl
  refine wpAny_all (rs := [6, 8]) (fuel := 3) (by kernel_rfl) (by simp) ?_
  intro i hi
  rcases (by simpa using hi : i = 6 ∨ i = 8) with rfl | rfl
  · refine wpOp_run rfl rfl (idxK0 rfl rfl rfl (Nat.lt_succ_self _)) ?_
    refine wpAny_all (rs := [7, 8]) (fuel := 2) (by kernel_rfl) (by simp) ?_
    intro i hi
    rcases (by simpa using hi : i = 7 ∨ i = 8) with rfl | rfl
    · refine wpOp_law rfl rfl (wp_store_mid 25 (.tmp 16) (.tmp 12) rfl g5 (ks.length * 5) #[d0, d1, d2, d3, d4] rfl rfl HTH.out size25 hone ?_)
      rw [show w4.setCells g5 (ks.length * 5) (#[d0, d1, d2, d3, d4] : Array Value).toList = w7 from HW7.out.symm]
      refine wpAny_all (rs := [8]) (fuel := 1) (by kernel_rfl) (by simp) ?_
      intro i hi
      obtain rfl : i = 8 := by simpa using hi
      refine wpOp_run rfl rfl (fa25 lo 4 (by decide) rfl rfl) ?_
      refine wpAny_all (rs := [9]) (fuel := 0) (by kernel_rfl) (by simp) ?_
      intro i hi
      obtain rfl : i = 9 := by simpa using hi
      refine wpOp_skip rfl rfl (stK rfl rfl rfl H47.out.2.2.1 H47.out.2.2.2) ?_
      rw [← HWE.out]
      refine wpAny_done (by kernel_rfl) ?_ _
      simp only [Act.put, List.setIfInBounds_toArray, List.set_cons_succ, List.set_cons_zero]
      go_wp2
      go_ret
      exact ⟨er, rfl, l', FIN.out⟩
    · refine wpOp_run rfl rfl (fa25 lo 4 (by decide) rfl rfl) ?_
      refine wpAny_all (rs := [7, 9]) (fuel := 1) (by kernel_rfl) (by simp) ?_
      intro i hi
      rcases (by simpa using hi : i = 7 ∨ i = 9) with rfl | rfl
      · refine wpOp_law rfl rfl (wp_store_mid 25 (.tmp 16) (.tmp 12) rfl g5 (ks.length * 5) #[d0, d1, d2, d3, d4] rfl rfl HTH.out size25 hone ?_)
        rw [show w4.setCells g5 (ks.length * 5) (#[d0, d1, d2, d3, d4] : Array Value).toList = w7 from HW7.out.symm]
        refine wpAny_all (rs := [9]) (fuel := 0) (by kernel_rfl) (by simp) ?_
        intro i hi
        obtain rfl : i = 9 := by simpa using hi
        refine wpOp_skip rfl rfl (stK rfl rfl rfl H47.out.2.2.1 H47.out.2.2.2) ?_
        rw [← HWE.out]
        refine wpAny_done (by kernel_rfl) ?_ _
        simp only [Act.put, List.setIfInBounds_toArray, List.set_cons_succ, List.set_cons_zero]
        go_wp2
        go_ret
        exact ⟨er, rfl, l', FIN.out⟩
      · refine wpOp_skip rfl rfl (stK rfl rfl rfl H47.out.1 H47.out.2.1) ?_
        rw [← HW9.out]
        refine wpAny_all (rs := [7]) (fuel := 0) (by kernel_rfl) (by simp) ?_
        intro i hi
        obtain rfl : i = 7 := by simpa using hi
        refine wpOp_law rfl rfl (wp_store_mid 25 (.tmp 16) (.tmp 12) rfl g5 (ks.length * 5) #[d0, d1, d2, d3, d4] rfl rfl HTH9.out size25 hone ?_)
        rw [show w9.setCells g5 (ks.length * 5) (#[d0, d1, d2, d3, d4] : Array Value).toList = wE from H97.out]
        refine wpAny_done (by kernel_rfl) ?_ _
        simp only [Act.put, List.setIfInBounds_toArray, List.set_cons_succ, List.set_cons_zero]
        go_wp2
        go_ret
        exact ⟨er, rfl, l', FIN.out⟩
  · refine wpOp_run rfl rfl (fa25 lo 4 (by decide) rfl rfl) ?_
    refine wpAny_all (rs := [6, 9]) (fuel := 2) (by kernel_rfl) (by simp) ?_
    intro i hi
    rcases (by simpa using hi : i = 6 ∨ i = 9) with rfl | rfl
    · refine wpOp_run rfl rfl (idxK0 rfl rfl rfl (Nat.lt_succ_self _)) ?_
      refine wpAny_all (rs := [7, 9]) (fuel := 1) (by kernel_rfl) (by simp) ?_
      intro i hi
      rcases (by simpa using hi : i = 7 ∨ i = 9) with rfl | rfl
      · refine wpOp_law rfl rfl (wp_store_mid 25 (.tmp 16) (.tmp 12) rfl g5 (ks.length * 5) #[d0, d1, d2, d3, d4] rfl rfl HTH.out size25 hone ?_)
        rw [show w4.setCells g5 (ks.length * 5) (#[d0, d1, d2, d3, d4] : Array Value).toList = w7 from HW7.out.symm]
        refine wpAny_all (rs := [9]) (fuel := 0) (by kernel_rfl) (by simp) ?_
        intro i hi
        obtain rfl : i = 9 := by simpa using hi
        refine wpOp_skip rfl rfl (stK rfl rfl rfl H47.out.2.2.1 H47.out.2.2.2) ?_
        rw [← HWE.out]
        refine wpAny_done (by kernel_rfl) ?_ _
        simp only [Act.put, List.setIfInBounds_toArray, List.set_cons_succ, List.set_cons_zero]
        go_wp2
        go_ret
        exact ⟨er, rfl, l', FIN.out⟩
      · refine wpOp_skip rfl rfl (stK rfl rfl rfl H47.out.1 H47.out.2.1) ?_
        rw [← HW9.out]
        refine wpAny_all (rs := [7]) (fuel := 0) (by kernel_rfl) (by simp) ?_
        intro i hi
        obtain rfl : i = 7 := by simpa using hi
        refine wpOp_law rfl rfl (wp_store_mid 25 (.tmp 16) (.tmp 12) rfl g5 (ks.length * 5) #[d0, d1, d2, d3, d4] rfl rfl HTH9.out size25 hone ?_)
        rw [show w9.setCells g5 (ks.length * 5) (#[d0, d1, d2, d3, d4] : Array Value).toList = wE from H97.out]
        refine wpAny_done (by kernel_rfl) ?_ _
        simp only [Act.put, List.setIfInBounds_toArray, List.set_cons_succ, List.set_cons_zero]
        go_wp2
        go_ret
        exact ⟨er, rfl, l', FIN.out⟩
    · refine wpOp_skip rfl rfl (stK rfl rfl rfl H47.out.1 H47.out.2.1) ?_
      rw [← HW9.out]
      refine wpAny_all (rs := [6]) (fuel := 1) (by kernel_rfl) (by simp) ?_
      intro i hi
      obtain rfl : i = 6 := by simpa using hi
      refine wpOp_run rfl rfl (idxK0 rfl rfl rfl (Nat.lt_succ_self _)) ?_
      refine wpAny_all (rs := [7]) (fuel := 0) (by kernel_rfl) (by simp) ?_
      intro i hi
      obtain rfl : i = 7 := by simpa using hi
      refine wpOp_law rfl rfl (wp_store_mid 25 (.tmp 16) (.tmp 12) rfl g5 (ks.length * 5) #[d0, d1, d2, d3, d4] rfl rfl HTH9.out size25 hone ?_)
      rw [show w9.setCells g5 (ks.length * 5) (#[d0, d1, d2, d3, d4] : Array Value).toList = wE from H97.out]
      refine wpAny_done (by kernel_rfl) ?_ _
      simp only [Act.put, List.setIfInBounds_toArray, List.set_cons_succ, List.set_cons_zero]
      go_wp2
      go_ret
      exact ⟨er, rfl, l', FIN.out⟩
end Go.Proofs.YtljgnpneeecafaaDoor
set_option linter.unusedVariables false
namespace Go.Proofs.YtljgnpneeecafaaDoor
open Go.RowKit Go.Sort
section
variable {P : Program}
def OpsF (P : Program) (l : List Oper) (dep : Nat → Nat → Nat → Bool) (n : Nat) (V : Nat → Value → World → Prop) (Fr : (Nat → Bool) → World → Prop) (Rl : Nat → World → World → Prop) (a0 : Act) : List Oper → Nat → Prop
  | [], _ => True
  | o :: r, k => (∀ (ls : Nat → Bool) (a : Act) (w : World), Fr ls w → ls k = false → (∀ s, freeB l n s = true → a.eval (.tmp s) = a0.eval (.tmp s)) → (∀ j d, dep k j d = true → V j (a.eval (.tmp d)) w) → Region.wanted o (yielded l.toArray a.tmps) = true ∧ Does P o a.eval w (fun v w' => Rl k w w' ∧ V k v w')) ∧ OpsF P l dep n V Fr Rl a0 r (k + 1)
theorem OpsF.at {l : List Oper} {dep : Nat → Nat → Nat → Bool} {n : Nat} {V : Nat → Value → World → Prop} {Fr : (Nat → Bool) → World → Prop} {Rl : Nat → World → World → Prop} {a0 : Act} : ∀ (r : List Oper) (k i : Nat) (o : Oper), OpsF P l dep n V Fr Rl a0 r k → r[i]? = some o →
    ∀ (ls : Nat → Bool) (a : Act) (w : World), Fr ls w → ls (k + i) = false → (∀ s, freeB l n s = true → a.eval (.tmp s) = a0.eval (.tmp s)) → (∀ j d, dep (k + i) j d = true → V j (a.eval (.tmp d)) w) → Region.wanted o (yielded l.toArray a.tmps) = true ∧ Does P o a.eval w (fun v w' => Rl (k + i) w w' ∧ V (k + i) v w')
  | [], _, _, _, _, h => by simp at h
  | o' :: r, k, 0, o, h, ho => by
    obtain rfl : o' = o := by simpa using ho
    exact h.1
  | o' :: r, k, i + 1, o, h, ho => by
    have := OpsF.at r (k + 1) i o h.2 (by simpa using ho)
    rw [show k + (i + 1) = k + 1 + i by omega]
    exact this
theorem any_invF {l : List Oper} {n : Nat} {V : Nat → Value → World → Prop} {Fr : (Nat → Bool) → World → Prop} {Rl : Nat → World → World → Prop} {a0 : Act} {Q : Exit → Act → World → Prop} (hst : ∀ j k v w w', j ≠ k → Rl k w w' → V j v w → V j v w') (hFr : ∀ ls k w w', ls k = false → Fr ls w → Rl k w w' → Fr (upd ls k true) w')
    (hB : headB l a0.tmps.size n = true) (hop : OpsF P l (depB l) n V Fr Rl a0 (l.take n) 0) (hfin : ∀ ls w, (∀ j, j < n → ls j = true) → Fr ls w → FinAll V w (fun a => wpList P l.toArray Q (l.drop n) a w) (l.take n) 0 a0) :
    ∀ (f : Nat) (listed : Array Bool) (a : Act) (w : World), cnt n (fun j => listed.getD j false) = f → HeadInv .any l.toArray n listed → Fr (fun j => listed.getD j false) w →
      (∃ vs, a = acts vs (fun j => listed.getD j false) (l.take n) 0 a0 ∧ ∀ j, j < n → listed.getD j false = true → V j (vs j) w) → wpAny P .any l.toArray Q (f + (l.length - n)) listed a w := by
  simp only [headB, Bool.and_eq_true, Bool.or_eq_true, decide_eq_true_eq] at hB
  obtain ⟨⟨⟨hds, hord⟩, htl⟩, hseq⟩ := hB
  have hnl : n ≤ l.length := by rcases htl with h | h <;> omega
  have htk : (l.take n).length = n := by simp; omega
  intro f
  induction f with
  | zero =>
    intro listed a w hc inv hw ⟨vs, ha, hV⟩
    have hall := cnt_zero n hc
    have hfull : listed = fullB n l.length := by
      apply Array.ext
      · rw [inv.size]; simp [fullB]
      · intro i h1 h2
        have hsz := inv.size
        simp only [List.size_toArray] at hsz
        simp only [fullB, List.getElem_toArray, List.getElem_map, List.getElem_range]
        by_cases hi : i < n
        · have := hall i hi
          simp only [Array.getD_eq_getD_getElem?, Array.getElem?_eq_getElem h1, Option.getD_some] at this
          rw [this]; simp [hi]
        · have := inv.tail i (by omega) (by simp; omega)
          simp only [Array.getD_eq_getD_getElem?, Array.getElem?_eq_getElem h1, Option.getD_some] at this
          rw [this]; simp [hi]
    have hK := (hfin _ w hall hw).acts (vs := vs) (ls := fun j => listed.getD j false) (l.take n) 0 a0 fun j hj => by
      rw [htk] at hj
      rw [Nat.zero_add]
      exact ⟨hall j hj, hV j hj (hall j hj)⟩
    rw [← ha] at hK
    have := wpAny_of_seq (md := .any) (Q' := Q) (l.drop n) n listed a w (fun j => by simp [List.getElem?_drop]) (by rw [hfull, List.length_drop]; exact hseq) hK
    rw [List.length_drop] at this
    rw [Nat.zero_add]; exact this
  | succ f ih =>
    intro listed a w hc inv hw ⟨vs, ha, hV⟩
    obtain ⟨j0, hj0, hun, hbefore⟩ := cnt_pos n (p := fun j => listed.getD j false) (by omega)
    have hsz := inv.size
    simp only [List.size_toArray] at hsz
    rw [show f + 1 + (l.length - n) = (f + (l.length - n)) + 1 by omega]
    refine ⟨fun h0 => ?_, fun i hi => ?_⟩
    · obtain ⟨o, ho, hbe⟩ := ordB_spec n hord j0 hj0
      have : j0 ∈ Region.ready .any l.toArray listed := mem_ready.2 ⟨getD_in (by omega) hun, o, by simpa using ho, fun e he _ => hbefore e.on (hbe e he)⟩
      rw [h0] at this; cases this
    · have hin : i < n := by
        rcases htl with h | h
        · obtain ⟨_, o, ho, _⟩ := mem_ready.1 hi
          have := (Array.getElem?_eq_some_iff.1 ho).1
          simp only [List.size_toArray] at this
          omega
        · exact Nat.lt_of_not_le fun hge => tail_waits h.1.2 h.2 (by simp; exact h.1.1) inv _ j0 rfl hj0 (getD_in (by omega) hun) i hge hi
      obtain ⟨hiu, o, ho, hdep⟩ := mem_ready.1 hi
      have hol : l[i]? = some o := by simpa using ho
      have hot : (l.take n)[i]? = some o := by rw [List.getElem?_take_of_lt hin]; exact hol
      have hS := hop.at (l.take n) 0 i o hot _ a w hw (by rw [Nat.zero_add]; exact getD_both hiu) (fun s hs => by
        have := acts_other (vs := vs) (ls := fun j => listed.getD j false) (l.take n) 0 a0 hs
        rw [← ha] at this
        simp only [Act.eval, Array.getD_eq_getD_getElem?, this]) (fun j d hjd => by
        rw [Nat.zero_add] at hjd
        simp only [depB, hol, Bool.and_eq_true] at hjd
        obtain ⟨e, he, hb⟩ := Array.any_eq_true'.1 hjd.1
        simp only [Bool.and_eq_true, beq_iff_eq] at hb
        cases hoj : l[j]? with
        | none => simp [hoj] at hjd
        | some oj =>
          have hjd2 : oj.dst = some d := by simpa [hoj] using hjd.2
          have hjl : listed.getD j false = true := by rw [← hb.2]; exact hdep e he hb.1
          obtain ⟨o2, ho2, hbe⟩ := ordB_spec n hord i hin
          obtain rfl : o2 = o := Option.some.inj (ho2.symm.trans hol)
          have hji : j < i := by rw [← hb.2]; exact hbe e he
          have hjt : (l.take n)[j]? = some oj := by rw [List.getElem?_take_of_lt (by omega)]; exact hoj
          have hat := acts_at (vs := vs) (ls := fun j => listed.getD j false) (l.take n) 0 j a0 oj rfl hds hjt hjd2 (by rw [Nat.zero_add]; exact hjl)
          rw [← ha, Nat.zero_add] at hat
          rw [eval_of hat]
          exact hV j (by omega) hjl)
      rw [Nat.zero_add] at hS
      have next : ∀ v w', Rl i w w' → V i v w' → wpAny P .any l.toArray Q (f + (l.length - n)) (listed.setIfInBounds i true) (a.put o.dst v) w' := fun v w' hb hv => by
        have hil : i < listed.size := by omega
        have hif : listed.getD i false = false := getD_both hiu
        refine ih _ _ w' ?_ (inv.set hi hin) (by rw [getD_upd hil]; exact hFr _ _ _ _ hif hw hb) ⟨upd vs i v, ?_, fun j hj hjl => ?_⟩
        · rw [getD_upd hil]
          have := cnt_set n (p := fun j => listed.getD j false) hin hif
          omega
        · rw [ha, getD_upd hil]
          have := acts_set (vs := vs) (ls := fun j => listed.getD j false) (v := v) (l.take n) 0 i a0 o hds hot (by rw [Nat.zero_add]; exact hif)
          rw [Nat.zero_add] at this
          exact this
        · by_cases hji : j = i
          · subst hji; rw [upd_same]; exact hv
          · rw [upd_ne _ _ hji]
            have h2 := congrFun (getD_upd hil) j
            simp only [hjl] at h2
            rw [upd_ne _ _ hji] at h2
            exact hst j i _ w w' hji hb (hV j hj h2.symm)
      unfold wpOp
      simp only [ho]
      obtain ⟨hwt, hD⟩ := hS
      rw [if_pos hwt]
      exact .inl (hD.wp fun v w' h => next v w' h.1 h.2)
theorem wp_region_invF {id : Nat} {l : List Oper} {Q : Exit → Act → World → Prop} {a0 : Act} {u : World} (n : Nat) (V : Nat → Value → World → Prop) (Fr : (Nat → Bool) → World → Prop) (Rl : Nat → World → World → Prop) (hm : P.follows .mixedOrders = true) (hst : ∀ j k v w w', j ≠ k → Rl k w w' → V j v w → V j v w') (hFr : ∀ ls k w w', ls k = false → Fr ls w → Rl k w w' → Fr (upd ls k true) w') (hF0 : Fr (fun _ => false) { u with drawn := u.drawn + 1 })
    (hB : headB l a0.tmps.size n = true) (hop : OpsF P l (depB l) n V Fr Rl a0 (l.take n) 0) (hfin : ∀ ls w, (∀ j, j < n → ls j = true) → Fr ls w → FinAll V w (fun a => wpList P l.toArray Q (l.drop n) a w) (l.take n) 0 a0) : (Code.region id l.toArray true).wp P Q a0 u := by
  refine wp_region_any hm ?_
  have hnl : n ≤ l.length := by
    simp only [headB, Bool.and_eq_true, Bool.or_eq_true, decide_eq_true_eq] at hB
    rcases hB.1.2 with h | h <;> omega
  have inv0 : HeadInv .any l.toArray n (Array.replicate l.toArray.size false) :=
    ⟨by simp, fun j oj _ hl => (by rw [getD_replicate_false] at hl; cases hl), fun t _ ht => getD_in (by simpa using ht) (getD_replicate_false _ _)⟩
  have h0 : (fun j => (Array.replicate l.toArray.size false).getD j false) = fun _ => false := funext fun j => getD_replicate_false _ _
  have a00 : ∀ (r : List Oper) (k : Nat) (a : Act), acts (fun _ => undef) (fun _ => false) r k a = a := by
    intro r
    induction r with
    | nil => intro k a; rfl
    | cons o r ih => intro k a; unfold acts; simp only [Bool.false_eq_true, if_false]; exact ih _ _
  have := any_invF hst hFr hB hop hfin n (Array.replicate l.toArray.size false) a0 { u with drawn := u.drawn + 1 } (by rw [h0, cnt_all]) inv0 (by rw [h0]; exact hF0) ⟨fun _ => undef, by rw [h0, a00], fun j _ h => by rw [getD_replicate_false] at h; cases h⟩
  rw [show n + (l.length - n) = l.toArray.size by simp; omega] at this
  exact this
theorem wanted_plain {l : List Oper} {o : Oper} {a : Act} (hg : o.guard = none) : Region.wanted o (yielded l.toArray a.tmps) = true := by simp [Region.wanted, hg]
end
end Go.Proofs.YtljgnpneeecafaaDoor
set_option linter.unusedVariables false
namespace Go.Proofs.YtljgnpneeecafaaDoor
open Go.RowKit Go.Sort Go.BigFrame
set_option maxRecDepth 100000
set_option maxHeartbeats 4000000
theorem does_append {o : Oper} {ρ : Operand → Value} {w : World} {s x : Operand} {t : TypeId} {R : Value → World → Prop} (ho : o.op = .call { callee := .builtin .append, args := #[s, x], argTypes := #[t, t] })
    (base : Nat) (e : TypeId) (i : TypeInfo) (z : Value) (size bytes : Nat) (ht : Tryd.prog.underlying t = some (.slice e)) (hi : Tryd.prog.info? e = some i) (hz : i.zero = some z)
    (hsize : i.size = size) (hby : i.bytes = bytes) (hzs : z.cells.size = size) (hsz : 0 < size)
    (v : Value) (n : Nat) (xs : List Value) (hs : ρ s = v) (hown : w.ownsRow base e size v n xs)
    (ad : Addr) (c : Nat) (news : List Value) (hx : ρ x = .slice (some ad) 1 c) (hl : news.length = 1 * size) (hnews : ∀ j u, news[j]? = some u → w.cell? (ad.add j) = some u) (h1 : ∀ u ∈ news, u.oneCell' = true)
    (h63 : n + 1 ≤ maxLen) (hbytes : (n + 1) * bytes ≤ 140737488355328) (hbase : base ≤ w.heap.size)
    (h : ∀ g cap w', w'.ownsRow base e size (.slice (some ⟨g, 0, none⟩) (n + 1) cap) (n + 1) (xs ++ news) → w.grownBy w' v.ownBlock → (v.ownBlock = some g ∨ g = w.heap.size) → R (.slice (some ⟨g, 0, none⟩) (n + 1) cap) w') : Does Tryd.prog o ρ w R := by
  obtain ⟨g, cap, w', hr, h2, h3, h4, h5⟩ := run_append_lies (P := Tryd.prog) w t o.type base e i z size bytes ht hi hz hsize hby hzs hsz v n xs hown ad 1 c news hl hnews h1 (by decide) h63 hbytes hbase _ rfl
  refine .inl ⟨_, w', ?_, h g cap w' h2 h3 h4⟩
  unfold execOp
  simp only [ho, resolve, invoke, builtin, Sem.run_bind, Sem.run_pure, Result.andThen_ok, List.map_toArray, List.map_cons, List.map_nil, hs, hx, hr]
theorem bldS {ρ : Operand → Value} {o : Oper} {x : Operand} {w : World} {s : ByteArray} (ho : o.op = .buildSlice 22 1 #[(0, x)]) (hx : ρ x = .string s) : (execOp ρ o).run Tryd.prog w = .ok (.value (.slice (some ⟨w.heap.size, 0, none⟩) 1 1)) (w.alloc (.cells #[.string s] 9)) := by
  simp [execOp, ho, hx, go_sem]
/-- What each operation may change. -/
def RlM (nv kv : Value) (k : Nat) (w w' : World) : Prop := w.grownBy w' (if k = 4 then nv.ownBlock else if k = 9 then kv.ownBlock else none)
/-- What is as it was, in the midst. -/
def FrM (u : World) (nv kv : Value) (ls : Nat → Bool) (w : World) : Prop :=
  w.os = u.os ∧ w.tape = u.tape ∧ w.output = u.output ∧ u.heap.size ≤ w.heap.size ∧ ∀ b, b < u.heap.size → (nv.ownBlock = some b → ls 4 = false) → (kv.ownBlock = some b → ls 9 = false) → w.heap[b]? = u.heap[b]?
def NewR (S : Nat) (t : TypeId) (cs : Array Value) (v : Value) (w : World) : Prop := ∃ g, v = .slice (some ⟨g, 0, none⟩) 1 1 ∧ S ≤ g ∧ w.heap[g]? = some (.cells cs t (0, 0))
def AppR (S lo : Nat) (old : Value) (t : TypeId) (size n : Nat) (xs : List Value) (v : Value) (w : World) : Prop := ∃ g cap, v = .slice (some ⟨g, 0, none⟩) (n + 1) cap ∧ w.ownsRow lo t size v (n + 1) xs ∧ (old.ownBlock = some g ∨ S ≤ g)
def SpM (u : World) (lo B : Nat) (nv kv : Value) (s : ByteArray) (ds : List Value) (n k : Nat) (xs ys : List Value) : Nat → Value → World → Prop := specs [Is (.pointer (some ⟨lo, 3, none⟩)), Is nv, Is (.string s), NewR u.heap.size 9 #[.string s], AppR u.heap.size B nv 9 1 n (xs ++ [.string s]), Is (.pointer (some ⟨lo, 4, none⟩)), Is kv, Is (.agg ds.toArray), NewR u.heap.size 25 ds.toArray, AppR u.heap.size B kv 25 5 k (ys ++ ds)]
theorem newR_keep {S : Nat} {t : TypeId} {cs : Array Value} {v : Value} {w w' : World} {r : Option Nat} (hr : ∀ b, r = some b → b < S) (hg : w.grownBy w' r) (h : NewR S t cs v w) : NewR S t cs v w' := by
  obtain ⟨g, h1, h2, h3⟩ := h
  exact ⟨g, h1, h2, (hg.block g (lt_of_heap h3) (fun e => by have := hr g e.symm; omega)).trans h3⟩
theorem appR_keep {S lo : Nat} {old : Value} {t : TypeId} {size n : Nat} {xs : List Value} {v : Value} {w w' : World} {r : Option Nat} (hr : ∀ b, r = some b → b < S) (hne : ∀ b, r = some b → old.ownBlock ≠ some b) (hg : w.grownBy w' r) (h : AppR S lo old t size n xs v w) : AppR S lo old t size n xs v w' := by
  obtain ⟨g, cap, h1, h2, h3⟩ := h
  refine ⟨g, cap, h1, own_move h2 fun b e hB hb => hg.block b hb fun e2 => ?_, h3⟩
  have e3 : g = b := by rw [h1] at e; simpa [Value.ownBlock] using e
  rcases h3 with h | h
  · exact hne b e2.symm (by rw [h, e3])
  · have := hr b e2.symm; omega
theorem spM_keep {u : World} {lo B : Nat} {nv kv : Value} {s : ByteArray} {ds : List Value} {n k : Nat} {xs ys : List Value} (hn : ∀ b, nv.ownBlock = some b → b < u.heap.size) (hk : ∀ b, kv.ownBlock = some b → b < u.heap.size) (hnk : ∀ b, nv.ownBlock = some b → kv.ownBlock ≠ some b) :
    ∀ j i v w w', j ≠ i → RlM nv kv i w w' → SpM u lo B nv kv s ds n k xs ys j v w → SpM u lo B nv kv s ds n k xs ys j v w' := by
  intro j i v w w' hji hR h
  have hr : ∀ b, (if i = 4 then nv.ownBlock else if i = 9 then kv.ownBlock else none) = some b → b < u.heap.size := fun b e => by
    split at e
    · exact hn b e
    · split at e
      · exact hk b e
      · cases e
  match j, h with
  | 0, h => exact h
  | 1, h => exact h
  | 2, h => exact h
  | 3, h => exact newR_keep hr hR h
  | 4, h =>
    refine appR_keep (r := if i = 4 then nv.ownBlock else if i = 9 then kv.ownBlock else none) hr (fun b e => ?_) hR h
    rw [if_neg (fun e => hji e.symm)] at e
    split at e
    · exact fun e2 => hnk b e2 e
    · cases e
  | 5, h => exact h
  | 6, h => exact h
  | 7, h => exact h
  | 8, h => exact newR_keep hr hR h
  | 9, h =>
    refine appR_keep (r := if i = 4 then nv.ownBlock else if i = 9 then kv.ownBlock else none) hr (fun b e => ?_) hR h
    split at e
    · exact hnk b e
    · rw [if_neg (fun e => hji e.symm)] at e; cases e
  | j + 10, h => trivial
theorem frM_step {u : World} {nv kv : Value} (hnk : ∀ b, nv.ownBlock = some b → kv.ownBlock ≠ some b) : ∀ (ls : Nat → Bool) k w w', ls k = false → FrM u nv kv ls w → RlM nv kv k w w' → FrM u nv kv (upd ls k true) w' := by
  intro ls k w w' hk ⟨h1, h2, h3, h4, h5⟩ hR
  refine ⟨hR.os.trans h1, hR.tape.trans h2, hR.output.trans h3, Nat.le_trans h4 hR.size, fun b hb hn hk2 => ?_⟩
  have hn' : nv.ownBlock = some b → ls 4 = false ∧ k ≠ 4 := fun e => by
    have := hn e
    by_cases h : 4 = k
    · rw [← h, upd_same] at this; cases this
    · rw [upd_ne _ _ h] at this; exact ⟨this, fun e => h e.symm⟩
  have hk' : kv.ownBlock = some b → ls 9 = false ∧ k ≠ 9 := fun e => by
    have := hk2 e
    by_cases h : 9 = k
    · rw [← h, upd_same] at this; cases this
    · rw [upd_ne _ _ h] at this; exact ⟨this, fun e => h e.symm⟩
  refine (hR.block b (by omega) fun e => ?_).trans (h5 b hb (fun e => (hn' e).1) (fun e => (hk' e).1))
  split at e
  · exact (hn' e.symm).2 (by assumption)
  · split at e
    · exact (hk' e.symm).2 (by assumption)
    · cases e
theorem FrM.refl (u : World) (nv kv : Value) (ls : Nat → Bool) : FrM u nv kv ls { u with drawn := u.drawn + 1 } := ⟨rfl, rfl, rfl, Nat.le_refl _, fun _ _ _ _ => rfl⟩
theorem run_rlM {o : Oper} {ρ : Operand → Value} {w : World} {nv kv : Value} {k : Nat} {V : Value → World → Prop} (v : Value) (hr : (execOp ρ o).run Tryd.prog w = .ok (.value v) w) (h : V v w) : Does Tryd.prog o ρ w (fun v w' => RlM nv kv k w w' ∧ V v w') := .inl ⟨v, w, hr, grown_refl _ _, h⟩
theorem new_rlM {o : Oper} {ρ : Operand → Value} {w : World} {nv kv : Value} {k : Nat} {V : Value → World → Prop} (v : Value) (ob : Obj) (hr : (execOp ρ o).run Tryd.prog w = .ok (.value v) (w.alloc ob)) (h : V v (w.alloc ob)) : Does Tryd.prog o ρ w (fun v w' => RlM nv kv k w w' ∧ V v w') := .inl ⟨v, _, hr, ⟨rfl, rfl, rfl, by simp, fun b hb _ => Lib.alloc_old _ _ _ hb⟩, h⟩
end Go.Proofs.YtljgnpneeecafaaDoor
set_option linter.unusedVariables false
set_option linter.unusedSimpArgs false
namespace Go.Proofs.YtljgnpneeecafaaDoor
open Go.RowKit Go.Sort Go.BigFrame
set_option maxRecDepth 100000
set_option maxHeartbeats 4000000
def nmS (ns : List (List Nat)) : List Value := ns.map fun t => Value.string (strOf t)
theorem own_srow {w : World} {base : Nat} {v : Value} {ns : List (List Nat)} (hd : ∀ x ∈ ns, Dig x) (h : w.ownsRow base 9 1 v ns.length (nmS ns)) (S : Nat → Prop) (hS : ∀ b, v.ownBlock = some b → S b) : SRowM S ns v w := by
  rcases h.2 with ⟨rfl, h0⟩ | ⟨g, cap, cur, rfl, hb, hg, h1, h2, h3, h4⟩
  · exact ⟨none, 0, by rw [h0], by omega, by omega, fun h => by omega⟩
  · refine ⟨some ⟨g, 0, none⟩, cap, rfl, h1, by unfold maxLen at h2; omega, fun _ => ⟨g, 0, rfl, hS g rfl, fun i hi => ⟨strOf (ns[i]'hi), ?_, ?_⟩⟩⟩
    · have := h.cells (g := g) rfl i (.string (strOf (ns[i]'hi))) (by unfold nmS; simp [hi])
      rwa [Addr.add_mid] at this
    · rw [show ns.getD i [] = ns[i]'hi by simp [hi]]
      exact str_strOf (hd _ (List.getElem_mem hi))
theorem nameP_len {ns : List (List Nat)} {l t r : List Nat} (h : nameP ns l = .ok (t, r)) : r.length < l.length := by
  unfold nameP at h
  have g1 := gapL_len l
  cases hq : quoP (gapL l) with
  | error e => rw [hq] at h; cases h
  | ok p =>
    obtain ⟨nm, r1⟩ := p
    rw [hq] at h
    dsimp only at h
    have := quoP_len hq
    split at h
    · cases h
    · cases hc : litP [58] (gapL r1) with
      | none => rw [hc] at h; cases h
      | some q =>
        rw [hc] at h
        injection h with h
        injection h with _ h
        have := lit_len hc (by simp)
        have := gapL_len r1
        subst h
        omega
theorem stepM_err {K : Type} {kp : List Nat → Rd K} {ns : List (List Nat)} {ks : List K} {l : List Nat} {e : Int} (h : nameP ns l = .error e) : stepM kp (ns, ks) l = .error e := by unfold stepM; rw [h]
theorem stepM_ok {K : Type} {kp : List Nat → Rd K} {ns : List (List Nat)} {ks : List K} {l nm r : List Nat} (h : nameP ns l = .ok (nm, r)) : stepM kp (ns, ks) l = rdMap (fun k => (ns ++ [nm], ks ++ [k])) (gapR (kp r)) := by unfold stepM; rw [h]
theorem own_type {w : World} {B1 B2 e1 e2 s1 s2 n1 n2 g c1 c2 : Nat} {xs ys : List Value} (h : w.ownsRow B1 e1 s1 (.slice (some ⟨g, 0, none⟩) n1 c1) n1 xs) (h' : w.ownsRow B2 e2 s2 (.slice (some ⟨g, 0, none⟩) n2 c2) n2 ys) : e1 = e2 := by
  obtain ⟨_, ⟨hv, _⟩ | ⟨g1, d1, cur1, hv, _, hg, _⟩⟩ := h
  · cases hv
  · obtain ⟨_, ⟨hv', _⟩ | ⟨g2, d2, cur2, hv', _, hg', _⟩⟩ := h'
    · cases hv'
    · injection hv with a1
      injection a1 with a1
      injection a1 with a1
      injection hv' with b1
      injection b1 with b1
      injection b1 with b1
      rw [← a1] at hg
      rw [← b1] at hg'
      rw [hg] at hg'
      injection hg' with hg'
      injection hg' with _ hg'
/-- What the closure of a map sees. -/
def MSt (n g bR lo mb : Nat) (OB : Obj) (p : List (List Nat) × List (J n)) (w : World) : Prop := w.heap[mb]? = some OB ∧ w.heap[bR]? = some (.cells #[.pointer (some ⟨g, 0, none⟩)] 65 (0, 0)) ∧
  ∃ nv kv css, BoxJ w lo 5 0 ⟨#[]⟩ nv kv ∧ w.ownsRow (lo + 1) 9 1 nv p.1.length (nmS p.1) ∧ (∀ x ∈ p.1, Dig x) ∧ KidsL n (lo + 1) nv.ownBlock p.2 kv css w ∧ p.1.length = p.2.length ∧ (∀ b, nv.ownBlock = some b → kv.ownBlock ≠ some b)
theorem MSt.keep {n g bR lo mb : Nat} {OB : Obj} {p : List (List Nat) × List (J n)} {w w' : World} (hm : mb ≠ g) (hr : bR ≠ g) (hg : g < lo) (h : MSt n g bR lo mb OB p w) (hF : Fg g w w') : MSt n g bR lo mb OB p w' := by
  obtain ⟨h1, h2, nv, kv, css, h3, h4, h5, h6, h7, h8⟩ := h
  exact ⟨hF.block h1 hm, hF.block h2 hr, nv, kv, css, hF.block h3 (by omega), own_move h4 fun b _ hb hl => hF.2 b hl (by omega), h5, h6.move fun b hb hl => hF.2 b hl (by omega), h7, h8⟩
theorem MSt.box {n g bR lo mb : Nat} {OB : Obj} (p : List (List Nat) × List (J n)) (w : World) (h : MSt n g bR lo mb OB p w) : ErB lo 5 w := by
  obtain ⟨_, _, nv, kv, css, h3, h4, _, h6, _⟩ := h
  exact ⟨nv, kv, h3, own_one h4, own_one h6.1⟩
theorem table51 {m g ar bR mb lo : Nat} {OB : Obj} {mv : Value} {kp : List Nat → Rd (J (m + 1))} {p : List (List Nat) × List (J (m + 1))} {l : List Nat} {w : World} (hg : g < lo) (hrl : bR < lo) (hrg : bR ≠ g) (hml : mb < lo) (hmg : mb ≠ g)
    (hV : ∀ l w, RdAt g ar l mv w → w.heap[mb]? = some OB → l.length ≤ 100000 → Calls Tryd.prog 21 #[.pointer (some ⟨g, 0, none⟩)] w (RdR g ar mv w (gapR (kp l))))
    (hkp : ∀ l k r, kp l = .ok (k, r) → r.length < l.length)
    (hs : MSt (m + 1) g bR lo mb OB p w) (h : RdAt g ar l mv w) (hl : p.2.length + l.length ≤ 100000) :
    Calls Tryd.prog 51 #[.pointer (some ⟨bR, 0, none⟩), .pointer (some ⟨lo, 0, none⟩)] w fun e w' => ∃ er l', e = .returned (.int .i64 er) ∧ RdAt g ar l' mv w' ∧ Fo lo g w w' ∧ StpM (MSt (m + 1) g bR lo mb OB) (ErB lo 5) l er l' (stepM kp p l) w' := by
  obtain ⟨ns, ks⟩ := p
  obtain ⟨p1, p2, nv, kv, css, p3, p4, p5, p6, p7, p8⟩ := hs
  have p4 : w.ownsRow (lo + 1) 9 1 nv ns.length (nmS ns) := p4
  have p6 : KidsL (m + 1) (lo + 1) nv.ownBlock ks kv css w := p6
  have p7 : ns.length = ks.length := p7
  have hl : ks.length + l.length ≤ 100000 := hl
  have hkl0 : ∀ b, kv.ownBlock = some b → lo + 1 ≤ b ∧ b < w.heap.size := World.ownsRow.lt p6.1
  have hnl0 : ∀ b, nv.ownBlock = some b → lo + 1 ≤ b ∧ b < w.heap.size := World.ownsRow.lt p4
  have hltV : lo < w.heap.size := lt_of_heap p3
  have hnm := name52 h (own_srow p5 p4 (fun b => b ≠ g) (fun b e => by have := (hnl0 b e).1; omega)) (by omega)
  obtain ⟨Y, hY⟩ : ∃ Y, Y = nameP ns l := ⟨_, rfl⟩
  rw [← hY] at hnm
  have hYl : ∀ t r, Y = .ok (t, r) → r.length < l.length := fun t r e => nameP_len (hY.symm.trans e)
  have HY : Hid (Y = nameP ns l) := hY
  have HYL : Hid _ := hYl
  have HV : Hid _ := hV
  have HKP : Hid _ := hkp
  have P1 : Hid _ := p1
  have P2 : Hid _ := p2
  have P3 : Hid (BoxJ w lo 5 0 ⟨#[]⟩ nv kv) := p3
  have P4 : Hid (w.ownsRow (lo + 1) 9 1 nv ks.length (nmS ns)) := by show w.ownsRow _ _ _ _ _ _; rw [← p7]; exact p4
  have P6 : Hid (KidsL (m + 1) (lo + 1) nv.ownBlock ks kv css w) := p6
  have P5 : Hid _ := p5
  have cR : w.cell? ⟨bR, 0, none⟩ = some (.pointer (some ⟨g, 0, none⟩)) := (cell_of_row _ _ _ _ _ _ p2).trans rfl
  have c3 : w.cell? ⟨lo, 3, none⟩ = some nv := (p3.cell 3).trans rfl
  clear hYl hV hkp p1 p2 p3 p4 p5 p6 hY
  go_enter Tryd.func51, Tryd.ntmps51
  go_wp2_with fail
  refine hnm.mono ?_
  rintro e w1 ⟨s, er, l1, rfl, hF1, hR1, hm1⟩
  have hsz1 := hF1.size
  clear hnm
  cases Y with
  | error e0 =>
    obtain ⟨rfl, h0⟩ := hm1
    have hne : (er != 0) = true := by simpa using h0
    have H0 : Hid _ := h0
    have HF1 : Hid (Fg g w w1) := hF1
    have HR1 : Hid (RdAt g ar l1 mv w1) := hR1
    clear h0 hF1 hR1 h
    go_wp2
    go_ret
    exact ⟨er, l1, rfl, HR1.out, HF1.out.fo (by omega), by rw [stepM_err HY.out.symm]; exact ⟨.inl ⟨rfl, H0.out⟩, nv, kv, HF1.out.block P3.out (by omega), own_one P4.out, own_one P6.out.1⟩⟩
  | ok q =>
    obtain ⟨nm, r⟩ := q
    obtain ⟨rfl, rfl, hsn⟩ := hm1
    have hne : ((0 : Int) != 0) = false := rfl
    have hrl2 := HYL.out _ _ rfl
    obtain rfl : s = strOf nm := hsn.eq
    have hnd : Dig nm := hsn.dig
    have hv := HV.out l1 w1 hR1 (hF1.block P1.out hmg) (by omega)
    obtain ⟨X, hX⟩ : ∃ X, X = gapR (kp l1) := ⟨_, rfl⟩
    rw [← hX] at hv
    have HX2 : Hid (stepM kp (ns, ks) l = rdMap (fun k => (ns ++ [nm], ks ++ [k])) X) := by show _ = _; rw [stepM_ok HY.out.symm, hX]
    have hXr : ∀ k r, X = .ok (k, r) → r.length < l1.length := fun k r e => by
      obtain ⟨r0, h1, h2⟩ := gapR_ok (hX.symm.trans e)
      have := HKP.out _ _ _ h1
      omega
    have HXR : Hid _ := hXr
    have cR1 : w1.cell? ⟨bR, 0, none⟩ = some (.pointer (some ⟨g, 0, none⟩)) := (cell_of_row _ _ _ _ _ _ (hF1.block P2.out hrg)).trans rfl
    have HF1 : Hid (Fg g w w1) := hF1
    have HND : Hid _ := hnd
    clear hX hXr hR1 h HV HKP HY HYL hF1 cR c3 hsn hnd
    go_wp2_with fail
    refine hv.mono ?_
    rintro e w2 ⟨cs, er, l', rfl, h5, hone, hF2, hR2, hm2⟩
    obtain ⟨d0, d1, d2, d3, d4, rfl⟩ := arr5 h5
    have hsz2 := hF2.size
    have hZ := heap_alloc_new w2 (.cells zero5 25)
    unfold zero5 at hZ
    clear hv h5
    go_wp2_with (refine wpList_store_row rfl 25 (.tmp 5) (.tmp 19) rfl w2.heap.size #[d0, d1, d2, d3, d4] rfl rfl 25 _ hZ size25 rfl hone ?_)
    obtain ⟨u, hu⟩ : ∃ u, u = (w2.alloc (.cells #[.int .i64 0, .int .i64 0, .string ⟨#[]⟩, .slice none 0 0, .slice none 0 0] 25)).setRow w2.heap.size #[d0, d1, d2, d3, d4] := ⟨_, rfl⟩
    rw [← hu]
    have hB2 : Below w2.heap.size w2 u := by rw [hu]; exact (below1 _ _).trans ⟨rfl, rfl, rfl, by simp, fun b hb => setRow_other _ _ _ _ (by omega)⟩
    have hX2 : u.heap[w2.heap.size]? = some (.cells #[d0, d1, d2, d3, d4] 25 (0, 0)) := by rw [hu]; exact setRow_heap _ _ _ _ _ _ hZ
    have hF12 := HF1.out.trans hF2
    have hFu : Fg g w u := hF12.then (hB2.mono hF12.size)
    have hRu : RdAt g ar l' mv u := hR2.new hB2
    have q1 := hFu.block P1.out hmg
    have q2 := hFu.block P2.out hrg
    have q3 : BoxJ u lo 5 0 ⟨#[]⟩ nv kv := hFu.block P3.out (by omega)
    have q4 : u.ownsRow (lo + 1) 9 1 nv ks.length (nmS ns) := own_move P4.out fun b _ hb hl => hFu.2 b hl (by omega)
    have q6 : KidsL (m + 1) (lo + 1) nv.ownBlock ks kv css u := KidsL.move P6.out fun b hb hl => hFu.2 b hl (by omega)
    have hszu := hB2.size
    have hnu : ∀ b, nv.ownBlock = some b → b < u.heap.size := fun b e => by have := (hnl0 b e).2; omega
    have hku : ∀ b, kv.ownBlock = some b → b < u.heap.size := fun b e => by have := (hkl0 b e).2; omega
    have hxu : ∀ b, (nv.ownBlock = some b ∨ kv.ownBlock = some b) → b ≠ lo ∧ b ≠ w2.heap.size := fun b e => by
      rcases e with e | e
      · have := hnl0 b e; omega
      · have := hkl0 b e; omega
    obtain ⟨i1, hi1, hy0, hy1, hy2⟩ := info25
    obtain ⟨i9, hi9, hz0, hz1, hz2⟩ := info9
    have HM2 : Hid (RdM w1 #[d0, d1, d2, d3, d4] er l' X w2) := hm2
    have HB2 : Hid (Below w2.heap.size w2 u) := hB2
    have HFU : Hid (Fg g w u) := hFu
    have HRU : Hid (RdAt g ar l' mv u) := hRu
    clear hu hZ hF2 hR2 hm2 hF12 hB2 hFu hRu cR1
    have old : ∀ {ls : Nat → Bool} {w' : World} {b : Nat} {ob : Obj}, FrM u nv kv ls w' → u.heap[b]? = some ob → (b = lo ∨ b = w2.heap.size) → w'.heap[b]? = some ob := fun {ls w' b ob} hf hb hor =>
      (hf.2.2.2.2 b (lt_of_heap hb) (fun e => by have := hxu b (.inl e); omega) (fun e => by have := hxu b (.inr e); omega)).trans hb
    refine wp_region_invF 10 (SpM u lo (lo + 1) nv kv (strOf nm) [d0, d1, d2, d3, d4] ks.length ks.length (nmS ns) css.flatten) (FrM u nv kv) (RlM nv kv)
      (by kernel_rfl) (spM_keep hnu hku p8) (frM_step p8) (FrM.refl _ _ _ _) (by kernel_rfl) ?_ ?_
    · refine ⟨fun ls a w' hf hk hfr hdep => ⟨wanted_plain rfl, run_rlM _ (fa25 _ 3 (by decide) rfl (hfr 1 (by kernel_rfl))) rfl⟩,
        fun ls a w' hf hk hfr hdep => ⟨wanted_plain rfl, run_rlM _ (ldS rfl (hdep 0 21 (by kernel_rfl)) ((cell_of_row _ _ _ _ _ _ (old hf q3 (.inl rfl))).trans rfl)) rfl⟩,
        fun ls a w' hf hk hfr hdep => ⟨wanted_plain rfl, run_rlM _ (BigFrame.run_move _ rfl w') (hfr 3 (by kernel_rfl))⟩,
        fun ls a w' hf hk hfr hdep => ⟨wanted_plain rfl, new_rlM _ _ (bldS rfl (hdep 2 23 (by kernel_rfl))) ⟨_, rfl, hf.2.2.2.1, heap_alloc_new _ _⟩⟩,
        fun ls a w' hf hk hfr hdep => ⟨wanted_plain rfl, ?_⟩,
        fun ls a w' hf hk hfr hdep => ⟨wanted_plain rfl, run_rlM _ (fa25 _ 4 (by decide) rfl (hfr 1 (by kernel_rfl))) rfl⟩,
        fun ls a w' hf hk hfr hdep => ⟨wanted_plain rfl, run_rlM _ (ldK rfl (hdep 5 26 (by kernel_rfl)) ((cell_of_row _ _ _ _ _ _ (old hf q3 (.inl rfl))).trans rfl)) rfl⟩,
        fun ls a w' hf hk hfr hdep => ⟨wanted_plain rfl, run_rlM _ (ldRow rfl (hfr 5 (by kernel_rfl)) (old hf hX2 (.inr rfl))) rfl⟩,
        fun ls a w' hf hk hfr hdep => ⟨wanted_plain rfl, new_rlM _ _ (bldK rfl (hdep 7 28 (by kernel_rfl))) ⟨_, rfl, hf.2.2.2.1, heap_alloc_new _ _⟩⟩,
        fun ls a w' hf hk hfr hdep => ⟨wanted_plain rfl, ?_⟩, trivial⟩
      · obtain ⟨g0, e0, _, hgc⟩ := hdep 3 24 (by kernel_rfl)
        exact does_append rfl (lo + 1) 9 i9 _ 1 16 Tryd.underlying22 hi9 hz0 hz1 hz2 rfl (by decide) nv ks.length (nmS ns) (hdep 1 22 (by kernel_rfl)) (own_move q4 fun b e _ hb => hf.2.2.2.2 b hb (fun _ => hk) (fun e2 => absurd e2 (p8 b e))) ⟨g0, 0, none⟩ 1 [.string (strOf nm)] e0 rfl
          (fun j x hj => by rw [Addr.add_mid, Nat.zero_add, cell_of_row _ _ _ _ _ _ hgc, ← hj]; simp) one_str (by unfold maxLen; omega) (by omega) (by have := hf.2.2.2.1; omega)
          fun g cap w'' hown hgrow hat => ⟨hgrow, g, cap, rfl, hown, hat.imp id fun e => by have := hf.2.2.2.1; omega⟩
      · obtain ⟨g0, e0, _, hgc⟩ := hdep 8 29 (by kernel_rfl)
        exact does_append rfl (lo + 1) 25 i1 _ 5 80 Tryd.underlying23 hi1 hy0 hy1 hy2 rfl (by decide) kv ks.length css.flatten (hdep 6 27 (by kernel_rfl)) (own_move q6.1 fun b e _ hb => hf.2.2.2.2 b hb (fun e2 => absurd e (p8 b e2)) (fun _ => hk)) ⟨g0, 0, none⟩ 1 [d0, d1, d2, d3, d4] e0 rfl
          (fun j x hj => by rw [Addr.add_mid, Nat.zero_add, cell_of_row _ _ _ _ _ _ hgc, ← hj]; simp) (fun x hx => (Array.all_eq_true_iff_forall_mem.1 hone) x (by simpa using hx)) (by unfold maxLen; omega) (by omega) (by have := hf.2.2.2.1; omega)
          fun g cap w'' hown hgrow hat => ⟨hgrow, g, cap, rfl, hown, hat.imp id fun e => by have := hf.2.2.2.1; omega⟩
    intro ls u' hall hFr
    simp only [List.take, FinAll, Act.put, List.setIfInBounds_toArray, List.set_cons_succ, List.set_cons_zero]
    intro v21 h21 v22 h22 v23 h23 v24 h24 v25 h25 v26 h26 v27 h27 v28 h28 v29 h29 v30 h30
    obtain ⟨g4, cap4, rfl, hown4, hat4⟩ := (h25 : AppR u.heap.size (lo + 1) nv 9 1 ks.length (nmS ns ++ [.string (strOf nm)]) v25 u')
    obtain ⟨g9, cap9, rfl, hown9, hat9⟩ := (h30 : AppR u.heap.size (lo + 1) kv 25 5 ks.length (css.flatten ++ [d0, d1, d2, d3, d4]) v30 u')
    clear h21 h22 h23 h24 h26 h27 h28 h29
    have hlu : lo < u.heap.size := lt_of_heap q3
    have hO : u'.heap[lo]? = some (.cells #[.int .i64 5, .int .i64 0, .string ⟨#[]⟩, nv, kv] 25 (0, 0)) := old hFr q3 (.inl rfl)
    obtain ⟨wE, hwE⟩ : ∃ wE, wE = (u'.setCell ⟨lo, 3, none⟩ (.slice (some ⟨g4, 0, none⟩) (ks.length + 1) cap4)).setCell ⟨lo, 4, none⟩ (.slice (some ⟨g9, 0, none⟩) (ks.length + 1) cap9) := ⟨_, rfl⟩
    have hg4 : lo + 1 ≤ g4 := (World.ownsRow.lt hown4 g4 rfl).1
    have hg9 : lo + 1 ≤ g9 := (World.ownsRow.lt hown9 g9 rfl).1
    have hne49 : g4 ≠ g9 := fun e => by
      subst e
      have := own_type hown4 hown9
      cases this
    have hE : ∀ b, b ≠ lo → wE.heap[b]? = u'.heap[b]? := fun b hb => by
      rw [hwE]
      exact (heap_setCell_other _ _ _ _ hb).trans (heap_setCell_other _ _ _ _ hb)
    have hBE : Below lo u wE := by
      rw [hwE]
      have h0 : Below lo u u' := ⟨hFr.1, hFr.2.1, hFr.2.2.1, hFr.2.2.2.1, fun b hb => hFr.2.2.2.2 b (by omega) (fun e => by have := (hnl0 b e).1; omega) (fun e => by have := (hkl0 b e).1; omega)⟩
      exact (h0.setCell (by show lo ≤ lo; omega) _).setCell (by show lo ≤ lo; omega) _
    have hRE : RdAt g ar l' mv wE := HRU.out.under hBE hg
    have hFE : Fo lo g w wE := (HFU.out.fo (by omega)).trans ⟨hBE.mono (Nat.zero_le _), fun k hk _ => hBE.block k hk⟩
    have hbE : wE.heap[mb]? = some OB := (hBE.block mb hml).trans q1
    have hrE : wE.heap[bR]? = some (.cells #[.pointer (some ⟨g, 0, none⟩)] 65 (0, 0)) := (hBE.block bR hrl).trans q2
    have hVE : BoxJ wE lo 5 0 ⟨#[]⟩ (.slice (some ⟨g4, 0, none⟩) (ks.length + 1) cap4) (.slice (some ⟨g9, 0, none⟩) (ks.length + 1) cap9) := by
      rw [hwE]
      unfold BoxJ
      rw [heap_setCell_same _ _ _ _ _ _ (heap_setCell_same _ _ _ _ _ _ hO)]
      rfl
    have hfin : StpM (MSt (m + 1) g bR lo mb OB) (ErB lo 5) l er l' (stepM kp (ns, ks) l) wE := by
      rw [HX2.out]
      cases X with
      | error e0 => exact ⟨HM2.out, _, _, hVE, rfl, rfl⟩
      | ok p =>
        obtain ⟨j, r⟩ := p
        obtain ⟨z1, z2, z3⟩ := HM2.out
        have hJ : JM (fun b => lo + 1 ≤ b ∧ kv.ownBlock ≠ some b ∧ nv.ownBlock ≠ some b) (m + 1) j [d0, d1, d2, d3, d4] w2 := JM.move (w' := w2) (fun b hb hS => ⟨⟨by omega, fun e => by have := (hkl0 b e).2; omega, fun e => by have := (hnl0 b e).2; omega⟩, rfl⟩) _ _ _ z3
        have hJu : JM (fun b => lo + 1 ≤ b ∧ kv.ownBlock ≠ some b ∧ nv.ownBlock ≠ some b) (m + 1) j [d0, d1, d2, d3, d4] u := hJ.stb HB2.out
        have hKE := KidsL.app (w5 := wE) (y := (Value.slice (some ⟨g4, 0, none⟩) (ks.length + 1) cap4).ownBlock) q6 (fun b hb hx e => by
            have e2 : g4 = b := by simpa [Value.ownBlock] using e
            rcases hat4 with h | h
            · exact hx (by rw [h, e2])
            · omega) (fun b hb hB hk hn => (hE b (by omega)).trans (hFr.2.2.2.2 b hb (fun e => absurd e hn) (fun e => absurd e hk))) (own_move hown9 fun b _ hB _ => hE b (by omega)) hat9 rfl hJu
        refine ⟨z1, z2, ⟨hbE, hrE, _, _, _, hVE, ?_, ?_, hKE, ?_, ?_⟩, Nat.lt_trans (HXR.out _ _ rfl) hrl2⟩
        · have e1 : (ns ++ [nm]).length = ks.length + 1 := by simp [p7]
          have e2 : nmS (ns ++ [nm]) = nmS ns ++ [.string (strOf nm)] := by simp [nmS]
          show wE.ownsRow (lo + 1) 9 1 _ (ns ++ [nm]).length (nmS (ns ++ [nm]))
          rw [e1, e2]
          exact own_move hown4 fun b _ hB _ => hE b (by omega)
        · intro x hx
          rcases List.mem_append.1 hx with h | h
          · exact P5.out x h
          · obtain rfl : x = nm := by simpa using h
            exact HND.out
        · show (ns ++ [nm]).length = (ks ++ [j]).length
          simp [p7]
        · intro b e e2
          have e3 : g4 = b := by simpa [Value.ownBlock] using e
          have e4 : g9 = b := by simpa [Value.ownBlock] using e2
          exact hne49 (e3.trans e4.symm)
    have FIN : Hid _ := (⟨hRE, hFE, hfin⟩ : _ ∧ _ ∧ _)
    have HWE : Hid (wE = (u'.setCell ⟨lo, 3, none⟩ (.slice (some ⟨g4, 0, none⟩) (ks.length + 1) cap4)).setCell ⟨lo, 4, none⟩ (.slice (some ⟨g9, 0, none⟩) (ks.length + 1) cap9)) := hwE
    have c3 : u'.cell? ⟨lo, 3, none⟩ = some nv := (cell_of_row _ _ _ _ _ _ hO).trans rfl
    have c4 : u'.cell? ⟨lo, 4, none⟩ = some kv := (cell_of_row _ _ _ _ _ _ hO).trans rfl
    have f3 : u'.frozen? ⟨lo, 3, none⟩ = false := frozen_of_row _ _ _ _ _ hO
    have f4 : u'.frozen? ⟨lo, 4, none⟩ = false := frozen_of_row _ _ _ _ _ hO
    clear hfin hRE hFE hbE hrE hVE hBE hwE hE hO hown4 hown9 hat4 hat9 hnl0 hkl0 hnu hku hxu q1 q2 q3 q4 q6 old hFr hall p8 hone hX2 p7
    go_wp2
    go_ret
    rw [← HWE.out]
    exact ⟨er, l', rfl, FIN.out⟩
end Go.Proofs.YtljgnpneeecafaaDoor
set_option linter.unusedVariables false
set_option linter.unusedSimpArgs false
namespace Go.Proofs.YtljgnpneeecafaaDoor
open Go.RowKit Go.Sort Go.BigFrame
set_option maxRecDepth 100000
set_option maxHeartbeats 4000000
theorem KidsL.krow {n B : Nat} {x : Option Nat} {ks : List (J n)} {kv : Value} {css : List (List Value)} {w : World} (h : KidsL n B x ks kv css w) (S : Nat → Prop) (hS : ∀ b, B ≤ b → S b) : KRowM S (JM S n) ks kv w :=
  krowM_own h.2.2.1 h.2.1 rfl h.1 S (fun b e => hS b (World.ownsRow.lt h.1 b e).1) fun i h1 h2 => JM.move (fun b _ hb => ⟨hS b hb.1, rfl⟩) _ _ _ (h.2.2.2 i h1 h2)
theorem srow_nil (S : Nat → Prop) (w : World) : SRowM S [] (.slice none 0 0) w := ⟨none, 0, rfl, Nat.le_refl _, by decide, fun h => absurd h (by simp)⟩
theorem box_inj {w : World} {g : Nat} {k m k' m' : Int} {s s' : ByteArray} {nv kv nv' kv' : Value} (h : BoxJ w g k m s nv kv) (h' : BoxJ w g k' m' s' nv' kv') : nv = nv' ∧ kv = kv' := by
  unfold BoxJ at h h'
  rw [h] at h'
  have h2 : k = k' ∧ m = m' ∧ s = s' ∧ nv = nv' ∧ kv = kv' := by simpa using h'
  exact ⟨h2.2.2.2.1, h2.2.2.2.2⟩
theorem fo_fg {g : Nat} {w w3 w4 : World} (hb : Below w.heap.size w w3) (hl : w.heap.size ≤ w3.heap.size) {lo : Nat} (hlo : w.heap.size ≤ lo) (hF : Fo lo g w3 w4) : Fg g w w4 :=
  ⟨(hb.mono (Nat.zero_le _)).trans hF.1, fun k hk hg => (hF.2 k (by omega) hg).trans (hb.block k hk)⟩
theorem stepL_mu {K : Type} {kp : List Nat → Rd K} (hkp : ∀ l k r, kp l = .ok (k, r) → r.length < l.length) {a a' : List K} {l r : List Nat} (e : stepL kp a l = .ok (a', r)) : a'.length + r.length ≤ a.length + l.length := by
  unfold stepL at e
  cases hx : gapR (kp l) with
  | error x => rw [hx] at e; cases e
  | ok q =>
    obtain ⟨k, r1⟩ := q
    rw [hx] at e
    injection e with e
    injection e with e1 e2
    obtain ⟨r0, h1, h2⟩ := gapR_ok hx
    have := hkp _ _ _ h1
    subst e1 e2
    simp
    omega
theorem stepM_mu {K : Type} {kp : List Nat → Rd K} (hkp : ∀ l k r, kp l = .ok (k, r) → r.length < l.length) {a a' : List (List Nat) × List K} {l r : List Nat} (e : stepM kp a l = .ok (a', r)) : a'.2.length + r.length ≤ a.2.length + l.length := by
  obtain ⟨ns, ks⟩ := a
  cases hn : nameP ns l with
  | error x => rw [stepM_err hn] at e; cases e
  | ok q =>
    obtain ⟨nm, l1⟩ := q
    rw [stepM_ok hn] at e
    have hl := nameP_len hn
    cases hx : gapR (kp l1) with
    | error x => rw [hx] at e; cases e
    | ok q =>
      obtain ⟨k, r1⟩ := q
      rw [hx] at e
      injection e with e
      injection e with e1 e2
      obtain ⟨r0, h1, h2⟩ := gapR_ok hx
      have := hkp _ _ _ h1
      subst e1 e2
      simp
      omega
theorem list34 {m g ar mb : Nat} {OB : Obj} {mv : Value} {kp : List Nat → Rd (J (m + 1))} {l s : List Nat} {w : World} (ha : ar < 6) (hmg : mb ≠ g)
    (hV : ∀ l w, RdAt g (ar + 1) l mv w → w.heap[mb]? = some OB → l.length ≤ 100000 → Calls Tryd.prog 21 #[.pointer (some ⟨g, 0, none⟩)] w (RdR g (ar + 1) mv w (gapR (kp l))))
    (hkp : ∀ l k r, kp l = .ok (k, r) → r.length < l.length) (hgk : GapK kp)
    (h : RdAt g ar l mv w) (hmb : w.heap[mb]? = some OB) (hl : l.length ≤ 100000) (hbe : litP [91] l = some s) :
    Calls Tryd.prog 34 #[.pointer (some ⟨g, 0, none⟩)] w (RdR g ar mv w (n := m + 2) (rdMap (fun ks => (⟨4, 0, [], [], ks⟩ : JN (J (m + 1)))) (listP kp s))) := by
  have hgl := h.lt
  have hml := lt_of_heap hmb
  obtain ⟨w2, hw2⟩ : ∃ w2, w2 = ((w.alloc (.cells #[.pointer (some ⟨g, 0, none⟩)] 65)).alloc (.cells zero5 25)).alloc (.cells zero5 25) := ⟨_, rfl⟩
  obtain ⟨w3, hw3⟩ : ∃ w3, w3 = w2.setRow (w.heap.size + 1 + 1) #[.int .i64 4, .int .i64 0, .string ⟨#[]⟩, .slice none 0 0, .slice none 0 0] := ⟨_, rfl⟩
  have hZ2 : w2.heap[w.heap.size + 1 + 1]? = some (.cells zero5 25 (0, 0)) := by
    rw [hw2]
    have := heap_alloc_new ((w.alloc (.cells #[.pointer (some ⟨g, 0, none⟩)] 65)).alloc (.cells zero5 25)) (.cells zero5 25)
    simpa using this
  have hY2 : w2.heap[w.heap.size + 1]? = some (.cells zero5 25 (0, 0)) := by
    rw [hw2, Lib.alloc_old _ _ _ (by simp)]
    have := heap_alloc_new (w.alloc (.cells #[.pointer (some ⟨g, 0, none⟩)] 65)) (.cells zero5 25)
    simpa using this
  have hX2 : w2.heap[w.heap.size]? = some (.cells #[.pointer (some ⟨g, 0, none⟩)] 65 (0, 0)) := by
    rw [hw2, Lib.alloc_old _ _ _ (by simp; omega), Lib.alloc_old _ _ _ (by simp)]
    exact heap_alloc_new _ _
  have hs2 : w2.heap.size = w.heap.size + 3 := by rw [hw2]; simp
  have hB2 : Below w.heap.size w w2 := by rw [hw2]; exact (((Below.refl _ _).alloc (Nat.le_refl _) _).alloc (by simp) _).alloc (by simp; omega) _
  have hs3 : w3.heap.size = w.heap.size + 3 := by rw [hw3, ← hs2]; simp
  have hB3 : Below w.heap.size w w3 := by rw [hw3]; exact hB2.trans ⟨rfl, rfl, rfl, by simp, fun b hb => setRow_other _ _ _ _ (by omega)⟩
  have hZ3 : BoxJ w3 (w.heap.size + 1 + 1) 4 0 ⟨#[]⟩ (.slice none 0 0) (.slice none 0 0) := by rw [hw3]; exact setRow_heap _ _ _ _ _ _ hZ2
  have hY3 : w3.heap[w.heap.size + 1]? = some (.cells zero5 25 (0, 0)) := by rw [hw3]; exact (setRow_other _ _ _ _ (by omega)).trans hY2
  have hX3 : w3.heap[w.heap.size]? = some (.cells #[.pointer (some ⟨g, 0, none⟩)] 65 (0, 0)) := by rw [hw3]; exact (setRow_other _ _ _ _ (by omega)).trans hX2
  have hR3 := h.new hB3
  have hM3 : w3.heap[mb]? = some OB := (hB3.block mb hml).trans hmb
  have cX : w3.cell? ⟨w.heap.size, 0, none⟩ = some (.pointer (some ⟨g, 0, none⟩)) := (cell_of_row _ _ _ _ _ _ hX3).trans rfl
  have hit := itemsL (μ := List.length) (stp := stepL kp) (St := LSt (m + 1) g w.heap.size (w.heap.size + 1 + 1) (w.heap.size + 1 + 1 + 1) mb OB) (Er := ErB (w.heap.size + 1 + 1) 4) (bR := w.heap.size) (bV := w.heap.size + 1 + 1) (lo := w.heap.size + 1 + 1) (a0 := []) ha hbe (by simpa using hl)
    (fun a l a' r e => by simpa using stepL_mu hkp e) (by omega)
    (fun a u u' ha hF => LSt.keep hmg (by omega) (by omega) (by omega) ha hF) (ErB.keep (by omega)) (fun a u ha => LSt.box a u ha)
    (fun a l u ha hR hla _ => list50 (by omega) (by omega) (by omega) (by omega) hmg hV hkp ha hR hla) hR3
    (⟨hM3, hX3, _, [], hZ3, KidsL.nil _ _ _ _⟩)
  rw [wholeS_list hgk] at hit
  obtain ⟨X, hX⟩ : ∃ X, X = listP kp s := ⟨_, rfl⟩
  rw [← hX] at hit ⊢
  have HIT : Hid _ := hit
  have HB3 : Hid _ := hB3
  have HY3 : Hid (w3.heap[w.heap.size + 1]? = some (.cells zero5 25 (0, 0))) := hY3
  have hmf : ∀ (fn : Fn) (first cap : Array Value) (w : World), (Instr.makeFunc fn first cap).run Tryd.prog w = .ok (.func fn first cap) w := fun _ _ _ _ => rfl
  have HW3 : Hid (w3 = w2.setRow (w.heap.size + 1 + 1) #[.int .i64 4, .int .i64 0, .string ⟨#[]⟩, .slice none 0 0, .slice none 0 0]) := hw3
  rw [hw2] at hZ2
  unfold zero5 at hZ2
  have HW2 : Hid (w2 = ((w.alloc (.cells #[.pointer (some ⟨g, 0, none⟩)] 65)).alloc (.cells #[.int .i64 0, .int .i64 0, .string ⟨#[]⟩, .slice none 0 0, .slice none 0 0] 25)).alloc (.cells #[.int .i64 0, .int .i64 0, .string ⟨#[]⟩, .slice none 0 0, .slice none 0 0] 25)) := hw2
  clear hw3 hw2 hit hX hB2 hB3 hY2 hX2 hY3 hX3 hZ3 hR3 hM3 hV hkp hgk hbe hl h hmb
  go_enter Tryd.func34, Tryd.ntmps34
  go_wp2_with (refine wpList_store_row rfl 25 (.tmp 4) (.tmp 6) rfl (w.heap.size + 1 + 1) #[.int .i64 4, .int .i64 0, .string ⟨#[]⟩, .slice none 0 0, .slice none 0 0] rfl rfl 25 _ hZ2 size25 rfl (one5 _ _ _) ?_; rw [← HW2.out, ← HW3.out])
  refine Calls.mono HIT.out ?_
  rintro e w4 ⟨er, l', rfl, hR4, hF4, hm⟩
  have HM : Hid (ItmM (LSt (m + 1) g w.heap.size (w.heap.size + 1 + 1) (w.heap.size + 1 + 1 + 1) mb OB) (ErB (w.heap.size + 1 + 1) 4) er l' X w4) := hm
  have hE : ErB (w.heap.size + 1 + 1) 4 w4 := by
    cases X with
    | error e0 => exact hm.2.2
    | ok q => exact LSt.box _ _ hm.2.2
  obtain ⟨nv, kv, hb4, hn1, hk1⟩ := hE
  have hY4 : w4.heap[w.heap.size + 1]? = some (.cells zero5 25 (0, 0)) := (hF4.2 _ (by omega) (by omega)).trans HY3.out
  have hone : (#[.int .i64 4, .int .i64 0, .string ⟨#[]⟩, nv, kv] : Array Value).all (·.oneCell') = true := by
    have e1 : (Value.int .i64 4).oneCell' = true := rfl
    have e2 : (Value.int .i64 0).oneCell' = true := rfl
    have e3 : (Value.string ⟨#[]⟩).oneCell' = true := rfl
    simp [e1, e2, e3, hn1, hk1]
  have x0 := hb4.cell 0
  have x1 := hb4.cell 1
  have x2 := hb4.cell 2
  have x3 := hb4.cell 3
  have x4 := hb4.cell 4
  have x0 : w4.cell? ⟨w.heap.size + 1 + 1, 0, none⟩ = some (.int .i64 4) := x0
  have x1 : w4.cell? ⟨w.heap.size + 1 + 1, 1, none⟩ = some (.int .i64 0) := x1
  have x2 : w4.cell? ⟨w.heap.size + 1 + 1, 2, none⟩ = some (.string ⟨#[]⟩) := x2
  have x3 : w4.cell? ⟨w.heap.size + 1 + 1, 3, none⟩ = some nv := x3
  have x4 : w4.cell? ⟨w.heap.size + 1 + 1, 4, none⟩ = some kv := x4
  have HB4 : Hid (BoxJ w4 (w.heap.size + 1 + 1) 4 0 ⟨#[]⟩ nv kv) := hb4
  have HR4 : Hid (RdAt g ar l' mv w4) := hR4
  have HF4 : Hid (Fo (w.heap.size + 1 + 1) g w3 w4) := hF4
  have hlt4 := lt_of_heap hb4
  clear hm hb4 hR4 hF4 hn1 hk1 hZ2
  go_wp2_with (refine wpList_store_row rfl 25 (.tmp 2) (.tmp 10) rfl (w.heap.size + 1) #[.int .i64 4, .int .i64 0, .string ⟨#[]⟩, nv, kv] rfl rfl 25 zero5 hY4 size25 rfl hone ?_)
  refine bodyPost_ret (v := .tuple #[.agg #[.int .i64 4, .int .i64 0, .string ⟨#[]⟩, nv, kv], .int .i64 er]) ?_ rfl ⟨_, er, l', rfl, rfl, hone, (fo_fg HB3.out (by omega) (by omega) HF4.out).trans_new (by omega), ⟨HR4.out.1, (setRow_other _ _ _ _ (by omega)).trans HR4.out.2⟩, ?_⟩
  · exact results_cell_tmp Tryd.results34 _ _ _ 25 _ (0, 0) _ _ rfl rfl (setRow_heap _ _ _ _ _ _ hY4) Tryd.underlying25 rfl size25
  · have hm := HM.out
    cases X with
    | error e0 => exact RdM.err rfl (.inl ⟨hm.1, hm.2.1⟩)
    | ok q =>
      obtain ⟨a, q⟩ := q
      obtain ⟨z1, z2, z3⟩ := hm
      obtain ⟨_, _, kv2, css, hb2, hk2⟩ := z3
      obtain ⟨rfl, rfl⟩ := box_inj HB4.out hb2
      refine RdM.ok rfl z1 z2 (JM.move (S := fun b => w.heap.size + 1 + 1 + 1 ≤ b) (w := w4) (fun b _ hS => ⟨show w.heap.size ≤ b from by omega, setRow_other _ _ _ _ (by omega)⟩) _ _ _ ?_)
      exact ⟨_, _, _, rfl, str_none, srow_nil (fun b => w.heap.size + 1 + 1 + 1 ≤ b) _, hk2.krow _ (fun b hb => hb), ⟨(by decide : (-9223372036854775808 : Int) ≤ 4), (by decide : (4 : Int) ≤ 9223372036854775807)⟩, ⟨(by decide : (-9223372036854775808 : Int) ≤ 0), (by decide : (0 : Int) ≤ 9223372036854775807)⟩⟩
theorem table35 {m g ar mb : Nat} {OB : Obj} {mv : Value} {kp : List Nat → Rd (J (m + 1))} {l s : List Nat} {w : World} (ha : ar < 6) (hmg : mb ≠ g)
    (hV : ∀ l w, RdAt g (ar + 1) l mv w → w.heap[mb]? = some OB → l.length ≤ 100000 → Calls Tryd.prog 21 #[.pointer (some ⟨g, 0, none⟩)] w (RdR g (ar + 1) mv w (gapR (kp l))))
    (hkp : ∀ l k r, kp l = .ok (k, r) → r.length < l.length) (hgk : GapK kp)
    (h : RdAt g ar l mv w) (hmb : w.heap[mb]? = some OB) (hl : l.length ≤ 100000) (hbe : litP [123] l = some s) :
    Calls Tryd.prog 35 #[.pointer (some ⟨g, 0, none⟩)] w (RdR g ar mv w (n := m + 2) (rdMap (fun p => (⟨5, 0, [], p.1, p.2⟩ : JN (J (m + 1)))) (mapP kp s))) := by
  have hgl := h.lt
  have hml := lt_of_heap hmb
  obtain ⟨w2, hw2⟩ : ∃ w2, w2 = ((w.alloc (.cells #[.pointer (some ⟨g, 0, none⟩)] 65)).alloc (.cells zero5 25)).alloc (.cells zero5 25) := ⟨_, rfl⟩
  obtain ⟨w3, hw3⟩ : ∃ w3, w3 = w2.setRow (w.heap.size + 1 + 1) #[.int .i64 5, .int .i64 0, .string ⟨#[]⟩, .slice none 0 0, .slice none 0 0] := ⟨_, rfl⟩
  have hZ2 : w2.heap[w.heap.size + 1 + 1]? = some (.cells zero5 25 (0, 0)) := by
    rw [hw2]
    have := heap_alloc_new ((w.alloc (.cells #[.pointer (some ⟨g, 0, none⟩)] 65)).alloc (.cells zero5 25)) (.cells zero5 25)
    simpa using this
  have hY2 : w2.heap[w.heap.size + 1]? = some (.cells zero5 25 (0, 0)) := by
    rw [hw2, Lib.alloc_old _ _ _ (by simp)]
    have := heap_alloc_new (w.alloc (.cells #[.pointer (some ⟨g, 0, none⟩)] 65)) (.cells zero5 25)
    simpa using this
  have hX2 : w2.heap[w.heap.size]? = some (.cells #[.pointer (some ⟨g, 0, none⟩)] 65 (0, 0)) := by
    rw [hw2, Lib.alloc_old _ _ _ (by simp; omega), Lib.alloc_old _ _ _ (by simp)]
    exact heap_alloc_new _ _
  have hs2 : w2.heap.size = w.heap.size + 3 := by rw [hw2]; simp
  have hB2 : Below w.heap.size w w2 := by rw [hw2]; exact (((Below.refl _ _).alloc (Nat.le_refl _) _).alloc (by simp) _).alloc (by simp; omega) _
  have hs3 : w3.heap.size = w.heap.size + 3 := by rw [hw3, ← hs2]; simp
  have hB3 : Below w.heap.size w w3 := by rw [hw3]; exact hB2.trans ⟨rfl, rfl, rfl, by simp, fun b hb => setRow_other _ _ _ _ (by omega)⟩
  have hZ3 : BoxJ w3 (w.heap.size + 1 + 1) 5 0 ⟨#[]⟩ (.slice none 0 0) (.slice none 0 0) := by rw [hw3]; exact setRow_heap _ _ _ _ _ _ hZ2
  have hY3 : w3.heap[w.heap.size + 1]? = some (.cells zero5 25 (0, 0)) := by rw [hw3]; exact (setRow_other _ _ _ _ (by omega)).trans hY2
  have hX3 : w3.heap[w.heap.size]? = some (.cells #[.pointer (some ⟨g, 0, none⟩)] 65 (0, 0)) := by rw [hw3]; exact (setRow_other _ _ _ _ (by omega)).trans hX2
  have hR3 := h.new hB3
  have hM3 : w3.heap[mb]? = some OB := (hB3.block mb hml).trans hmb
  have cX : w3.cell? ⟨w.heap.size, 0, none⟩ = some (.pointer (some ⟨g, 0, none⟩)) := (cell_of_row _ _ _ _ _ _ hX3).trans rfl
  have hit := itemsM (μ := (fun p => p.2.length)) (stp := stepM kp) (St := MSt (m + 1) g w.heap.size (w.heap.size + 1 + 1) mb OB) (Er := ErB (w.heap.size + 1 + 1) 5) (bR := w.heap.size) (bV := w.heap.size + 1 + 1) (lo := w.heap.size + 1 + 1) (a0 := ([], [])) ha hbe (by simpa using hl)
    (fun a l a' r e => by exact stepM_mu hkp e) (by omega)
    (fun a u u' ha hF => MSt.keep hmg (by omega) (by omega) ha hF) (ErB.keep (by omega)) (fun a u ha => MSt.box a u ha)
    (fun a l u ha hR hla _ => table51 (by omega) (by omega) (by omega) (by omega) hmg hV hkp ha hR hla) hR3
    (⟨hM3, hX3, _, _, [], hZ3, ⟨rfl, .inl ⟨rfl, rfl⟩⟩, fun x hx => absurd hx (by simp), KidsL.nil _ _ _ _, rfl, fun b e => by cases e⟩)
  rw [wholeS_map] at hit
  obtain ⟨X, hX⟩ : ∃ X, X = mapP kp s := ⟨_, rfl⟩
  rw [← hX] at hit ⊢
  have HIT : Hid _ := hit
  have HB3 : Hid _ := hB3
  have HY3 : Hid (w3.heap[w.heap.size + 1]? = some (.cells zero5 25 (0, 0))) := hY3
  have hmf : ∀ (fn : Fn) (first cap : Array Value) (w : World), (Instr.makeFunc fn first cap).run Tryd.prog w = .ok (.func fn first cap) w := fun _ _ _ _ => rfl
  have HW3 : Hid (w3 = w2.setRow (w.heap.size + 1 + 1) #[.int .i64 5, .int .i64 0, .string ⟨#[]⟩, .slice none 0 0, .slice none 0 0]) := hw3
  rw [hw2] at hZ2
  unfold zero5 at hZ2
  have HW2 : Hid (w2 = ((w.alloc (.cells #[.pointer (some ⟨g, 0, none⟩)] 65)).alloc (.cells #[.int .i64 0, .int .i64 0, .string ⟨#[]⟩, .slice none 0 0, .slice none 0 0] 25)).alloc (.cells #[.int .i64 0, .int .i64 0, .string ⟨#[]⟩, .slice none 0 0, .slice none 0 0] 25)) := hw2
  clear hw3 hw2 hit hX hB2 hB3 hY2 hX2 hY3 hX3 hZ3 hR3 hM3 hV hkp hgk hbe hl h hmb
  go_enter Tryd.func35, Tryd.ntmps35
  go_wp2_with (refine wpList_store_row rfl 25 (.tmp 4) (.tmp 6) rfl (w.heap.size + 1 + 1) #[.int .i64 5, .int .i64 0, .string ⟨#[]⟩, .slice none 0 0, .slice none 0 0] rfl rfl 25 _ hZ2 size25 rfl (one5 _ _ _) ?_; rw [← HW2.out, ← HW3.out])
  refine Calls.mono HIT.out ?_
  rintro e w4 ⟨er, l', rfl, hR4, hF4, hm⟩
  have HM : Hid (ItmM (MSt (m + 1) g w.heap.size (w.heap.size + 1 + 1) mb OB) (ErB (w.heap.size + 1 + 1) 5) er l' X w4) := hm
  have hE : ErB (w.heap.size + 1 + 1) 5 w4 := by
    cases X with
    | error e0 => exact hm.2.2
    | ok q => exact MSt.box _ _ hm.2.2
  obtain ⟨nv, kv, hb4, hn1, hk1⟩ := hE
  have hY4 : w4.heap[w.heap.size + 1]? = some (.cells zero5 25 (0, 0)) := (hF4.2 _ (by omega) (by omega)).trans HY3.out
  have hone : (#[.int .i64 5, .int .i64 0, .string ⟨#[]⟩, nv, kv] : Array Value).all (·.oneCell') = true := by
    have e1 : (Value.int .i64 5).oneCell' = true := rfl
    have e2 : (Value.int .i64 0).oneCell' = true := rfl
    have e3 : (Value.string ⟨#[]⟩).oneCell' = true := rfl
    simp [e1, e2, e3, hn1, hk1]
  have x0 := hb4.cell 0
  have x1 := hb4.cell 1
  have x2 := hb4.cell 2
  have x3 := hb4.cell 3
  have x4 := hb4.cell 4
  have x0 : w4.cell? ⟨w.heap.size + 1 + 1, 0, none⟩ = some (.int .i64 5) := x0
  have x1 : w4.cell? ⟨w.heap.size + 1 + 1, 1, none⟩ = some (.int .i64 0) := x1
  have x2 : w4.cell? ⟨w.heap.size + 1 + 1, 2, none⟩ = some (.string ⟨#[]⟩) := x2
  have x3 : w4.cell? ⟨w.heap.size + 1 + 1, 3, none⟩ = some nv := x3
  have x4 : w4.cell? ⟨w.heap.size + 1 + 1, 4, none⟩ = some kv := x4
  have HB4 : Hid (BoxJ w4 (w.heap.size + 1 + 1) 5 0 ⟨#[]⟩ nv kv) := hb4
  have HR4 : Hid (RdAt g ar l' mv w4) := hR4
  have HF4 : Hid (Fo (w.heap.size + 1 + 1) g w3 w4) := hF4
  have hlt4 := lt_of_heap hb4
  clear hm hb4 hR4 hF4 hn1 hk1 hZ2
  go_wp2_with (refine wpList_store_row rfl 25 (.tmp 2) (.tmp 10) rfl (w.heap.size + 1) #[.int .i64 5, .int .i64 0, .string ⟨#[]⟩, nv, kv] rfl rfl 25 zero5 hY4 size25 rfl hone ?_)
  refine bodyPost_ret (v := .tuple #[.agg #[.int .i64 5, .int .i64 0, .string ⟨#[]⟩, nv, kv], .int .i64 er]) ?_ rfl ⟨_, er, l', rfl, rfl, hone, (fo_fg HB3.out (by omega) (by omega) HF4.out).trans_new (by omega), ⟨HR4.out.1, (setRow_other _ _ _ _ (by omega)).trans HR4.out.2⟩, ?_⟩
  · exact results_cell_tmp Tryd.results35 _ _ _ 25 _ (0, 0) _ _ rfl rfl (setRow_heap _ _ _ _ _ _ hY4) Tryd.underlying25 rfl size25
  · have hm := HM.out
    cases X with
    | error e0 => exact RdM.err rfl (.inl ⟨hm.1, hm.2.1⟩)
    | ok q =>
      obtain ⟨a, q⟩ := q
      obtain ⟨z1, z2, z3⟩ := hm
      obtain ⟨_, _, nv2, kv2, css, hb2, hn2, hd2, hk2, _, _⟩ := z3
      obtain ⟨rfl, rfl⟩ := box_inj HB4.out hb2
      refine RdM.ok rfl z1 z2 (JM.move (S := fun b => w.heap.size + 1 + 1 + 1 ≤ b) (w := w4) (fun b _ hS => ⟨show w.heap.size ≤ b from by omega, setRow_other _ _ _ _ (by omega)⟩) _ _ _ ?_)
      exact ⟨_, _, _, rfl, str_none, own_srow hd2 hn2 (fun b => w.heap.size + 1 + 1 + 1 ≤ b) (fun b e => (World.ownsRow.lt hn2 b e).1), hk2.krow _ (fun b hb => hb), ⟨(by decide : (-9223372036854775808 : Int) ≤ 5), (by decide : (5 : Int) ≤ 9223372036854775807)⟩, ⟨(by decide : (-9223372036854775808 : Int) ≤ 0), (by decide : (0 : Int) ≤ 9223372036854775807)⟩⟩
theorem list34d {n g : Nat} {mv : Value} {l : List Nat} {w : World} (h : RdAt g 6 l mv w) :
    Calls Tryd.prog 34 #[.pointer (some ⟨g, 0, none⟩)] w (RdR g 6 mv w (n := n + 1) (.error 9)) := by
  have hgl := h.lt
  obtain ⟨w2, hw2⟩ : ∃ w2, w2 = ((w.alloc (.cells #[.pointer (some ⟨g, 0, none⟩)] 65)).alloc (.cells zero5 25)).alloc (.cells zero5 25) := ⟨_, rfl⟩
  obtain ⟨w3, hw3⟩ : ∃ w3, w3 = w2.setRow (w.heap.size + 1 + 1) #[.int .i64 4, .int .i64 0, .string ⟨#[]⟩, .slice none 0 0, .slice none 0 0] := ⟨_, rfl⟩
  have hZ2 : w2.heap[w.heap.size + 1 + 1]? = some (.cells zero5 25 (0, 0)) := by
    rw [hw2]
    have := heap_alloc_new ((w.alloc (.cells #[.pointer (some ⟨g, 0, none⟩)] 65)).alloc (.cells zero5 25)) (.cells zero5 25)
    simpa using this
  have hY2 : w2.heap[w.heap.size + 1]? = some (.cells zero5 25 (0, 0)) := by
    rw [hw2, Lib.alloc_old _ _ _ (by simp)]
    have := heap_alloc_new (w.alloc (.cells #[.pointer (some ⟨g, 0, none⟩)] 65)) (.cells zero5 25)
    simpa using this
  have hX2 : w2.heap[w.heap.size]? = some (.cells #[.pointer (some ⟨g, 0, none⟩)] 65 (0, 0)) := by
    rw [hw2, Lib.alloc_old _ _ _ (by simp; omega), Lib.alloc_old _ _ _ (by simp)]
    exact heap_alloc_new _ _
  have hs2 : w2.heap.size = w.heap.size + 3 := by rw [hw2]; simp
  have hB2 : Below w.heap.size w w2 := by rw [hw2]; exact (((Below.refl _ _).alloc (Nat.le_refl _) _).alloc (by simp) _).alloc (by simp; omega) _
  have hs3 : w3.heap.size = w.heap.size + 3 := by rw [hw3, ← hs2]; simp
  have hB3 : Below w.heap.size w w3 := by rw [hw3]; exact hB2.trans ⟨rfl, rfl, rfl, by simp, fun b hb => setRow_other _ _ _ _ (by omega)⟩
  have hZ3 : BoxJ w3 (w.heap.size + 1 + 1) 4 0 ⟨#[]⟩ (.slice none 0 0) (.slice none 0 0) := by rw [hw3]; exact setRow_heap _ _ _ _ _ _ hZ2
  have hY3 : w3.heap[w.heap.size + 1]? = some (.cells zero5 25 (0, 0)) := by rw [hw3]; exact (setRow_other _ _ _ _ (by omega)).trans hY2
  have hX3 : w3.heap[w.heap.size]? = some (.cells #[.pointer (some ⟨g, 0, none⟩)] 65 (0, 0)) := by rw [hw3]; exact (setRow_other _ _ _ _ (by omega)).trans hX2
  have hR3 := h.new hB3
  have cX : w3.cell? ⟨w.heap.size, 0, none⟩ = some (.pointer (some ⟨g, 0, none⟩)) := (cell_of_row _ _ _ _ _ _ hX3).trans rfl
  have hit := items_deep (b1 := .string ⟨#[91]⟩) (b2 := .string ⟨#[93]⟩) (fv := .func (.func 50) #[] #[.pointer (some ⟨w.heap.size, 0, none⟩), .pointer (some ⟨w.heap.size + 1 + 1, 0, none⟩)]) hR3
  have HIT : Hid _ := hit
  have HB3 : Hid _ := hB3
  have HY3 : Hid (w3.heap[w.heap.size + 1]? = some (.cells zero5 25 (0, 0))) := hY3
  have hmf : ∀ (fn : Fn) (first cap : Array Value) (w : World), (Instr.makeFunc fn first cap).run Tryd.prog w = .ok (.func fn first cap) w := fun _ _ _ _ => rfl
  have HW3 : Hid (w3 = w2.setRow (w.heap.size + 1 + 1) #[.int .i64 4, .int .i64 0, .string ⟨#[]⟩, .slice none 0 0, .slice none 0 0]) := hw3
  rw [hw2] at hZ2
  unfold zero5 at hZ2
  have HW2 : Hid (w2 = ((w.alloc (.cells #[.pointer (some ⟨g, 0, none⟩)] 65)).alloc (.cells #[.int .i64 0, .int .i64 0, .string ⟨#[]⟩, .slice none 0 0, .slice none 0 0] 25)).alloc (.cells #[.int .i64 0, .int .i64 0, .string ⟨#[]⟩, .slice none 0 0, .slice none 0 0] 25)) := hw2
  have x0 : w3.cell? ⟨w.heap.size + 1 + 1, 0, none⟩ = some (.int .i64 4) := hZ3.cell 0
  have x1 : w3.cell? ⟨w.heap.size + 1 + 1, 1, none⟩ = some (.int .i64 0) := hZ3.cell 1
  have x2 : w3.cell? ⟨w.heap.size + 1 + 1, 2, none⟩ = some (.string ⟨#[]⟩) := hZ3.cell 2
  have x3 : w3.cell? ⟨w.heap.size + 1 + 1, 3, none⟩ = some (.slice none 0 0) := hZ3.cell 3
  have x4 : w3.cell? ⟨w.heap.size + 1 + 1, 4, none⟩ = some (.slice none 0 0) := hZ3.cell 4
  have HR3 : Hid (RdAt g 6 l mv w3) := hR3
  clear hw3 hw2 hit hB2 hB3 hY2 hX2 hX3 hZ3 hR3 h
  go_enter Tryd.func34, Tryd.ntmps34
  go_wp2_with (refine wpList_store_row rfl 25 (.tmp 4) (.tmp 6) rfl (w.heap.size + 1 + 1) #[.int .i64 4, .int .i64 0, .string ⟨#[]⟩, .slice none 0 0, .slice none 0 0] rfl rfl 25 _ hZ2 size25 rfl (one5 _ _ _) ?_; rw [← HW2.out, ← HW3.out])
  refine Calls.mono HIT.out ?_
  rintro e w4 ⟨rfl, hw4⟩
  rw [hw4]
  clear hw4
  go_wp2_with (refine wpList_store_row rfl 25 (.tmp 2) (.tmp 10) rfl (w.heap.size + 1) #[.int .i64 4, .int .i64 0, .string ⟨#[]⟩, .slice none 0 0, .slice none 0 0] rfl rfl 25 zero5 hY3 size25 rfl (one5 _ _ _) ?_)
  refine bodyPost_ret (v := .tuple #[.agg #[.int .i64 4, .int .i64 0, .string ⟨#[]⟩, .slice none 0 0, .slice none 0 0], .int .i64 9]) ?_ rfl ⟨_, 9, l, rfl, rfl, one5 _ _ _, (Fg.new HB3.out).trans_new (by omega), ⟨HR3.out.1, (setRow_other _ _ _ _ (by omega)).trans HR3.out.2⟩, RdM.err rfl (.inl ⟨rfl, by decide⟩)⟩
  exact results_cell_tmp Tryd.results34 _ _ _ 25 _ (0, 0) _ _ rfl rfl (setRow_heap _ _ _ _ _ _ hY3) Tryd.underlying25 rfl size25
theorem table35d {n g : Nat} {mv : Value} {l : List Nat} {w : World} (h : RdAt g 6 l mv w) :
    Calls Tryd.prog 35 #[.pointer (some ⟨g, 0, none⟩)] w (RdR g 6 mv w (n := n + 1) (.error 9)) := by
  have hgl := h.lt
  obtain ⟨w2, hw2⟩ : ∃ w2, w2 = ((w.alloc (.cells #[.pointer (some ⟨g, 0, none⟩)] 65)).alloc (.cells zero5 25)).alloc (.cells zero5 25) := ⟨_, rfl⟩
  obtain ⟨w3, hw3⟩ : ∃ w3, w3 = w2.setRow (w.heap.size + 1 + 1) #[.int .i64 5, .int .i64 0, .string ⟨#[]⟩, .slice none 0 0, .slice none 0 0] := ⟨_, rfl⟩
  have hZ2 : w2.heap[w.heap.size + 1 + 1]? = some (.cells zero5 25 (0, 0)) := by
    rw [hw2]
    have := heap_alloc_new ((w.alloc (.cells #[.pointer (some ⟨g, 0, none⟩)] 65)).alloc (.cells zero5 25)) (.cells zero5 25)
    simpa using this
  have hY2 : w2.heap[w.heap.size + 1]? = some (.cells zero5 25 (0, 0)) := by
    rw [hw2, Lib.alloc_old _ _ _ (by simp)]
    have := heap_alloc_new (w.alloc (.cells #[.pointer (some ⟨g, 0, none⟩)] 65)) (.cells zero5 25)
    simpa using this
  have hX2 : w2.heap[w.heap.size]? = some (.cells #[.pointer (some ⟨g, 0, none⟩)] 65 (0, 0)) := by
    rw [hw2, Lib.alloc_old _ _ _ (by simp; omega), Lib.alloc_old _ _ _ (by simp)]
    exact heap_alloc_new _ _
  have hs2 : w2.heap.size = w.heap.size + 3 := by rw [hw2]; simp
  have hB2 : Below w.heap.size w w2 := by rw [hw2]; exact (((Below.refl _ _).alloc (Nat.le_refl _) _).alloc (by simp) _).alloc (by simp; omega) _
  have hs3 : w3.heap.size = w.heap.size + 3 := by rw [hw3, ← hs2]; simp
  have hB3 : Below w.heap.size w w3 := by rw [hw3]; exact hB2.trans ⟨rfl, rfl, rfl, by simp, fun b hb => setRow_other _ _ _ _ (by omega)⟩
  have hZ3 : BoxJ w3 (w.heap.size + 1 + 1) 5 0 ⟨#[]⟩ (.slice none 0 0) (.slice none 0 0) := by rw [hw3]; exact setRow_heap _ _ _ _ _ _ hZ2
  have hY3 : w3.heap[w.heap.size + 1]? = some (.cells zero5 25 (0, 0)) := by rw [hw3]; exact (setRow_other _ _ _ _ (by omega)).trans hY2
  have hX3 : w3.heap[w.heap.size]? = some (.cells #[.pointer (some ⟨g, 0, none⟩)] 65 (0, 0)) := by rw [hw3]; exact (setRow_other _ _ _ _ (by omega)).trans hX2
  have hR3 := h.new hB3
  have cX : w3.cell? ⟨w.heap.size, 0, none⟩ = some (.pointer (some ⟨g, 0, none⟩)) := (cell_of_row _ _ _ _ _ _ hX3).trans rfl
  have hit := items_deep (b1 := .string ⟨#[123]⟩) (b2 := .string ⟨#[125]⟩) (fv := .func (.func 51) #[] #[.pointer (some ⟨w.heap.size, 0, none⟩), .pointer (some ⟨w.heap.size + 1 + 1, 0, none⟩)]) hR3
  have HIT : Hid _ := hit
  have HB3 : Hid _ := hB3
  have HY3 : Hid (w3.heap[w.heap.size + 1]? = some (.cells zero5 25 (0, 0))) := hY3
  have hmf : ∀ (fn : Fn) (first cap : Array Value) (w : World), (Instr.makeFunc fn first cap).run Tryd.prog w = .ok (.func fn first cap) w := fun _ _ _ _ => rfl
  have HW3 : Hid (w3 = w2.setRow (w.heap.size + 1 + 1) #[.int .i64 5, .int .i64 0, .string ⟨#[]⟩, .slice none 0 0, .slice none 0 0]) := hw3
  rw [hw2] at hZ2
  unfold zero5 at hZ2
  have HW2 : Hid (w2 = ((w.alloc (.cells #[.pointer (some ⟨g, 0, none⟩)] 65)).alloc (.cells #[.int .i64 0, .int .i64 0, .string ⟨#[]⟩, .slice none 0 0, .slice none 0 0] 25)).alloc (.cells #[.int .i64 0, .int .i64 0, .string ⟨#[]⟩, .slice none 0 0, .slice none 0 0] 25)) := hw2
  have x0 : w3.cell? ⟨w.heap.size + 1 + 1, 0, none⟩ = some (.int .i64 5) := hZ3.cell 0
  have x1 : w3.cell? ⟨w.heap.size + 1 + 1, 1, none⟩ = some (.int .i64 0) := hZ3.cell 1
  have x2 : w3.cell? ⟨w.heap.size + 1 + 1, 2, none⟩ = some (.string ⟨#[]⟩) := hZ3.cell 2
  have x3 : w3.cell? ⟨w.heap.size + 1 + 1, 3, none⟩ = some (.slice none 0 0) := hZ3.cell 3
  have x4 : w3.cell? ⟨w.heap.size + 1 + 1, 4, none⟩ = some (.slice none 0 0) := hZ3.cell 4
  have HR3 : Hid (RdAt g 6 l mv w3) := hR3
  clear hw3 hw2 hit hB2 hB3 hY2 hX2 hX3 hZ3 hR3 h
  go_enter Tryd.func35, Tryd.ntmps35
  go_wp2_with (refine wpList_store_row rfl 25 (.tmp 4) (.tmp 6) rfl (w.heap.size + 1 + 1) #[.int .i64 5, .int .i64 0, .string ⟨#[]⟩, .slice none 0 0, .slice none 0 0] rfl rfl 25 _ hZ2 size25 rfl (one5 _ _ _) ?_; rw [← HW2.out, ← HW3.out])
  refine Calls.mono HIT.out ?_
  rintro e w4 ⟨rfl, hw4⟩
  rw [hw4]
  clear hw4
  go_wp2_with (refine wpList_store_row rfl 25 (.tmp 2) (.tmp 10) rfl (w.heap.size + 1) #[.int .i64 5, .int .i64 0, .string ⟨#[]⟩, .slice none 0 0, .slice none 0 0] rfl rfl 25 zero5 hY3 size25 rfl (one5 _ _ _) ?_)
  refine bodyPost_ret (v := .tuple #[.agg #[.int .i64 5, .int .i64 0, .string ⟨#[]⟩, .slice none 0 0, .slice none 0 0], .int .i64 9]) ?_ rfl ⟨_, 9, l, rfl, rfl, one5 _ _ _, (Fg.new HB3.out).trans_new (by omega), ⟨HR3.out.1, (setRow_other _ _ _ _ (by omega)).trans HR3.out.2⟩, RdM.err rfl (.inl ⟨rfl, by decide⟩)⟩
  exact results_cell_tmp Tryd.results35 _ _ _ 25 _ (0, 0) _ _ rfl rfl (setRow_heap _ _ _ _ _ _ hY3) Tryd.underlying25 rfl size25
end Go.Proofs.YtljgnpneeecafaaDoor
set_option linter.unusedVariables false
set_option linter.unusedSimpArgs false
namespace Go.Proofs.YtljgnpneeecafaaDoor
open Go.RowKit Go.Sort Go.BigFrame
set_option maxRecDepth 100000
set_option maxHeartbeats 4000000
/-- What reads a value, by its first byte. -/
def begL : List (Int × Nat) := [(110, 29), (116, 30), (102, 31), (45, 32), (48, 32), (49, 32), (50, 32), (51, 32), (52, 32), (53, 32), (54, 32), (55, 32), (56, 32), (57, 32), (34, 33), (91, 34), (123, 35)]
def fnV (f : Nat) : Value := .func (.func f) #[] #[]
def EsB (L : List (Int × Nat)) (es : Array MapEntry) : Prop := es.toList.map (fun e => (e.key, e.val)) = L.map fun p => (Value.int .u8 p.1, fnV p.2)
theorem findNow_es (k : Int) : ∀ (l : List MapEntry) (L : List (Int × Nat)) (i : Nat), l.map (fun e => (e.key, e.val)) = L.map (fun p => (Value.int .u8 p.1, fnV p.2)) →
    match L.find? (fun p => k == p.1) with
    | none => Instr.findNow (.int .u8) (.int .u8 k) l i = some none
    | some p => ∃ j, Instr.findNow (.int .u8) (.int .u8 k) l i = some (some (j, fnV p.2))
  | [], [], i, _ => rfl
  | [], _ :: _, i, h => by simp at h
  | _ :: _, [], i, h => by simp at h
  | e :: l, p :: L, i, h => by
    simp only [List.map_cons, List.cons.injEq, Prod.mk.injEq] at h
    obtain ⟨⟨h1, h2⟩, h3⟩ := h
    have ih := findNow_es k l L (i + 1) h3
    rw [List.find?_cons]
    unfold Instr.findNow
    rw [h1]
    simp only [Instr.sameNow, if_true]
    cases hk : k == p.1 with
    | true => exact ⟨i, by simp [h2]⟩
    | false => exact ih
theorem run_ins {w : World} {r : Nat} {es : Array MapEntry} {c : Nat} {k : Int} {v : Value} (hr : w.heap[r]? = some (.map es c)) (hk : Instr.findNow (.int .u8) (.int .u8 k) es.toList 0 = some none) :
    (Instr.mapUpdate 53 (.map (some r)) (.int .u8 k) v).run Tryd.prog w = .ok () { w with heap := w.heap.setIfInBounds r (.map (es.push ⟨.int .u8 k, v, c⟩) (c + 1)) } := by
  have hg : (getObj r).run Tryd.prog w = .ok (.map es c) w := by simp [getObj, Sem.run, hr]
  have hc : ∀ b, (Instr.checkKey b 10000 5 (.int .u8 k)).run Tryd.prog w = .ok () w := fun b => Go.MapKept.run_checkKey (n := 9999) Tryd.underlying5 (by rfl) b
  have hu : (underlying 5).run Tryd.prog w = .ok (.int .u8) w := run_underlying Tryd.underlying5 w
  have hs : ∀ o, (setObj r o).run Tryd.prog w = .ok () { w with heap := w.heap.setIfInBounds r o } := fun o => by simp [setObj, Sem.run, hr]
  simp [Instr.mapUpdate, Instr.findKey, go_sem, hk, hg, hs, hc, hu]
theorem run_look {w : World} {r : Nat} {es : Array MapEntry} {c : Nat} {k : Int} (hr : w.heap[r]? = some (.map es c)) {f : Nat} {j : Nat} (hk : Instr.findNow (.int .u8) (.int .u8 k) es.toList 0 = some (some (j, fnV f))) :
    (Instr.lookup 53 (.map (some r)) (.int .u8 k) true).run Tryd.prog w = .ok (.tuple #[fnV f, .bool true]) w := by
  have hg : (getObj r).run Tryd.prog w = .ok (.map es c) w := by simp [getObj, Sem.run, hr]
  have hc : ∀ b, (Instr.checkKey b 10000 5 (.int .u8 k)).run Tryd.prog w = .ok () w := fun b => Go.MapKept.run_checkKey (n := 9999) Tryd.underlying5 (by rfl) b
  have hu : (underlying 5).run Tryd.prog w = .ok (.int .u8) w := run_underlying Tryd.underlying5 w
  simp [Instr.lookup, Instr.findKey, go_sem, hk, hg, hc, hu]
theorem run_look_no {w : World} {r : Nat} {es : Array MapEntry} {c : Nat} {k : Int} (hr : w.heap[r]? = some (.map es c)) (hk : Instr.findNow (.int .u8) (.int .u8 k) es.toList 0 = some none) :
    (Instr.lookup 53 (.map (some r)) (.int .u8 k) true).run Tryd.prog w = .ok (.tuple #[.nilFunc, .bool false]) w := by
  have hg : (getObj r).run Tryd.prog w = .ok (.map es c) w := by simp [getObj, Sem.run, hr]
  have hc : ∀ b, (Instr.checkKey b 10000 5 (.int .u8 k)).run Tryd.prog w = .ok () w := fun b => Go.MapKept.run_checkKey (n := 9999) Tryd.underlying5 (by rfl) b
  have hu : (underlying 5).run Tryd.prog w = .ok (.int .u8) w := run_underlying Tryd.underlying5 w
  simp [Instr.lookup, Instr.findKey, go_sem, hk, hg, hc, hu]
/-- A map so far. -/
def MapS (r : Nat) (L : List (Int × Nat)) (w0 w : World) : Prop := Below w0.heap.size w0 w ∧ w0.heap.size ≤ r ∧ ∃ es c, w.heap[r]? = some (.map es c) ∧ EsB L es
theorem wpList_insS {ops : Array Oper} {rest : List Oper} {o : Oper} {a : Act} {Q : Exit → Act → World → Prop} {w0 w : World} (hgd : o.guard = none) (m x y : Operand) (ho : o.op = .insert 53 m x y) {r : Nat} {L : List (Int × Nat)} {k : Int} {f : Nat}
    (hm : a.eval m = .map (some r)) (hx : a.eval x = .int .u8 k) (hy : a.eval y = fnV f) (hS : MapS r L w0 w) (hn : L.find? (fun p => k == p.1) = none) (h : ∀ w', MapS r (L ++ [(k, f)]) w0 w' → wpList Tryd.prog ops Q rest (a.put o.dst undef) w') : wpList Tryd.prog ops Q (o :: rest) a w := by
  obtain ⟨hb, hle, es, c, hr, hE⟩ := hS
  have hf := findNow_es k es.toList L 0 hE
  rw [hn] at hf
  have hi := run_ins (v := fnV f) hr hf
  refine wpList_plain hgd fun K hK => ?_
  unfold Oper.wp execOp
  simp only [ho, hm, hx, hy, Sem.run_bind, hi, Result.andThen_ok, Sem.run_pure]
  refine hK _ _ (h _ ⟨⟨hb.1, hb.2, hb.3, by simpa using hb.size, fun j hj => ?_⟩, hle, _, _, (Go.MapKept.heap_set hr).1, ?_⟩)
  · exact ((Go.MapKept.heap_set hr).2 j (by omega)).trans (hb.block j hj)
  · unfold EsB at hE ⊢
    rw [Array.toList_push, List.map_append, List.map_append, hE]
    rfl
theorem begins20 (w : World) : Calls Tryd.prog 20 #[] w fun e w' => e = .returned (.map (some w.heap.size)) ∧ MapS w.heap.size begL w w' := by
  have hmm := @run_makeMap Tryd.prog
  have hS0 : MapS w.heap.size [] w (w.alloc (.map #[] 0)) := ⟨below1 _ _, Nat.le_refl _, #[], 0, heap_alloc_new _ _, rfl⟩
  have HS0 : Hid _ := hS0
  clear hS0
  go_enter Tryd.func20, Tryd.ntmps20
  go_wp2_with (refine wpList_insS (k := 110) (f := 29) rfl (.tmp 1) (.const (.int .u8 110)) (.func 29) rfl rfl rfl rfl HS0.out (by decide) ?_)
  intro w1 hS1
  refine wpList_insS (k := 116) (f := 30) rfl (.tmp 1) (.const (.int .u8 116)) (.func 30) rfl rfl rfl rfl hS1 (by decide) ?_
  intro w2 hS2
  clear hS1
  refine wpList_insS (k := 102) (f := 31) rfl (.tmp 1) (.const (.int .u8 102)) (.func 31) rfl rfl rfl rfl hS2 (by decide) ?_
  intro w3 hS3
  clear hS2
  refine wpList_insS (k := 45) (f := 32) rfl (.tmp 1) (.const (.int .u8 45)) (.func 32) rfl rfl rfl rfl hS3 (by decide) ?_
  intro w4 hS4
  clear hS3
  refine wpList_insS (k := 48) (f := 32) rfl (.tmp 1) (.const (.int .u8 48)) (.func 32) rfl rfl rfl rfl hS4 (by decide) ?_
  intro w5 hS5
  clear hS4
  refine wpList_insS (k := 49) (f := 32) rfl (.tmp 1) (.const (.int .u8 49)) (.func 32) rfl rfl rfl rfl hS5 (by decide) ?_
  intro w6 hS6
  clear hS5
  refine wpList_insS (k := 50) (f := 32) rfl (.tmp 1) (.const (.int .u8 50)) (.func 32) rfl rfl rfl rfl hS6 (by decide) ?_
  intro w7 hS7
  clear hS6
  refine wpList_insS (k := 51) (f := 32) rfl (.tmp 1) (.const (.int .u8 51)) (.func 32) rfl rfl rfl rfl hS7 (by decide) ?_
  intro w8 hS8
  clear hS7
  refine wpList_insS (k := 52) (f := 32) rfl (.tmp 1) (.const (.int .u8 52)) (.func 32) rfl rfl rfl rfl hS8 (by decide) ?_
  intro w9 hS9
  clear hS8
  refine wpList_insS (k := 53) (f := 32) rfl (.tmp 1) (.const (.int .u8 53)) (.func 32) rfl rfl rfl rfl hS9 (by decide) ?_
  intro w10 hS10
  clear hS9
  refine wpList_insS (k := 54) (f := 32) rfl (.tmp 1) (.const (.int .u8 54)) (.func 32) rfl rfl rfl rfl hS10 (by decide) ?_
  intro w11 hS11
  clear hS10
  refine wpList_insS (k := 55) (f := 32) rfl (.tmp 1) (.const (.int .u8 55)) (.func 32) rfl rfl rfl rfl hS11 (by decide) ?_
  intro w12 hS12
  clear hS11
  refine wpList_insS (k := 56) (f := 32) rfl (.tmp 1) (.const (.int .u8 56)) (.func 32) rfl rfl rfl rfl hS12 (by decide) ?_
  intro w13 hS13
  clear hS12
  refine wpList_insS (k := 57) (f := 32) rfl (.tmp 1) (.const (.int .u8 57)) (.func 32) rfl rfl rfl rfl hS13 (by decide) ?_
  intro w14 hS14
  clear hS13
  refine wpList_insS (k := 34) (f := 33) rfl (.tmp 1) (.const (.int .u8 34)) (.func 33) rfl rfl rfl rfl hS14 (by decide) ?_
  intro w15 hS15
  clear hS14
  refine wpList_insS (k := 91) (f := 34) rfl (.tmp 1) (.const (.int .u8 91)) (.func 34) rfl rfl rfl rfl hS15 (by decide) ?_
  intro w16 hS16
  clear hS15
  refine wpList_insS (k := 123) (f := 35) rfl (.tmp 1) (.const (.int .u8 123)) (.func 35) rfl rfl rfl rfl hS16 (by decide) ?_
  intro w17 hS17
  clear hS16
  have HS : Hid (MapS w.heap.size begL w w17) := hS17
  clear hS17
  go_wp2
  go_ret
  exact ⟨rfl, HS.out⟩
theorem RdAt.c2 {g ar : Nat} {l : List Nat} {mv : Value} {w : World} (h : RdAt g ar l mv w) : w.cell? ⟨g, 2, none⟩ = some mv := (cell_of_row _ _ _ _ _ _ h.2).trans rfl
section
variable {o : Oper} {ρ : Operand → Value} {x y : Operand} {w : World}
theorem nilC {g k : Nat} (ho : o.op = .nilCheck x) (hx : ρ x = .pointer (some ⟨g, k, none⟩)) : (execOp ρ o).run Tryd.prog w = .ok (.value (.pointer (some ⟨g, k, none⟩))) w := by
  simp [execOp, ho, hx, go_sem]
theorem fa56 (g : Nat) (ho : o.op = .fieldAddr 56 x 2) (hx : ρ x = .pointer (some ⟨g, 0, none⟩)) : (execOp ρ o).run Tryd.prog w = .ok (.value (.pointer (some ⟨g, 2, none⟩))) w := by
  simp only [execOp, ho, hx]
  kernel_rfl
theorem ldM {p : Addr} {v : Value} (ho : o.op = .load 53 x) (hx : ρ x = .pointer (some p)) (hc : w.cell? p = some v) : (execOp ρ o).run Tryd.prog w = .ok (.value v) w := by
  simp [execOp, ho, hx, go_sem, hc, Instr.loadAt, Instr.sureAddr]
theorem lkM {m k v : Value} (ho : o.op = .lookup 53 x y true) (hx : ρ x = m) (hy : ρ y = k) (h : (Instr.lookup 53 m k true).run Tryd.prog w = .ok v w) : (execOp ρ o).run Tryd.prog w = .ok (.value v) w := by
  simp [execOp, ho, hx, hy, h]
theorem exK {a b : Value} (ho : o.op = .extract x 0) (hx : ρ x = .tuple #[a, b]) : (execOp ρ o).run Tryd.prog w = .ok (.value a) w := by
  simp [execOp, ho, hx, go_sem]
theorem exK1 {a b : Value} (ho : o.op = .extract x 1) (hx : ρ x = .tuple #[a, b]) : (execOp ρ o).run Tryd.prog w = .ok (.value b) w := by
  simp [execOp, ho, hx, go_sem]
end
end Go.Proofs.YtljgnpneeecafaaDoor
set_option linter.unusedVariables false
set_option linter.unusedSimpArgs false
namespace Go.Proofs.YtljgnpneeecafaaDoor
open Go.RowKit Go.Sort Go.BigFrame
set_option maxRecDepth 100000
set_option maxHeartbeats 4000000
theorem gap_digit {c : Nat} {t : List Nat} (h : isD c = true) : gapL (c :: t) = c :: t := by
  refine gapL_of ?_
  simp only [isD, blankB, Bool.and_eq_true, decide_eq_true_eq] at h ⊢
  have h1 : c ≠ 32 := by omega
  have h2 : c ≠ 9 := by omega
  have h3 : c ≠ 10 := by omega
  have h4 : c ≠ 13 := by omega
  simp [h1, h2, h3, h4]
theorem value_yes {n g ar mb b f : Nat} {OB : Obj} {es : Array MapEntry} {c : Nat} {l : List Nat} {w : World} {x : Rd (J (n + 1))} (hOB : OB = .map es c) (hE : EsB begL es) (h : RdAt g ar l (.map (some mb)) w) (hmb : w.heap[mb]? = some OB) (hmg : mb ≠ g)
    (hb : (gapL l).headD 0 = b) (hfind : ∃ q, begL.find? (fun p => (b : Int) == p.1) = some (q, f))
    (hcf : ∀ args w, (callFunc f args).run Tryd.prog w = .ok (.enter f args) w) (hf : ∀ w1, RdAt g ar (gapL l) (.map (some mb)) w1 → w1.heap[mb]? = some OB → Calls Tryd.prog f #[.pointer (some ⟨g, 0, none⟩)] w1 (RdR g ar (.map (some mb)) w1 x)) :
    Calls Tryd.prog 21 #[.pointer (some ⟨g, 0, none⟩)] w (RdR g ar (.map (some mb)) w (gapR x)) := by
  obtain ⟨w1, hw1⟩ : ∃ w1, w1 = w.alloc (.cells zero5 25) := ⟨_, rfl⟩
  have hB1 : Below w.heap.size w w1 := by rw [hw1]; exact below1 _ _
  have hZ1 : w1.heap[w.heap.size]? = some (.cells zero5 25 (0, 0)) := by rw [hw1]; exact heap_alloc_new _ _
  have hR1 := h.new hB1
  have hM1 : w1.heap[mb]? = some OB := block_below hB1 (lt_of_heap hmb) hmb
  have hgl := h.lt
  have hbl := blanks36 hR1
  rw [hw1] at hbl
  unfold zero5 at hbl
  have HF : Hid _ := hf
  have HW1 : Hid (w1 = w.alloc (.cells zero5 25)) := hw1
  have HB1 : Hid (Below w.heap.size w w1) := hB1
  clear hf hw1 hR1 h hmb hB1
  go_enter Tryd.func21, Tryd.ntmps21
  go_wp2_with fail
  refine hbl.mono ?_
  rintro e w2 ⟨rfl, hR2, hF2⟩
  have hF2 : Fg g w1 w2 := by rw [HW1.out]; exact hF2
  have hZ2 := hF2.block hZ1 (by omega)
  have hM2 := hF2.block hM1 hmg
  have hnx := next37 hR2
  rw [hb] at hnx
  obtain ⟨q, hfind⟩ := hfind
  obtain ⟨j, hfn⟩ : ∃ j, Instr.findNow (.int .u8) (.int .u8 (b : Int)) es.toList 0 = some (some (j, fnV f)) := by
    have := findNow_es (b : Int) es.toList begL 0 hE
    rw [hfind] at this
    exact this
  have c2 := hR2.c2
  have HF2 : Hid (Fg g w1 w2) := hF2
  have HR2 : Hid (RdAt g ar (gapL l) (.map (some mb)) w2) := hR2
  have HZ2 : Hid (w2.heap[w.heap.size]? = some (.cells zero5 25 (0, 0))) := hZ2
  have HM2 : Hid (w2.heap[mb]? = some OB) := hM2
  have hlt := hR2.lt
  have hltm := lt_of_heap hM2
  clear hbl hZ1 hM1 hF2 hZ2
  go_wp2_with fail
  refine wp_region_invG 12 (specs [Is (.pointer (some ⟨g, 0, none⟩)), Is (.pointer (some ⟨g, 0, none⟩)), Is (.pointer (some ⟨g, 2, none⟩)), Is (.map (some mb)), Is (.pointer (some ⟨g, 0, none⟩)), Is (.int .u8 (b : Int)), Is (.tuple #[fnV f, .bool true]), Is (.tuple #[fnV f, .bool true]), Is (fnV f), Is (.bool true), Is (fnV f), Is (.bool true)])
    (by kernel_rfl) (specs_stb ⟨Is.stb _, Is.stb _, Is.stb _, Is.stb _, Is.stb _, Is.stb _, Is.stb _, Is.stb _, Is.stb _, Is.stb _, Is.stb _, Is.stb _, trivial⟩) (by kernel_rfl) ?_ ?_
  · refine ⟨fun a w' hB hfr hdep => Step.plain rfl (dMove (R := Is _) rfl (hfr 0 (by kernel_rfl))),
      fun a w' hB hfr hdep => Step.plain rfl (Does.run _ (nilC rfl (hdep 0 11 (by kernel_rfl))) rfl),
      fun a w' hB hfr hdep => Step.plain rfl (Does.run _ (fa56 g rfl (hdep 1 12 (by kernel_rfl))) rfl),
      fun a w' hB hfr hdep => Step.plain rfl (Does.run _ (ldM rfl (hdep 2 13 (by kernel_rfl)) ((hB.cell (p := ⟨g, 2, none⟩) hlt).trans c2)) rfl),
      fun a w' hB hfr hdep => Step.plain rfl (dMove (R := Is _) rfl (hfr 0 (by kernel_rfl))),
      fun a w' hB hfr hdep => Step.plain rfl (Does.call 37 #[a.eval (.tmp 15)] (by kernel_rfl) (by
        rw [show a.eval (.tmp 15) = _ from hdep 4 15 (by kernel_rfl)]
        have hn' := next37 (HR2.out.new hB)
        rw [hb] at hn'
        exact hn'.mono fun e w'' ⟨e1, e2⟩ => ⟨_, e1, by rw [e2]; exact Below.refl _ _, rfl⟩)),
      fun a w' hB hfr hdep => Step.plain rfl (Does.run _ (lkM rfl (hdep 3 14 (by kernel_rfl)) (hdep 5 16 (by kernel_rfl)) (run_look (by rw [← hOB]; exact block_below hB hltm HM2.out) hfn)) rfl),
      fun a w' hB hfr hdep => Step.plain rfl (dMove (R := Is _) rfl (hdep 6 17 (by kernel_rfl))),
      fun a w' hB hfr hdep => Step.plain rfl (Does.run _ (exK rfl (hdep 7 10 (by kernel_rfl))) rfl),
      fun a w' hB hfr hdep => Step.plain rfl (Does.run _ (exK1 rfl (hdep 7 10 (by kernel_rfl))) rfl),
      fun a w' hB hfr hdep => Step.plain rfl (dAssign (R := Is _) rfl (hdep 8 18 (by kernel_rfl))),
      fun a w' hB hfr hdep => Step.plain rfl (dAssign (R := Is _) rfl (hdep 9 19 (by kernel_rfl))), trivial⟩
  intro u hu
  simp only [List.take, List.drop, FinAll, Act.put, List.setIfInBounds_toArray, List.set_cons_succ, List.set_cons_zero]
  rintro _ rfl _ rfl _ rfl _ rfl _ rfl _ rfl _ rfl _ rfl _ rfl _ rfl _ rfl _ rfl
  refine wpAny_done (by kernel_rfl) ?_ _
  have hRu := HR2.out.new hu
  have hMu : u.heap[mb]? = some OB := block_below hu hltm HM2.out
  have hZu : u.heap[w.heap.size]? = some (.cells zero5 25 (0, 0)) := block_below hu (lt_of_heap HZ2.out) HZ2.out
  have hv := HF.out u hRu hMu
  have HU : Hid (Below w2.heap.size w2 u) := hu
  have HZU : Hid _ := hZu
  clear hu hnx c2 hRu hMu hfn hZu hM2 hR2
  unfold fnV
  go_wp2_with fail
  refine hv.mono ?_
  rintro e w3 ⟨cs, er, l', rfl, h5, hone, hF3, hR3, hm3⟩
  obtain ⟨d0, d1, d2, d3, d4, rfl⟩ := arr5 h5
  have hZ3 := heap_alloc_new w3 (.cells zero5 25)
  unfold zero5 at hZ3
  clear hv h5
  go_wp2_with (refine wpList_store_row rfl 25 (.tmp 6) (.tmp 27) rfl w3.heap.size #[d0, d1, d2, d3, d4] rfl rfl 25 _ hZ3 size25 rfl hone ?_)
  obtain ⟨w4, hw4⟩ : ∃ w4, w4 = (w3.alloc (.cells #[.int .i64 0, .int .i64 0, .string ⟨#[]⟩, .slice none 0 0, .slice none 0 0] 25)).setRow w3.heap.size #[d0, d1, d2, d3, d4] := ⟨_, rfl⟩
  rw [← hw4]
  have hB4 : Below w3.heap.size w3 w4 := by rw [hw4]; exact (below1 _ _).trans ⟨rfl, rfl, rfl, by simp, fun b hb => setRow_other _ _ _ _ (by omega)⟩
  have hX4 : w4.heap[w3.heap.size]? = some (.cells #[d0, d1, d2, d3, d4] 25 (0, 0)) := by rw [hw4]; exact setRow_heap _ _ _ _ _ _ hZ3
  have hlt3 := hR3.lt
  have hs1 := HB1.out.size
  have hs2 := HF2.out.size
  have hsu := HU.out.size
  have hs3 := hF3.size
  have hltz := lt_of_heap HZU.out
  have hbl := blanks36 (hR3.new hB4)
  have HF3 : Hid (Fg g u w3) := hF3
  have HM3 : Hid (RdM u #[d0, d1, d2, d3, d4] er l' x w3) := hm3
  have HB4 : Hid (Below w3.heap.size w3 w4) := hB4
  have hZ4 : w4.heap[w.heap.size]? = some (.cells zero5 25 (0, 0)) := (hB4.block _ (by have := lt_of_heap (hF3.block HZU.out (by omega)); exact this)).trans (hF3.block HZU.out (by omega))
  clear hw4 hZ3 hF3 hm3 hR3 hB4 hF2
  refine hbl.mono ?_
  rintro e w5 ⟨rfl, hR5, hF5⟩
  have hX5 := hF5.block hX4 (by omega)
  have hZ5 := hF5.block hZ4 (by omega)
  have x0 : w5.cell? ⟨w3.heap.size, 0, none⟩ = some d0 := (cell_of_row _ _ _ _ _ _ hX5).trans rfl
  have x1 : w5.cell? ⟨w3.heap.size, 1, none⟩ = some d1 := (cell_of_row _ _ _ _ _ _ hX5).trans rfl
  have x2 : w5.cell? ⟨w3.heap.size, 2, none⟩ = some d2 := (cell_of_row _ _ _ _ _ _ hX5).trans rfl
  have x3 : w5.cell? ⟨w3.heap.size, 3, none⟩ = some d3 := (cell_of_row _ _ _ _ _ _ hX5).trans rfl
  have x4 : w5.cell? ⟨w3.heap.size, 4, none⟩ = some d4 := (cell_of_row _ _ _ _ _ _ hX5).trans rfl
  have HR5 : Hid (RdAt g ar (gapL l') (.map (some mb)) w5) := hR5
  have HF5 : Hid (Fg g w4 w5) := hF5
  clear hbl hX4 hZ4 hX5 hR5 hF5
  go_wp2_with (refine wpList_store_row rfl 25 (.tmp 2) (.tmp 31) rfl w.heap.size #[d0, d1, d2, d3, d4] rfl rfl 25 zero5 hZ5 size25 rfl hone ?_)
  have hFA := ((((Fg.new (g := g) HB1.out).trans HF2.out).trans (Fg.new HU.out)).trans HF3.out).trans (Fg.new HB4.out)
  have hs4 := HB4.out.size
  refine bodyPost_ret (v := .tuple #[.agg #[d0, d1, d2, d3, d4], .int .i64 er]) ?_ rfl ⟨_, er, gapL l', rfl, rfl, hone, (hFA.trans HF5.out).trans_new (Nat.le_refl _), ⟨HR5.out.1, (setRow_other _ _ _ _ (by omega)).trans HR5.out.2⟩, ?_⟩
  · exact results_cell_tmp Tryd.results21 _ _ _ 25 _ (0, 0) _ _ rfl rfl (setRow_heap _ _ _ _ _ _ hZ5) Tryd.underlying25 rfl size25
  · have hm := HM3.out
    cases x with
    | error e0 =>
      rcases hm with ⟨h1, h2⟩ | ⟨h1, h2, c', t', rfl, h3⟩
      · exact RdM.err rfl (.inl ⟨h1, h2⟩)
      · exact RdM.err rfl (.inr ⟨h1, h2, c', t', gap_digit h3, h3⟩)
    | ok q =>
      obtain ⟨j', r⟩ := q
      obtain ⟨z1, z2, z3⟩ := hm
      refine RdM.ok rfl z1 (by rw [z2]) (JM.move (S := fun b => u.heap.size ≤ b) (w := w3) (fun b hb hS => ⟨show w.heap.size ≤ b from by omega, ?_⟩) _ _ _ z3)
      exact (setRow_other _ _ _ _ (by omega)).trans ((HF5.out.2 b (by omega) (by omega)).trans (HB4.out.block b hb))
theorem value_no {n g ar mb b : Nat} {OB : Obj} {es : Array MapEntry} {c : Nat} {l : List Nat} {w : World} (hOB : OB = .map es c) (hE : EsB begL es) (h : RdAt g ar l (.map (some mb)) w) (hmb : w.heap[mb]? = some OB) (hmg : mb ≠ g)
    (hb : (gapL l).headD 0 = b) (hfind : begL.find? (fun p => (b : Int) == p.1) = none) :
    Calls Tryd.prog 21 #[.pointer (some ⟨g, 0, none⟩)] w (RdR g ar (.map (some mb)) w (n := n + 1) (.error 13)) := by
  obtain ⟨w1, hw1⟩ : ∃ w1, w1 = w.alloc (.cells zero5 25) := ⟨_, rfl⟩
  have hB1 : Below w.heap.size w w1 := by rw [hw1]; exact below1 _ _
  have hZ1 : w1.heap[w.heap.size]? = some (.cells zero5 25 (0, 0)) := by rw [hw1]; exact heap_alloc_new _ _
  have hR1 := h.new hB1
  have hM1 : w1.heap[mb]? = some OB := block_below hB1 (lt_of_heap hmb) hmb
  have hgl := h.lt
  have hbl := blanks36 hR1
  rw [hw1] at hbl
  unfold zero5 at hbl
  have HW1 : Hid (w1 = w.alloc (.cells zero5 25)) := hw1
  have HB1 : Hid (Below w.heap.size w w1) := hB1
  clear hw1 hR1 h hmb hB1
  go_enter Tryd.func21, Tryd.ntmps21
  go_wp2_with fail
  refine hbl.mono ?_
  rintro e w2 ⟨rfl, hR2, hF2⟩
  have hF2 : Fg g w1 w2 := by rw [HW1.out]; exact hF2
  have hZ2 := hF2.block hZ1 (by omega)
  have hM2 := hF2.block hM1 hmg
  have hnx := next37 hR2
  rw [hb] at hnx
  have hfn : Instr.findNow (.int .u8) (.int .u8 (b : Int)) es.toList 0 = some none := by
    have := findNow_es (b : Int) es.toList begL 0 hE
    rw [hfind] at this
    exact this
  have c2 := hR2.c2
  have HF2 : Hid (Fg g w1 w2) := hF2
  have HR2 : Hid (RdAt g ar (gapL l) (.map (some mb)) w2) := hR2
  have HZ2 : Hid (w2.heap[w.heap.size]? = some (.cells zero5 25 (0, 0))) := hZ2
  have HM2 : Hid (w2.heap[mb]? = some OB) := hM2
  have hlt := hR2.lt
  have hltm := lt_of_heap hM2
  clear hbl hZ1 hM1 hF2 hZ2
  go_wp2_with fail
  refine wp_region_invG 12 (specs [Is (.pointer (some ⟨g, 0, none⟩)), Is (.pointer (some ⟨g, 0, none⟩)), Is (.pointer (some ⟨g, 2, none⟩)), Is (.map (some mb)), Is (.pointer (some ⟨g, 0, none⟩)), Is (.int .u8 (b : Int)), Is (.tuple #[Value.nilFunc, .bool false]), Is (.tuple #[Value.nilFunc, .bool false]), Is .nilFunc, Is (.bool false), Is .nilFunc, Is (.bool false)])
    (by kernel_rfl) (specs_stb ⟨Is.stb _, Is.stb _, Is.stb _, Is.stb _, Is.stb _, Is.stb _, Is.stb _, Is.stb _, Is.stb _, Is.stb _, Is.stb _, Is.stb _, trivial⟩) (by kernel_rfl) ?_ ?_
  · refine ⟨fun a w' hB hfr hdep => Step.plain rfl (dMove (R := Is _) rfl (hfr 0 (by kernel_rfl))),
      fun a w' hB hfr hdep => Step.plain rfl (Does.run _ (nilC rfl (hdep 0 11 (by kernel_rfl))) rfl),
      fun a w' hB hfr hdep => Step.plain rfl (Does.run _ (fa56 g rfl (hdep 1 12 (by kernel_rfl))) rfl),
      fun a w' hB hfr hdep => Step.plain rfl (Does.run _ (ldM rfl (hdep 2 13 (by kernel_rfl)) ((hB.cell (p := ⟨g, 2, none⟩) hlt).trans c2)) rfl),
      fun a w' hB hfr hdep => Step.plain rfl (dMove (R := Is _) rfl (hfr 0 (by kernel_rfl))),
      fun a w' hB hfr hdep => Step.plain rfl (Does.call 37 #[a.eval (.tmp 15)] (by kernel_rfl) (by
        rw [show a.eval (.tmp 15) = _ from hdep 4 15 (by kernel_rfl)]
        have hn' := next37 (HR2.out.new hB)
        rw [hb] at hn'
        exact hn'.mono fun e w'' ⟨e1, e2⟩ => ⟨_, e1, by rw [e2]; exact Below.refl _ _, rfl⟩)),
      fun a w' hB hfr hdep => Step.plain rfl (Does.run _ (lkM rfl (hdep 3 14 (by kernel_rfl)) (hdep 5 16 (by kernel_rfl)) (run_look_no (by rw [← hOB]; exact block_below hB hltm HM2.out) hfn)) rfl),
      fun a w' hB hfr hdep => Step.plain rfl (dMove (R := Is _) rfl (hdep 6 17 (by kernel_rfl))),
      fun a w' hB hfr hdep => Step.plain rfl (Does.run _ (exK rfl (hdep 7 10 (by kernel_rfl))) rfl),
      fun a w' hB hfr hdep => Step.plain rfl (Does.run _ (exK1 rfl (hdep 7 10 (by kernel_rfl))) rfl),
      fun a w' hB hfr hdep => Step.plain rfl (dAssign (R := Is _) rfl (hdep 8 18 (by kernel_rfl))),
      fun a w' hB hfr hdep => Step.plain rfl (dAssign (R := Is _) rfl (hdep 9 19 (by kernel_rfl))), trivial⟩
  intro u hu
  simp only [List.take, List.drop, FinAll, Act.put, List.setIfInBounds_toArray, List.set_cons_succ, List.set_cons_zero]
  rintro _ rfl _ rfl _ rfl _ rfl _ rfl _ rfl _ rfl _ rfl _ rfl _ rfl _ rfl _ rfl
  refine wpAny_done (by kernel_rfl) ?_ _
  have hRu := HR2.out.new hu
  have hZu : u.heap[w.heap.size]? = some (.cells zero5 25 (0, 0)) := block_below hu (lt_of_heap HZ2.out) HZ2.out
  have HRU : Hid (RdAt g ar (gapL l) (.map (some mb)) u) := hRu
  have HU : Hid (Below w2.heap.size w2 u) := hu
  clear hu hnx c2 hRu hfn hM2 hR2 hF2
  go_wp2_with (refine wpList_store_row rfl 25 (.tmp 2) (.tmp 22) rfl w.heap.size #[.int .i64 0, .int .i64 0, .string ⟨#[]⟩, .slice none 0 0, .slice none 0 0] rfl rfl 25 zero5 hZu size25 rfl (one5 _ _ _) ?_)
  have hFA := ((Fg.new (g := g) HB1.out).trans HF2.out).trans (Fg.new HU.out)
  refine bodyPost_ret (v := .tuple #[.agg #[.int .i64 0, .int .i64 0, .string ⟨#[]⟩, .slice none 0 0, .slice none 0 0], .int .i64 13]) ?_ rfl ⟨_, 13, gapL l, rfl, rfl, one5 _ _ _, hFA.trans_new (Nat.le_refl _), ⟨HRU.out.1, (setRow_other _ _ _ _ (by omega)).trans HRU.out.2⟩, RdM.err rfl (.inl ⟨rfl, by decide⟩)⟩
  exact results_cell_tmp Tryd.results21 _ _ _ 25 _ (0, 0) _ _ rfl rfl (setRow_heap _ _ _ _ _ _ hZu) Tryd.underlying25 rfl size25
end Go.Proofs.YtljgnpneeecafaaDoor
