/-
  Read, the whole. slices.Grow of nil, and append onto a row of one's own of bytes wherever they lie. slices.Concat of lists of bytes. The walk of slices.Concat. Plain mathematics of signed digits of 28 bits, and of numbers modulo L: nothing of the program stands here. Rows of signed words in memory; the walk of settle. The walk of takeExcess. The walk of reduce. The walk of bytes. The walk of read. The walk of addProduct. The walks of Reduce, MulAdd, Is. The plain mathematics of both digests (numbers and lists): nothing of the program stands here. The walks of turn, turns, turnsShift and spread, at words of 32 bits. The walk of spread, at words of 32 bits. The walk of takeBlock, at words of 32 bits. The walk of takeBlocks, at words of 32 bits. The walk of lastBlocks, at words of 32 bits. The walk of stateBytes, at words of 32 bits. The walk of digest, at words of 32 bits. The walks of turn, turns, turnsShift and spread, at words of 64 bits. The walk of spread, at words of 64 bits. The walk of takeBlock, at words of 64 bits.
-/
import Derived.Test.YtabgihjffjlfiaaGreatDoorC4
import Derived.Lib.AppendZerosOnto
import Derived.Test.YtabgihjffjlfiaaGreatDoorC0
import Derived.Test.YtabgihjffjlfiaaGreatDoorC1
import Derived.Laws.Bits128
import Derived.WalkKit
import Derived.Test.YtabgihjffjlfiaaGreatDoorProg
import Derived.BigQuiet
import Derived.WalkSmall
import Derived.Lib.QuietBelow
import Derived.StillTail
import Derived.StillTactics
import Derived.Deep.MidRow
import Derived.Laws.CopyOwn
set_option linter.unusedVariables false
namespace Go.Proofs.YtabgihjffjlfiaaGreatDoor
open Go.RowKit Go.Sort Go.BigFrame
set_option maxRecDepth 100000
set_option maxHeartbeats 2000000
theorem run_lenO {ρ : Operand → Value} {o : Oper} {x : Operand} {a : Option Addr} {len cap : Nat} {w : World} (ho : o.op = .call { callee := .builtin .len, args := #[x], argTypes := #[22] }) (hx : ρ x = .slice a len cap) :
  (execOp ρ o).run Tryz.prog w = .ok (.value (.int .i64 (len : Int))) w := by
 simp [execOp, ho, resolve, invoke, hx, go_sem]
theorem run_neq32 {ρ : Operand → Value} {o : Oper} {x y : Operand} {w : World} {n : Nat} (h : n ≠ 32) (ho : o.op = .binOp .neq 3 x y 3) (hx : ρ x = .int .i64 (n : Int)) (hy : ρ y = .int .i64 32) : (execOp ρ o).run Tryz.prog w = .ok (.value (.bool true)) w := by
 have h' : ((n : Int) != 32) = true := by simp; omega
 simp [execOp, ho, hx, hy, go_sem, h']
theorem e8_ex : ∃ e, valD tab3.reverse = e ∧ 8 * e = pp + 3 := ⟨_, rfl, by decide⟩
theorem cReadLen (ad : Option Addr) (len cap : Nat) (w : World) (h : len ≠ 32) : Ret 30 #[.slice ad len cap] w (Tup2 (Is (.agg (ptc zeroE zeroE zeroE zeroE))) (Is (.int .i64 2))) := by
 unfold Ret
 have hO0 : Below w.heap.size w w := Below.refl _ _
 go_enter Tryz.func30, Tryz.ntmps30
 refine wp_seq_k fun K1 hK1 => ?_
 refine wp_plain_inv 2 (specs [Box w.heap.size (ptc zeroE zeroE zeroE zeroE) 60, Is (.int .i64 0)]) (specs_stb ⟨Box.stb _ _ _, Is.stb _, trivial⟩) (by kernel_rfl) ?_ ?_
 ·refine ⟨fun a w hB hfr hdep => Step.plain rfl (dAlloc29 hB.size rfl),
   fun a w hB hfr hdep => Step.plain rfl (dAssign (R := Is (.int .i64 0)) rfl rfl), trivial⟩
 intro u1 hb1
 simp only [List.take, List.drop, FinAll, Act.put, lA, lS, lZ]
 rintro _ ⟨g2_1, rfl, l2_1, m2_1⟩ _ rfl
 have hO1 := (hO0).trans (hb1.mono (hO0).size)
 have lwm2_1 := Nat.le_trans (hO0).size l2_1
 refine hK1 _ _ ?_
 clear hK1 K1
 refine wp_seq_k fun KO hKO => ?_
 refine wp_seq_k fun K2 hK2 => ?_
 refine wp_plain_inv 3 (specs [Is (.slice ad len cap), Is (.int .i64 (len : Int)), Is (.bool true)]) (specs_stb ⟨Is.stb _, Is.stb _, Is.stb _, trivial⟩) (by kernel_rfl) ?_ ?_
 ·refine ⟨fun a w hB hfr hdep => Step.plain rfl (dMove (R := Is (.slice ad len cap)) rfl (hfr 0 (by kernel_rfl))),
   fun a w hB hfr hdep => Step.plain rfl (Does.run _ (run_lenO rfl (hdep 0 10 (by kernel_rfl))) rfl),
   fun a w hB hfr hdep => Step.plain rfl (Does.run _ (run_neq32 h rfl (hdep 1 11 (by kernel_rfl)) rfl) rfl), trivial⟩
 intro u2 hb2
 simp only [List.take, List.drop, FinAll, Act.put, lA, lS, lZ]
 rintro _ rfl _ rfl _ rfl
 have hO2 := (hO1).trans (hb2.mono (hO1).size)
 have m2_1__2 := block_below hb2 (lt_of_heap m2_1) m2_1
 refine hK2 _ _ ?_
 clear hK2 K2
 refine wp_cond_true rfl ?_
 refine wp_seq_k fun K3 hK3 => ?_
 refine wp_plain_inv 1 (specs [Is (.agg (ptc zeroE zeroE zeroE zeroE))]) (specs_stb ⟨Is.stb _, trivial⟩) (by kernel_rfl) ?_ ?_
 ·refine ⟨fun a w hB hfr hdep => Step.plain rfl (Does.run _ (bu29z rfl) rfl), trivial⟩
 intro u3 hb3
 simp only [List.take, List.drop, FinAll, Act.put, lA, lS, lZ]
 rintro _ rfl
 have om2_1__2 := block_below hb3 (lt_of_heap m2_1__2) m2_1__2
 refine wpList_store_row rfl 60 (.tmp 2) (.tmp 13) rfl _ (ptc zeroE zeroE zeroE zeroE) rfl rfl 60 _ om2_1__2 info29 rfl (ptc_one _ _ _ _) ?_
 refine wpList_assign rfl rfl rfl ?_
 simp only [Act.put, Act.eval, lA, lS, lZ]
 have n2_3 := setRow_heap _ _ _ (ptc zeroE zeroE zeroE zeroE) _ _ om2_1__2
 have hO3 := setRow_below (hO2.trans (hb3.mono (hO2).size)) lwm2_1 (ptc zeroE zeroE zeroE zeroE)
 refine hK3 _ _ ?_
 clear hK3 K3
 refine wp_ret ?_
 simp only [Exit.then]
 refine bodyPost_ret (v := .tuple #[.agg (ptc zeroE zeroE zeroE zeroE), .int .i64 2]) ?_ rfl ⟨_, rfl, hO3, ⟨_, _, rfl, rfl, rfl⟩⟩
 exact results_cell_tmp Tryz.results30 _ _ _ 60 _ (0, 0) _ _ rfl rfl n2_3 Tryz.underlying60 rfl (by first | exact info26 | exact info29 | exact info35 | (rw [(Pt4.cells (by assumption)).1]; exact info29) | (rw [cellsP_size (by assumption)]; exact info29))
theorem bit_of {c n : Nat} (hc : c < 256) (h : n / t255 = c / 128) : decide (128 ≤ c) = decide (n / t255 = 1) := by
 rw [decide_eq_decide, h]; omega
theorem odd_same {x b : Nat} (h : x % 2 = b) : decide (x % 2 = 1) = decide (b = 1) := by rw [h]
theorem odd_diff {x b : Nat} (hb : b < 2) (h : x % 2 ≠ b) : decide (x % 2 = 1) = !decide (b = 1) := by
 by_cases h1 : b = 1
 ·rw [decide_eq_true h1, decide_eq_false (by omega)]; rfl
 ·rw [decide_eq_false h1, decide_eq_true (by omega)]; rfl
theorem cReadPt {v : Value} {l : List Nat} {p : Pt} (w : World) (hT : Tab5 w) (h : Bts l v w) (hl : l.length = 32) (hd : Dig l) (hp : p.enc = valD l) : Ret 30 #[v] w (Tup2 (PtV p) (Is (.int .i64 0))) := by
 obtain ⟨a, cap, rfl, hc1, hc2, hv⟩ := id h
 obtain ⟨gx, off, rfl, hb⟩ := hv (by omega)
 rw [hl] at h ⊢
 obtain ⟨e, he, he8⟩ := e8_ex
 obtain ⟨q1, q2, q3⟩ := high_bit hl hd
 have h3 := hd 31
 have hcell := hb 31 (by omega)
 obtain ⟨r1, r2, r3, r4⟩ := pt_root he8 hp
 have hbit := bit_of h3 q1
 have hn2 : valD l / t255 < 2 := by rw [q1]; omega
 rw [← q2] at r1 r2 r3 r4
 rcases r4 with ⟨s1, s2⟩ | ⟨s1, s2, s3⟩
 ·exact readCC w hT he h hl rfl h3 (andNot128 _ h3) hbit (by rw [List.length_set]; exact hl) (hd.set (by omega)) (block_lt_of_cell hcell) hcell rfl r1 rfl r2 (odd_same s1) s2 r3
 ·exact readCD w hT he h hl rfl h3 (andNot128 _ h3) hbit (by rw [List.length_set]; exact hl) (hd.set (by omega)) (block_lt_of_cell hcell) hcell rfl r1 rfl r2 (odd_diff hn2 s1) (odd_same s3) s2 r3
theorem cReadErr {v : Value} {l : List Nat} (w : World) (hT : Tab5 w) (h : Bts l v w) (hl : l.length = 32) (hd : Dig l) (hno : ¬ ∃ p : Pt, p.enc = valD l) : Ret 30 #[v] w (Tup2 (Is (.agg (ptc zeroE zeroE zeroE zeroE))) (Is (.int .i64 2))) := by
 obtain ⟨a, cap, rfl, hc1, hc2, hv⟩ := id h
 obtain ⟨gx, off, rfl, hb⟩ := hv (by omega)
 rw [hl] at h ⊢
 obtain ⟨e, he, he8⟩ := e8_ex
 obtain ⟨q1, q2, q3⟩ := high_bit hl hd
 have h3 := hd 31
 have hcell := hb 31 (by omega)
 have hbit := bit_of h3 q1
 have hn2 : valD l / t255 < 2 := by rw [q1]; omega
 by_cases c1 : valD l % t255 < pp
 ·by_cases c2 : rootOf e (av (fe (valD l % t255))) * rootOf e (av (fe (valD l % t255))) = av (fe (valD l % t255))
  ·obtain ⟨s1, s2⟩ := no_root he8 q3 hno c1 c2
   rw [← q2] at c1 c2 s1 s2
   exact readCE w hT he h hl rfl h3 (andNot128 _ h3) hbit (by rw [List.length_set]; exact hl) (hd.set (by omega)) (block_lt_of_cell hcell) hcell rfl c1 rfl c2 (odd_diff hn2 s1) (odd_diff hn2 s2)
  ·rw [← q2] at c1 c2
   exact readCB w hT he h hl rfl h3 (andNot128 _ h3) hbit (by rw [List.length_set]; exact hl) (hd.set (by omega)) (block_lt_of_cell hcell) hcell rfl c1 rfl c2
 ·rw [← q2] at c1
  exact readCA w hT he h hl rfl h3 (andNot128 _ h3) hbit (by rw [List.length_set]; exact hl) (hd.set (by omega)) (block_lt_of_cell hcell) hcell c1
end Go.Proofs.YtabgihjffjlfiaaGreatDoor
set_option linter.unusedVariables false
namespace Go.Proofs.YtabgihjffjlfiaaGreatDoor
open Go.RowKit Go.Sort Go.BigFrame
set_option maxRecDepth 100000
set_option maxHeartbeats 2000000
theorem zeros_size (n : Nat) : (Builtin.zeroCells (Value.int .u8 0).cells n).size = n := by simp [Builtin.zeroCells, Value.cells]
theorem grow34 (n : Nat) (w : World) (h0 : 0 < n) (hn : n ≤ 100000000000000) :
  Calls Tryz.prog 41 #[.slice none 0 0, .int .i64 n] w fun e w' => ∃ v, e = .returned v ∧ Below w.heap.size w w' ∧ w'.ownsRow w.heap.size 5 1 v 0 [] := by
 obtain ⟨i0, hi, hz0, hz1, hz2⟩ := info5
 have h1 : ¬ ((n : Int) < 0) := by omega
 have h3 : wrap64 ((n : Int) - 0) = (n : Int) := by unfold wrap64; omega
 have h4 : (n : Int) > 0 := by omega
 have hold : (Builtin.firstCells i0.size 0 (.slice none 0 0)).run Tryz.prog w.drew = .ok (([] : List Value).toArray) w.drew := by kernel_rfl
 have hrz : ∀ ty, (Builtin.append_ #[22, 3] ty #[.slice none 0 0, .int .i64 (n : Int)]).run Tryz.prog w =
   .ok (.slice (some ⟨w.heap.size, 0, none⟩) (0 + n) (grownCap w (0 + n) 0 5)) (w.drew.alloc (.cells (([] : List Value).toArray ++ Builtin.zeroCells (Value.int .u8 0).cells n ++ Builtin.zeroCells (Value.int .u8 0).cells (grownCap w (0 + n) 0 5 - (0 + n))) 5)) := fun ty =>
  Lib.run_append_grow_zeros w 22 3 ty 5 i0 (.int .u8 0) .i64 .i64 Tryz.underlying22 Tryz.underlying3 hi hz0 none 0 0 [] hold n h0 (by omega) (by omega) (by omega) (by rw [hz2]; omega)
   (by rw [hz2]; exact growslice_fits (by omega) (by omega))
 have hGn : 0 + n ≤ grownCap w (0 + n) 0 5 := grownCap_ge w _ _ _
 obtain ⟨G, hG⟩ : ∃ G, G = grownCap w (0 + n) 0 5 := ⟨_, rfl⟩
 rw [← hG] at hrz hGn
 have hG63 : G ≤ maxLen := by
  have := grownCap_le_maxLen w (0 + n) 0 5 (by unfold maxLen; omega)
  rwa [← hG] at this
 have hG64 : G ≤ 9223372036854775807 := by unfold maxLen at hG63; omega
 have HB : Below w.heap.size w (w.drew.alloc (.cells (([] : List Value).toArray ++ Builtin.zeroCells (Value.int .u8 0).cells n ++ Builtin.zeroCells (Value.int .u8 0).cells (G - (0 + n))) 5)) := ((Below.refl _ _).drew).alloc (Nat.le_refl _) _
 have HO : (w.drew.alloc (.cells (([] : List Value).toArray ++ Builtin.zeroCells (Value.int .u8 0).cells n ++ Builtin.zeroCells (Value.int .u8 0).cells (G - (0 + n))) 5)).ownsRow w.heap.size 5 1 (.slice (some ⟨w.heap.size, 0, none⟩) 0 G) 0 [] :=
  ⟨by simp, .inr ⟨w.heap.size, G, _, rfl, Nat.le_refl _, heap_alloc_new _ _, Nat.zero_le _, hG63, by rw [Array.size_append, Array.size_append, zeros_size, zeros_size]; simp; omega, by simp⟩⟩
 clear hold hG
 rw [Nat.zero_add] at hrz HB HO
 rw [Nat.zero_add] at hGn
 generalize w.drew.alloc (.cells (([] : List Value).toArray ++ Builtin.zeroCells (Value.int .u8 0).cells n ++ Builtin.zeroCells (Value.int .u8 0).cells (G - n)) 5) = w1 at hrz HB HO
 go_enter Tryz.func41, Tryz.ntmps41
 go_wp2_with (at_builtin; refine Lib.wpList_append_run _ rfl _ _ _ _ rfl _ _ rfl rfl _ _ (hrz _) ?_)
 all_goals (go_ret; exact ⟨_, rfl, HB, HO⟩)
end Go.Proofs.YtabgihjffjlfiaaGreatDoor
set_option linter.unusedVariables false
namespace Go.Proofs.YtabgihjffjlfiaaGreatDoor
open Go.RowKit Go.Sort Go.BigFrame
set_option maxRecDepth 100000
set_option maxHeartbeats 2000000
theorem wpList_append_any (w : World) {ops : Array Oper} {rest : List Oper} {o : Oper} {a : Act} {Q : Exit → Act → World → Prop} (hgd : o.guard = none) (s x : Operand)
  (ho : o.op = .call { callee := .builtin .append, args := #[s, x], argTypes := #[22, 22] }) (v : Value) (n : Nat) (xs : List Nat) (hs : a.eval s = v) (ad : Option Addr) (len cap : Nat) (bs : List Nat) (hx : a.eval x = .slice ad len cap)
  (base : Nat) (hown : w.ownsRow base 5 1 v n (bv xs)) (hlen : bs.length = len) (hv : View w ad bs) (hbase : base ≤ w.heap.size) (hb : n + len ≤ 100000000000000)
  (h : ∀ v' w', w'.ownsRow base 5 1 v' (n + len) (bv (xs ++ bs)) → Below base w w' → wpList Tryz.prog ops Q rest (a.put o.dst v') w') : wpList Tryz.prog ops Q (o :: rest) a w := by
 obtain ⟨i0, hi, hz0, hz1, hz2⟩ := info5
 cases ad with
 | some p =>
  refine wpList_append_own w hgd s x 22 ho base 5 i0 (.int .u8 0) 1 1 Tryz.underlying22 hi hz0 hz1 hz2 rfl (by decide) v n (bv xs) hs hown p len cap (bv bs) hx (by simp [bv, hlen]) (news_view hv) bv_one (by unfold maxLen; omega) (by omega) hbase ?_
  intro v' w' h1 h2 _
  refine h v' w' ?_ ((Below.refl _ _).grown h2 hbase (fun j hj => (hown.lt j hj).1))
  rw [show bv (xs ++ bs) = bv xs ++ bv bs by simp [bv]]
  exact h1
 | none =>
  have hb0 : bs = [] := by
   by_cases hp : 0 < bs.length
   ·obtain ⟨b, off, e, _⟩ := hv hp; cases e
   ·exact List.eq_nil_of_length_eq_zero (by omega)
  subst hb0
  obtain rfl : len = 0 := hlen.symm
  have hr : (Builtin.append_ #[22, 22] o.type #[v, .slice none 0 cap]).run Tryz.prog w = .ok v w := by
   rcases hown.2 with ⟨h1, h2⟩ | ⟨g, c, cur, h1, h2, h3, h4, h5, h6, h7⟩
   ·rw [h1]; kernel_rfl
   ·rw [h1]
    have e : n + 0 ≤ c := by omega
    have e2 : ((Go.sizeOf 5).run Tryz.prog w) = .ok 1 w := by kernel_rfl
    have e3 : ((Go.underlying 22).run Tryz.prog w) = .ok (.slice 5) w := by kernel_rfl
    simp [Builtin.append_, e3, e2, h4, Builtin.lenOf, Builtin.firstCells, storeCells]
  refine wpList_plain hgd fun K hK => ?_
  unfold Oper.wp execOp
  simp only [ho, resolve, invoke, builtin, Sem.run_bind, Sem.run_pure, Result.andThen_ok, List.map_toArray, List.map_cons, List.map_nil, hs, hx, hr]
  refine hK _ _ (h _ _ ?_ (Below.refl _ _))
  rw [List.append_nil]; exact hown
def catL (L : Nat → List Nat) : Nat → List Nat
 | 0 => []
 | k + 1 => catL L k ++ L k
end Go.Proofs.YtabgihjffjlfiaaGreatDoor
set_option linter.unusedVariables false
namespace Go.Proofs.YtabgihjffjlfiaaGreatDoor
open Go.RowKit Go.Sort Go.BigFrame
set_option maxRecDepth 100000
set_option maxHeartbeats 2000000
theorem catL_len (L : Nat → List Nat) (k : Nat) : (catL L (k + 1)).length = (catL L k).length + (L k).length := by simp [catL]
theorem catL_mono (L : Nat → List Nat) {j k : Nat} (h : j ≤ k) : (catL L j).length ≤ (catL L k).length := by
 induction h with
 | refl => exact Nat.le_refl _
 | step _ ih => rw [catL_len]; omega
theorem concat17 (g n : Nat) (A : Nat → Option Addr) (N C S : Nat → Nat) (L : Nat → List Nat) (w : World) (hn : n ≤ 10) (hN : ∀ k, Hid ((L k).length = N k)) (hS : ∀ k, Hid ((catL L k).length = S k))
  (hcell : ∀ k, k < n → w.cell? ⟨g, k, none⟩ = some (.slice (A k) (N k) (C k))) (hC : ∀ k, k < n → N k ≤ C k ∧ C k ≤ 9223372036854775807) (hl : S n ≤ 100000) (h0 : 0 < S n) (hv : ∀ k, k < n → View w (A k) (L k)) :
  Calls Tryz.prog 15 #[.slice (some ⟨g, 0, none⟩) n n] w fun e w' => ∃ v, e = .returned v ∧ Below w.heap.size w w' ∧ OwnC w.heap.size (catL L n) v w' := by
 have hS1 : ∀ k, S (k + 1) = S k + N k := fun k => by rw [← (hS (k + 1)).out, catL_len, (hS k).out, (hN k).out]
 have hSn : ∀ k, k ≤ n → S k ≤ 100000 := fun k hk => by
  have := catL_mono L hk
  rw [(hS k).out, (hS n).out] at this; omega
 have hS0 : S 0 = 0 := by rw [← (hS 0).out]; rfl
 have HS1 : Hid (∀ k, S (k + 1) = S k + N k) := hS1
 have HS0 : Hid (S 0 = 0) := hS0
 clear hS1 hS0
 go_enter Tryz.func15, Tryz.ntmps15
 go_wp2_with fail
 go_loop [3, 11] (fun s i => ∃ k : Nat, k ≤ n ∧ i = .int .i64 k ∧ s = .int .i64 (S k : Nat)) (fun _ i => n - (intOf i).toNat)
 case atStart => exact ⟨0, by omega, rfl, by rw [HS0.out]; rfl⟩
 case round =>
  obtain ⟨k, hk, rfl, rfl⟩ := hrel
  by_cases hlt : k < n
  ·have hc := hcell k hlt
   have hs1 := HS1.out k
   have hs2 := hSn (k + 1) (by omega)
   have hs3 : S k ≤ 100000 := hSn k hk
   have hs4 : N k ≤ 100000 := by omega
   have hneg : ¬ ((S k : Int) + (N k : Int) < 0) := by omega
   have HE : Hid (S (k + 1) = S k + N k) := hs1
   clear hs1
   go_wp2
   go_round
   case rel => exact ⟨k + 1, by omega, by go_num, by rw [HE.out]; go_num⟩
   case measure => simp [intOf]; omega
  ·obtain rfl : k = n := by omega
   have hG := grow34 (S k) w h0 (by omega)
   go_wp2_with fail
   refine hG.mono ?_
   rintro e w1 ⟨v1, rfl, hB1, hO1⟩
   have hw := hv
   go_wp2_with fail
   go_loopw [6, 27] (fun v i wr => ∃ j : Nat, j ≤ k ∧ i = .int .i64 j ∧ Below w.heap.size w wr ∧ wr.ownsRow w.heap.size 5 1 v (S j) (bv (catL L j))) (fun _ i _ => k - (intOf i).toNat)
   case atStart => exact ⟨0, by omega, rfl, hB1, by rw [HS0.out]; exact hO1⟩
   case round =>
    obtain ⟨j, hj, rfl, hB, hown⟩ := hrel
    by_cases hlt2 : j < k
    ·have hc : wr.cell? ⟨g, j, none⟩ = some (.slice (A j) (N j) (C j)) := (hB.cell (p := ⟨g, j, none⟩) (block_lt_of_cell (hcell j hlt2))).trans (hcell j hlt2)
     have hvv := (hv j hlt2).below hB
     have hs1 := HS1.out j
     have hs2 := hSn (j + 1) (by omega)
     have hs3 : S j + N j ≤ 100000000000000 := by omega
     have HE : Hid (S (j + 1) = S j + N j) := hs1
     clear hs1
     go_wp2_with (at_builtin; refine wpList_append_any _ rfl (.tmp 31) (.tmp 32) rfl u6 (S j) (catL L j) rfl (A j) (N j) (C j) (L j) rfl w.heap.size hown (hN j).out hvv hB.size hs3 ?_; intro v2 w2 hown2 hB2)
     have hB3 : Below w.heap.size w w2 := hB.trans hB2
     have hO3 : w2.ownsRow w.heap.size 5 1 v2 (S (j + 1)) (bv (catL L (j + 1))) := by rw [HE.out]; exact hown2
     clear hown2 hB2
     go_roundw
     case rel => first | exact ⟨j + 1, by omega, by go_num, hB3, hO3⟩ | ((repeat apply Exists.intro); exact ⟨⟨j + 1, by omega, by go_num, hB3, hO3⟩, rfl⟩)
     case measure => simp [intOf]; omega
    ·obtain rfl : j = k := by omega
     have hC3 := own_C (hS j).out h0 hown
     clear hown
     go_wp2_with fail
     go_ret
     exact ⟨_, rfl, hB, hC3⟩
end Go.Proofs.YtabgihjffjlfiaaGreatDoor
set_option linter.unusedVariables false
namespace Go.Proofs.YtabgihjffjlfiaaGreatDoor
namespace EN
def LL : Nat := 7237005577332262213973186563042994240857116359379907606001950938285454250989
def exc : Int := 27742317777372353535851937790883648493
theorem edd (a b c : Int) (h : 0 ≤ b) : a / b / c = a / (b * c) := by first | exact Int.ediv_ediv_of_nonneg h | exact Int.ediv_ediv h | rw [Int.ediv_ediv_eq_ediv_mul _ h]
def valW : List Int → Int
 | [] => 0
 | d :: l => d + 268435456 * valW l
def norm : Nat → Int → List Int
 | 0, v => [v]
 | n + 1, v => v % 268435456 :: norm n (v / 268435456)
theorem norm_len : ∀ n v, (norm n v).length = n + 1
 | 0, _ => rfl
 | n + 1, v => by simp [norm, norm_len n]
theorem valW_norm : ∀ n v, valW (norm n v) = v
 | 0, v => by simp [norm, valW]
 | n + 1, v => by rw [norm, valW, valW_norm n]; omega
theorem valW_append : ∀ (a b : List Int), valW (a ++ b) = valW a + 268435456 ^ a.length * valW b
 | [], b => by simp [valW]
 | d :: a, b => by
  simp only [List.cons_append, valW, List.length_cons, Int.pow_succ, valW_append a b]
  rw [Int.mul_comm (268435456 ^ a.length) 268435456, Int.mul_assoc, Int.mul_add]
  omega
theorem valW_set : ∀ (l : List Int) (k : Nat) (x : Int), k < l.length → valW (l.set k x) = valW l + 268435456 ^ k * (x - l.getD k 0)
 | [], _, _, h => by simp at h
 | d :: l, 0, x, _ => by simp [valW]; omega
 | d :: l, k + 1, x, h => by
  have := valW_set l k x (by simpa using h)
  simp only [List.set_cons_succ, valW, List.getD_cons_succ, Int.pow_succ, this]
  rw [Int.mul_comm (268435456 ^ k) 268435456, Int.mul_assoc, Int.mul_add]
  omega
theorem valW_rep : ∀ n, valW (List.replicate n 0) = 0
 | 0 => rfl
 | n + 1 => by simp [List.replicate_succ, valW, valW_rep n]
theorem takeW_succ (l : List Int) (k : Nat) (h : k < l.length) : l.take (k + 1) = l.take k ++ [l.getD k 0] := by
 rw [List.take_succ_eq_append_getElem h]; simp [h]
theorem valW_take_succ (l : List Int) (k : Nat) : valW (l.take (k + 1)) = valW (l.take k) + 268435456 ^ k * l.getD k 0 := by
 by_cases h : k < l.length
 ·rw [takeW_succ l k h, valW_append, List.length_take, show min k l.length = k by omega]; simp [valW]
 ·rw [List.take_of_length_le (by omega), List.take_of_length_le (by omega), List.getD_eq_getElem?_getD, List.getElem?_eq_none (by omega)]; simp
theorem pos28 (k : Nat) : (0 : Int) < 268435456 ^ k := Int.pow_pos (by decide)
theorem norm_get_lt : ∀ n v j, j < n → (norm n v).getD j 0 = v / 268435456 ^ j % 268435456
 | 0, _, _, h => by omega
 | n + 1, v, 0, _ => by simp [norm]
 | n + 1, v, j + 1, h => by
  have := norm_get_lt n (v / 268435456) j (by omega)
  simp only [norm, List.getD_cons_succ, this]
  rw [edd _ _ _ (by decide), Int.pow_succ, Int.mul_comm]
theorem norm_get_top : ∀ n v, (norm n v).getD n 0 = v / 268435456 ^ n
 | 0, v => by simp [norm]
 | n + 1, v => by
  simp only [norm, List.getD_cons_succ, norm_get_top n]
  rw [edd _ _ _ (by decide), Int.pow_succ, Int.mul_comm]
theorem norm_split : ∀ n v, norm (n + 1) v = (norm n v).set n (v / 268435456 ^ n % 268435456) ++ [v / 268435456 ^ n / 268435456]
 | 0, v => by simp [norm]
 | n + 1, v => by
  rw [norm, norm_split n, norm]
  simp only [List.set_cons_succ, List.cons_append]
  rw [edd _ _ _ (by decide : (0:Int) ≤ 268435456), Int.pow_succ, Int.mul_comm]
theorem norm_add (n : Nat) (v d : Int) : (norm n v).set n ((norm n v).getD n 0 + d) = norm n (v + 268435456 ^ n * d) := by
 induction n generalizing v with
 | zero => simp [norm]
 | succ n ih =>
  simp only [norm, List.set_cons_succ, List.getD_cons_succ, ih]
  have e : v + 268435456 ^ (n + 1) * d = v + 268435456 * (268435456 ^ n * d) := by rw [Int.pow_succ, Int.mul_comm (268435456 ^ n), Int.mul_assoc]
  rw [e]
  congr 1
  ·omega
  ·congr 1; omega
def stl (l : List Int) (k : Nat) : List Int := norm k (valW (l.take (k + 1))) ++ l.drop (k + 1)
theorem stl_len (l : List Int) (k : Nat) (h : k < l.length) : (stl l k).length = l.length := by simp [stl, norm_len]; omega
theorem stl_zero (l : List Int) (h : 0 < l.length) : stl l 0 = l := by
 cases l with
 | nil => simp at h
 | cons d l => simp [stl, norm, valW]
def topW (l : List Int) (k : Nat) : Int := valW (l.take (k + 1)) / 268435456 ^ k
theorem topW_zero (l : List Int) : topW l 0 = l.getD 0 0 := by
 have := valW_take_succ l 0
 simp [valW] at this
 simp [topW, this]
theorem topW_succ (l : List Int) (k : Nat) : topW l (k + 1) = l.getD (k + 1) 0 + topW l k / 268435456 := by
 unfold topW
 rw [valW_take_succ l (k + 1), Int.add_mul_ediv_left _ _ (by have := pos28 (k + 1); omega), edd _ _ _ (Int.le_of_lt (pos28 k)), Int.pow_succ]
 omega
theorem topW_bound {l : List Int} {B : Int} (hB : 268435456 ≤ B) (h : ∀ j, -B ≤ l.getD j 0 ∧ l.getD j 0 ≤ B) : ∀ k, -(2 * B) ≤ topW l k ∧ topW l k ≤ 2 * B ∧ -(B + B / 134217728 + 1) ≤ topW l k ∧ topW l k ≤ B + B / 134217728 + 1
 | 0 => by rw [topW_zero]; have := h 0; omega
 | k + 1 => by
  have h1 := topW_bound hB h k
  have h2 := h (k + 1)
  rw [topW_succ]
  omega
theorem stl_getk (l : List Int) (k : Nat) (h : k < l.length) : (stl l k).getD k 0 = topW l k := by
 have hl : k < (norm k (valW (l.take (k + 1)))).length := by rw [norm_len]; omega
 unfold stl topW
 rw [List.getD_eq_getElem?_getD, List.getElem?_append_left hl, ← List.getD_eq_getElem?_getD, norm_get_top]
theorem stl_getk1 (l : List Int) (k : Nat) : (stl l k).getD (k + 1) 0 = l.getD (k + 1) 0 := by
 unfold stl
 rw [List.getD_eq_getElem?_getD, List.getElem?_append_right (by rw [norm_len]; omega), norm_len]
 simp
theorem stl_step (l : List Int) (k : Nat) (h : k + 1 < l.length) : ((stl l k).set (k + 1) (l.getD (k + 1) 0 + topW l k / 268435456)).set k (topW l k % 268435456) = stl l (k + 1) := by
 have hd : l.drop (k + 1) = l.getD (k + 1) 0 :: l.drop (k + 2) := by
  rw [List.drop_eq_getElem_cons h]; simp [h]
 have hn : (norm k (valW (l.take (k + 1)))).length = k + 1 := norm_len _ _
 have e1 : (stl l k).set (k + 1) (l.getD (k + 1) 0 + topW l k / 268435456) = norm k (valW (l.take (k + 1))) ++ (l.getD (k + 1) 0 + topW l k / 268435456) :: l.drop (k + 2) := by
  unfold stl
  rw [List.set_append_right _ _ (by omega), hn, hd]; simp
 rw [e1, List.set_append_left _ _ (by omega)]
 have e2 := norm_split k (valW (l.take (k + 1)))
 have e3 := norm_add (k + 1) (valW (l.take (k + 1))) (l.getD (k + 1) 0)
 unfold stl
 rw [valW_take_succ l (k + 1), ← e3, norm_get_top, e2, List.set_append_right _ _ (by simp [norm_len]), List.length_set, norm_len]
 simp only [Nat.sub_self, List.set_cons_zero, List.append_assoc, List.cons_append, List.nil_append]
 unfold topW
 rw [edd _ _ _ (Int.le_of_lt (pos28 k)), ← Int.pow_succ, Int.add_comm]
def row (top : Nat) (N : Int) : List Int := norm top N ++ List.replicate (18 - top) 0
theorem row_len {top : Nat} (h : top ≤ 18) (N : Int) : (row top N).length = 19 := by simp [row, norm_len]; omega
theorem valW_row (top : Nat) (N : Int) : valW (row top N) = N := by simp [row, valW_append, valW_norm, valW_rep]
theorem row18 (N : Int) : row 18 N = norm 18 N := by simp [row]
theorem row_get_lt {top j : Nat} (N : Int) (h : j < top) : (row top N).getD j 0 = N / 268435456 ^ j % 268435456 := by
 unfold row
 rw [List.getD_eq_getElem?_getD, List.getElem?_append_left (by rw [norm_len]; omega), ← List.getD_eq_getElem?_getD, norm_get_lt _ _ _ h]
theorem row_get_top (top : Nat) (N : Int) : (row top N).getD top 0 = N / 268435456 ^ top := by
 unfold row
 rw [List.getD_eq_getElem?_getD, List.getElem?_append_left (by rw [norm_len]; omega), ← List.getD_eq_getElem?_getD, norm_get_top]
theorem row_get_gt {top j : Nat} (N : Int) (h : top < j) : (row top N).getD j 0 = 0 := by
 unfold row
 rw [List.getD_eq_getElem?_getD, List.getElem?_append_right (by rw [norm_len]; omega), norm_len, List.getElem?_replicate]
 split <;> rfl
theorem stl18 {l : List Int} (h : l.length = 19) : stl l 18 = row 18 (valW l) := by
 unfold stl
 rw [row18, List.take_of_length_le (by omega), List.drop_of_length_le (by omega)]; simp
theorem stl_row {l : List Int} {top : Nat} (h : l.length = 19) (ht : top ≤ 18) (hz : ∀ j, top < j → l.getD j 0 = 0) : stl l top = row top (valW l) := by
 have hd : l.drop (top + 1) = List.replicate (18 - top) 0 := by
  apply List.ext_getElem
  ·simp; omega
  ·intro i h1 h2
   have h3 : top + 1 + i < l.length := by simp at h1; omega
   have := hz (top + 1 + i) (by omega)
   simp [h3] at this
   simp [this]
 have hv : valW l = valW (l.take (top + 1)) := by
  have := valW_append (l.take (top + 1)) (l.drop (top + 1))
  rw [List.take_append_drop, hd, valW_rep] at this
  omega
 unfold stl row
 rw [hd, ← hv]
end EN
end Go.Proofs.YtabgihjffjlfiaaGreatDoor
set_option linter.unusedVariables false
namespace Go.Proofs.YtabgihjffjlfiaaGreatDoor
namespace EN
open Go.RowKit Go.Sort Go.BigFrame
set_option maxRecDepth 100000
set_option maxHeartbeats 2000000
def zints (l : List Int) : Array Value := (l.map fun x => Value.int .i64 x).toArray
theorem zints_get (l : List Int) (j : Nat) (h : j < l.length) : (zints l)[j]? = some (.int .i64 (l.getD j 0)) := by simp [zints, h]
theorem zints_set (l : List Int) (j : Nat) (v : Int) : (zints l).setIfInBounds j (.int .i64 v) = zints (l.set j v) := by simp [zints, List.map_set]
theorem i64_and28 (n : Int) : bits .and .i64 n 268435455 = n % 268435456 := by
 have h127 : (BitVec.ofInt 64 268435455).toNat = 2 ^ 28 - 1 := by decide
 have key : (BitVec.ofInt 64 n &&& BitVec.ofInt 64 268435455).toNat = (n % ((2 ^ 64 : Nat) : Int)).toNat % 2 ^ 28 := by
  rw [BitVec.toNat_and, BitVec.toNat_ofInt, h127, Nat.and_two_pow_sub_one_eq_mod]
 show IntKind.i64.wrap ((BitVec.ofInt 64 n &&& BitVec.ofInt 64 268435455).toNat : Nat) = n % 268435456
 rw [key, IntKind.wrap_i64]
 omega
structure Frm (g : Nat) (w w' : World) : Prop where
 os : w'.os = w.os
 tape : w'.tape = w.tape
 output : w'.output = w.output
 size : w'.heap.size = w.heap.size
 block : ∀ k, k ≠ g → w'.heap[k]? = w.heap[k]?
theorem Frm.refl (g : Nat) (w : World) : Frm g w w := ⟨rfl, rfl, rfl, rfl, fun _ _ => rfl⟩
theorem Frm.trans {g : Nat} {a b c : World} (h : Frm g a b) (h' : Frm g b c) : Frm g a c :=
 ⟨h'.os.trans h.os, h'.tape.trans h.tape, h'.output.trans h.output, h'.size.trans h.size, fun k hk => (h'.block k hk).trans (h.block k hk)⟩
theorem Frm.below {g B : Nat} {w0 w w' : World} (h : Frm g w w') (hb : Below B w0 w) (hg : B ≤ g) : Below B w0 w' :=
 ⟨h.os.trans hb.os, h.tape.trans hb.tape, h.output.trans hb.output, by rw [h.size]; exact hb.size, fun k hk => (h.block k (by omega)).trans (hb.block k hk)⟩
theorem Frm.set {g : Nat} {w w' : World} (h : Frm g w w') (j : Nat) (v : Value) : Frm g w (w'.setCell ⟨g, j, none⟩ v) := by
 have hb : Below g w' (w'.setCell ⟨g, j, none⟩ v) := (Below.refl g w').setCell (p := ⟨g, j, none⟩) (Nat.le_refl g) v
 refine h.trans ⟨hb.os, hb.tape, hb.output, by simp, fun k hk => ?_⟩
 exact heap_setCell_other _ _ _ _ (by simpa using hk)
theorem Frm.drew {g : Nat} {w w' : World} (h : Frm g w w') : Frm g w w'.drew := ⟨h.os, h.tape, h.output, h.size, h.block⟩
def WRow (w wr : World) (g : Nat) (l : List Int) : Prop := Frm g w wr ∧ wr.heap[g]? = some (.cells (zints l) 69 (0, 0))
theorem cell_z {w : World} {g t : Nat} {l : List Int} (h : w.heap[g]? = some (.cells (zints l) t (0, 0))) (j : Nat) (hj : j < l.length) : w.cell? ⟨g, j, none⟩ = some (.int .i64 (l.getD j 0)) := by
 rw [cell_of_row w g j _ t _ h]; exact zints_get l j hj
theorem WRow.at {w wr : World} {g : Nat} {l : List Int} (h : WRow w wr g l) (k : Nat) (hk : k < l.length) : wr.cell? ⟨g, k, none⟩ = some (.int .i64 (l.getD k 0)) := cell_z h.2 k hk
theorem WRow.free {w wr : World} {g : Nat} {l : List Int} (h : WRow w wr g l) (k : Nat) : wr.frozen? ⟨g, k, none⟩ = false := frozen_of_row _ g k _ 69 h.2
theorem WRow.set {w wr : World} {g : Nat} {l : List Int} (h : WRow w wr g l) (k : Nat) (v : Int) : WRow w (wr.setCell ⟨g, k, none⟩ (.int .i64 v)) g (l.set k v) :=
 ⟨h.1.set _ _, by rw [heap_setCell_same _ g k _ 69 _ h.2, zints_set]⟩
theorem WRow.drew {w wr : World} {g : Nat} {l : List Int} (h : WRow w wr g l) : WRow w wr.drew g l := ⟨h.1.drew, h.2⟩
theorem settle30 (g top : Nat) (l : List Int) (w : World) (hl : Hid (l.length = 19)) (ht : top ≤ 18) (hb : ∀ j, -9000000000000000000 ≤ l.getD j 0 ∧ l.getD j 0 ≤ 9000000000000000000) (hg : w.heap[g]? = some (.cells (zints l) 69 (0, 0))) :
  Calls Tryz.prog 80 #[.pointer (some ⟨g, 0, none⟩), .int .i64 top] w fun e w' => e = .returned (.tuple #[]) ∧ WRow w w' g (stl l top) := by
 have hR0 : WRow w w g (stl l 0) := ⟨Frm.refl _ _, by rw [stl_zero l (by rw [hl.out]; omega)]; exact hg⟩
 have hq := topW_bound (B := 9000000000000000000) (by omega) hb
 clear hg
 go_enter Tryz.func80, Tryz.ntmps80
 go_wp2_with fail
 go_loopw [6] (fun i wr => ∃ k : Nat, k ≤ top ∧ i = .int .i64 k ∧ WRow w wr g (stl l k)) (fun i _ => top - (intOf i).toNat)
 case atStart => exact ⟨0, by omega, rfl, hR0⟩
 case round =>
  obtain ⟨k, hk, rfl, hR⟩ := hrel
  clear hR0
  by_cases hlt : k < top
  ·have hlen := stl_len l k (by rw [hl.out]; omega)
   rw [hl.out] at hlen
   have c0 := hR.at k (by omega)
   have c1 := hR.at (k + 1) (by omega)
   have f0 := hR.free k
   have f1 := hR.free (k + 1)
   rw [stl_getk l k (by rw [hl.out]; omega)] at c0
   rw [stl_getk1] at c1
   have hstep := stl_step l k (by rw [hl.out]; omega)
   have hqk := hq k
   have hlk := hb (k + 1)
   obtain ⟨q, hqe⟩ : ∃ q, q = topW l k := ⟨_, rfl⟩
   obtain ⟨x, hx⟩ : ∃ x, x = l.getD (k + 1) 0 := ⟨_, rfl⟩
   rw [← hqe] at c0 hqk hstep
   rw [← hx] at c1 hlk hstep
   have HS : Hid (((stl l k).set (k + 1) (x + q / 268435456)).set k (q % 268435456) = stl l (k + 1)) := hstep
   have hR1 : WRow w ((wr.setCell ⟨g, k + 1, none⟩ (.int .i64 (x + q / 268435456))).drew) g ((stl l k).set (k + 1) (x + q / 268435456)) := (hR.set _ _).drew
   have c2 := hR1.at k (by rw [List.length_set]; omega)
   rw [show ((stl l k).set (k + 1) (x + q / 268435456)).getD k 0 = q by
    rw [List.getD_eq_getElem?_getD, List.getElem?_set_ne (by omega), ← List.getD_eq_getElem?_getD, hqe]; exact stl_getk l k (by rw [hl.out]; omega)] at c2
   have f2 := hR1.free k
   have HR2 : Hid (WRow w ((((wr.setCell ⟨g, k + 1, none⟩ (.int .i64 (x + q / 268435456))).drew).setCell ⟨g, k, none⟩ (.int .i64 (q % 268435456))).drew) g (stl l (k + 1))) := by
    show WRow _ _ _ _
    rw [← HS.out]
    exact (hR1.set _ _).drew
   have e28 := i64_and28 q
   clear hqe hx hR hstep hb hq hlen HS
   go_wp2_with fail
   go_region
   generalize (wr.setCell ⟨g, k + 1, none⟩ (.int .i64 (x + q / 268435456))).drew = w2 at hR1 c2 f2 HR2 ⊢
   clear hR1 c0 c1 f0 f1
   go_wp2_with fail
   go_region
   go_wp2
   go_roundw
   case rel => exact ⟨k + 1, by omega, by go_num, HR2.out⟩
   case measure => simp [intOf]; omega
  ·obtain rfl : k = top := by omega
   go_wp2
   go_end0
   exact ⟨rfl, hR⟩
end EN
end Go.Proofs.YtabgihjffjlfiaaGreatDoor
set_option linter.unusedVariables false
namespace Go.Proofs.YtabgihjffjlfiaaGreatDoor
namespace EN
open Go.RowKit Go.Sort Go.BigFrame
set_option maxRecDepth 100000
set_option maxHeartbeats 2000000
def exd : List Int := [217437165, 19280293, 127719000, 262007343, 5342]
theorem exd_val : valW exd = exc := by decide
theorem exd_bound (j : Nat) : 0 ≤ exd.getD j 0 ∧ exd.getD j 0 ≤ 268435455 := by
 match j with
 | 0 => decide
 | 1 => decide
 | 2 => decide
 | 3 => decide
 | 4 => decide
 | n + 5 => simp [exd]
def ETab (w : World) : Prop := ∀ i, i < 5 → w.cell? ⟨4, i, none⟩ = some (.int .i64 (exd.getD i 0))
theorem ETab.frm {g : Nat} {w w' : World} (h : ETab w) (hf : Frm g w w') (hg : g ≠ 4) : ETab w' := fun i hi => by
 have e := h i hi
 unfold World.cell? at e ⊢
 rw [show w'.heap[(⟨4, i, none⟩ : Addr).block]? = w.heap[(⟨4, i, none⟩ : Addr).block]? from hf.block 4 (fun e => hg e.symm)]
 exact e
theorem ETab.below {w w' : World} (h : ETab w) (hb : Below w.heap.size w w') : ETab w' := fun i hi =>
 (hb.cell (p := ⟨4, i, none⟩) (block_lt_of_cell (h i hi))).trans (h i hi)
theorem ETab.pos {w : World} (h : ETab w) : 4 < w.heap.size := block_lt_of_cell (h 0 (by omega))
theorem prod_bound {t x : Int} (h1 : -1 ≤ t) (h2 : t ≤ 268435456) (h3 : 0 ≤ x) (h4 : x ≤ 268435455) : -268435456 ≤ t * x ∧ t * x ≤ 72057594037927936 := by
 by_cases h : t = -1
 ·subst h; omega
 ·have h5 : 0 ≤ t := by omega
  have h6 : 0 ≤ t * x := Int.mul_nonneg h5 h3
  have h7 : t * x ≤ 268435456 * 268435455 := Int.mul_le_mul h2 h4 h3 (by decide)
  omega
theorem set_getD (l : List Int) (k j : Nat) (v : Int) : (l.set k v).getD j 0 = if k = j ∧ k < l.length then v else l.getD j 0 := by
 simp only [List.getD_eq_getElem?_getD, List.getElem?_set]
 by_cases h : k = j
 ·subst h
  by_cases h2 : k < l.length
  ·simp [h2]
  ·simp [h2]
 ·simp [h]
theorem takeExcess31 (g m : Nat) (t : Int) (l : List Int) (w : World) (hl : Hid (l.length = 19)) (hm : m ≤ 9) (ht1 : -1 ≤ t) (ht2 : t ≤ 268435456) (hb : ∀ j, -600000000 ≤ l.getD j 0 ∧ l.getD j 0 ≤ 600000000)
  (hz : ∀ j, m + 9 ≤ j → l.getD j 0 = 0) (hg : w.heap[g]? = some (.cells (zints l) 69 (0, 0))) (hT : ETab w) (hg0 : g ≠ 4) :
  Calls Tryz.prog 81 #[.pointer (some ⟨g, 0, none⟩), .int .i64 ((m + 9 : Nat) : Int), .int .i64 t] w fun e w' => e = .returned (.tuple #[]) ∧ WRow w w' g (row (m + 8) (valW l - 268435456 ^ m * (t * exc))) := by
 have hR0 : WRow w w g l := ⟨Frm.refl _ _, hg⟩
 clear hg
 go_enter Tryz.func81, Tryz.ntmps81
 go_wp2_with fail
 go_loopw [7] (fun i wr => ∃ k : Nat, k ≤ 5 ∧ i = .int .i64 k ∧ ∃ l' : List Int, l'.length = 19 ∧ (∀ j, -(600000000 + 72057594037927936 * (k : Int)) ≤ l'.getD j 0 ∧ l'.getD j 0 ≤ 600000000 + 72057594037927936 * (k : Int)) ∧ (∀ j, m + 9 ≤ j → l'.getD j 0 = 0) ∧ valW l' = valW l - 268435456 ^ m * (t * valW (exd.take k)) ∧ WRow w wr g l') (fun i _ => 5 - (intOf i).toNat)
 case atStart => exact ⟨0, by omega, rfl, l, hl.out, by simpa using hb, hz, by simp [valW], hR0⟩
 case round =>
  obtain ⟨k, hk, rfl, l', hl', hb', hz', hv', hR⟩ := hrel
  clear hR0
  by_cases hlt : k < 5
  ·have c1 := hR.at (m + k) (by omega)
   have f1 := hR.free (m + k)
   have c2 := (hT.frm hR.1 hg0) k hlt
   obtain ⟨x, hx⟩ : ∃ x, x = l'.getD (m + k) 0 := ⟨_, rfl⟩
   obtain ⟨y, hy⟩ : ∃ y, y = exd.getD k 0 := ⟨_, rfl⟩
   have hbx := hb' (m + k)
   have hby := exd_bound k
   rw [← hx] at c1 hbx
   rw [← hy] at c2 hby
   have hp := prod_bound ht1 ht2 hby.1 hby.2
   obtain ⟨p, hpe⟩ : ∃ p, p = t * y := ⟨_, rfl⟩
   rw [← hpe] at hp
   have hR1 := (hR.set (m + k) (x - p)).drew
   have HR1 : Hid (∃ l2 : List Int, l2.length = 19 ∧ (∀ j, -(600000000 + 72057594037927936 * ((k + 1 : Nat) : Int)) ≤ l2.getD j 0 ∧ l2.getD j 0 ≤ 600000000 + 72057594037927936 * ((k + 1 : Nat) : Int)) ∧ (∀ j, m + 9 ≤ j → l2.getD j 0 = 0) ∧ valW l2 = valW l - 268435456 ^ m * (t * valW (exd.take (k + 1))) ∧ WRow w (wr.setCell ⟨g, m + k, none⟩ (.int .i64 (x - p))).drew g l2) := by
    refine ⟨_, by rw [List.length_set]; exact hl', fun j => ?_, fun j hj => ?_, ?_, hR1⟩
    ·have := hb' j
     rw [set_getD]
     split <;> omega
    ·rw [set_getD, if_neg (by omega)]; exact hz' j hj
    ·rw [valW_set _ _ _ (by omega), hv', valW_take_succ exd k, ← hx, ← hy, Int.pow_add, Int.mul_add, Int.mul_add, hpe, show x - t * y - x = -(t * y) by omega, Int.mul_neg]
     have e1 : 268435456 ^ m * (t * (268435456 ^ k * y)) = 268435456 ^ m * 268435456 ^ k * (t * y) := by
      rw [Int.mul_assoc, ← Int.mul_assoc t, Int.mul_comm t, Int.mul_assoc]
     omega
   have HP : Hid (p = t * y) := hpe
   have ei : ((m : Int) + 9 - 9 + (k : Int)) = ((m + k : Nat) : Int) := by omega
   have ep : t * y = p := hpe.symm
   clear hx hy hpe hR hR1 hb' hz' hv' hl' hb hz hT
   go_wp2_with fail
   go_region
   go_wp2
   go_roundw
   case rel => exact ⟨k + 1, by omega, by go_num, HR1.out⟩
   case measure => simp [intOf]; omega
  ·obtain rfl : k = 5 := by omega
   have hc := settle30 g (m + 8) l' wr hl' (by omega) (fun j => by have := hb' j; omega) hR.2
   have HE : Hid (stl l' (m + 8) = row (m + 8) (valW l - 268435456 ^ m * (t * exc))) := by
    show _ = _
    rw [stl_row hl' (by omega) (fun j hj => hz' j (by omega)), hv', show exd.take 5 = exd from rfl, exd_val]
   rw [HE.out] at hc
   have hF := hR.1
   have es : ((m : Int) + 9 - 1) = ((m + 8 : Nat) : Int) := by omega
   clear hb' hz' hv' hl' hb hz hT hR
   go_wp2_with fail
   refine hc.mono ?_
   rintro e w1 ⟨rfl, hR1⟩
   go_wp2
   go_end0
   exact ⟨rfl, hF.trans hR1.1, hR1.2⟩
end EN
end Go.Proofs.YtabgihjffjlfiaaGreatDoor
set_option linter.unusedVariables false
namespace Go.Proofs.YtabgihjffjlfiaaGreatDoor
namespace EN
open Go.RowKit Go.Sort Go.BigFrame
set_option maxRecDepth 100000
set_option maxHeartbeats 2000000
def LI : Int := 7237005577332262213973186563042994240857116359379907606001950938285454250989
theorem LI_LL : LI = (LL : Int) := by decide
theorem b9 : (268435456 : Int) ^ 9 = 7237005577332262213973186563042994240829374041602535252466099000494570602496 := by decide
theorem b9L : (268435456 : Int) ^ 9 + exc = LI := by decide
def RInv (m : Nat) (N V : Int) : Prop := V % LI = N % LI ∧ -(11417981541647679048466287755595961091061972992 * 268435456 ^ m) ≤ V ∧ V < LI * 268435456 ^ m
theorem rinv_times {m : Nat} {N V : Int} (h : RInv (m + 1) N V) : -1 ≤ V / 268435456 ^ (m + 9) ∧ V / 268435456 ^ (m + 9) ≤ 268435456 := by
 obtain ⟨_, h1, h2⟩ := h
 have hB := pos28 m
 rw [Int.pow_add 268435456 m 9, b9]
 rw [Int.pow_succ] at h1 h2
 obtain ⟨B, hBe⟩ : ∃ B : Int, B = 268435456 ^ m := ⟨_, rfl⟩
 rw [← hBe] at hB h1 h2 ⊢
 unfold LI at h2
 clear hBe
 constructor
 ·refine Int.le_ediv_of_mul_le (by omega) (by omega)
 ·refine Int.le_of_lt_add_one (Int.ediv_lt_of_lt_mul (by omega) ?_)
  omega
theorem rinv_step {m : Nat} {N V : Int} (h : RInv (m + 1) N V) : RInv m N (V - 268435456 ^ (m + 9) * (V / 268435456 ^ (m + 9)) - 268435456 ^ m * (V / 268435456 ^ (m + 9) * exc)) := by
 have ht := rinv_times h
 obtain ⟨h0, h1, h2⟩ := h
 have hB := pos28 m
 have hr1 := Int.emod_nonneg V (show (268435456 : Int) ^ (m + 9) ≠ 0 by have := pos28 (m + 9); omega)
 have hr2 := Int.emod_lt_of_pos V (pos28 (m + 9))
 have hr3 := Int.mul_ediv_add_emod V (268435456 ^ (m + 9))
 obtain ⟨t, hte⟩ : ∃ t : Int, t = V / 268435456 ^ (m + 9) := ⟨_, rfl⟩
 rw [← hte] at ht hr3 ⊢
 obtain ⟨r, hre⟩ : ∃ r : Int, r = V % 268435456 ^ (m + 9) := ⟨_, rfl⟩
 rw [← hre] at hr1 hr2 hr3
 have e9 : (268435456 : Int) ^ (m + 9) = 268435456 ^ m * 7237005577332262213973186563042994240829374041602535252466099000494570602496 := by rw [Int.pow_add 268435456 m 9, b9]
 obtain ⟨B, hBe⟩ : ∃ B : Int, B = 268435456 ^ m := ⟨_, rfl⟩
 rw [← hBe] at e9 hB ⊢
 have hV : V - 268435456 ^ (m + 9) * t - B * (t * exc) = V - LI * (B * t) := by
  rw [e9, ← b9L, b9, Int.add_mul]
  have a1 : B * 7237005577332262213973186563042994240829374041602535252466099000494570602496 * t = 7237005577332262213973186563042994240829374041602535252466099000494570602496 * (B * t) := by rw [Int.mul_comm B, Int.mul_assoc]
  have a2 : B * (t * exc) = exc * (B * t) := by rw [← Int.mul_assoc, Int.mul_comm]
  rw [a1, a2]; omega
 have hexc : (0 : Int) < exc ∧ exc < 42535295865117307932921825928971026432 := by decide
 have hu1 : -exc ≤ t * exc := by
  have := Int.mul_le_mul_of_nonneg_right ht.1 (Int.le_of_lt hexc.1)
  omega
 have hu2 : t * exc ≤ 268435456 * exc := Int.mul_le_mul_of_nonneg_right ht.2 (Int.le_of_lt hexc.1)
 have hw1 : B * (-exc) ≤ B * (t * exc) := Int.mul_le_mul_of_nonneg_left hu1 (Int.le_of_lt hB)
 have hw2 : B * (t * exc) ≤ B * (268435456 * exc) := Int.mul_le_mul_of_nonneg_left hu2 (Int.le_of_lt hB)
 refine ⟨?_, ?_, ?_⟩
 ·rw [hV, Int.sub_mul_emod_self_left, h0]
 ·have : B * (268435456 * exc) ≤ B * 11417981541647679048466287755595961091061972992 := Int.mul_le_mul_of_nonneg_left (by decide) (Int.le_of_lt hB)
  rw [← hBe]
  omega
 ·rw [← hBe, ← b9L, b9, Int.add_mul]
  have : B * (-exc) = -(exc * B) := by rw [Int.mul_neg, Int.mul_comm]
  omega
theorem rinv_last {N V : Int} (h : RInv 0 N V) (hN : 0 ≤ V) : V = N % LI := by
 obtain ⟨h0, h1, h2⟩ := h
 rw [← h0, Int.emod_eq_of_lt hN (by simpa using h2)]
theorem rinv_last2 {N V : Int} (h : RInv 0 N V) (hN : V < 0) : V + LI = N % LI := by
 obtain ⟨h0, h1, h2⟩ := h
 rw [← h0, ← Int.add_emod_right V LI, Int.emod_eq_of_lt (by simp at h1; unfold LI; omega) (by omega)]
theorem row_bound {top : Nat} {V : Int} (h1 : -1 ≤ V / 268435456 ^ top) (h2 : V / 268435456 ^ top ≤ 268435456) (j : Nat) : -1 ≤ (row top V).getD j 0 ∧ (row top V).getD j 0 ≤ 268435456 := by
 rcases Nat.lt_trichotomy j top with h | h | h
 ·rw [row_get_lt V h]; omega
 ·subst h; rw [row_get_top]; omega
 ·rw [row_get_gt V h]; omega
theorem reduce21 (g : Nat) (N : Int) (w : World) (h0 : 0 ≤ N) (h1 : N < 268435456 ^ 19) (hg : w.heap[g]? = some (.cells (zints (row 18 N)) 69 (0, 0))) (hT : ETab w) (hg0 : g ≠ 4) :
  Calls Tryz.prog 44 #[.pointer (some ⟨g, 0, none⟩)] w fun e w' => e = .returned (.tuple #[]) ∧ WRow w w' g (row 8 (N % LI)) := by
 have hR0 : WRow w w g (row (10 + 8) N) := ⟨Frm.refl _ _, hg⟩
 have hI0 : RInv 10 N N := by
  refine ⟨rfl, ?_, ?_⟩
  ·have : (0 : Int) ≤ 11417981541647679048466287755595961091061972992 * 268435456 ^ 10 := by decide
   omega
  ·have : (268435456 : Int) ^ 19 ≤ LI * 268435456 ^ 10 := by decide
   omega
 clear hg h0 h1
 go_enter Tryz.func44, Tryz.ntmps44
 go_wp2_with fail
 go_loopw [2] (fun i wr => ∃ m : Nat, ∃ V : Int, m ≤ 10 ∧ i = .int .i64 ((m + 8 : Nat) : Int) ∧ RInv m N V ∧ WRow w wr g (row (m + 8) V)) (fun i _ => (intOf i).toNat)
 case atStart => exact ⟨10, N, by omega, rfl, hI0, hR0⟩
 case round =>
  obtain ⟨m, V, hm, rfl, hI, hR⟩ := hrel
  clear hR0 hI0
  by_cases hm0 : m = 0
  ·subst hm0
   have c8 := hR.at 8 (by rw [row_len (by omega)]; omega)
   have f8 := hR.free 8
   rw [show 0 + 8 = 8 from rfl] at hR c8
   rw [row_get_top] at c8
   have HI : Hid (RInv 0 N V) := hI
   have hq1 : -1 ≤ V / 268435456 ^ 8 ∧ V / 268435456 ^ 8 ≤ 268435456 := by
    obtain ⟨_, h1, h2⟩ := hI
    simp only [Int.pow_zero, Int.mul_one] at h1 h2
    unfold LI at h2
    have : (268435456 : Int) ^ 8 = 26959946667150639794667015087019630673637144422540572481103610249216 := by decide
    rw [this]
    omega
   have hneg : V / 268435456 ^ 8 < 0 ↔ V < 0 := by
    have : (268435456 : Int) ^ 8 = 26959946667150639794667015087019630673637144422540572481103610249216 := by decide
    rw [this]
    omega
   obtain ⟨q, hq⟩ : ∃ q, q = V / 268435456 ^ 8 := ⟨_, rfl⟩
   rw [← hq] at c8 hq1 hneg
   clear hI
   by_cases hlt : q < 0
   ·have hl2 : valW ((row 8 V).set 8 (q + 268435456)) = V + 268435456 ^ 9 := by
     rw [valW_set _ _ _ (by rw [row_len (by omega)]; omega), valW_row, row_get_top, ← hq, show q + 268435456 - q = 268435456 by omega, ← Int.pow_succ]
    have hR1 := (hR.set 8 (q + 268435456)).drew
    have hc := takeExcess31 g 0 (-1) ((row 8 V).set 8 (q + 268435456)) (wr.setCell ⟨g, 8, none⟩ (.int .i64 (q + 268435456))).drew (by show _ = _; rw [List.length_set, row_len (by omega)]) (by omega) (by omega) (by omega)
     (fun j => by have := row_bound (top := 8) (V := V) (by omega) (by omega) j; rw [set_getD]; split <;> omega)
     (fun j hj => by rw [set_getD, if_neg (by omega)]; exact row_get_gt V (by omega)) hR1.2 (hT.frm hR1.1 hg0) hg0
    have HE : Hid (V + LI = N % LI) := rinv_last2 HI.out (hneg.1 hlt)
    rw [hl2, show V + 268435456 ^ 9 - 268435456 ^ 0 * (-1 * exc) = V + LI by rw [← b9L]; simp; omega, HE.out] at hc
    have hF := hR1.1
    clear hl2 hq hneg hR hR1 HE hT HI
    go_wp2_with fail
    go_region
    generalize (wr.setCell ⟨g, 8, none⟩ (.int .i64 (q + 268435456))).drew = w2 at hc hF ⊢
    go_wp2_with fail
    refine hc.mono ?_
    rintro e w1 ⟨rfl, hR1⟩
    go_wp2
    go_end0
    exact ⟨rfl, hF.trans hR1.1, hR1.2⟩
   ·have HE : Hid (V = N % LI) := rinv_last HI.out (by omega)
    rw [HE.out] at hR
    clear hq hneg HE hT HI
    go_wp2
    go_end0
    exact ⟨rfl, hR⟩
  ·obtain ⟨m, rfl⟩ : ∃ i, m = i + 1 := ⟨m - 1, by omega⟩
   clear hm0
   have ht := rinv_times hI
   have hI1 := rinv_step hI
   have eT : m + 1 + 8 = m + 9 := by omega
   rw [eT] at hR ⊢
   have c1 := hR.at (m + 9) (by rw [row_len (by omega)]; omega)
   have f1 := hR.free (m + 9)
   rw [row_get_top] at c1
   obtain ⟨t, hte⟩ : ∃ t : Int, t = V / 268435456 ^ (m + 9) := ⟨_, rfl⟩
   rw [← hte] at c1 ht hI1
   have hR1 := hR.set (m + 9) 0
   have hl2 : valW ((row (m + 9) V).set (m + 9) 0) = V - 268435456 ^ (m + 9) * t := by
    rw [valW_set _ _ _ (by rw [row_len (by omega)]; omega), valW_row, row_get_top, ← hte, Int.zero_sub, Int.mul_neg]; omega
   have hc := takeExcess31 g m t ((row (m + 9) V).set (m + 9) 0) (wr.setCell ⟨g, m + 9, none⟩ (.int .i64 0)) (by show _ = _; rw [List.length_set, row_len (by omega)]) (by omega) ht.1 ht.2
     (fun j => by have := row_bound (top := m + 9) (V := V) (by omega) (by omega) j; rw [set_getD]; split <;> omega)
     (fun j hj => by
      rw [set_getD]
      split
      ·rfl
      ·exact row_get_gt V (by rw [row_len (by omega)] at *; omega)) hR1.2 (hT.frm hR1.1 hg0) hg0
   rw [hl2] at hc
   have hF := hR1.1
   have HI : Hid (RInv m N (V - 268435456 ^ (m + 9) * t - 268435456 ^ m * (t * exc))) := hI1
   clear hl2 hte hR hR1 hI hI1
   go_wp2_with fail
   generalize (wr.setCell ⟨g, m + 9, none⟩ (.int .i64 0)) = w2 at hc hF ⊢
   refine hc.mono ?_
   rintro e w1 ⟨rfl, hR1⟩
   have hR2 : WRow w w1 g (row (m + 8) (V - 268435456 ^ (m + 9) * t - 268435456 ^ m * (t * exc))) := ⟨hF.trans hR1.1, hR1.2⟩
   clear hc hR1
   go_wp2
   go_roundw
   case rel => exact ⟨m, _, by omega, by go_num, HI.out, hR2⟩
   case measure => simp [intOf]; omega
end EN
end Go.Proofs.YtabgihjffjlfiaaGreatDoor
set_option linter.unusedVariables false
namespace Go.Proofs.YtabgihjffjlfiaaGreatDoor
namespace EN
open Go.RowKit Go.Sort Go.BigFrame
set_option maxRecDepth 100000
set_option maxHeartbeats 2000000
theorem i64_or_nat (a b : Nat) (ha : a < 4611686018427387904) (hb : b < 4611686018427387904) : bits .or .i64 (a : Int) (b : Int) = ((a ||| b : Nat) : Int) := by
 have hx : a ||| b < 2 ^ 62 := Nat.or_lt_two_pow (by omega) (by omega)
 have e : ∀ n : Nat, n < 4611686018427387904 → (BitVec.ofInt 64 (n : Int)).toNat = n := fun n hn => by rw [BitVec.toNat_ofInt]; omega
 show IntKind.i64.wrap ((BitVec.ofInt 64 (a : Int) ||| BitVec.ofInt 64 (b : Int)).toNat : Int) = _
 rw [BitVec.toNat_or, e a ha, e b hb, IntKind.wrap_i64]
 omega
theorem or_add (X Y k : Nat) (hX : X < 2 ^ k) (hY : Y % 2 ^ k = 0) : X ||| Y = X + Y := by
 have h1 : Y = 2 ^ k * (Y / 2 ^ k) := by have := Nat.div_add_mod Y (2 ^ k); omega
 rw [Nat.or_comm, h1, ← Nat.two_pow_add_eq_or_of_lt hX, Nat.add_comm]
theorem rowN_lt {top j : Nat} (R : Nat) (h : j < top) : (row top (R : Int)).getD j 0 = ((R / 268435456 ^ j % 268435456 : Nat) : Int) := by
 rw [row_get_lt _ h]; simp
theorem rowN_top (top R : Nat) : (row top (R : Int)).getD top 0 = ((R / 268435456 ^ top : Nat) : Int) := by
 rw [row_get_top]; simp
theorem byte_w (P s x y : Nat) (hs : s = 0 ∨ s = 4 ∨ s = 8 ∨ s = 12 ∨ s = 16 ∨ s = 20 ∨ s = 24) (hxy : (x < 268435456 ∧ x = P % 268435456 ∧ y % 268435456 = P / 268435456 % 268435456 ∧ y ≤ 268435456) ∨ (x = P ∧ y = 0 ∧ x ≤ 268435456)) :
  bits .or .i64 ((x : Int) / 2 ^ s) ((y : Int) * 2 ^ (28 - s)) % 256 = ((P / 2 ^ s % 256 : Nat) : Int) := by
 have w8 : ∀ n : Nat, (n : Int) % 256 = ((n % 256 : Nat) : Int) := fun n => by simp
 have e1 : ((x : Int) / 2 ^ s) = ((x / 2 ^ s : Nat) : Int) := by simp
 have e2 : ((y : Int) * 2 ^ (28 - s)) = ((y * 2 ^ (28 - s) : Nat) : Int) := by simp
 rw [e1, e2]
 have hx : x / 2 ^ s ≤ x := Nat.div_le_self _ _
 have hp : 2 ^ (28 - s) ≤ 2 ^ 28 := Nat.pow_le_pow_right (by decide) (by omega)
 have hy : y * 2 ^ (28 - s) ≤ 268435456 * 2 ^ 28 := Nat.mul_le_mul (by omega) hp
 rw [i64_or_nat _ _ (by omega) (by omega)]
 rcases hxy with ⟨h1, h2, h3, h4⟩ | ⟨h1, h2, h4⟩
 ·rw [or_add _ _ (28 - s) ?_ (Nat.mul_mod_left _ _), w8]
  ·congr 1
   rcases hs with rfl | rfl | rfl | rfl | rfl | rfl | rfl <;> simp only [Nat.reducePow, Nat.reduceSub] <;> omega
  ·rcases hs with rfl | rfl | rfl | rfl | rfl | rfl | rfl <;> simp only [Nat.reducePow, Nat.reduceSub] <;> omega
 ·subst h2
  rw [Nat.zero_mul, Nat.or_zero, w8, h1]
def RelB (w wr : World) (g gb : Nat) (l : List Int) (bl : List Nat) : Prop :=
 Below w.heap.size w wr ∧ w.heap.size ≤ gb ∧ g ≠ gb ∧ wr.heap[g]? = some (.cells (zints l) 69 (0, 0)) ∧ wr.heap[gb]? = some (.cells (ints .u8 bl) 5 (0, 0))
theorem RelB.set {w wr : World} {g gb : Nat} {l : List Int} {bl : List Nat} (h : RelB w wr g gb l bl) (k v : Nat) : RelB w (wr.setCell ⟨gb, k, none⟩ (.int .u8 (v : Int))) g gb l (bl.set k v) :=
 ⟨h.1.setCell h.2.1 _, h.2.1, h.2.2.1, (heap_setCell_other _ _ _ _ h.2.2.1).trans h.2.2.2.1, set_ints h.2.2.2.2 _ _⟩
theorem RelB.drew {w wr : World} {g gb : Nat} {l : List Int} {bl : List Nat} (h : RelB w wr g gb l bl) : RelB w wr.drew g gb l bl := ⟨h.1.drew, h.2⟩
theorem pow256 (k : Nat) : 256 ^ k = 2 ^ (8 * k) := by rw [Nat.pow_mul]
theorem bytes22 (g R : Nat) (w : World) (hR : R < LL) (hg : w.heap[g]? = some (.cells (zints (row 8 (R : Int))) 69 (0, 0))) :
  Calls Tryz.prog 45 #[.pointer (some ⟨g, 0, none⟩)] w fun e w' => ∃ gb, e = .returned (.slice (some ⟨gb, 0, none⟩) 32 32) ∧ w.heap.size ≤ gb ∧ Below w.heap.size w w' ∧ w'.heap[gb]? = some (.cells (ints .u8 (digs 32 R)) 5 (0, 0)) := by
 have hmk := make32
 have hgl := lt_of_heap hg
 have hR0 : RelB w (w.alloc (.cells (ints .u8 (digs 32 0)) 5)) g w.heap.size (row 8 (R : Int)) (digs 32 (R % 256 ^ 0)) :=
  ⟨below1 _ _, Nat.le_refl _, by omega, block_below (below1 _ _) hgl hg, by rw [Nat.pow_zero, Nat.mod_one]; exact heap_alloc_new _ _⟩
 have hb8 : R / 268435456 ^ 8 ≤ 268435456 := by
  have : R < 26959946667150639794667015087019630673637144422540572481103610249216 * 268435457 := Nat.lt_trans hR (by decide)
  have e : 268435456 ^ 8 = 26959946667150639794667015087019630673637144422540572481103610249216 := by decide
  rw [e]; omega
 have HR : Hid (R < LL) := hR
 clear hg hgl hR
 go_enter Tryz.func45, Tryz.ntmps45
 go_wp2_with fail
 generalize w.heap.size = gb at hR0 ⊢
 go_loopw [8] (fun i wr => ∃ k : Nat, k ≤ 32 ∧ i = .int .i64 k ∧ RelB w wr g gb (row 8 (R : Int)) (digs 32 (R % 256 ^ k))) (fun i _ => 32 - (intOf i).toNat)
 case atStart => exact ⟨0, by omega, rfl, hR0⟩
 case round =>
  obtain ⟨k, hk, rfl, hR⟩ := hrel
  clear hR0 hmk
  by_cases hlt : k < 32
  ·obtain ⟨at', hat⟩ : ∃ t, t = 8 * k / 28 := ⟨_, rfl⟩
   obtain ⟨s, hs⟩ : ∃ t, t = 8 * k % 28 := ⟨_, rfl⟩
   have iat : 8 * (k : Int) / 28 = (at' : Int) := by omega
   have ish : 8 * (k : Int) % 28 = (s : Int) := by omega
   have hat8 : at' ≤ 8 := by omega
   have hs7 : s = 0 ∨ s = 4 ∨ s = 8 ∨ s = 12 ∨ s = 16 ∨ s = 20 ∨ s = 24 := by omega
   have hs28 : s < 28 := by omega
   have c1 := cell_z hR.2.2.2.1 at' (by rw [row_len (by omega)]; omega)
   have c2 := cell_z hR.2.2.2.1 (at' + 1) (by rw [row_len (by omega)]; omega)
   have f1 := free_ints hR.2.2.2.2 k
   have c3 := cell_ints hR.2.2.2.2 k (by rw [digs_len]; omega)
   obtain ⟨x, y, hx, hy, hxy⟩ : ∃ x y : Nat, (row 8 (R : Int)).getD at' 0 = (x : Int) ∧ (row 8 (R : Int)).getD (at' + 1) 0 = (y : Int) ∧ ((x < 268435456 ∧ x = (R / 268435456 ^ at') % 268435456 ∧ y % 268435456 = R / 268435456 ^ at' / 268435456 % 268435456 ∧ y ≤ 268435456) ∨ (x = R / 268435456 ^ at' ∧ y = 0 ∧ x ≤ 268435456)) := by
    by_cases h8 : at' = 8
    ·subst h8
     exact ⟨_, 0, rowN_top 8 R, row_get_gt _ (by omega), .inr ⟨rfl, rfl, hb8⟩⟩
    ·have e1 : R / 268435456 ^ at' / 268435456 = R / 268435456 ^ (at' + 1) := by rw [Nat.div_div_eq_div_mul, ← Nat.pow_succ]
     by_cases h7 : at' = 7
     ·subst h7
      exact ⟨_, _, rowN_lt R (by omega), rowN_top 8 R, .inl ⟨by omega, rfl, by rw [e1], hb8⟩⟩
     ·refine ⟨_, _, rowN_lt R (by omega), rowN_lt R (by omega), .inl ⟨by omega, rfl, by rw [e1]; omega, by omega⟩⟩
   rw [hx] at c1
   rw [hy] at c2
   have hbyte := byte_w (R / 268435456 ^ at') s x y hs7 hxy
   have hpe : R / 268435456 ^ at' / 2 ^ s = R / 256 ^ k := by
    rw [Nat.div_div_eq_div_mul, show (268435456 : Nat) = 2 ^ 28 from rfl, ← Nat.pow_mul, ← Nat.pow_add, pow256, show 28 * at' + s = 8 * k by omega]
   rw [hpe] at hbyte
   have hxl : x ≤ 268435456 ∧ y ≤ 268435456 := by omega
   have hyb : (y : Int) * 2 ^ (28 - s) ≤ 72057594037927936 := by
    have hp : 2 ^ (28 - s) ≤ 2 ^ 28 := Nat.pow_le_pow_right (by decide) (by omega)
    have hy : y * 2 ^ (28 - s) ≤ 268435456 * 2 ^ 28 := Nat.mul_le_mul (by omega) hp
    have e2 : ((y : Int) * 2 ^ (28 - s)) = ((y * 2 ^ (28 - s) : Nat) : Int) := by simp
    rw [e2]; omega
   have hyb0 : 0 ≤ (y : Int) * 2 ^ (28 - s) := by
    have e2 : ((y : Int) * 2 ^ (28 - s)) = ((y * 2 ^ (28 - s) : Nat) : Int) := by simp
    rw [e2]; omega
   have HN : Hid (RelB w (wr.setCell ⟨gb, k, none⟩ (.int .u8 (bits .or .i64 ((x : Int) / 2 ^ s) ((y : Int) * 2 ^ (28 - s)) % 256))).drew g gb (row 8 (R : Int)) (digs 32 (R % 256 ^ (k + 1)))) := by
    show RelB _ _ _ _ _ _
    rw [hbyte]
    have := digs_set (N := 32) (Y := R % 256 ^ k) (k := k) (d := R / 256 ^ k % 256) (Nat.mod_lt _ (pos256 k)) (Nat.mod_lt _ (by decide)) (by omega)
    rw [Nat.pow_succ, Nat.mod_mul, ← this]
    exact (hR.set _ _).drew
   clear hx hy hxy hbyte hpe hR hat hs
   go_wp2_with fail
   go_region
   go_wp2
   go_roundw
   case rel => exact ⟨k + 1, by omega, by go_num, HN.out⟩
   case measure => simp [intOf]; omega
  ·obtain rfl : k = 32 := by omega
   rw [Nat.mod_eq_of_lt (Nat.lt_trans HR.out (by decide))] at hR
   go_wp2
   go_ret
   exact ⟨gb, rfl, hR.2.1, hR.1, hR.2.2.2.2⟩
end EN
end Go.Proofs.YtabgihjffjlfiaaGreatDoor
set_option linter.unusedVariables false
namespace Go.Proofs.YtabgihjffjlfiaaGreatDoor
namespace EN
open Go.RowKit Go.Sort Go.BigFrame
set_option maxRecDepth 100000
set_option maxHeartbeats 2000000
theorem pow28 (a s k : Nat) (h : 28 * a + s = 8 * k) : (268435456 : Int) ^ a * 2 ^ s = ((256 ^ k : Nat) : Int) := by
 have : 268435456 ^ a * 2 ^ s = 256 ^ k := by
  rw [show (268435456 : Nat) = 2 ^ 28 from rfl, ← Nat.pow_mul, ← Nat.pow_add, pow256, h]
 rw [← this]; simp
theorem read20 (g : Nat) (a : Option Addr) (len cap : Nat) (bs : List Nat) (most n : Nat) (w0 w : World) (hn : (n = len ∧ len ≤ most) ∨ (n = most ∧ most < len)) (hlen : Hid (bs.length = len)) (hcap : len ≤ cap) (hcap2 : cap ≤ 9223372036854775807) (hm : most ≤ 64) (hd : Dig bs) (hv : View w0 a bs) (hB : Below w0.heap.size w0 w) (hgB : w0.heap.size ≤ g)
  (hg : w.heap[g]? = some (.cells (zints (List.replicate 19 0)) 69 (0, 0))) :
  Calls Tryz.prog 42 #[.pointer (some ⟨g, 0, none⟩), .slice a len cap, .int .i64 most] w fun e w' => e = .returned (.tuple #[]) ∧ WRow w w' g (row 18 ((valD (bs.take most) : Nat) : Int)) := by
 have hR0 : WRow w w g (List.replicate 19 0) := ⟨Frm.refl _ _, hg⟩
 clear hg
 have hnl : n ≤ len ∧ n ≤ 64 := by omega
 have HT : Hid (bs.take most = bs.take n) := by
  show _ = _
  rcases hn with ⟨h1, h2⟩ | ⟨h1, h2⟩
  ·rw [List.take_of_length_le (by rw [hlen.out]; exact h2), List.take_of_length_le (by rw [hlen.out]; omega)]
  ·rw [h1]
 rw [HT.out]
 clear HT
 have hmin : min (len : Int) (most : Int) = (n : Int) := by omega
 have key : ∀ wr : World, ∀ k : Nat, k < n → Frm g w wr → ∃ gb off c, a = some ⟨gb, off, none⟩ ∧ c < 256 ∧ c = bs.getD k 0 ∧ gb ≠ g ∧ wr.cell? ⟨gb, off + k, none⟩ = some (.int .u8 ((c : Nat) : Int)) := fun wr k hk hf => by
  obtain ⟨gb, off, rfl, hc⟩ := hv (by rw [hlen.out]; omega)
  have h1 := hc k (by rw [hlen.out]; omega)
  have hlt := block_lt_of_cell h1
  have h2 : Below w0.heap.size w0 wr := hf.below hB hgB
  refine ⟨gb, off, bs.getD k 0, rfl, hd k, rfl, by simp at hlt; omega, ?_⟩
  exact (h2.cell (p := ⟨gb, off + k, none⟩) hlt).trans h1
 clear hv hB hgB hd
 rcases hn with ⟨rfl, hn⟩ | ⟨rfl, hn⟩
 all_goals
  go_enter Tryz.func42, Tryz.ntmps42
  go_wp2_with fail
  go_loopw [11] (fun i wr => ∃ k : Nat, k ≤ n ∧ i = .int .i64 k ∧ ∃ l' : List Int, l'.length = 19 ∧ (∀ j, 0 ≤ l'.getD j 0 ∧ l'.getD j 0 ≤ 4278190080 * (k : Int)) ∧ valW l' = ((valD (bs.take k) : Nat) : Int) ∧ WRow w wr g l') (fun i _ => n - (intOf i).toNat)
  case atStart => exact ⟨0, by omega, rfl, List.replicate 19 0, by simp, fun j => by rw [List.getD_eq_getElem?_getD, List.getElem?_replicate]; split <;> simp, by rw [valW_rep]; rfl, hR0⟩
  case round =>
   obtain ⟨k, hk, rfl, l', hl', hb', hv', hR⟩ := hrel
   clear hR0 hmin
   by_cases hlt : k < n
   ·obtain ⟨gb, off, c, rfl, hcl, hcc, hne, c2⟩ := key wr k hlt hR.1
    obtain ⟨at', hat⟩ : ∃ t, t = 8 * k / 28 := ⟨_, rfl⟩
    obtain ⟨s, hs⟩ : ∃ t, t = 8 * k % 28 := ⟨_, rfl⟩
    have iat : 8 * (k : Int) / 28 = (at' : Int) := by omega
    have ish : 8 * (k : Int) % 28 = (s : Int) := by omega
    have hat18 : at' ≤ 18 := by omega
    have hs24 : s ≤ 24 := by omega
    have c1 := hR.at at' (by omega)
    have f1 := hR.free at'
    have hbx := hb' at'
    obtain ⟨x, hx⟩ : ∃ x, x = l'.getD at' 0 := ⟨_, rfl⟩
    rw [← hx] at c1 hbx
    have hcs : 0 ≤ (c : Int) * 2 ^ s ∧ (c : Int) * 2 ^ s ≤ 4278190080 := by
     have hp : 2 ^ s ≤ 2 ^ 24 := Nat.pow_le_pow_right (by decide) hs24
     have hy : c * 2 ^ s ≤ 255 * 2 ^ 24 := Nat.mul_le_mul (by omega) hp
     have e2 : ((c : Int) * 2 ^ s) = ((c * 2 ^ s : Nat) : Int) := by simp
     rw [e2]; omega
    have HN : Hid (∃ l2 : List Int, l2.length = 19 ∧ (∀ j, 0 ≤ l2.getD j 0 ∧ l2.getD j 0 ≤ 4278190080 * ((k + 1 : Nat) : Int)) ∧ valW l2 = ((valD (bs.take (k + 1)) : Nat) : Int) ∧ WRow w (wr.setCell ⟨g, at', none⟩ (.int .i64 (x + (c : Int) * 2 ^ s))).drew g l2) := by
     refine ⟨_, by rw [List.length_set]; exact hl', fun j => ?_, ?_, (hR.set at' (x + (c : Int) * 2 ^ s)).drew⟩
     ·have := hb' j
      rw [set_getD]
      split <;> omega
     ·rw [valW_set _ _ _ (by omega), hv', ← hx, show x + (c : Int) * 2 ^ s - x = 2 ^ s * (c : Int) by rw [Int.mul_comm]; omega, ← Int.mul_assoc, pow28 at' s k (by omega), valD_take_succ, ← hcc]
      simp
    have hbx2 : x ≤ 300000000000 := by omega
    clear hx hcc hb' hv' hR hl' key hat hs
    go_wp2_with fail
    go_big_region
    go_wp2
    go_roundw
    case rel => exact ⟨k + 1, by omega, by go_num, HN.out⟩
    case measure => simp [intOf]; omega
   ·obtain rfl : k = n := by omega
    have hc := settle30 g 18 l' wr hl' (by omega) (fun j => by have := hb' j; omega) hR.2
    rw [stl18 hl', hv'] at hc
    have hF := hR.1
    clear hb' hv' hR hl' key
    go_wp2_with fail
    refine hc.mono ?_
    rintro e w1 ⟨rfl, hR1⟩
    go_wp2
    go_end0
    exact ⟨rfl, hF.trans hR1.1, hR1.2⟩
end EN
end Go.Proofs.YtabgihjffjlfiaaGreatDoor
set_option linter.unusedVariables false
namespace Go.Proofs.YtabgihjffjlfiaaGreatDoor
namespace EN
open Go.RowKit Go.Sort Go.BigFrame
set_option maxRecDepth 100000
set_option maxHeartbeats 2000000
theorem row18_bound {X : Nat} (h : X < 256 ^ 64) (j : Nat) : 0 ≤ (row 18 (X : Int)).getD j 0 ∧ (row 18 (X : Int)).getD j 0 ≤ 268435455 := by
 rcases Nat.lt_trichotomy j 18 with h1 | h1 | h1
 ·rw [rowN_lt X h1]; omega
 ·subst h1
  rw [rowN_top]
  have : X / 268435456 ^ 18 < 268435456 := (Nat.div_lt_iff_lt_mul (by decide)).2 (Nat.lt_trans h (by decide))
  omega
 ·rw [row_get_gt _ h1]; omega
theorem row_take10 {X : Nat} (h : X < 256 ^ 32) : valW ((row 18 (X : Int)).take 10) = (X : Int) := by
 have h1 := valW_append ((row 18 (X : Int)).take 10) ((row 18 (X : Int)).drop 10)
 rw [List.take_append_drop, valW_row] at h1
 have hz : (row 18 (X : Int)).drop 10 = List.replicate 9 0 := by
  apply List.ext_getElem
  ·rw [List.length_drop, row_len (by omega)]; simp
  ·intro i h2 h3
   have hi : i < 9 := by simpa using h3
   have h4 : 10 + i < (row 18 (X : Int)).length := by rw [row_len (by omega)]; omega
   have h5 : (row 18 (X : Int)).getD (10 + i) 0 = 0 := by
    have hz : X / 268435456 ^ (10 + i) = 0 := Nat.div_eq_of_lt (Nat.lt_of_lt_of_le h (Nat.le_trans (by decide : 256 ^ 32 ≤ 268435456 ^ 10) (Nat.pow_le_pow_right (by decide) (by omega))))
    by_cases h18 : 10 + i < 18
    ·rw [rowN_lt X h18, hz]; rfl
    ·have : 10 + i = 18 := by omega
     rw [this] at hz ⊢
     rw [rowN_top, hz]; rfl
   rw [List.getElem_drop, List.getElem_replicate]
   rw [List.getD_eq_getElem?_getD, List.getElem?_eq_getElem h4] at h5
   exact h5
 rw [hz, valW_rep] at h1
 omega
def AInv (l : List Int) (n : Nat) (V : Int) : Prop := l.length = 19 ∧ (∀ j, 0 ≤ l.getD j 0 ∧ l.getD j 0 ≤ 268435456 + 72057594037927936 * (n : Int)) ∧ valW l = V
theorem AInv.step {l : List Int} {n i j : Nat} {V x y : Int} (h : AInv l n V) (hi : i + j < 19) (hx0 : 0 ≤ x) (hx : x ≤ 268435455) (hy0 : 0 ≤ y) (hy : y ≤ 268435455) : AInv (l.set (i + j) (l.getD (i + j) 0 + x * y)) (n + 1) (V + 268435456 ^ i * x * (268435456 ^ j * y)) := by
 obtain ⟨h1, h2, h3⟩ := h
 have hp0 : 0 ≤ x * y := Int.mul_nonneg hx0 hy0
 have hp : x * y ≤ 268435455 * 268435455 := Int.mul_le_mul hx hy hy0 (by decide)
 refine ⟨by rw [List.length_set]; exact h1, fun k => ?_, ?_⟩
 ·have a := h2 k
  have b := h2 (i + j)
  rw [set_getD]
  split <;> omega
 ·rw [valW_set _ _ _ (by omega), h3, show l.getD (i + j) 0 + x * y - l.getD (i + j) 0 = x * y by omega, Int.pow_add]
  congr 1
  rw [Int.mul_assoc, Int.mul_assoc, Int.mul_left_comm (268435456 ^ j)]
theorem addProduct25 (g gx gy : Nat) (C X Y : Nat) (w : World) (hC : C < 256 ^ 32) (hX : X < 256 ^ 32) (hY : Y < 256 ^ 32) (hgx : gx ≠ g) (hgy : gy ≠ g)
  (hg : w.heap[g]? = some (.cells (zints (row 18 (C : Int))) 69 (0, 0))) (hx : w.heap[gx]? = some (.cells (zints (row 18 (X : Int))) 69 (0, 0))) (hy : w.heap[gy]? = some (.cells (zints (row 18 (Y : Int))) 69 (0, 0))) :
  Calls Tryz.prog 43 #[.pointer (some ⟨g, 0, none⟩), .pointer (some ⟨gx, 0, none⟩), .pointer (some ⟨gy, 0, none⟩)] w fun e w' => e = .returned (.tuple #[]) ∧ WRow w w' g (row 18 ((X * Y + C : Nat) : Int)) := by
 have hbx := row18_bound (Nat.lt_trans hX (by decide))
 have hby := row18_bound (Nat.lt_trans hY (by decide))
 have hbc := row18_bound (Nat.lt_trans hC (by decide))
 have hvx := row_take10 hX
 have hvy := row_take10 hY
 obtain ⟨xs, hxs⟩ : ∃ l, l = row 18 (X : Int) := ⟨_, rfl⟩
 obtain ⟨ys, hys⟩ : ∃ l, l = row 18 (Y : Int) := ⟨_, rfl⟩
 have hlx : xs.length = 19 := by rw [hxs, row_len (by omega)]
 have hly : ys.length = 19 := by rw [hys, row_len (by omega)]
 rw [← hxs] at hx hbx hvx
 rw [← hys] at hy hby hvy
 have cx : ∀ wr k, Frm g w wr → k < 19 → wr.cell? ⟨gx, k, none⟩ = some (.int .i64 (xs.getD k 0)) := fun wr k hf hk => cell_z ((hf.block gx hgx).trans hx) k (by omega)
 have cy : ∀ wr k, Frm g w wr → k < 19 → wr.cell? ⟨gy, k, none⟩ = some (.int .i64 (ys.getD k 0)) := fun wr k hf hk => cell_z ((hf.block gy hgy).trans hy) k (by omega)
 have HVX : Hid (valW (xs.take 10) = (X : Int)) := hvx
 have HVY : Hid (valW (ys.take 10) = (Y : Int)) := hvy
 have hA0 : Hid (AInv (row 18 (C : Int)) 0 ((C : Int) + valW (xs.take 0) * (Y : Int))) := ⟨row_len (by omega) _, fun j => by have := hbc j; omega, by rw [valW_row]; simp [valW]⟩
 have hR0 : WRow w w g (row 18 (C : Int)) := ⟨Frm.refl _ _, hg⟩
 clear hxs hys hlx hly hx hy hvx hvy hX hY hC hbc hg
 go_enter Tryz.func43, Tryz.ntmps43
 go_wp2_with fail
 go_loopw [8] (fun i wr => ∃ k : Nat, k ≤ 10 ∧ i = .int .i64 k ∧ ∃ l', AInv l' (10 * k) ((C : Int) + valW (xs.take k) * (Y : Int)) ∧ WRow w wr g l') (fun i _ => 10 - (intOf i).toNat)
 case atStart => exact ⟨0, by omega, rfl, _, hA0.out, hR0⟩
 case round =>
  obtain ⟨k, hk, rfl, l', hA, hR⟩ := hrel
  clear hR0 hA0
  by_cases hlt : k < 10
  ·have hxk := hbx k
   have HXS : Hid (valW (xs.take (k + 1)) = valW (xs.take k) + 268435456 ^ k * xs.getD k 0) := valW_take_succ _ _
   have hA1 : Hid (AInv l' (10 * k + 0) ((C : Int) + valW (xs.take k) * (Y : Int) + 268435456 ^ k * xs.getD k 0 * valW (ys.take 0))) := by
    have : (C : Int) + valW (xs.take k) * (Y : Int) + 268435456 ^ k * xs.getD k 0 * valW (ys.take 0) = (C : Int) + valW (xs.take k) * (Y : Int) := by simp [valW]
    show AInv _ _ _
    rw [this]; exact hA
   have cxk : ∀ wr, Frm g w wr → wr.cell? ⟨gx, k, none⟩ = some (.int .i64 (xs.getD k 0)) := fun wr hf => cx wr k hf (by omega)
   obtain ⟨x, hxe⟩ : ∃ x, x = xs.getD k 0 := ⟨_, rfl⟩
   rw [← hxe] at hxk HXS hA1 cxk
   clear hA hxe
   go_wp2_with fail
   go_loopw [11] (fun i wr => ∃ j : Nat, j ≤ 10 ∧ i = .int .i64 j ∧ ∃ l', AInv l' (10 * k + j) ((C : Int) + valW (xs.take k) * (Y : Int) + 268435456 ^ k * x * valW (ys.take j)) ∧ WRow w wr g l') (fun i _ => 10 - (intOf i).toNat)
   case atStart => exact ⟨0, by omega, rfl, _, hA1.out, hR⟩
   case round =>
    obtain ⟨j, hj, rfl, l2, hA2, hR2⟩ := hrel
    clear hR hA1
    by_cases hlt2 : j < 10
    ·have hyj := hby j
     have cyj := cy wr j hR2.1 (by omega)
     have cxj := cxk wr hR2.1
     have hl2 := hA2.1
     have hb2 := hA2.2.1 (k + j)
     have c1 := hR2.at (k + j) (by omega)
     have f1 := hR2.free (k + j)
     have hst := hA2.step (i := k) (j := j) (x := x) (y := ys.getD j 0) (by omega) hxk.1 hxk.2 hyj.1 hyj.2
     have hRn := (hR2.set (k + j) (l2.getD (k + j) 0 + x * ys.getD j 0)).drew
     have hys := valW_take_succ ys j
     obtain ⟨y, hye⟩ : ∃ y, y = ys.getD j 0 := ⟨_, rfl⟩
     obtain ⟨z, hze⟩ : ∃ z, z = l2.getD (k + j) 0 := ⟨_, rfl⟩
     rw [← hye] at hyj cyj hst hRn hys
     rw [← hze] at hb2 c1 hst hRn
     have hp0 : 0 ≤ x * y := Int.mul_nonneg hxk.1 hyj.1
     have hp : x * y ≤ 268435455 * 268435455 := Int.mul_le_mul hxk.2 hyj.2 hyj.1 (by decide)
     have HN : Hid (∃ l3, AInv l3 (10 * k + (j + 1)) ((C : Int) + valW (xs.take k) * (Y : Int) + 268435456 ^ k * x * valW (ys.take (j + 1))) ∧ WRow w (wr.setCell ⟨g, k + j, none⟩ (.int .i64 (z + x * y))).drew g l3) := by
      refine ⟨_, ?_, hRn⟩
      rw [hys, Int.mul_add, ← Int.add_assoc, ← Nat.add_assoc]
      exact hst
     have hzl : 0 ≤ z ∧ z ≤ 8000000000000000000 := by omega
     clear hst hRn hys hye hze hb2 hA2 hR2 cx cy cxk hbx hby hl2
     go_wp2_with fail
     go_big_region
     go_wp2
     go_roundw
     case rel => exact ⟨j + 1, by omega, by go_num, HN.out⟩
     case measure => simp [intOf]; omega
    ·obtain rfl : j = 10 := by omega
     have HN : Hid (∃ l3, AInv l3 (10 * (k + 1)) ((C : Int) + valW (xs.take (k + 1)) * (Y : Int)) ∧ WRow w wr g l3) := by
      refine ⟨l2, ?_, hR2⟩
      rw [HXS.out, Int.add_mul, ← Int.add_assoc, ← HVY.out]
      rw [← HVY.out] at hA2
      exact hA2
     clear hA2 hR2 cx cy cxk hbx hby
     go_wp2
     go_roundw
     case rel => exact ⟨k + 1, by omega, by go_num, HN.out⟩
     case measure => simp [intOf]; omega
  ·obtain rfl : k = 10 := by omega
   have hc := settle30 g 18 l' wr hA.1 (by omega) (fun j => by have := hA.2.1 j; omega) hR.2
   rw [stl18 hA.1, hA.2.2, HVX.out, show (C : Int) + (X : Int) * (Y : Int) = ((X * Y + C : Nat) : Int) by simp; omega] at hc
   have hF := hR.1
   clear hA hR cx cy hbx hby
   go_wp2_with fail
   refine hc.mono ?_
   rintro e w1 ⟨rfl, hR1⟩
   go_wp2
   go_end0
   exact ⟨rfl, hF.trans hR1.1, hR1.2⟩
end EN
end Go.Proofs.YtabgihjffjlfiaaGreatDoor
set_option linter.unusedVariables false
namespace Go.Proofs.YtabgihjffjlfiaaGreatDoor
namespace EN
open Go.RowKit Go.Sort Go.BigFrame
set_option maxRecDepth 100000
set_option maxHeartbeats 2000000
theorem LL_pos : 0 < LL := by decide
theorem modLI (N : Nat) : (N : Int) % LI = ((N % LL : Nat) : Int) := by rw [LI_LL]; simp
def New32 (w w' : World) (v : Value) (R : Nat) : Prop := ∃ gb, v = .slice (some ⟨gb, 0, none⟩) 32 32 ∧ w.heap.size ≤ gb ∧ Below w.heap.size w w' ∧ w'.heap[gb]? = some (.cells (ints .u8 (digs 32 R)) 5 (0, 0))
theorem take_min (most len : Nat) : ∃ n, (n = len ∧ len ≤ most) ∨ (n = most ∧ most < len) := by
 by_cases h : len ≤ most
 ·exact ⟨len, .inl ⟨rfl, h⟩⟩
 ·exact ⟨most, .inr ⟨rfl, by omega⟩⟩
theorem reduce9 (a : Option Addr) (len cap : Nat) (bs : List Nat) (w : World) (hlen : Hid (bs.length = len)) (hcap : len ≤ cap) (hcap2 : cap ≤ 9223372036854775807) (hd : Dig bs) (hv : View w a bs) (hT : ETab w) :
  Calls Tryz.prog 40 #[.slice a len cap] w fun e w' => ∃ v, e = .returned v ∧ New32 w w' v (valD (bs.take 64) % LL) := by
 obtain ⟨n, hn⟩ := take_min 64 len
 have h0 : (w.alloc (.cells (zints (List.replicate 19 0)) 69)).heap[w.heap.size]? = some (.cells (zints (List.replicate 19 0)) 69 (0, 0)) := heap_alloc_new _ _
 have cR := read20 w.heap.size a len cap bs 64 n w (w.alloc (.cells (zints (List.replicate 19 0)) 69)) hn hlen hcap hcap2 (by omega) hd hv (below1 _ _) (Nat.le_refl _) h0
 have hN := valD_take_lt hd 64
 have hpos := hT.pos
 have hT1 : ETab (w.alloc (.cells (zints (List.replicate 19 0)) 69)) := hT.below (below1 _ _)
 have hB1 : Below w.heap.size w (w.alloc (.cells (zints (List.replicate 19 0)) 69)) := below1 _ _
 obtain ⟨N, hNe⟩ : ∃ N, N = valD (bs.take 64) := ⟨_, rfl⟩
 rw [← hNe] at cR hN ⊢
 have hN2 : (N : Int) < 268435456 ^ 19 := by
  have : N < 268435456 ^ 19 := Nat.lt_trans hN (by decide)
  have e : ((268435456 ^ 19 : Nat) : Int) = (268435456 : Int) ^ 19 := by decide
  rw [← e]; exact_mod_cast this
 have HN2 : Hid ((N : Int) < 268435456 ^ 19) := hN2
 clear hNe hn hlen hv hT hN hN2 h0 hd
 have ez : zints (List.replicate 19 0) = #[.int .i64 0, .int .i64 0, .int .i64 0, .int .i64 0, .int .i64 0, .int .i64 0, .int .i64 0, .int .i64 0, .int .i64 0, .int .i64 0, .int .i64 0, .int .i64 0, .int .i64 0, .int .i64 0, .int .i64 0, .int .i64 0, .int .i64 0, .int .i64 0, .int .i64 0] := rfl
 rw [ez] at cR hT1 hB1
 clear ez
 go_enter Tryz.func40, Tryz.ntmps40
 go_wp2_with fail
 generalize (w.alloc (.cells #[.int .i64 0, .int .i64 0, .int .i64 0, .int .i64 0, .int .i64 0, .int .i64 0, .int .i64 0, .int .i64 0, .int .i64 0, .int .i64 0, .int .i64 0, .int .i64 0, .int .i64 0, .int .i64 0, .int .i64 0, .int .i64 0, .int .i64 0, .int .i64 0, .int .i64 0] 69)) = w1 at cR hT1 hB1 ⊢
 simp only [Int.cast_ofNat_Int] at cR
 refine cR.mono ?_
 rintro e w2 ⟨rfl, hR2⟩
 have cD := reduce21 w.heap.size (N : Int) w2 (by omega) HN2.out hR2.2 (hT1.frm hR2.1 (by omega)) (by omega)
 rw [modLI] at cD
 go_wp2_with fail
 refine cD.mono ?_
 rintro e w3 ⟨rfl, hR3⟩
 have cB := bytes22 w.heap.size (N % LL) w3 (Nat.mod_lt _ LL_pos) hR3.2
 have hB3 : Below w.heap.size w w3 := hR3.1.below (hR2.1.below hB1 (Nat.le_refl _)) (Nat.le_refl _)
 go_wp2_with fail
 refine cB.mono ?_
 rintro e w4 ⟨gb, rfl, hgb, hB4, hrow⟩
 go_wp2
 go_ret
 exact ⟨_, rfl, gb, rfl, by have := hB3.size; omega, hB3.trans (hB4.mono hB3.size), hrow⟩
theorem mulAdd12 (a : Option Addr) (la ca : Nat) (x : List Nat) (b : Option Addr) (lb cb : Nat) (y : List Nat) (c : Option Addr) (lc cc : Nat) (z : List Nat) (w : World) (hla : Hid (x.length = la)) (hlb : Hid (y.length = lb)) (hlc : Hid (z.length = lc)) (hca : la ≤ ca) (hca2 : ca ≤ 9223372036854775807) (hcb : lb ≤ cb) (hcb2 : cb ≤ 9223372036854775807) (hcc : lc ≤ cc) (hcc2 : cc ≤ 9223372036854775807)
  (dx : Dig x) (dy : Dig y) (dz : Dig z) (hx : View w a x) (hy : View w b y) (hz : View w c z) (hT : ETab w) :
  Calls Tryz.prog 16 #[.slice a la ca, .slice b lb cb, .slice c lc cc] w fun e w' => ∃ v, e = .returned v ∧ New32 w w' v ((valD (x.take 32) * valD (y.take 32) + valD (z.take 32)) % LL) := by
 obtain ⟨n1, hn1⟩ := take_min 32 la
 obtain ⟨n2, hn2⟩ := take_min 32 lb
 obtain ⟨n3, hn3⟩ := take_min 32 lc
 obtain ⟨Z, hZ⟩ : ∃ Z, Z = zints (List.replicate 19 0) := ⟨_, rfl⟩
 have i0 : (((w.alloc (.cells Z 69)).alloc (.cells Z 69)).alloc (.cells Z 69)).heap[w.heap.size]? = some (.cells Z 69 (0, 0)) := heap3_0 _ _ _ _
 have i1 : (((w.alloc (.cells Z 69)).alloc (.cells Z 69)).alloc (.cells Z 69)).heap[w.heap.size + 1]? = some (.cells Z 69 (0, 0)) := heap3_1 _ _ _ _
 have i2 : (((w.alloc (.cells Z 69)).alloc (.cells Z 69)).alloc (.cells Z 69)).heap[w.heap.size + 1 + 1]? = some (.cells Z 69 (0, 0)) := heap3_2 _ _ _ _
 have hB1 : Below w.heap.size w (((w.alloc (.cells Z 69)).alloc (.cells Z 69)).alloc (.cells Z 69)) := below3 _ _ _ _
 have cR1 := fun w1 (hB : Below w.heap.size w w1) (hg : w1.heap[w.heap.size]? = some (.cells Z 69 (0, 0))) => read20 w.heap.size a la ca x 32 n1 w w1 hn1 hla hca hca2 (by omega) dx hx hB (Nat.le_refl _) (by rw [← hZ]; exact hg)
 have cR2 := fun w1 (hB : Below w.heap.size w w1) (hg : w1.heap[w.heap.size + 1]? = some (.cells Z 69 (0, 0))) => read20 (w.heap.size + 1) b lb cb y 32 n2 w w1 hn2 hlb hcb hcb2 (by omega) dy hy hB (by omega) (by rw [← hZ]; exact hg)
 have cR3 := fun w1 (hB : Below w.heap.size w w1) (hg : w1.heap[w.heap.size + 1 + 1]? = some (.cells Z 69 (0, 0))) => read20 (w.heap.size + 1 + 1) c lc cc z 32 n3 w w1 hn3 hlc hcc hcc2 (by omega) dz hz hB (by omega) (by rw [← hZ]; exact hg)
 simp only [Int.cast_ofNat_Int] at cR1 cR2 cR3
 have hpos := hT.pos
 have hX := valD_take_lt dx 32
 have hY := valD_take_lt dy 32
 have hZ3 := valD_take_lt dz 32
 obtain ⟨X, hXe⟩ : ∃ N, N = valD (x.take 32) := ⟨_, rfl⟩
 obtain ⟨Y, hYe⟩ : ∃ N, N = valD (y.take 32) := ⟨_, rfl⟩
 obtain ⟨C, hCe⟩ : ∃ N, N = valD (z.take 32) := ⟨_, rfl⟩
 rw [← hXe] at cR1 hX ⊢
 rw [← hYe] at cR2 hY ⊢
 rw [← hCe] at cR3 hZ3 ⊢
 have HN2 : Hid (((X * Y + C : Nat) : Int) < 268435456 ^ 19) := by
  have h1 : X * Y ≤ 256 ^ 32 * 256 ^ 32 := Nat.mul_le_mul (by omega) (by omega)
  have h2 : X * Y + C < 268435456 ^ 19 := by
   have : 256 ^ 32 * 256 ^ 32 + 256 ^ 32 < 268435456 ^ 19 := by decide
   omega
  have e : ((268435456 ^ 19 : Nat) : Int) = (268435456 : Int) ^ 19 := by decide
  show _ < _
  rw [← e]; exact_mod_cast h2
 have HX : Hid (X < 256 ^ 32) := hX
 have HY : Hid (Y < 256 ^ 32) := hY
 have HC : Hid (C < 256 ^ 32) := hZ3
 have hT1 : ETab (((w.alloc (.cells Z 69)).alloc (.cells Z 69)).alloc (.cells Z 69)) := hT.below (below3 _ _ _ _)
 clear hXe hYe hCe hn1 hn2 hn3 hla hlb hlc hx hy hz hT hX hY hZ3 dx dy dz
 have ez : Z = #[.int .i64 0, .int .i64 0, .int .i64 0, .int .i64 0, .int .i64 0, .int .i64 0, .int .i64 0, .int .i64 0, .int .i64 0, .int .i64 0, .int .i64 0, .int .i64 0, .int .i64 0, .int .i64 0, .int .i64 0, .int .i64 0, .int .i64 0, .int .i64 0, .int .i64 0] := hZ
 clear hZ
 subst ez
 go_enter Tryz.func16, Tryz.ntmps16
 go_wp2_with fail
 generalize (((w.alloc (.cells #[.int .i64 0, .int .i64 0, .int .i64 0, .int .i64 0, .int .i64 0, .int .i64 0, .int .i64 0, .int .i64 0, .int .i64 0, .int .i64 0, .int .i64 0, .int .i64 0, .int .i64 0, .int .i64 0, .int .i64 0, .int .i64 0, .int .i64 0, .int .i64 0, .int .i64 0] 69)).alloc (.cells #[.int .i64 0, .int .i64 0, .int .i64 0, .int .i64 0, .int .i64 0, .int .i64 0, .int .i64 0, .int .i64 0, .int .i64 0, .int .i64 0, .int .i64 0, .int .i64 0, .int .i64 0, .int .i64 0, .int .i64 0, .int .i64 0, .int .i64 0, .int .i64 0, .int .i64 0] 69)).alloc (.cells #[.int .i64 0, .int .i64 0, .int .i64 0, .int .i64 0, .int .i64 0, .int .i64 0, .int .i64 0, .int .i64 0, .int .i64 0, .int .i64 0, .int .i64 0, .int .i64 0, .int .i64 0, .int .i64 0, .int .i64 0, .int .i64 0, .int .i64 0, .int .i64 0, .int .i64 0] 69)) = w1 at i0 i1 i2 hB1 hT1 ⊢
 refine (cR1 w1 hB1 i0).mono ?_
 rintro e w2 ⟨rfl, hR2⟩
 have j1 := (hR2.1.block (w.heap.size + 1) (by omega)).trans i1
 have j2 := (hR2.1.block (w.heap.size + 1 + 1) (by omega)).trans i2
 have hB2 := hR2.1.below hB1 (Nat.le_refl _)
 have hT2 := hT1.frm hR2.1 (by omega)
 clear i0 i1 i2 hB1 hT1 cR1
 go_wp2_with fail
 refine (cR2 w2 hB2 j1).mono ?_
 rintro e w3 ⟨rfl, hR3⟩
 have k0 := (hR3.1.block w.heap.size (by omega)).trans hR2.2
 have k2 := (hR3.1.block (w.heap.size + 1 + 1) (by omega)).trans j2
 have hB3 := hR3.1.below hB2 (by omega)
 have hT3 := hT2.frm hR3.1 (by omega)
 clear j1 j2 hB2 hT2 cR2 hR2
 go_wp2_with fail
 refine (cR3 w3 hB3 k2).mono ?_
 rintro e w4 ⟨rfl, hR4⟩
 have l0 := (hR4.1.block w.heap.size (by omega)).trans k0
 have l1 := (hR4.1.block (w.heap.size + 1) (by omega)).trans hR3.2
 have hB4 := hR4.1.below hB3 (by omega)
 have hT4 := hT3.frm hR4.1 (by omega)
 have cP := addProduct25 (w.heap.size + 1 + 1) w.heap.size (w.heap.size + 1) C X Y w4 HC.out HX.out HY.out (by omega) (by omega) hR4.2 l0 l1
 clear k0 k2 hB3 hT3 cR3 hR3 hR4
 go_wp2_with fail
 refine cP.mono ?_
 rintro e w5 ⟨rfl, hR5⟩
 have hB5 := hR5.1.below hB4 (by omega)
 have hT5 := hT4.frm hR5.1 (by omega)
 have cD := reduce21 (w.heap.size + 1 + 1) ((X * Y + C : Nat) : Int) w5 (by omega) HN2.out hR5.2 hT5 (by omega)
 rw [modLI] at cD
 go_wp2_with fail
 refine cD.mono ?_
 rintro e w6 ⟨rfl, hR6⟩
 have hB6 := hR6.1.below hB5 (by omega)
 have cB := bytes22 (w.heap.size + 1 + 1) ((X * Y + C) % LL) w6 (Nat.mod_lt _ LL_pos) hR6.2
 go_wp2_with fail
 refine cB.mono ?_
 rintro e w7 ⟨gb, rfl, hgb, hB7, hrow⟩
 go_wp2
 go_ret
 exact ⟨_, rfl, gb, rfl, by have := hB6.size; omega, hB6.trans (hB7.mono hB6.size), hrow⟩
theorem New32.view {w w' : World} {v : Value} {R : Nat} (h : New32 w w' v R) : ∃ gb, v = .slice (some ⟨gb, 0, none⟩) 32 32 ∧ View w' (some ⟨gb, 0, none⟩) (digs 32 R) := by
 obtain ⟨gb, h1, h2, h3, h4⟩ := h
 exact ⟨gb, h1, fun _ => ⟨gb, 0, rfl, bytes_row h4⟩⟩
def isL (bs : List Nat) : Bool := decide (bs.length = 32 ∧ valD bs < LL)
theorem isL_eq {bs : List Nat} (hd : Dig bs) : decide (digs 32 (valD (bs.take 64) % LL) = bs) = isL bs := by
 unfold isL
 rw [decide_eq_decide]
 constructor
 ·intro h
  have h1 : bs.length = 32 := by rw [← h, digs_len]
  rw [List.take_of_length_le (by omega)] at h
  refine ⟨h1, ?_⟩
  have h2 := congrArg valD h
  rw [valD_digs_lt (Nat.lt_trans (Nat.mod_lt _ LL_pos) (by decide))] at h2
  rw [← h2]; exact Nat.mod_lt _ LL_pos
 ·rintro ⟨h1, h2⟩
  rw [List.take_of_length_le (by omega), Nat.mod_eq_of_lt h2, ← h1]
  exact digs_valD hd
theorem is14 (a : Option Addr) (len cap : Nat) (bs : List Nat) (w : World) (hlen : Hid (bs.length = len)) (hcap : len ≤ cap) (hcap2 : cap ≤ 9223372036854775807) (hd : Dig bs) (hv : View w a bs) (hT : ETab w) :
  Calls Tryz.prog 32 #[.slice a len cap] w fun e w' => e = .returned (.bool (isL bs)) ∧ Below w.heap.size w w' := by
 have cR := reduce9 a len cap bs w hlen hcap hcap2 hd hv hT
 have cE := fun w1 (hB : Below w.heap.size w w1) gb (h : View w1 (some ⟨gb, 0, none⟩) (digs 32 (valD (bs.take 64) % LL))) => equal35 (some ⟨gb, 0, none⟩) 32 32 (digs 32 (valD (bs.take 64) % LL)) a len cap bs w1 (digs_len _ _) hlen.out h (hv.below hB) (digs_dig _ _) hd
 rw [isL_eq hd] at cE
 clear hlen hv hT hd
 go_enter Tryz.func32, Tryz.ntmps32
 go_wp2_with fail
 refine cR.mono ?_
 rintro e w1 ⟨v, rfl, hN⟩
 obtain ⟨gb, rfl, hvw⟩ := hN.view
 have hB1 : Below w.heap.size w w1 := by obtain ⟨_, _, _, h, _⟩ := hN; exact h
 go_wp2_with fail
 refine (cE w1 hB1 gb hvw).mono ?_
 rintro e w2 ⟨rfl, rfl⟩
 go_wp2
 go_ret
 exact ⟨rfl, hB1⟩
end EN
end Go.Proofs.YtabgihjffjlfiaaGreatDoor
namespace Go.Proofs.YtabgihjffjlfiaaGreatDoor
def rot (W x b : Nat) : Nat := x >>> b ||| (x <<< (W - b)) % 2 ^ W
def tn (W x a b c : Nat) : Nat := rot W x a ^^^ rot W x b ^^^ rot W x c
def ts (W x a b c : Nat) : Nat := rot W x a ^^^ rot W x b ^^^ x >>> c
structure Sh where
 W : Nat
 n : Nat
 A0 : Nat
 A1 : Nat
 A2 : Nat
 B0 : Nat
 B1 : Nat
 B2 : Nat
 C0 : Nat
 C1 : Nat
 C2 : Nat
 D0 : Nat
 D1 : Nat
 D2 : Nat
def sh64 : Sh := ⟨64, 80, 28, 34, 39, 14, 18, 41, 1, 8, 7, 19, 61, 6⟩
theorem shr_lt {x b M : Nat} (h : x < M) : x >>> b < M := by
 rw [Nat.shiftRight_eq_div_pow]; exact Nat.lt_of_le_of_lt (Nat.div_le_self _ _) h
theorem rot_lt {W x b : Nat} (h : x < 2 ^ W) : rot W x b < 2 ^ W :=
 Nat.or_lt_two_pow (shr_lt h) (Nat.mod_lt _ (Nat.two_pow_pos _))
theorem tn_lt {W x a b c : Nat} (h : x < 2 ^ W) : tn W x a b c < 2 ^ W :=
 Nat.xor_lt_two_pow (Nat.xor_lt_two_pow (rot_lt h) (rot_lt h)) (rot_lt h)
theorem ts_lt {W x a b c : Nat} (h : x < 2 ^ W) : ts W x a b c < 2 ^ W :=
 Nat.xor_lt_two_pow (Nat.xor_lt_two_pow (rot_lt h) (rot_lt h)) (shr_lt h)
def put1 (s : Sh) (ws : List Nat) (k b : Nat) : List Nat :=
 ws.set (k / (s.W / 8)) ((ws.getD (k / (s.W / 8)) 0 <<< 8) % 2 ^ s.W ||| b)
def P1 (s : Sh) (bs : List Nat) : Nat → List Nat
 | 0 => List.replicate 80 0
 | k + 1 => put1 s (P1 s bs k) k (bs.getD k 0)
def put2 (s : Sh) (ws : List Nat) (t : Nat) : List Nat :=
 ws.set t ((ws.getD (t - 16) 0 + ts s.W (ws.getD (t - 15) 0) s.C0 s.C1 s.C2 + ws.getD (t - 7) 0 + ts s.W (ws.getD (t - 2) 0) s.D0 s.D1 s.D2) % 2 ^ s.W)
def P2 (s : Sh) (ws : List Nat) : Nat → List Nat
 | 0 => ws
 | k + 1 => put2 s (P2 s ws k) (16 + k)
def spr (s : Sh) (bs : List Nat) : List Nat := P2 s (P1 s bs (2 * s.W)) (s.n - 16)
theorem P1_len (s : Sh) (bs : List Nat) : ∀ k, (P1 s bs k).length = 80
 | 0 => by simp [P1]
 | k + 1 => by simp [P1, put1, P1_len s bs k]
theorem P2_len (s : Sh) (ws : List Nat) (h : ws.length = 80) : ∀ k, (P2 s ws k).length = 80
 | 0 => h
 | k + 1 => by simp [P2, put2, P2_len s ws h k]
theorem spr_len (s : Sh) (bs : List Nat) : (spr s bs).length = 80 := P2_len _ _ (P1_len _ _ _) _
theorem getD_set_lt {l : List Nat} {i v M : Nat} (h : ∀ j, l.getD j 0 < M) (hv : v < M) (j : Nat) : (l.set i v).getD j 0 < M := by
 have hj := h j
 simp only [List.getD_eq_getElem?_getD, List.getElem?_set] at *
 split
 ·split <;> simp
  ·exact hv
  ·omega
 ·exact hj
theorem P1_lt (s : Sh) (hs : 8 ≤ s.W) (bs : List Nat) (hb : ∀ j, bs.getD j 0 < 256) : ∀ k j, (P1 s bs k).getD j 0 < 2 ^ s.W
 | 0, j => by
  have hp := Nat.two_pow_pos s.W
  simp only [P1, List.getD_eq_getElem?_getD, List.getElem?_replicate]
  split <;> simp <;> omega
 | k + 1, j => by
  refine getD_set_lt (P1_lt s hs bs hb k) (Nat.or_lt_two_pow (Nat.mod_lt _ (Nat.two_pow_pos _)) ?_) j
  have : 2 ^ 8 ≤ 2 ^ s.W := Nat.pow_le_pow_right (by decide) hs
  have := hb k
  omega
theorem P2_lt (s : Sh) (ws : List Nat) (h : ∀ j, ws.getD j 0 < 2 ^ s.W) : ∀ k j, (P2 s ws k).getD j 0 < 2 ^ s.W
 | 0, j => h j
 | k + 1, j => getD_set_lt (P2_lt s ws h k) (Nat.mod_lt _ (Nat.two_pow_pos _)) j
theorem spr_lt (s : Sh) (hs : 8 ≤ s.W) (bs : List Nat) (hb : ∀ j, bs.getD j 0 < 256) (j : Nat) : (spr s bs).getD j 0 < 2 ^ s.W :=
 P2_lt s _ (P1_lt s hs bs hb _) _ j
structure S8 where
 a : Nat
 b : Nat
 c : Nat
 d : Nat
 e : Nat
 f : Nat
 g : Nat
 h : Nat
def rnd (s : Sh) (k w : Nat) (q : S8) : S8 :=
 let x := (q.h + tn s.W q.e s.B0 s.B1 s.B2 + ((q.e &&& q.f) ^^^ ((2 ^ s.W - 1 - q.e) &&& q.g)) + k + w) % 2 ^ s.W
 let y := (tn s.W q.a s.A0 s.A1 s.A2 + ((q.a &&& q.b) ^^^ (q.a &&& q.c) ^^^ (q.b &&& q.c))) % 2 ^ s.W
 ⟨(x + y) % 2 ^ s.W, q.a, q.b, q.c, (q.d + x) % 2 ^ s.W, q.e, q.f, q.g⟩
def R (s : Sh) (ks ws : List Nat) (q : S8) : Nat → S8
 | 0 => q
 | t + 1 => rnd s (ks.getD t 0 >>> (64 - s.W)) (ws.getD t 0) (R s ks ws q t)
def S8.lt (q : S8) (M : Nat) : Prop := q.a < M ∧ q.b < M ∧ q.c < M ∧ q.d < M ∧ q.e < M ∧ q.f < M ∧ q.g < M ∧ q.h < M
theorem R_lt (s : Sh) (ks ws : List Nat) (q : S8) (h : q.lt (2 ^ s.W)) : ∀ t, (R s ks ws q t).lt (2 ^ s.W)
 | 0 => h
 | t + 1 => by
  obtain ⟨h1, h2, h3, h4, h5, h6, h7, h8⟩ := R_lt s ks ws q h t
  exact ⟨Nat.mod_lt _ (Nat.two_pow_pos _), h1, h2, h3, Nat.mod_lt _ (Nat.two_pow_pos _), h5, h6, h7⟩
def S8.list (q : S8) : List Nat := [q.a, q.b, q.c, q.d, q.e, q.f, q.g, q.h]
def ofL (l : List Nat) : S8 := ⟨l.getD 0 0, l.getD 1 0, l.getD 2 0, l.getD 3 0, l.getD 4 0, l.getD 5 0, l.getD 6 0, l.getD 7 0⟩
def blk (s : Sh) (ks : List Nat) (st : List Nat) (bs : List Nat) : List Nat :=
 let q := R s ks (spr s bs) (ofL st) s.n
 List.zipWith (fun x y => (x + y) % 2 ^ s.W) st q.list
def addN (W : Nat) (st ql : List Nat) : Nat → List Nat
 | 0 => st
 | i + 1 => (addN W st ql i).set i (((addN W st ql i).getD i 0 + ql.getD i 0) % 2 ^ W)
theorem addN_len (W : Nat) (st ql : List Nat) : ∀ i, (addN W st ql i).length = st.length
 | 0 => rfl
 | i + 1 => by simp [addN, addN_len W st ql i]
theorem addN_8 (W : Nat) (st ql : List Nat) (h : st.length = 8) (h' : ql.length = 8) : addN W st ql 8 = List.zipWith (fun x y => (x + y) % 2 ^ W) st ql := by
 match st, h with
 | [a, b, c, d, e, f, g, i], _ =>
  match ql, h' with
  | [a', b', c', d', e', f', g', i'], _ => rfl
theorem blk_len (s : Sh) (ks st bs : List Nat) (h : st.length = 8) : (blk s ks st bs).length = 8 := by
 simp [blk, S8.list, h]
theorem blk_lt (s : Sh) (ks st bs : List Nat) (j : Nat) : (blk s ks st bs).getD j 0 < 2 ^ s.W := by
 have hp := Nat.two_pow_pos s.W
 simp only [blk, List.getD_eq_getElem?_getD, List.getElem?_zipWith]
 split
 ·simp; exact Nat.mod_lt _ hp
 ·simp; omega
def blks (s : Sh) (ks st bs : List Nat) : Nat → List Nat
 | 0 => st
 | k + 1 => blk s ks (blks s ks st bs k) ((bs.drop (2 * s.W * k)).take (2 * s.W))
theorem blks_len (s : Sh) (ks st bs : List Nat) (h : st.length = 8) : ∀ k, (blks s ks st bs k).length = 8
 | 0 => h
 | k + 1 => blk_len _ _ _ _ (blks_len s ks st bs h k)
theorem blks_lt (s : Sh) (ks st bs : List Nat) (h : ∀ j, st.getD j 0 < 2 ^ s.W) : ∀ k j, (blks s ks st bs k).getD j 0 < 2 ^ s.W
 | 0, j => h j
 | _ + 1, _ => blk_lt _ _ _ _ _
theorem sub_getD (bs : List Nat) (a n j : Nat) (h : j < n) : ((bs.drop a).take n).getD j 0 = bs.getD (a + j) 0 := by
 simp [h]
theorem sub_lt (bs : List Nat) (a n : Nat) (hb : ∀ j, bs.getD j 0 < 256) (j : Nat) : ((bs.drop a).take n).getD j 0 < 256 := by
 by_cases h : j < n
 ·rw [sub_getD bs a n j h]; exact hb _
 ·have : ((bs.drop a).take n)[j]? = none := by rw [List.getElem?_eq_none]; simp; omega
  rw [List.getD_eq_getElem?_getD, this]; simp
def tailN (size bits : Nat) (base : List Nat) : Nat → List Nat
 | 0 => base
 | i + 1 => (tailN size bits base i).set (size - 1 - i) ((bits >>> (8 * i)) % 256)
def padB (size : Nat) (rest : List Nat) : List Nat := (rest ++ List.replicate (size - rest.length) 0).set rest.length 128
def lastB (s : Sh) (rest : List Nat) (length : Nat) : List Nat :=
 let size := if 2 * s.W < rest.length + 1 + s.W / 4 then 4 * s.W else 2 * s.W
 tailN size (length * 8) (padB size rest) 8
theorem tailN_len (size bits : Nat) (base : List Nat) : ∀ i, (tailN size bits base i).length = base.length
 | 0 => rfl
 | i + 1 => by simp [tailN, tailN_len size bits base i]
theorem padB_len (size : Nat) (rest : List Nat) (h : rest.length ≤ size) : (padB size rest).length = size := by
 simp [padB]; omega
theorem tailN_lt (size bits : Nat) (base : List Nat) (h : ∀ j, base.getD j 0 < 256) : ∀ i j, (tailN size bits base i).getD j 0 < 256
 | 0, j => h j
 | i + 1, j => getD_set_lt (tailN_lt size bits base h i) (Nat.mod_lt _ (by decide)) j
theorem padB_lt (size : Nat) (rest : List Nat) (h : ∀ j, rest.getD j 0 < 256) (j : Nat) : (padB size rest).getD j 0 < 256 := by
 refine getD_set_lt (fun j => ?_) (by decide) j
 have hj := h j
 simp only [List.getD_eq_getElem?_getD, List.getElem?_append, List.getElem?_replicate] at *
 split
 ·exact hj
 ·split <;> simp
theorem lastB_lt (s : Sh) (rest : List Nat) (length : Nat) (h : ∀ j, rest.getD j 0 < 256) (j : Nat) : (lastB s rest length).getD j 0 < 256 :=
 tailN_lt _ _ _ (padB_lt _ _ h) _ _
theorem lastB_len (s : Sh) (rest : List Nat) (length : Nat) (h : rest.length ≤ 2 * s.W) : (lastB s rest length).length = if 2 * s.W < rest.length + 1 + s.W / 4 then 4 * s.W else 2 * s.W := by
 unfold lastB
 rw [tailN_len, padB_len]
 split <;> omega
theorem ones_xor (W e : Nat) (h : e < 2 ^ W) : (2 ^ W - 1) ^^^ e = 2 ^ W - 1 - e := by
 apply Nat.eq_of_testBit_eq
 intro i
 rw [Nat.testBit_xor, Nat.testBit_two_pow_sub_one, show 2 ^ W - 1 - e = 2 ^ W - (e + 1) by omega, Nat.testBit_two_pow_sub_succ h]
 by_cases hi : i < W
 ·simp [hi]
 ·simp [hi]
  exact Nat.testBit_lt_two_pow (Nat.lt_of_lt_of_le h (Nat.pow_le_pow_right (by decide) (by omega)))
end Go.Proofs.YtabgihjffjlfiaaGreatDoor
namespace Go.Proofs.YtabgihjffjlfiaaGreatDoor
open Go.RowKit Go.Sort
end Go.Proofs.YtabgihjffjlfiaaGreatDoor
set_option linter.unusedVariables false
namespace Go.Proofs.YtabgihjffjlfiaaGreatDoor
open Go.RowKit Go.Sort Go.BigFrame
def z80 : List Nat := List.replicate 80 0
end Go.Proofs.YtabgihjffjlfiaaGreatDoor
set_option linter.unusedVariables false
namespace Go.Proofs.YtabgihjffjlfiaaGreatDoor
open Go.RowKit Go.Sort Go.BigFrame
def TabAt (w : World) (g : Nat) (ks : List Nat) : Prop := ∀ i, i < ks.length → w.cell? ⟨g, i, none⟩ = some (.int .u64 ((ks.getD i 0 : Nat) : Int))
theorem TabAt.below {w w' : World} {g B : Nat} {ks : List Nat} (h : TabAt w g ks) (hb : Below B w w') (hlt : g < B) : TabAt w' g ks :=
 fun i hi => (hb.cell (p := ⟨g, i, none⟩) hlt).trans (h i hi)
end Go.Proofs.YtabgihjffjlfiaaGreatDoor
set_option linter.unusedVariables false
namespace Go.Proofs.YtabgihjffjlfiaaGreatDoor
open Go.RowKit Go.Sort Go.BigFrame
theorem sub_bytes {w : World} {b off : Nat} {bs : List Nat} (h : BytesAt w b off bs) (a n : Nat) (hn : a + n ≤ bs.length) : BytesAt w b (off + a) ((bs.drop a).take n) := by
 intro i hi
 have hi' : i < n := by simp at hi; omega
 rw [sub_getD bs a n i hi', Nat.add_assoc]
 exact h (a + i) (by omega)
end Go.Proofs.YtabgihjffjlfiaaGreatDoor
set_option linter.unusedVariables false
namespace Go.Proofs.YtabgihjffjlfiaaGreatDoor
open Go.RowKit Go.Sort Go.BigFrame
def z128 : List Nat := List.replicate 128 0
def HCopyFrom (w : World) (a : Option Addr) (rest : List Nat) : Prop := 0 < (ints .u8 rest).toList.length → ∃ ad, a = some ad ∧ ∀ j v, (ints .u8 rest).toList[j]? = some v → w.cell? (ad.add j) = some v
theorem shr8 (L k : Nat) : (L : Int) * (8 : Int) / 2 ^ (8 * k) % (256 : Int) = ((((L * 8) >>> (8 * k)) % 256 : Nat) : Int) := by
 rw [Nat.shiftRight_eq_div_pow]; simp
theorem splice_pad (z : List Nat) (sz : Nat) (hz : z = List.replicate sz 0) (rest : List Nat) : (splice (ints .u8 z).toList 0 (ints .u8 rest).toList).toArray = ints .u8 (rest ++ List.replicate (sz - rest.length) 0) := by
 subst hz
 simp [splice, ints, List.drop_replicate]
theorem after_copy (z : List Nat) (sz : Nat) (hz : z = List.replicate sz 0) (rest : List Nat) (rl : Nat) (hlen : Hid (rest.length = rl)) (hr : rl < sz) {w2 : World} {g : Nat} (h : Hid (w2.heap[g]? = some (.cells (splice (ints .u8 z).toList 0 (ints .u8 rest).toList).toArray 5 (0, 0)))) :
  ∃ v, w2.cell? ⟨g, rl, none⟩ = some v ∧ w2.frozen? ⟨g, rl, none⟩ = false := by
 have h' := h.out
 rw [splice_pad z sz hz] at h'
 exact ⟨_, cell_ints h' rl (by have := hlen.out; simp; omega), free_ints h' rl⟩
theorem after_row (z : List Nat) (sz : Nat) (hz : z = List.replicate sz 0) (rest : List Nat) (rl : Nat) (hlen : Hid (rest.length = rl)) (hr : rl < sz) {w2 : World} {g : Nat} (h : Hid (w2.heap[g]? = some (.cells (splice (ints .u8 z).toList 0 (ints .u8 rest).toList).toArray 5 (0, 0)))) :
  (w2.setCell ⟨g, rl, none⟩ (.int .u8 128)).heap[g]? = some (.cells (ints .u8 (padB sz rest)) 5 (0, 0)) := by
 have h' := h.out
 rw [splice_pad z sz hz] at h'
 have := set_ints h' rl 128
 refine this.trans ?_; rw [← hlen.out]; rfl
set_option maxRecDepth 100000
set_option maxHeartbeats 2000000
end Go.Proofs.YtabgihjffjlfiaaGreatDoor
set_option linter.unusedVariables false
namespace Go.Proofs.YtabgihjffjlfiaaGreatDoor
open Go.RowKit Go.Sort Go.BigFrame
set_option maxRecDepth 100000
set_option maxHeartbeats 2000000
def wb (W x : Nat) : Nat → List Nat
 | 0 => []
 | n + 1 => wb W x n ++ [(x >>> (W - 8 * n - 8)) % 256]
def stB (W : Nat) (st : List Nat) : Nat → List Nat
 | 0 => []
 | k + 1 => stB W st k ++ wb W (st.getD k 0) (W / 8)
def Hbv (l : List Nat) : List Value := l.map fun (x : Nat) => Value.int .u8 (x : Int)
theorem Hnews_one (w : World) (v : Value) (t : TypeId) : ∀ (j : Nat) u, [v][j]? = some u → (w.alloc (.cells #[v] t)).cell? ((⟨w.heap.size, 0, none⟩ : Addr).add j) = some u := by
 intro j u hj
 match j, hj with
 | 0, hj =>
  obtain rfl : v = u := by simpa using hj
  rw [Addr.add_mid, cell_of_row _ _ _ _ _ _ (heap_alloc_new _ _)]; rfl
theorem Hone_byte {n : Int} : ∀ u ∈ [Value.int .u8 n], u.oneCell' = true := fun u hu => by rw [List.mem_singleton.1 hu]; rfl
end Go.Proofs.YtabgihjffjlfiaaGreatDoor
set_option linter.unusedVariables false
namespace Go.Proofs.YtabgihjffjlfiaaGreatDoor
open Go.RowKit Go.Sort Go.BigFrame
set_option maxRecDepth 100000
set_option maxHeartbeats 800000
def initN (W : Nat) (hs : List Nat) : Nat → List Nat
 | 0 => List.replicate 8 0
 | k + 1 => (initN W hs k).set k (hs.getD k 0 >>> (64 - W))
theorem initN_len (W : Nat) (hs : List Nat) : ∀ k, (initN W hs k).length = 8
 | 0 => rfl
 | k + 1 => by simp [initN, initN_len W hs k]
def dig (s : Sh) (hs ks bs : List Nat) : List Nat :=
 let whole := bs.length - bs.length % (2 * s.W)
 let last := lastB s (bs.drop whole) bs.length
 stB s.W (blks s ks (blks s ks (initN s.W hs 8) (bs.take whole) (whole / (2 * s.W))) last (last.length / (2 * s.W))) 8
def cutA (a : Option Addr) (l m : Nat) : Option Addr := if m = l then a else a.map (·.add l)
theorem size5 : ∀ w, (sizeOf 5).run Tryz.prog w = .ok 1 w := fun _ => by kernel_rfl
theorem elem22 : Tryz.prog.elem 22 = 5 := by kernel_rfl
theorem run_cut_h (a : Option Addr) (len cap h : Nat) (w : World) (hh : h ≤ cap) : (Instr.sliceAt 22 (.slice a len cap) none (some (.int .i64 (h : Int))) none).run Tryz.prog w = .ok (.slice (cutA a 0 cap) h cap) w := by
 have hu : Tryz.prog.underlying 22 = some (.slice (Tryz.prog.elem 22)) := by rw [elem22]; exact Tryz.underlying22
 rw [run_sliceAt_slice w 22 _ _ _ _ hu, run_slice_h w 22 a len cap hu .i64 _ (by omega) (by omega), elem22, size5]
 simp [Result.andThen, sliced, cutA]
theorem run_cut_l (a : Option Addr) (len cap l : Nat) (w : World) (hl : l ≤ len) : (Instr.sliceAt 22 (.slice a len cap) (some (.int .i64 (l : Int))) none none).run Tryz.prog w = .ok (.slice (cutA a l cap) (len - l) (cap - l)) w := by
 have hu : Tryz.prog.underlying 22 = some (.slice (Tryz.prog.elem 22)) := by rw [elem22]; exact Tryz.underlying22
 rw [run_sliceAt_slice w 22 _ _ _ _ hu, run_slice_l w 22 a len cap hu .i64 _ (by omega) (by omega), elem22, size5]
 simp [Result.andThen, sliced, cutA]
theorem View.cut {w : World} {a : Option Addr} {bs : List Nat} (h : View w a bs) (l n cap : Nat) (hn : l + n ≤ bs.length) (hc : bs.length ≤ cap) : View w (cutA a l cap) ((bs.drop l).take n) := fun hp => by
 have hn0 : 0 < n := by simp at hp; omega
 obtain ⟨b, off, rfl, hb⟩ := h (by omega)
 refine ⟨b, off + l, ?_, sub_bytes hb l n hn⟩
 unfold cutA
 rw [if_neg (by omega)]
 simp [Addr.add_mid]
theorem Hrun_lenO {ρ : Operand → Value} {o : Oper} {x : Operand} {a : Option Addr} {len cap : Nat} {w : World} (ho : o.op = .call { callee := .builtin .len, args := #[x], argTypes := #[22] }) (hx : ρ x = .slice a len cap) :
  (execOp ρ o).run Tryz.prog w = .ok (.value (.int .i64 (len : Int))) w := by
 simp [execOp, ho, resolve, invoke, hx, go_sem]
theorem Hrun_sliceO {ρ : Operand → Value} {t : TypeId} {x : Operand} {lo hi mx : Option Operand} {w : World} {v : Value} {o : Oper}
  (hr : (Instr.sliceAt t (ρ x) (lo.map ρ) (hi.map ρ) (mx.map ρ)).run Tryz.prog w = .ok v w) (ho : o.op = .slice t x lo hi mx) : (execOp ρ o).run Tryz.prog w = .ok (.value v) w := by
 unfold execOp
 rw [ho]
 simp only [Sem.run_bind, hr, Result.andThen_ok, Sem.run_pure]
theorem take_lt (bs : List Nat) (n : Nat) (hb : ∀ j, bs.getD j 0 < 256) (j : Nat) : (bs.take n).getD j 0 < 256 := by
 have := sub_lt bs 0 n hb j
 rwa [List.drop_zero] at this
end Go.Proofs.YtabgihjffjlfiaaGreatDoor
namespace Go.Proofs.YtabgihjffjlfiaaGreatDoor
open Go.RowKit Go.Sort
theorem rot64_eq (x b : Nat) (hx : x < 18446744073709551616) : bits BinOp.or IntKind.u64 (↑x / 2 ^ b) (↑x * 2 ^ (64 - b) % 18446744073709551616) = ((rot 64 x b : Nat) : Int) := by
 have h1 : ((x : Int) / 2 ^ b) = ((x >>> b : Nat) : Int) := by rw [Nat.shiftRight_eq_div_pow]; simp
 have h2 : ((x : Int) * 2 ^ (64 - b) % 18446744073709551616) = (((x <<< (64 - b)) % 2 ^ 64 : Nat) : Int) := by rw [Nat.shiftLeft_eq]; simp
 rw [h1, h2, u64_or_nat _ _ (shr_lt hx) (by omega)]
 rfl
theorem turn64 (x b : Nat) (w : World) (hx : x < 18446744073709551616) (hb : 0 < b) (hb2 : b < 64) :
  Calls Tryz.prog 123 #[.int .u64 x, .int .u64 b, .int .u64 64] w fun e w' => e = .returned (.int .u64 (rot 64 x b : Nat)) ∧ w' = w := by
 go_enter Tryz.func123, Tryz.ntmps123
 go_wp2
 go_ret
 exact ⟨ret_int (rot64_eq x b hx), rfl⟩
theorem xor3_64 (a b c : Nat) (ha : a < 18446744073709551616) (hb : b < 18446744073709551616) (hc : c < 18446744073709551616) :
  bits BinOp.xor IntKind.u64 (bits BinOp.xor IntKind.u64 (a : Int) (b : Int)) (c : Int) = ((a ^^^ b ^^^ c : Nat) : Int) := by
 rw [u64_xor_nat _ _ ha hb, u64_xor_nat _ _ (Nat.xor_lt_two_pow (n := 64) ha hb) hc]
theorem turns64 (x a b c : Nat) (w : World) (hx : x < 18446744073709551616) (ha : 0 < a) (ha2 : a < 64) (hb : 0 < b) (hb2 : b < 64) (hc : 0 < c) (hc2 : c < 64) :
  Calls Tryz.prog 120 #[.int .u64 x, .agg #[.int .u64 a, .int .u64 b, .int .u64 c], .int .u64 64] w fun e w' => e = .returned (.int .u64 (tn 64 x a b c : Nat)) ∧ Below w.heap.size w w' := by
 go_enter Tryz.func120, Tryz.ntmps120
 go_wp2
 go_quiet ((go_at_call 123; exact Calls.quiet_of_same (turn64 _ _ _ (by assumption) (by assumption) (by assumption))))
 go_wp2
 go_ret
 exact ⟨ret_int (xor3_64 _ _ _ (rot_lt (W := 64) hx) (rot_lt (W := 64) hx) (rot_lt (W := 64) hx)), below_drewN ((Below.refl _ _).alloc (Nat.le_refl _) _) _⟩
theorem turnsShift64 (x a b c : Nat) (w : World) (hx : x < 18446744073709551616) (ha : 0 < a) (ha2 : a < 64) (hb : 0 < b) (hb2 : b < 64) (hc : 0 < c) (hc2 : c < 64) :
  Calls Tryz.prog 122 #[.int .u64 x, .agg #[.int .u64 a, .int .u64 b, .int .u64 c], .int .u64 64] w fun e w' => e = .returned (.int .u64 (ts 64 x a b c : Nat)) ∧ Below w.heap.size w w' := by
 go_enter Tryz.func122, Tryz.ntmps122
 go_wp2
 go_quiet ((go_at_call 123; exact Calls.quiet_of_same (turn64 _ _ _ (by assumption) (by assumption) (by assumption))))
 go_wp2
 go_ret
 refine ⟨ret_int ?_, below_drewN ((Below.refl _ _).alloc (Nat.le_refl _) _) _⟩
 have h1 : ((x : Int) / 2 ^ c) = ((x >>> c : Nat) : Int) := by rw [Nat.shiftRight_eq_div_pow]; simp
 rw [h1]
 exact xor3_64 _ _ _ (rot_lt (W := 64) hx) (rot_lt (W := 64) hx) (shr_lt hx)
end Go.Proofs.YtabgihjffjlfiaaGreatDoor
set_option linter.unusedVariables false
namespace Go.Proofs.YtabgihjffjlfiaaGreatDoor
open Go.RowKit Go.Sort Go.BigFrame
def shpA64 : Array Value := #[.int .u64 64, .int .i64 80, .int .u64 28, .int .u64 34, .int .u64 39, .int .u64 14, .int .u64 18, .int .u64 41, .int .u64 1, .int .u64 8, .int .u64 7, .int .u64 19, .int .u64 61, .int .u64 6]
theorem shp_at64 {w : World} {g : Nat} (h : w.heap[g]? = some (.cells shpA64 97 (0, 0))) (j : Nat) (v : Value) (hv : shpA64[j]? = some v) : w.cell? ⟨g, j, none⟩ = some v := by
 rw [cell_of_row w g j _ _ _ h]; exact hv
theorem put1_64 (x b : Nat) (hb : b < 256) : bits BinOp.or IntKind.u64 (IntKind.u64.wrap ((x : Int) * (256 : Int))) (b : Int) = (((x <<< 8) % 2 ^ 64 ||| b : Nat) : Int) := by
 have h2 : IntKind.u64.wrap ((x : Int) * (256 : Int)) = (((x <<< 8) % 2 ^ 64 : Nat) : Int) := by rw [IntKind.wrap_u64, Nat.shiftLeft_eq]; omega
 rw [h2]
 exact u64_or_nat _ _ (by omega) (by omega)
theorem put2_64 (a b c d : Nat) : IntKind.u64.wrap (IntKind.u64.wrap (IntKind.u64.wrap ((a : Int) + (b : Int)) + (c : Int)) + (d : Int)) = (((a + b + c + d) % 2 ^ 64 : Nat) : Int) := by
 simp only [IntKind.wrap_u64]; omega
def Rel64 (w : World) (wr : World) (ws : List Nat) : Prop :=
 Below w.heap.size w wr ∧ wr.heap[w.heap.size]? = some (.cells shpA64 97 (0, 0)) ∧ wr.heap[w.heap.size + 1]? = some (.cells (ints .u64 z80) 131 (0, 0)) ∧ wr.heap[w.heap.size + 1 + 1]? = some (.cells (ints .u64 ws) 131 (0, 0))
theorem Rel64.start (w : World) (bs : List Nat) : Rel64 w (((w.alloc (.cells shpA64 97)).alloc (.cells (ints .u64 z80) 131)).alloc (.cells (ints .u64 z80) 131)) (P1 sh64 bs 0) :=
 ⟨below3 _ _ _ _, heap3_0 _ _ _ _, heap3_1 _ _ _ _, heap3_2 _ _ _ _⟩
theorem Rel64.store {w wr : World} {ws : List Nat} (h : Rel64 w wr ws) (j v : Nat) : Rel64 w (wr.setCell ⟨w.heap.size + 1 + 1, j, none⟩ (.int .u64 (v : Int))) (ws.set j v) := by
 obtain ⟨h1, h2, h3, h4⟩ := h
 exact ⟨h1.setCell (by simp; omega) _, by rw [heap_setCell_other _ _ _ _ (by simp; omega)]; exact h2, by rw [heap_setCell_other _ _ _ _ (by simp)]; exact h3, set_ints h4 j v⟩
theorem Rel64.drew {w wr : World} {ws : List Nat} (h : Rel64 w wr ws) : Rel64 w wr.drew ws := ⟨h.1.drew, h.2.1, h.2.2.1, h.2.2.2⟩
theorem Rel64.on {w wr w1 : World} {ws : List Nat} (h : Rel64 w wr ws) (hb : Below wr.heap.size wr w1) : Rel64 w w1 ws :=
 ⟨h.1.trans (hb.mono h.1.size), block_below hb (lt_of_heap h.2.1) h.2.1, block_below hb (lt_of_heap h.2.2.1) h.2.2.1, block_below hb (lt_of_heap h.2.2.2) h.2.2.2⟩
set_option maxRecDepth 100000 in
set_option maxHeartbeats 1000000 in
theorem spread64 (b off : Nat) (cap : Nat) (bs : List Nat) (w : World) (hlen0 : bs.length = 128) (hb256 : ∀ j, bs.getD j 0 < 256) (hcap : 128 ≤ cap) (hcap2 : cap ≤ maxLen)
  (hc : BytesAt w b off bs) :
  Calls Tryz.prog 119 #[.slice (some ⟨b, off, none⟩) 128 cap, .agg shpA64] w fun e w' => e = .returned (.agg (ints .u64 (spr sh64 bs))) ∧ Below w.heap.size w w' := by
 have hlen : Hid (bs.length = 128) := hlen0
 have hz : ∀ w, (zeroValue 131).run Tryz.prog w = .ok (.agg (ints .u64 z80)) w := fun _ => by kernel_rfl
 have hbB : b < w.heap.size := block_lt_of_cell (hc 0 (by omega))
 clear hlen0
 unfold maxLen at hcap2
 unfold shpA64
 go_enter Tryz.func119, Tryz.ntmps119
 go_wp2
 go_loopw [18] (fun i wr => ∃ k : Nat, k ≤ 128 ∧ i = .int .i64 k ∧ Rel64 w wr (P1 sh64 bs k)) (fun i _ => 128 - (intOf i).toNat)
 case atStart => exact ⟨0, by omega, rfl, Rel64.start w bs⟩
 case round =>
  obtain ⟨k, hk, rfl, hR⟩ := hrel
  by_cases hlt : k < 128
  ·obtain ⟨Hbv, hbv⟩ : ∃ x, x = bs.getD k 0 := ⟨_, rfl⟩
   obtain ⟨wv, hwv⟩ : ∃ x, x = (P1 sh64 bs k).getD (k / 8) 0 := ⟨_, rfl⟩
   have c1 : wr.cell? ⟨b, off + k, none⟩ = some (.int .u8 (Hbv : Int)) := by rw [hbv]; exact (hR.1.cell (p := ⟨b, off + k, none⟩) hbB).trans (hc k (by rw [hlen.out]; omega))
   have c2 : wr.cell? ⟨w.heap.size + 1 + 1, k / 8, none⟩ = some (.int .u64 (wv : Int)) := by rw [hwv]; exact cell_ints hR.2.2.2 (k / 8) (by rw [P1_len]; omega)
   have f2 := free_ints hR.2.2.2 (k / 8)
   have hbv256 : Hbv < 256 := by rw [hbv]; exact hb256 k
   have HS : Hid (Rel64 w (wr.setCell ⟨w.heap.size + 1 + 1, k / 8, none⟩ (.int .u64 (((wv <<< 8) % 2 ^ 64 ||| Hbv : Nat) : Int))) (P1 sh64 bs (k + 1))) := by
    rw [hwv, hbv]; exact hR.store (k / 8) _
   clear hbv hwv hR
   go_wp2
   go_region
   all_goals
    go_wp2
    go_roundw
    case rel => exact ⟨k + 1, by omega, by go_num, by rw [put1_64 _ _ hbv256]; exact (HS.out).drew⟩
    case measure => simp [intOf]; omega
  ·obtain rfl : k = 128 := by omega
   go_wp2
   go_loopw [9] (fun i wr => ∃ t : Nat, 16 ≤ t ∧ t ≤ 80 ∧ i = .int .i64 t ∧ Rel64 w wr (P2 sh64 (P1 sh64 bs 128) (t - 16))) (fun i _ => 80 - (intOf i).toNat)
   case atStart => exact ⟨16, by omega, by omega, rfl, hR⟩
   case round =>
    obtain ⟨t, ht16, ht, rfl, hR⟩ := hrel
    have s1 := shp_at64 hR.2.1 1 (.int .i64 80) rfl
    by_cases hlt : t < 80
    ·obtain ⟨ws, hws⟩ : ∃ x, x = P2 sh64 (P1 sh64 bs 128) (t - 16) := ⟨_, rfl⟩
     rw [← hws] at hR
     have hwl : ws.length = 80 := by rw [hws]; exact P2_len _ _ (P1_len _ _ _) _
     have hwt : ∀ j, ws.getD j 0 < 18446744073709551616 := by rw [hws]; exact P2_lt sh64 _ (P1_lt sh64 (by decide) bs hb256 _) _
     have HS : Hid (P2 sh64 (P1 sh64 bs 128) (t + 1 - 16) = put2 sh64 ws t) := by
      rw [hws, show t + 1 - 16 = (t - 16) + 1 by omega]; show put2 _ _ (16 + (t - 16)) = _; rw [show 16 + (t - 16) = t by omega]
     obtain ⟨x2, hx2⟩ : ∃ x, x = ws.getD (t - 2) 0 := ⟨_, rfl⟩
     obtain ⟨x15, hx15⟩ : ∃ x, x = ws.getD (t - 15) 0 := ⟨_, rfl⟩
     obtain ⟨x16, hx16⟩ : ∃ x, x = ws.getD (t - 16) 0 := ⟨_, rfl⟩
     obtain ⟨x7, hx7⟩ : ∃ x, x = ws.getD (t - 7) 0 := ⟨_, rfl⟩
     have HT : Hid (put2 sh64 ws t = ws.set t ((x16 + ts 64 x15 1 8 7 + x7 + ts 64 x2 19 61 6) % 2 ^ 64)) := by rw [hx2, hx15, hx16, hx7]; rfl
     have l2 : x2 < 18446744073709551616 := by rw [hx2]; exact hwt _
     have l15 : x15 < 18446744073709551616 := by rw [hx15]; exact hwt _
     have HX2 : Hid (ws.getD (t - 2) 0 = x2) := hx2.symm
     have HX15 : Hid (ws.getD (t - 15) 0 = x15) := hx15.symm
     have HX16 : Hid (ws.getD (t - 16) 0 = x16) := hx16.symm
     have HX7 : Hid (ws.getD (t - 7) 0 = x7) := hx7.symm
     clear hws hwt hx2 hx15 hx16 hx7
     go_wp2_with fail
     have q2 := cell_regrown (w := wr) (a := ⟨w.heap.size + 1 + 1, t - 2, none⟩) (v := .int .u64 (x2 : Int)) (by rw [← HX2.out]; exact cell_ints hR.2.2.2 (t - 2) (by omega))
     have q11 := cell_regrown (shp_at64 hR.2.1 11 (.int .u64 19) rfl)
     have q12 := cell_regrown (shp_at64 hR.2.1 12 (.int .u64 61) rfl)
     have q13 := cell_regrown (shp_at64 hR.2.1 13 (.int .u64 6) rfl)
     have q0 := cell_regrown (shp_at64 hR.2.1 0 (.int .u64 64) rfl)
     have cQ : ∀ d os, Calls Tryz.prog 122 #[.int .u64 (x2 : Int), .agg #[.int .u64 19, .int .u64 61, .int .u64 6], .int .u64 64] (grow (redrawn wr d) os) fun e w'' => e = .returned (.int .u64 (ts 64 x2 19 61 6 : Nat)) ∧ ∃ p : Regrown, w'' = grow (redrawn wr p.d) p.os :=
      fun d os => Calls.regrown_of (turnsShift64 x2 19 61 6 _ l2 (by decide) (by decide) (by decide) (by decide) (by decide) (by decide))
     refine wp_region_quiet_below (by kernel_rfl) (by kernel_rfl) ?_
     repeat (go_big_quiet_step (exact cQ _ _))
     refine wpQuiet_nil ?_
     intro w1 hw'
     have hb1 : Below wr.heap.size wr w1 := by obtain ⟨p, rfl⟩ := hw'; exact below_regrown _ _ _
     have hR1 := hR.on hb1
     clear hw' q2 q11 q12 q13 q0 cQ s1 hR
     go_wp2_with fail
     have q2 := cell_regrown (w := w1) (a := ⟨w.heap.size + 1 + 1, t - 15, none⟩) (v := .int .u64 (x15 : Int)) (by rw [← HX15.out]; exact cell_ints hR1.2.2.2 (t - 15) (by omega))
     have q11 := cell_regrown (shp_at64 hR1.2.1 8 (.int .u64 1) rfl)
     have q12 := cell_regrown (shp_at64 hR1.2.1 9 (.int .u64 8) rfl)
     have q13 := cell_regrown (shp_at64 hR1.2.1 10 (.int .u64 7) rfl)
     have q0 := cell_regrown (shp_at64 hR1.2.1 0 (.int .u64 64) rfl)
     have cQ : ∀ d os, Calls Tryz.prog 122 #[.int .u64 (x15 : Int), .agg #[.int .u64 1, .int .u64 8, .int .u64 7], .int .u64 64] (grow (redrawn w1 d) os) fun e w'' => e = .returned (.int .u64 (ts 64 x15 1 8 7 : Nat)) ∧ ∃ p : Regrown, w'' = grow (redrawn w1 p.d) p.os :=
      fun d os => Calls.regrown_of (turnsShift64 x15 1 8 7 _ l15 (by decide) (by decide) (by decide) (by decide) (by decide) (by decide))
     refine wp_region_quiet_below (by kernel_rfl) (by kernel_rfl) ?_
     repeat (go_big_quiet_step (exact cQ _ _))
     refine wpQuiet_nil ?_
     intro w2 hw'
     have hb2 : Below w1.heap.size w1 w2 := by obtain ⟨p, rfl⟩ := hw'; exact below_regrown _ _ _
     have hR2 := hR1.on hb2
     clear hw' q2 q11 q12 q13 q0 cQ hb1 hR1 hb2
     have c16 : w2.cell? ⟨w.heap.size + 1 + 1, t - 16, none⟩ = some (.int .u64 (x16 : Int)) := by rw [← HX16.out]; exact cell_ints hR2.2.2.2 (t - 16) (by omega)
     have c7 : w2.cell? ⟨w.heap.size + 1 + 1, t - 7, none⟩ = some (.int .u64 (x7 : Int)) := by rw [← HX7.out]; exact cell_ints hR2.2.2.2 (t - 7) (by omega)
     have c0 : ∃ v, w2.cell? ⟨w.heap.size + 1 + 1, t, none⟩ = some v := ⟨_, cell_ints hR2.2.2.2 t (by omega)⟩
     obtain ⟨v0, c0⟩ := c0
     have f2 := free_ints hR2.2.2.2 t
     have HR : Hid (Rel64 w (w2.setCell ⟨w.heap.size + 1 + 1, t, none⟩ (.int .u64 (((x16 + ts 64 x15 1 8 7 + x7 + ts 64 x2 19 61 6) % 2 ^ 64 : Nat) : Int))) (P2 sh64 (P1 sh64 bs 128) (t + 1 - 16))) := by
      rw [HS.out, HT.out]; exact hR2.store t _
     clear hR2
     go_wp2
     go_region
     all_goals
      go_wp2
      go_roundw
      case rel => exact ⟨t + 1, by omega, by omega, by go_num, by rw [put2_64]; exact (HR.out).drew⟩
      case measure => simp [intOf]; omega
    ·obtain rfl : t = 80 := by omega
     obtain ⟨ws, hws⟩ : ∃ x, x = ints .u64 (spr sh64 bs) := ⟨_, rfl⟩
     have hwl : ws.size = 80 := by rw [hws, ints_size, spr_len]
     have hw1 : ws.all (·.oneCell') = true := by rw [hws]; exact ints_one _ _
     have h5 : wr.heap[w.heap.size + 1 + 1]? = some (.cells ws 131 (0, 0)) := by rw [hws]; exact hR.2.2.2
     have h4 := hR.2.2.1
     have h80 : (Tryz.prog.info? 131).map (·.size) = some 80 := by kernel_rfl
     have hzl : (ints .u64 z80).size = 80 := by rw [ints_size]; rfl
     go_wp2_with (first
      | (refine wpList_load_row rfl 131 (.tmp 5) rfl _ rfl 131 ws (0, 0) _ h5 Tryz.underlying131 rfl (by rw [hwl]; exact h80) ?_)
      | (refine wpList_store_row rfl 131 (.tmp 4) (.tmp 76) rfl _ ws rfl rfl 131 _ h4 (by rw [hwl]; exact h80) (by rw [hwl]; exact hzl) hw1 ?_))
     refine bodyPost_ret (v := .agg ws) ?_ rfl ⟨by rw [hws], setRow_below hR.1 (by omega) _⟩
     exact results_cell_row Tryz.results119 _ _ _ 131 ws (0, 0) _ rfl (setRow_heap _ _ _ _ _ _ h4) Tryz.underlying131 rfl (by rw [hwl]; exact h80)
end Go.Proofs.YtabgihjffjlfiaaGreatDoor
set_option linter.unusedVariables false
namespace Go.Proofs.YtabgihjffjlfiaaGreatDoor
open Go.RowKit Go.Sort Go.BigFrame
theorem ch64 (e f g : Nat) (he : e < 18446744073709551616) (hf : f < 18446744073709551616) (hg : g < 18446744073709551616) :
  bits BinOp.xor IntKind.u64 (bits BinOp.and IntKind.u64 (e : Int) (f : Int)) (bits BinOp.and IntKind.u64 (bits BinOp.xor IntKind.u64 (if IntKind.u64.signed = true then -1 else IntKind.u64.max) (e : Int)) (g : Int)) =
   (((e &&& f) ^^^ ((2 ^ 64 - 1 - e) &&& g) : Nat) : Int) := by
 have h1 : (if IntKind.u64.signed = true then -1 else IntKind.u64.max) = ((2 ^ 64 - 1 : Nat) : Int) := by decide
 rw [h1, u64_xor_nat _ _ (by decide) he, ones_xor 64 e he, u64_and_nat _ _ he hf, u64_and_nat _ _ (by omega) hg, u64_xor_nat _ _ (Nat.and_lt_two_pow (n := 64) _ hf) (Nat.and_lt_two_pow (n := 64) _ hg)]
theorem maj64 (a b c : Nat) (ha : a < 18446744073709551616) (hb : b < 18446744073709551616) (hc : c < 18446744073709551616) :
  bits BinOp.xor IntKind.u64 (bits BinOp.xor IntKind.u64 (bits BinOp.and IntKind.u64 (a : Int) (b : Int)) (bits BinOp.and IntKind.u64 (a : Int) (c : Int))) (bits BinOp.and IntKind.u64 (b : Int) (c : Int)) =
   (((a &&& b) ^^^ (a &&& c) ^^^ (b &&& c) : Nat) : Int) := by
 rw [u64_and_nat _ _ ha hb, u64_and_nat _ _ ha hc, u64_and_nat _ _ hb hc]
 exact xor3_64 _ _ _ (Nat.and_lt_two_pow (n := 64) _ hb) (Nat.and_lt_two_pow (n := 64) _ hc) (Nat.and_lt_two_pow (n := 64) _ hc)
theorem sum5_64 (a b c d e : Nat) : IntKind.u64.wrap (IntKind.u64.wrap (IntKind.u64.wrap (IntKind.u64.wrap ((a : Int) + (b : Int)) + (c : Int)) + (d : Int)) + (e : Int)) = (((a + b + c + d + e) % 2 ^ 64 : Nat) : Int) := by
 simp only [IntKind.wrap_u64]; omega
theorem sum2_64 (a b : Nat) : IntKind.u64.wrap ((a : Int) + (b : Int)) = (((a + b) % 2 ^ 64 : Nat) : Int) := by
 simp only [IntKind.wrap_u64]; omega
def z8_64 : Array Value := #[.int .u64 0, .int .u64 0, .int .u64 0, .int .u64 0, .int .u64 0, .int .u64 0, .int .u64 0, .int .u64 0]
def RelC64 (w : World) (sv : Array Value) (wr : World) : Prop :=
 Below w.heap.size w wr ∧ wr.heap[w.heap.size]? = some (.cells sv 114 (0, 0)) ∧ wr.heap[w.heap.size + 1]? = some (.cells shpA64 97 (0, 0)) ∧ wr.heap[w.heap.size + 1 + 1]? = some (.cells z8_64 114 (0, 0))
theorem RelC64.start (w : World) (sv : Array Value) : RelC64 w sv (((w.alloc (.cells sv 114)).alloc (.cells shpA64 97)).alloc (.cells z8_64 114)) :=
 ⟨below3 _ _ _ _, heap3_0 _ _ _ _, heap3_1 _ _ _ _, heap3_2 _ _ _ _⟩
theorem RelC64.on {w wr w1 : World} {sv : Array Value} (h : RelC64 w sv wr) (hb : Below wr.heap.size wr w1) : RelC64 w sv w1 :=
 ⟨h.1.trans (hb.mono h.1.size), block_below hb (lt_of_heap h.2.1) h.2.1, block_below hb (lt_of_heap h.2.2.1) h.2.2.1, block_below hb (lt_of_heap h.2.2.2) h.2.2.2⟩
theorem RelC64.drewN {w wr : World} {sv : Array Value} (h : RelC64 w sv wr) (n : Nat) : RelC64 w sv (wr.drewN n) := ⟨below_drewN h.1 n, h.2.1, h.2.2.1, h.2.2.2⟩
theorem RelC64.setRow {w wr : World} {sv : Array Value} (h : RelC64 w sv wr) {g : Nat} (hg : w.heap.size + 1 + 1 < g) (cs : Array Value) : RelC64 w sv (wr.setRow g cs) :=
 ⟨setRow_below h.1 (by omega) _, (setRow_other _ _ _ _ (by omega)).trans h.2.1, (setRow_other _ _ _ _ (by omega)).trans h.2.2.1, (setRow_other _ _ _ _ (by omega)).trans h.2.2.2⟩
theorem RelC64.setRow0 {w wr : World} {sv : Array Value} (h : RelC64 w sv wr) (cs : Array Value) : RelC64 w cs (wr.setRow w.heap.size cs) :=
 ⟨setRow_below h.1 (Nat.le_refl _) _, setRow_heap _ _ _ _ _ _ h.2.1, (setRow_other _ _ _ _ (by omega)).trans h.2.2.1, (setRow_other _ _ _ _ (by omega)).trans h.2.2.2⟩
theorem RelC64.store {w wr : World} {l : List Nat} (h : RelC64 w (ints .u64 l) wr) (j v : Nat) : RelC64 w (ints .u64 (l.set j v)) (wr.setCell ⟨w.heap.size, j, none⟩ (.int .u64 (v : Int))) := by
 obtain ⟨h1, h2, h3, h4⟩ := h
 exact ⟨h1.setCell (by simp) _, set_ints h2 j v, by rw [heap_setCell_other _ _ _ _ (by simp)]; exact h3, by rw [heap_setCell_other _ _ _ _ (by simp; omega)]; exact h4⟩
theorem index8_64 (a b c d e f g h k : Nat) (hk : k < 8) (w : World) : (Instr.index 114 (.agg #[.int .u64 (a : Int), .int .u64 (b : Int), .int .u64 (c : Int), .int .u64 (d : Int), .int .u64 (e : Int), .int .u64 (f : Int), .int .u64 (g : Int), .int .u64 (h : Int)]) (.int .i64 (k : Int))).run Tryz.prog w =
  .ok (.int .u64 (([a, b, c, d, e, f, g, h].getD k 0 : Nat) : Int)) w := by
 have h8 : k = 0 ∨ k = 1 ∨ k = 2 ∨ k = 3 ∨ k = 4 ∨ k = 5 ∨ k = 6 ∨ k = 7 := by omega
 rcases h8 with rfl | rfl | rfl | rfl | rfl | rfl | rfl | rfl <;> (show _ = _; kernel_rfl)
set_option maxRecDepth 100000 in
set_option maxHeartbeats 2000000 in
theorem takeBlock64 (st : List Nat) (b off cap : Nat) (bs ks : List Nat) (w : World) (hst : st.length = 8) (hsl : ∀ j, st.getD j 0 < 18446744073709551616) (hlen : bs.length = 128) (hb256 : ∀ j, bs.getD j 0 < 256) (hcap : 128 ≤ cap) (hcap2 : cap ≤ maxLen)
  (hc : BytesAt w b off bs) (hkl : ks.length = 80) (hkb : ∀ j, ks.getD j 0 < 18446744073709551616) (hK : TabAt w 7 ks) :
  Calls Tryz.prog 114 #[.agg (ints .u64 st), .slice (some ⟨b, off, none⟩) 128 cap, .agg shpA64] w fun e w' => e = .returned (.agg (ints .u64 (blk sh64 ks st bs))) ∧ Below w.heap.size w w' := by
 obtain ⟨sv, hsv⟩ : ∃ x, x = ints .u64 st := ⟨_, rfl⟩
 rw [← hsv]
 have HSV : Hid (sv = ints .u64 st) := hsv
 have hsz : sv.size = 8 := by rw [hsv, ints_size, hst]
 clear hsv
 unfold shpA64
 have hzw : ∀ w, (zeroValue 131).run Tryz.prog w = .ok (.agg (ints .u64 z80)) w := fun _ => by kernel_rfl
 have h80 : (Tryz.prog.info? 131).map (·.size) = some 80 := by kernel_rfl
 have hzl : (ints .u64 z80).size = 80 := by rw [ints_size]; rfl
 obtain ⟨wv, hwv⟩ : ∃ x, x = ints .u64 (spr sh64 bs) := ⟨_, rfl⟩
 have HWV : Hid (wv = ints .u64 (spr sh64 bs)) := hwv
 have hwz : wv.size = 80 := by rw [hwv, ints_size, spr_len]
 have hw1 : wv.all (·.oneCell') = true := by rw [hwv]; exact ints_one _ _
 have hbB : b < w.heap.size := block_lt_of_cell (hc 0 (by omega))
 have hS := spread64 b off cap bs (((w.alloc (.cells sv 114)).alloc (.cells shpA64 97)).alloc (.cells z8_64 114)) hlen hb256 hcap hcap2 (hc.below (below3 _ _ _ _) hbB)
 rw [← hwv] at hS
 clear hwv
 go_enter Tryz.func114, Tryz.ntmps114
 go_wp2_with fail
 refine hS.mono ?_
 rintro e w1 ⟨rfl, hb1⟩
 have hR1 := (RelC64.start w sv).on hb1
 have hg0 : w.heap.size + 1 + 1 < w1.heap.size := lt_of_heap hR1.2.2.2
 clear hS hb1
 obtain ⟨g, hg⟩ : ∃ g, g = w1.heap.size := ⟨_, rfl⟩
 have hgn : (w1.alloc (.cells (ints .u64 z80) 131)).heap[w1.heap.size]? = some (.cells (ints .u64 z80) 131 (0, 0)) := heap_alloc_new _ _
 go_wp2_with (refine wpList_store_row rfl 131 (.tmp 7) (.tmp 24) rfl _ wv rfl rfl 131 _ hgn (by rw [hwz]; exact h80) (by rw [hwz]; exact hzl) hw1 ?_)
 simp only [Act.put]
 obtain ⟨w2, hw2⟩ : ∃ x, x = (w1.alloc (.cells (ints .u64 z80) 131)).setRow w1.heap.size wv := ⟨_, rfl⟩
 rw [← hw2]
 have hR2 : RelC64 w sv w2 := by rw [hw2]; exact (hR1.on (below1 _ _)).setRow hg0 _
 have hG2 : w2.heap[g]? = some (.cells (ints .u64 (spr sh64 bs)) 131 (0, 0)) := by rw [hw2, hg, ← HWV.out]; exact setRow_heap _ _ _ _ _ _ hgn
 have hgB : w.heap.size + 1 + 1 < g := by rw [hg]; exact hg0
 rw [← hg]
 clear hw2 hR1 hg0 hgn hg
 obtain ⟨x0, hx0⟩ : ∃ x, x = st.getD 0 0 := ⟨_, rfl⟩
 obtain ⟨x1, hx1⟩ : ∃ x, x = st.getD 1 0 := ⟨_, rfl⟩
 obtain ⟨x2, hx2⟩ : ∃ x, x = st.getD 2 0 := ⟨_, rfl⟩
 obtain ⟨x3, hx3⟩ : ∃ x, x = st.getD 3 0 := ⟨_, rfl⟩
 obtain ⟨x4, hx4⟩ : ∃ x, x = st.getD 4 0 := ⟨_, rfl⟩
 obtain ⟨x5, hx5⟩ : ∃ x, x = st.getD 5 0 := ⟨_, rfl⟩
 obtain ⟨x6, hx6⟩ : ∃ x, x = st.getD 6 0 := ⟨_, rfl⟩
 obtain ⟨x7, hx7⟩ : ∃ x, x = st.getD 7 0 := ⟨_, rfl⟩
 have hq : ofL st = ⟨x0, x1, x2, x3, x4, x5, x6, x7⟩ := by rw [hx0, hx1, hx2, hx3, hx4, hx5, hx6, hx7]; rfl
 have hqlt : S8.lt ⟨x0, x1, x2, x3, x4, x5, x6, x7⟩ 18446744073709551616 := by rw [hx0, hx1, hx2, hx3, hx4, hx5, hx6, hx7]; exact ⟨hsl _, hsl _, hsl _, hsl _, hsl _, hsl _, hsl _, hsl _⟩
 have HQ : Hid (ofL st = ⟨x0, x1, x2, x3, x4, x5, x6, x7⟩) := hq
 have c0 : w2.cell? ⟨w.heap.size, 0, none⟩ = some (.int .u64 (x0 : Int)) := by rw [hx0]; exact cell_ints (HSV.out ▸ hR2.2.1) 0 (by omega)
 have c1 : w2.cell? ⟨w.heap.size, 1, none⟩ = some (.int .u64 (x1 : Int)) := by rw [hx1]; exact cell_ints (HSV.out ▸ hR2.2.1) 1 (by omega)
 have c2 : w2.cell? ⟨w.heap.size, 2, none⟩ = some (.int .u64 (x2 : Int)) := by rw [hx2]; exact cell_ints (HSV.out ▸ hR2.2.1) 2 (by omega)
 have c3 : w2.cell? ⟨w.heap.size, 3, none⟩ = some (.int .u64 (x3 : Int)) := by rw [hx3]; exact cell_ints (HSV.out ▸ hR2.2.1) 3 (by omega)
 have c4 : w2.cell? ⟨w.heap.size, 4, none⟩ = some (.int .u64 (x4 : Int)) := by rw [hx4]; exact cell_ints (HSV.out ▸ hR2.2.1) 4 (by omega)
 have c5 : w2.cell? ⟨w.heap.size, 5, none⟩ = some (.int .u64 (x5 : Int)) := by rw [hx5]; exact cell_ints (HSV.out ▸ hR2.2.1) 5 (by omega)
 have c6 : w2.cell? ⟨w.heap.size, 6, none⟩ = some (.int .u64 (x6 : Int)) := by rw [hx6]; exact cell_ints (HSV.out ▸ hR2.2.1) 6 (by omega)
 have c7 : w2.cell? ⟨w.heap.size, 7, none⟩ = some (.int .u64 (x7 : Int)) := by rw [hx7]; exact cell_ints (HSV.out ▸ hR2.2.1) 7 (by omega)
 clear hq hx0 hx1 hx2 hx3 hx4 hx5 hx6 hx7
 have s1 := shp_at64 hR2.2.2.1 1 (.int .i64 80) rfl
 go_quiet (fail)
 go_wp2_with fail
 go_quiet (fail)
 go_wp2_with fail
 go_loopw [43, 8, 9, 10, 11, 12, 13, 14, 15] (fun i va vb vc vd ve vf vg vh wr => ∃ t : Nat, ∃ q : S8, t ≤ 80 ∧ i = .int .i64 t ∧ q = R sh64 ks (spr sh64 bs) ⟨x0, x1, x2, x3, x4, x5, x6, x7⟩ t ∧ va = .int .u64 q.a ∧ vb = .int .u64 q.b ∧ vc = .int .u64 q.c ∧ vd = .int .u64 q.d ∧
   ve = .int .u64 q.e ∧ vf = .int .u64 q.f ∧ vg = .int .u64 q.g ∧ vh = .int .u64 q.h ∧ RelC64 w sv wr ∧ wr.heap[g]? = some (.cells (ints .u64 (spr sh64 bs)) 131 (0, 0))) (fun i _ _ _ _ _ _ _ _ _ => 80 - (intOf i).toNat)
 case atStart => exact ⟨0, _, by omega, rfl, rfl, rfl, rfl, rfl, rfl, rfl, rfl, rfl, rfl, hR2.drewN _, hG2⟩
 case round =>
  obtain ⟨t, ⟨qa, qb, qc, qd, qe, qf, qg, qh⟩, ht, rfl, hq, rfl, rfl, rfl, rfl, rfl, rfl, rfl, rfl, hR, hG⟩ := hrel
  have HQT : Hid ((⟨qa, qb, qc, qd, qe, qf, qg, qh⟩ : S8) = R sh64 ks (spr sh64 bs) ⟨x0, x1, x2, x3, x4, x5, x6, x7⟩ t) := hq
  clear hq
  by_cases hlt : t < 80
  ·obtain ⟨kt, hkt⟩ : ∃ x, x = ks.getD t 0 := ⟨_, rfl⟩
   obtain ⟨wt, hwt⟩ : ∃ x, x = (spr sh64 bs).getD t 0 := ⟨_, rfl⟩
   have cK : wr.cell? ⟨7, t, none⟩ = some (.int .u64 (kt : Int)) := by rw [hkt]; exact hK.below hR.1 (block_lt_of_cell (hK 0 (by omega))) t (by omega)
   have cW : wr.cell? ⟨g, t, none⟩ = some (.int .u64 (wt : Int)) := by rw [hwt]; exact cell_ints hG t (by rw [spr_len]; omega)
   have z0 := shp_at64 hR.2.2.1 0 (.int .u64 64) rfl
   have bk : kt < 18446744073709551616 := by rw [hkt]; exact hkb _
   have bw : wt < 18446744073709551616 := by rw [hwt]; exact spr_lt sh64 (by decide) bs hb256 t
   have HB : Hid ((R sh64 ks (spr sh64 bs) ⟨x0, x1, x2, x3, x4, x5, x6, x7⟩ (t + 1)) = rnd sh64 (kt >>> 0) wt ⟨qa, qb, qc, qd, qe, qf, qg, qh⟩) := by rw [hkt, hwt, HQT.out]; rfl
   obtain ⟨ba, bb, bc, bd, be, bf, bg, bh⟩ : S8.lt ⟨qa, qb, qc, qd, qe, qf, qg, qh⟩ 18446744073709551616 := by rw [HQT.out]; exact R_lt sh64 ks _ _ hqlt t
   clear hkt hwt
   go_wp2_with fail
   go_quiet (fail)
   go_wp2_with fail
   have hb0 : Below wr.heap.size wr (wr.drewN nq) := below_drewN (Below.refl _ _) _
   have hR0 := hR.on hb0
   have hG0 : (wr.drewN nq).heap[g]? = some (.cells (ints .u64 (spr sh64 bs)) 131 (0, 0)) := hG
   have q0 := cell_regrown (shp_at64 hR0.2.2.1 0 (.int .u64 64) rfl)
   have q1 := cell_regrown (shp_at64 hR0.2.2.1 5 (.int .u64 14) rfl)
   have q2 := cell_regrown (shp_at64 hR0.2.2.1 6 (.int .u64 18) rfl)
   have q3 := cell_regrown (shp_at64 hR0.2.2.1 7 (.int .u64 41) rfl)
   have q4 := cell_regrown (w := wr.drewN nq) (a := ⟨g, t, none⟩) (v := .int .u64 (wt : Int)) cW
   have cQ : ∀ d os, Calls Tryz.prog 120 #[.int .u64 (qe : Int), .agg #[.int .u64 14, .int .u64 18, .int .u64 41], .int .u64 64] (grow (redrawn (wr.drewN nq) d) os) fun e w'' => e = .returned (.int .u64 (tn 64 qe 14 18 41 : Nat)) ∧ ∃ p : Regrown, w'' = grow (redrawn (wr.drewN nq) p.d) p.os :=
    fun d os => Calls.regrown_of (turns64 qe 14 18 41 _ be (by decide) (by decide) (by decide) (by decide) (by decide) (by decide))
   refine wp_region_quiet_below (by kernel_rfl) (by kernel_rfl) ?_
   repeat (go_big_quiet_step (exact cQ _ _))
   refine wpQuiet_nil ?_
   intro w3 hw'
   have hb1 : Below (wr.drewN nq).heap.size (wr.drewN nq) w3 := by obtain ⟨p, rfl⟩ := hw'; exact below_regrown _ _ _
   have hR1 := hR0.on hb1
   have hG1 := block_below hb1 (lt_of_heap hG0) hG0
   clear hw' q0 q1 q2 q3 q4 cQ hR hG hR0 hG0 hb0 hb1 cK cW z0
   have q0 := shp_at64 hR1.2.2.1 0 (.int .u64 64) rfl
   have q1 := shp_at64 hR1.2.2.1 2 (.int .u64 28) rfl
   have q2 := shp_at64 hR1.2.2.1 3 (.int .u64 34) rfl
   have q3 := shp_at64 hR1.2.2.1 4 (.int .u64 39) rfl
   go_wp2_with (go_at_call 120; refine (turns64 qa 28 34 39 _ ba (by decide) (by decide) (by decide) (by decide) (by decide) (by decide)).mono ?_; rintro e w4 ⟨rfl, hb4⟩)
   go_roundw
   case rel =>
    rw [ch64 _ _ _ be bf bg, maj64 _ _ _ ba bb bc, sum5_64, sum2_64, sum2_64, sum2_64]
    exact ⟨t + 1, _, by omega, by go_num, HB.out.symm, rfl, rfl, rfl, rfl, rfl, rfl, rfl, rfl, hR1.on hb4, block_below hb4 (lt_of_heap hG1) hG1⟩
   case measure => simp [intOf]; omega
  ·obtain rfl : t = 80 := by omega
   clear c0 c1 c2 c3 c4 c5 c6 c7 s1 hR2 hG2
   go_wp2_with fail
   obtain ⟨ql, hql⟩ : ∃ x, x = [qa, qb, qc, qd, qe, qf, qg, qh] := ⟨_, rfl⟩
   have HQL : Hid (ql = [qa, qb, qc, qd, qe, qf, qg, qh]) := hql
   clear hql
   have hR8 : RelC64 w (ints .u64 (addN 64 st ql 0)) wr := by rw [show addN 64 st ql 0 = st from rfl, ← HSV.out]; exact hR
   clear hR
   go_loopw [116] (fun i wr => ∃ k : Nat, k ≤ 8 ∧ i = .int .i64 k ∧ RelC64 w (ints .u64 (addN 64 st ql k)) wr) (fun i _ => 8 - (intOf i).toNat)
   case atStart => exact ⟨0, by omega, rfl, hR8⟩
   case round =>
    obtain ⟨k, hk, rfl, hR⟩ := hrel
    clear hR8 hG
    by_cases hlt : k < 8
    ·obtain ⟨y, hy⟩ : ∃ x, x = ql.getD k 0 := ⟨_, rfl⟩
     obtain ⟨sk, hsk⟩ : ∃ x, x = (addN 64 st ql k).getD k 0 := ⟨_, rfl⟩
     have hix : ∀ w', (Instr.index 114 (.agg #[.int .u64 (qa : Int), .int .u64 (qb : Int), .int .u64 (qc : Int), .int .u64 (qd : Int), .int .u64 (qe : Int), .int .u64 (qf : Int), .int .u64 (qg : Int), .int .u64 (qh : Int)]) (.int .i64 (k : Int))).run Tryz.prog w' = .ok (.int .u64 (y : Int)) w' := by
      rw [hy, HQL.out]; exact index8_64 qa qb qc qd qe qf qg qh k hlt
     have cS : wr.cell? ⟨w.heap.size, k, none⟩ = some (.int .u64 (sk : Int)) := by rw [hsk]; exact cell_ints hR.2.1 k (by rw [addN_len, hst]; omega)
     have fS := free_ints hR.2.1 k
     have HN : Hid (RelC64 w (ints .u64 (addN 64 st ql (k + 1))) (wr.setCell ⟨w.heap.size, k, none⟩ (.int .u64 (((sk + y) % 2 ^ 64 : Nat) : Int)))) := by rw [hsk, hy]; exact hR.store k _
     clear hy hsk hR
     go_wp2
     go_roundw
     case rel => exact ⟨k + 1, by omega, by go_num, by rw [sum2_64]; exact HN.out⟩
     case measure => simp [intOf]; omega
    ·obtain rfl : k = 8 := by omega
     obtain ⟨rv, hrv⟩ : ∃ x, x = ints .u64 (blk sh64 ks st bs) := ⟨_, rfl⟩
     have hblk : addN 64 st ql 8 = blk sh64 ks st bs := by
      rw [addN_8 64 st ql hst (by rw [HQL.out]; rfl)]
      show List.zipWith _ st ql = List.zipWith _ st (R sh64 ks (spr sh64 bs) (ofL st) 80).list
      rw [HQ.out, ← HQT.out, HQL.out]; rfl
     rw [hblk, ← hrv] at hR
     have hrl : rv.size = 8 := by rw [hrv, ints_size, blk_len _ _ _ _ hst]
     have hr1 : rv.all (·.oneCell') = true := by rw [hrv]; exact ints_one _ _
     have h5 := hR.2.1
     have h4 := hR.2.2.2
     have h8 : (Tryz.prog.info? 114).map (·.size) = some 8 := by kernel_rfl
     have hzl : z8_64.size = 8 := rfl
     go_wp2_with (first
      | (refine wpList_load_row rfl 114 (.tmp 3) rfl _ rfl 114 rv (0, 0) _ h5 Tryz.underlying114 rfl (by rw [hrl]; exact h8) ?_)
      | (refine wpList_store_row rfl 114 (.tmp 6) (.tmp 127) rfl _ rv rfl rfl 114 _ h4 (by rw [hrl]; exact h8) (by rw [hrl]; exact hzl) hr1 ?_))
     refine bodyPost_ret (v := .agg rv) ?_ rfl ⟨by rw [hrv], setRow_below hR.1 (by omega) _⟩
     exact results_cell_row Tryz.results114 _ _ _ 114 rv (0, 0) _ rfl (setRow_heap _ _ _ _ _ _ h4) Tryz.underlying114 rfl (by rw [hrl]; exact h8)
end Go.Proofs.YtabgihjffjlfiaaGreatDoor
