/-
  The walk of lives. Signatures: numbers modulo the base's order; points told by three numbers. Plain mathematics: nothing of the program stands here. What is signed is verified: the numbers. The walk of SignOwns.
-/
import Derived.Test.YtabgihjffjlfiaaDoorC7
import Derived.Test.YtabgihjffjlfiaaDoorC2
set_option linter.unusedVariables false
namespace Go.Proofs.YtabgihjffjlfiaaDoor
open Go.RowKit Go.Sort Go.BigFrame EN
set_option maxRecDepth 100000
set_option maxHeartbeats 2000000
theorem cell_cur {w : World} {g v : Nat} {cur : Array Value} {l : List Nat} (h : w.heap[g]? = some (.cells cur 5 (0, 0))) (hc : ∀ i, i < l.length → cur[i]? = some (.int .u8 ((l.getD i 0 : Nat) : Int))) (i : Nat) (hi : i < l.length) (hv : l.getD i 0 = v) : w.cell? ⟨g, i, none⟩ = some (.int .u8 (v : Int)) := by
  rw [cell_of_row w g i _ 5 _ h, hc i hi, hv]
theorem SIG_len (s m : List Nat) : (SIG s m).length = 64 := by
  unfold SIG RB
  rw [List.length_append, digs_len, digs_len]
theorem PUB_len (s : List Nat) : (PUB s).length = 32 := by
  unfold PUB
  rw [digs_len]
theorem tupLo {f : FuncId} {args : Array Value} {w : World} {l : List Nat} {lo : Nat} {R : Value → World → Prop} (hlo : lo ≤ w.heap.size) (h : Ret f args w (Tup2 (Own w.heap.size l) R)) : Ret f args w (Tup2 (Own lo l) R) :=
  h.mono fun e w' ⟨v, h1, h2, a, b, h3, ⟨g, h4, h5, h6⟩, h7⟩ => ⟨v, h1, h2, a, b, h3, ⟨g, h4, by omega, h6⟩, h7⟩
theorem tupLoC {f : FuncId} {args : Array Value} {w : World} {l : List Nat} {lo : Nat} {R : Value → World → Prop} (hlo : lo ≤ w.heap.size) (h : Ret f args w (Tup2 (OwnC w.heap.size l) R)) : Ret f args w (Tup2 (OwnC lo l) R) :=
  h.mono fun e w' ⟨v, h1, h2, a, b, h3, h4, h7⟩ => ⟨v, h1, h2, a, b, h3, h4.lo hlo, h7⟩
theorem dLV {a : Act} {o : Oper} {w : World} {lo : Nat} (hlo : lo ≤ w.heap.size) (ho : o.op = .buildSlice 22 32 #[(0, .const (.int .u8 157)), (1, .const (.int .u8 97)), (2, .const (.int .u8 177)), (3, .const (.int .u8 157)), (4, .const (.int .u8 239)), (5, .const (.int .u8 253)), (6, .const (.int .u8 90)), (7, .const (.int .u8 96)), (8, .const (.int .u8 186)), (9, .const (.int .u8 132)), (10, .const (.int .u8 74)), (11, .const (.int .u8 244)), (12, .const (.int .u8 146)), (13, .const (.int .u8 236)), (14, .const (.int .u8 44)), (15, .const (.int .u8 196)), (16, .const (.int .u8 68)), (17, .const (.int .u8 73)), (18, .const (.int .u8 197)), (19, .const (.int .u8 105)), (20, .const (.int .u8 123)), (21, .const (.int .u8 50)), (22, .const (.int .u8 105)), (23, .const (.int .u8 25)), (24, .const (.int .u8 112)), (25, .const (.int .u8 59)), (26, .const (.int .u8 172)), (27, .const (.int .u8 3)), (28, .const (.int .u8 28)), (29, .const (.int .u8 174)), (30, .const (.int .u8 127)), (31, .const (.int .u8 96))]) : Does Tryd.prog o a.eval w (fun v w' => Below w.heap.size w w' ∧ Own lo LV v w') :=
  Does.new (.slice (some ⟨w.heap.size, 0, none⟩) 32 32) (.cells (ints .u8 LV) 5) (by simp only [execOp, ho, Act.eval, List.map_toArray, List.map]; kernel_rfl) ⟨_, rfl, hlo, heap_alloc_new _ _⟩
theorem cLives (w : World) (hT : TabA w) : Ret 10 #[] w (Is (.bool true)) := by
  unfold Ret
  have hO0 : Below w.heap.size w w := Below.refl _ _
  go_enter Tryd.func10, Tryd.ntmps10
  refine wp_seq_k fun K1 hK1 => ?_
  refine wp_plain_inv 1 (specs [Is (.bool false)]) (specs_stb ⟨Is.stb _, trivial⟩) (by kernel_rfl) ?_ ?_
  · refine ⟨fun a w hB hfr hdep => Step.plain rfl (dAssign (R := Is (.bool false)) rfl rfl), trivial⟩
  intro u1 hb1
  simp only [List.take, List.drop, FinAll, Act.put, List.setIfInBounds_toArray, List.set_cons_zero]
  rintro _ rfl
  have hO1 := (hO0).trans (hb1.mono (hO0).size)
  have hT1 := TabA.below hT hb1
  refine hK1 _ _ ?_
  clear hK1 K1
  refine wp_seq_k fun K2 hK2 => ?_
  refine wp_plain_inv 2 (specs [Own u1.heap.size (LV), Own u1.heap.size (LV)]) (specs_stb ⟨Own.stb _ _, Own.stb _ _, trivial⟩) (by kernel_rfl) ?_ ?_
  · refine ⟨fun a w hB hfr hdep => Step.plain rfl (dLV hB.size rfl),
      fun a w hB hfr hdep => Step.plain rfl (dAssign (R := Own u1.heap.size (LV)) rfl (hdep 0 6 (by kernel_rfl))), trivial⟩
  intro u2 hb2
  simp only [List.take, List.drop, FinAll, Act.put, List.setIfInBounds_toArray, List.set_cons_succ, List.set_cons_zero]
  rintro v6_2 h6_2 v1_2 h1_2
  have hO2 := (hO1).trans (hb2.mono (hO1).size)
  have hT2 := TabA.below hT1 hb2
  refine hK2 _ _ ?_
  clear hK2 K2
  refine wp_seq_k fun K3 hK3 => ?_
  refine wp_plain_inv 7 (specs [Own u1.heap.size (LV), Tup2 (Own u2.heap.size (PUB (LV))) (Is (.int .i64 0)), Tup2 (Own u2.heap.size (PUB (LV))) (Is (.int .i64 0)), Own u2.heap.size (PUB (LV)), Is (.int .i64 0), Own u2.heap.size (PUB (LV)), Is (.int .i64 0)]) (specs_stb ⟨Own.stb _ _, Tup2.stb (Own.stb _ _) (Is.stb _), Tup2.stb (Own.stb _ _) (Is.stb _), Own.stb _ _, Is.stb _, Own.stb _ _, Is.stb _, trivial⟩) (by kernel_rfl) ?_ ?_
  · refine ⟨fun a w hB hfr hdep => Step.plain rfl (dMove (R := Own u1.heap.size (LV)) rfl (use (hfr 1 (by kernel_rfl)) ((Own.stb _ _) _ _ _ hB h1_2))),
      fun a w hB hfr hdep => Step.plain rfl (Does.call 8 #[(a.eval (.tmp 8))] (by kernel_rfl) (tupLo hB.size (cPublic w (TabA.below hT2 hB) (Own.bts (hdep 0 8 (by kernel_rfl)) (by first | decide | (rw [digs_len]; omega) | (rw [SEED_len]; omega) | (unfold PUB; rw [digs_len]; omega) | simp)) LV_dig rfl))),
      fun a w hB hfr hdep => Step.plain rfl (dMove (R := Tup2 (Own u2.heap.size (PUB (LV))) (Is (.int .i64 0))) rfl (hdep 1 9 (by kernel_rfl))),
      fun a w hB hfr hdep => Step.plain rfl (dExt0 rfl (hdep 2 7 (by kernel_rfl))),
      fun a w hB hfr hdep => Step.plain rfl (dExt1 rfl (hdep 2 7 (by kernel_rfl))),
      fun a w hB hfr hdep => Step.plain rfl (dAssign (R := Own u2.heap.size (PUB (LV))) rfl (hdep 3 10 (by kernel_rfl))),
      fun a w hB hfr hdep => Step.plain rfl (dAssign (R := Is (.int .i64 0)) rfl (hdep 4 11 (by kernel_rfl))), trivial⟩
  intro u3 hb3
  simp only [List.take, List.drop, FinAll, Act.put, List.setIfInBounds_toArray, List.set_cons_succ, List.set_cons_zero]
  rintro v8_3 h8_3 v9_3 h9_3 v7_3 h7_3 v10_3 h10_3 _ rfl v2_3 h2_3 _ rfl
  have hO3 := (hO2).trans (hb3.mono (hO2).size)
  have hT3 := TabA.below hT2 hb3
  refine hK3 _ _ ?_
  clear hK3 K3
  refine wp_seq_k fun K4 hK4 => ?_
  refine wp_plain_inv 7 (specs [Own u1.heap.size (LV), Tup2 (OwnC u3.heap.size (SIG (LV) ([]))) (Is (.int .i64 0)), Tup2 (OwnC u3.heap.size (SIG (LV) ([]))) (Is (.int .i64 0)), OwnC u3.heap.size (SIG (LV) ([])), Is (.int .i64 0), OwnC u3.heap.size (SIG (LV) ([])), Is (.int .i64 0)]) (specs_stb ⟨Own.stb _ _, Tup2.stb (OwnC.stb _ _) (Is.stb _), Tup2.stb (OwnC.stb _ _) (Is.stb _), OwnC.stb _ _, Is.stb _, OwnC.stb _ _, Is.stb _, trivial⟩) (by kernel_rfl) ?_ ?_
  · refine ⟨fun a w hB hfr hdep => Step.plain rfl (dMove (R := Own u1.heap.size (LV)) rfl (use (hfr 1 (by kernel_rfl)) ((Own.stb _ _) _ _ _ hB ((Own.stb _ _) _ _ _ hb3 h1_2)))),
      fun a w hB hfr hdep => Step.plain rfl (Does.call 9 #[(a.eval (.tmp 13)), .slice none 0 0] (by kernel_rfl) (tupLoC hB.size (cSign w (TabA.below hT3 hB) (Own.bts (hdep 0 13 (by kernel_rfl)) (by first | decide | (rw [digs_len]; omega) | (rw [SEED_len]; omega) | (unfold PUB; rw [digs_len]; omega) | simp)) (btsNil rfl) LV_dig rfl (dig_lt (by simp; try omega)) (by decide)))),
      fun a w hB hfr hdep => Step.plain rfl (dMove (R := Tup2 (OwnC u3.heap.size (SIG (LV) ([]))) (Is (.int .i64 0))) rfl (hdep 1 14 (by kernel_rfl))),
      fun a w hB hfr hdep => Step.plain rfl (dExt0 rfl (hdep 2 12 (by kernel_rfl))),
      fun a w hB hfr hdep => Step.plain rfl (dExt1 rfl (hdep 2 12 (by kernel_rfl))),
      fun a w hB hfr hdep => Step.plain rfl (dAssign (R := OwnC u3.heap.size (SIG (LV) ([]))) rfl (hdep 3 15 (by kernel_rfl))),
      fun a w hB hfr hdep => Step.plain rfl (dAssign (R := Is (.int .i64 0)) rfl (hdep 4 16 (by kernel_rfl))), trivial⟩
  intro u4 hb4
  simp only [List.take, List.drop, FinAll, Act.put, List.setIfInBounds_toArray, List.set_cons_succ, List.set_cons_zero]
  rintro v13_4 h13_4 v14_4 h14_4 v12_4 h12_4 v15_4 h15_4 _ rfl v4_4 h4_4 _ rfl
  have hO4 := (hO3).trans (hb4.mono (hO3).size)
  have hT4 := TabA.below hT3 hb4
  refine hK4 _ _ ?_
  clear hK4 K4
  obtain ⟨gp, hvp, hlp, hrowp⟩ := ((Own.stb _ _) _ _ _ hb4 h2_3)
  rw [PUB_len] at hvp
  subst hvp
  obtain ⟨gs, caps, curs, hvs, hls, hrows, hcs, hds, hes⟩ := h4_4
  rw [SIG_len] at hvs
  subst hvs
  have kp0 : u4.cell? ⟨gp, 0, none⟩ = some (.int .u8 215) := cell_val hrowp 0 (by rw [PUB_len]; decide) (by rw [PUB_LV]; rfl)
  have kp1 : u4.cell? ⟨gp, 1, none⟩ = some (.int .u8 90) := cell_val hrowp 1 (by rw [PUB_len]; decide) (by rw [PUB_LV]; rfl)
  have kp2 : u4.cell? ⟨gp, 2, none⟩ = some (.int .u8 152) := cell_val hrowp 2 (by rw [PUB_len]; decide) (by rw [PUB_LV]; rfl)
  have kp3 : u4.cell? ⟨gp, 3, none⟩ = some (.int .u8 1) := cell_val hrowp 3 (by rw [PUB_len]; decide) (by rw [PUB_LV]; rfl)
  have ks0 : u4.cell? ⟨gs, 0, none⟩ = some (.int .u8 229) := cell_cur hrows hes 0 (by rw [SIG_len]; decide) (by rw [SIG_LV 0 (by decide), RB_LV]; rfl)
  have ks1 : u4.cell? ⟨gs, 1, none⟩ = some (.int .u8 86) := cell_cur hrows hes 1 (by rw [SIG_len]; decide) (by rw [SIG_LV 1 (by decide), RB_LV]; rfl)
  have ks2 : u4.cell? ⟨gs, 2, none⟩ = some (.int .u8 67) := cell_cur hrows hes 2 (by rw [SIG_len]; decide) (by rw [SIG_LV 2 (by decide), RB_LV]; rfl)
  have ks3 : u4.cell? ⟨gs, 3, none⟩ = some (.int .u8 0) := cell_cur hrows hes 3 (by rw [SIG_len]; decide) (by rw [SIG_LV 3 (by decide), RB_LV]; rfl)
  have HO : Hid _ := hO4
  clear hrows hes
  go_wp2
  go_ret
  exact ⟨_, rfl, HO.out, rfl⟩
end Go.Proofs.YtabgihjffjlfiaaDoor
set_option linter.unusedVariables false
namespace Go.Proofs.YtabgihjffjlfiaaDoor
theorem nm_LN (n : Nat) : bp.nm (LN * n) = Pt.zero := by rw [Pt.nm_mul, bp_L, Pt.zero_nm]
/-- So many of the base hang on what is left modulo L. -/
theorem nm_mod (n : Nat) : bp.nm (n % LN) = bp.nm n := by
  have h : n = LN * (n / LN) + n % LN := (Nat.div_add_mod n LN).symm
  have e : bp.nm (LN * (n / LN) + n % LN) = bp.nm (n % LN) := by rw [Pt.nm_add, nm_LN, Pt.zero_add]
  rw [← h] at e
  exact e.symm
/-- What is signed is verified. -/
theorem sign_round (a k r : Nat) : (bp.nm ((k * a + r) % LN)).add ((bp.nm a).neg.nm k) = bp.nm r := by
  rw [nm_mod, Pt.neg_nm, ← Pt.nm_mul, Nat.mul_comm a k, Nat.add_comm (k * a) r, Pt.nm_add, Pt.add_assoc, Pt.add_neg, Pt.add_zero]
theorem sign_round' (a k r s : Nat) (hs : s = (k % LN * a + r % LN) % LN) : (bp.nm s).add ((bp.nm a).neg.nm (k % LN)) = bp.nm (r % LN) := by
  rw [hs]; exact sign_round a (k % LN) (r % LN)
/-- A point told by three numbers, of which the third is not 0. -/
def Fr (X Y Z : Fe) (p : Pt) : Prop := Z ≠ 0 ∧ p.x * Z = X ∧ p.y * Z = Y
theorem fr_zero : Fr 0 1 1 Pt.zero := ⟨one_ne, by show (0 : Fe) * 1 = 0; grobner, by show (1 : Fe) * 1 = 1; grobner⟩
theorem fr_aff (p : Pt) : Fr p.x p.y 1 p := ⟨one_ne, by grobner, by grobner⟩
theorem fr_back {X Y Z : Fe} {p : Pt} (h : Fr X Y Z p) : X * fin Z = p.x ∧ Y * fin Z = p.y := by
  obtain ⟨h0, h1, h2⟩ := h
  have hi := mul_fin h0
  constructor
  · rw [← h1]; grobner
  · rw [← h2]; grobner
theorem fr_add {X1 Y1 Z1 X2 Y2 Z2 : Fe} {p q : Pt} (h1 : Fr X1 Y1 Z1 p) (h2 : Fr X2 Y2 Z2 q) {z k P M : Fe} (hz : z = Z1 * Z2) (hk : k = dd * ((X1 * X2) * (Y1 * Y2))) (hP : P = z * z + k) (hM : M = z * z - k) :
    Fr (z * (M * (X1 * Y2 + Y1 * X2))) (z * (P * (Y1 * Y2 + X1 * X2))) (P * M) (p.add q) := by
  obtain ⟨z1, a1, b1⟩ := h1
  obtain ⟨z2, a2, b2⟩ := h2
  have n1 := den1 p.on q.on
  have n2 := den2 p.on q.on
  have sx := p.addX q
  have sy := p.addY q
  have zz : Z1 * Z2 ≠ 0 := mul_ne z1 z2
  have fP : P = (Z1 * Z2) * (Z1 * Z2) * (1 + dd * (p.x * q.x) * (p.y * q.y)) := by rw [hP, hz, hk, ← a1, ← a2, ← b1, ← b2]; grobner
  have fM : M = (Z1 * Z2) * (Z1 * Z2) * (1 - dd * (p.x * q.x) * (p.y * q.y)) := by rw [hM, hz, hk, ← a1, ← a2, ← b1, ← b2]; grobner
  have fX : X1 * Y2 + Y1 * X2 = (Z1 * Z2) * (p.x * q.y + p.y * q.x) := by rw [← a1, ← a2, ← b1, ← b2]; grobner
  have fY : Y1 * Y2 + X1 * X2 = (Z1 * Z2) * (p.y * q.y + p.x * q.x) := by rw [← a1, ← a2, ← b1, ← b2]; grobner
  refine ⟨?_, ?_, ?_⟩
  · rw [fP, fM]; exact mul_ne (mul_ne (mul_ne zz zz) n1) (mul_ne (mul_ne zz zz) n2)
  · rw [fX, ← sx, hz, fP]; grobner
  · rw [fY, ← sy, hz, fM]; grobner
end Go.Proofs.YtabgihjffjlfiaaDoor
set_option linter.unusedVariables false
namespace Go.Proofs.YtabgihjffjlfiaaDoor
open Go.RowKit Go.Sort Go.BigFrame EN
set_option maxRecDepth 100000
set_option maxHeartbeats 2000000
theorem LL_LN : LL = LN := rfl
theorem LL_256 : LL < 256 ^ 32 := by decide
theorem numL_lt (l : List Nat) : numL l < LL := Nat.mod_lt _ LL_pos
theorem SN_lt (s m : List Nat) : SN s m < LL := Nat.mod_lt _ LL_pos
theorem enc_256 (p : Pt) : p.enc < 256 ^ 32 := Nat.lt_of_lt_of_le p.enc_lt (by decide)
theorem PUB_enc (s : List Nat) : (PT s).enc = valD (PUB s) := by
  unfold PUB
  rw [valD_digs_lt (enc_256 _)]
theorem RB_len (s m : List Nat) : (RB s m).length = 32 := by unfold RB; rw [digs_len]
theorem SIG_take (s m : List Nat) : (SIG s m).take 32 = RB s m := by
  unfold SIG
  exact List.take_left' (RB_len s m)
theorem SIG_drop (s m : List Nat) : (SIG s m).drop 32 = digs 32 (SN s m) := by
  unfold SIG
  exact List.drop_left' (RB_len s m)
theorem SIG_dig (s m : List Nat) : Dig (SIG s m) := (digs_dig _ _).app (digs_dig _ _)
theorem PUB_dig (s : List Nat) : Dig (PUB s) := digs_dig _ _
theorem sig_is (s m : List Nat) : isL ((SIG s m).drop 32) = true := by
  rw [SIG_drop]
  unfold isL
  rw [valD_digs_lt (Nat.lt_trans (SN_lt s m) LL_256), digs_len]
  exact decide_eq_true ⟨rfl, SN_lt s m⟩
theorem sig_pt (s m : List Nat) : (bp.nm (valD ((SIG s m).drop 32))).add (((PT s).nm (valD (digs 32 (numL ((SIG s m).take 32 ++ PUB s ++ m))))).neg) = bp.nm (RN s m) := by
  rw [SIG_drop, SIG_take, valD_digs_lt (Nat.lt_trans (SN_lt s m) LL_256), valD_digs_lt (Nat.lt_trans (numL_lt _) LL_256)]
  have h := sign_round (valD (SEC s)) (KN s m) (RN s m)
  rw [Pt.neg_nm] at h
  exact h
theorem sig_ok (s m : List Nat) : decide ((SIG s m).take 32 = digs 32 (Pt.enc ((bp.nm (valD ((SIG s m).drop 32))).add (((PT s).nm (valD (digs 32 (numL ((SIG s m).take 32 ++ PUB s ++ m))))).neg)))) = true := by
  rw [sig_pt, SIG_take]
  exact decide_eq_true rfl
theorem cVerOk {s m : List Nat} {v1 v2 v3 : Value} (w : World) (hT : TabV w) (hp : Bts (PUB s) v1 w) (hm : Bts m v2 w) (hs : Bts (SIG s m) v3 w) (hmd : Dig m) (hml : m.length ≤ 50000) : Ret 13 #[v1, v2, v3] w (Is (.int .i64 0)) :=
  verOk w hT hp hm hs (PUB_dig s) hmd (SIG_dig s m) (PUB_enc s) (PUB_len s) (SIG_len s m) hml (sig_is s m) (sig_ok s m)
end Go.Proofs.YtabgihjffjlfiaaDoor
set_option linter.unusedVariables false
namespace Go.Proofs.YtabgihjffjlfiaaDoor
open Go.RowKit Go.Sort Go.BigFrame EN
set_option maxRecDepth 100000
set_option maxHeartbeats 4000000
theorem Bts.str {l : List Nat} {a : Option Addr} {n c : Nat} {w : World} (h : Bts l (.slice a n c) w) : (convert 22 9 (.slice a n c)).run Tryd.prog w = .ok (.string (strOf l)) w := by
  obtain ⟨h1, _, _, hv⟩ := h.parts
  exact toString_view h1 hv
theorem strRefl (l : List Nat) : ((strOf l).toList == (strOf l).toList) = true := by simp
theorem signOwns {v1 v2 : Value} {l1 l2 : List Nat} (w : World) (hT : TabV w) (hv1 : Bts l1 v1 w) (hv2 : Bts l2 v2 w) (hd1 : Dig l1) (hd2 : Dig l2) : Ret 6 #[v1, v2] w (Is (.bool true)) := by
  obtain ⟨a1, c1, rfl⟩ := hv1.form
  obtain ⟨a2, c2, rfl⟩ := hv2.form
  unfold Ret
  go_enter Tryd.func6, Tryd.ntmps6
  go_wp2_with fail
  refine (cSeed w hv1).mono ?_
  rintro e w1 ⟨v, rfl, hB1, hO1⟩
  have hS1 : Bts (SEED l1) v w1 := hO1.bts (by rw [SEED_len]; omega)
  obtain ⟨s, hs⟩ : ∃ s, s = SEED l1 := ⟨_, rfl⟩
  have ls : s.length = 32 := by rw [hs]; exact SEED_len l1
  have ds : Dig s := by rw [hs]; exact SEED_dig hd1
  rw [← hs] at hS1
  clear hO1 hs
  obtain ⟨as1, cs1, rfl⟩ := hS1.form
  rw [ls] at hS1 ⊢
  go_wp2_with fail
  refine (cFew 60 w1 (Bts.stb _ _ _ _ hB1 hv2) (by omega)).mono ?_
  rintro e w2 ⟨v, rfl, hB2, hM2⟩
  obtain ⟨m, hm⟩ : ∃ m, m = l2.take 60 := ⟨_, rfl⟩
  have lm : m.length ≤ 60 := by rw [hm, List.length_take]; omega
  have dm : Dig m := by rw [hm]; exact hd2.take _
  rw [← hm] at hM2
  clear hm
  obtain ⟨am, cm, rfl⟩ := hM2.form
  obtain ⟨lenm, hlm⟩ : ∃ n, n = m.length := ⟨_, rfl⟩
  rw [← hlm] at hM2 ⊢
  have hB02 := hB1.trans (hB2.mono hB1.size)
  have hT2 := hT.below hB02
  have hS2 := Bts.stb _ _ _ _ hB2 hS1
  have t1 := hS2.str
  have t2 := hM2.str
  clear hlm
  go_wp2_with fail
  refine (cSign w2 hT2.1 hS2 hM2 ds ls dm (by omega)).mono ?_
  rintro e w3 ⟨v, rfl, hB3, x1, x2, rfl, ⟨g, cap, cur, rfl, hg, hrow, hc, hc2, hcur⟩, rfl⟩
  have hQ3 : Bts (SIG s m) (.slice (some ⟨g, 0, none⟩) (SIG s m).length cap) w3 := ⟨_, _, rfl, hc, hc2, fun _ => ⟨g, 0, rfl, bytesAt_cur hrow hcur⟩⟩
  rw [SIG_len] at hQ3 hc hcur ⊢
  have t3 := hQ3.str
  have hsz : 64 ≤ cur.size := by
    have := hcur 63 (by omega)
    have := (Array.getElem?_eq_some_iff.1 this).1
    omega
  clear hcur t1 t2
  go_wp2_with fail
  go_loopw [11] (fun i wr => ∃ k : Nat, k ≤ 64 ∧ i = .int .i64 k ∧ Below w2.heap.size w2 wr ∧ ∃ cu : Array Value, wr.heap[g]? = some (.cells cu 5 (0, 0)) ∧ cu.size = cur.size) (fun i _ => 64 - (intOf i).toNat)
  case atStart => exact ⟨0, by omega, rfl, hB3, cur, hrow, rfl⟩
  case round =>
    obtain ⟨k, hk, rfl, hB, cu, hcu, hcs⟩ := hrel
    clear hrow t3 hQ3
    by_cases hlt : k < 64
    · have ck := cell_of_row _ g k _ _ _ hcu
      rw [Array.getElem?_eq_getElem (by omega)] at ck
      have fk := frozen_of_row _ g k _ _ hcu
      have hst := heap_setCell_same wr g k _ 5 (.int .u8 5) hcu
      have hB' := hB.setCell (p := ⟨g, k, none⟩) (by show _ ≤ g; omega) (.int .u8 5)
      have HST : Hid _ := hst
      have HB : Hid _ := hB'
      clear hst hB'
      go_wp2
      go_roundw
      case rel => exact ⟨k + 1, by omega, by go_num, HB.out, _, HST.out, by simp [hcs]⟩
      case measure => simp [intOf]; omega
    · obtain rfl : k = 64 := by omega
      have hTr := hT2.below hB
      have hSr := Bts.stb _ _ _ _ hB hS2
      have hMr := Bts.stb _ _ _ _ hB hM2
      clear hcu hcs
      go_wp2_with fail
      refine (cSign wr hTr.1 hSr hMr ds ls dm (by omega)).mono ?_
      rintro e w4 ⟨v, rfl, hB4, x1, x2, rfl, hO4, rfl⟩
      have hQ4 := hO4.bts
      clear hO4
      obtain ⟨aq, cq, rfl⟩ := hQ4.form
      rw [SIG_len] at hQ4 ⊢
      have hS4 := Bts.stb _ _ _ _ hB4 hSr
      have hT4 := hTr.below hB4
      have hB24 := hB.trans (hB4.mono hB.size)
      go_wp2_with fail
      refine (cPublic w4 hT4.1 hS4 ds ls).mono ?_
      rintro e w5 ⟨v, rfl, hB5, x1, x2, rfl, hO5, rfl⟩
      have hP5 : Bts (PUB s) x1 w5 := hO5.bts (by rw [PUB_len]; omega)
      clear hO5
      obtain ⟨ap, cp, rfl⟩ := hP5.form
      rw [PUB_len] at hP5 ⊢
      have hB25 := hB24.trans (hB5.mono hB24.size)
      have hM5 := Bts.stb _ _ _ _ hB25 hM2
      have hQ5 := Bts.stb _ _ _ _ hB5 hQ4
      go_wp2_with fail
      refine (cVerOk w5 (hT4.below hB5) hP5 hM5 hQ5 dm (by omega)).mono ?_
      rintro e w6 ⟨v, rfl, hB6, rfl⟩
      have hB26 := hB25.trans (hB6.mono hB25.size)
      have u1 := (Bts.stb _ _ _ _ hB26 hS2).str
      have u2 := (Bts.stb _ _ _ _ hB26 hM2).str
      have u3 := (Bts.stb _ _ _ _ hB6 hQ5).str
      have hB06 := hB02.trans (hB26.mono hB02.size)
      have r1 := strRefl s
      have r2 := strRefl m
      have r3 := strRefl (SIG s m)
      go_wp2_with fail
      refine (cLives w6 (hT.below hB06).1).mono ?_
      rintro e w7 ⟨v, rfl, hB7, rfl⟩
      have hB07 := hB06.trans (hB7.mono hB06.size)
      go_wp2
      go_ret
      exact ⟨_, rfl, hB07, rfl⟩
end Go.Proofs.YtabgihjffjlfiaaDoor
