/-
  The walk of lives. Signatures: numbers modulo the base's order; points told by three numbers. Plain mathematics: nothing of the program stands here. What is signed is verified: the numbers. A number L more: digit by digit. The walk of SignGreat.
-/
import Derived.Test.YtabgihjffjlfiaaDoorC7
import Derived.Test.YtabgihjffjlfiaaDoorC2
set_option linter.unusedVariables false
namespace Go.Proofs.YtabgihjffjlfiaaDoor
open Go.RowKit Go.Sort Go.BigFrame EN
set_option maxRecDepth 100000
set_option maxHeartbeats 2000000
theorem cell_cur {w : World} {g v : Nat} {cur : Array Value} {l : List Nat} (h : w.heap[g]? = some (.cells cur 5 (0, 0))) (hc : ∀ i, i < l.length → cur[i]? = some (.int .u8 ((l.getD i 0 : Nat) : Int))) (i : Nat) (hi : i < l.length) (hv : l.getD i 0 = v) : w.cell? ⟨g, i, none⟩ = some (.int .u8 (v : Int)) := by
  rw [cell_of_row w g i _ 5 _ h, hc i hi, hv]
theorem SIG_len (s m : List Nat) : (SIG s m).length = 64 := by
  unfold SIG RB
  rw [List.length_append, digs_len, digs_len]
theorem PUB_len (s : List Nat) : (PUB s).length = 32 := by
  unfold PUB
  rw [digs_len]
theorem tupLo {f : FuncId} {args : Array Value} {w : World} {l : List Nat} {lo : Nat} {R : Value → World → Prop} (hlo : lo ≤ w.heap.size) (h : Ret f args w (Tup2 (Own w.heap.size l) R)) : Ret f args w (Tup2 (Own lo l) R) :=
  h.mono fun e w' ⟨v, h1, h2, a, b, h3, ⟨g, h4, h5, h6⟩, h7⟩ => ⟨v, h1, h2, a, b, h3, ⟨g, h4, by omega, h6⟩, h7⟩
theorem tupLoC {f : FuncId} {args : Array Value} {w : World} {l : List Nat} {lo : Nat} {R : Value → World → Prop} (hlo : lo ≤ w.heap.size) (h : Ret f args w (Tup2 (OwnC w.heap.size l) R)) : Ret f args w (Tup2 (OwnC lo l) R) :=
  h.mono fun e w' ⟨v, h1, h2, a, b, h3, h4, h7⟩ => ⟨v, h1, h2, a, b, h3, h4.lo hlo, h7⟩
theorem dLV {a : Act} {o : Oper} {w : World} {lo : Nat} (hlo : lo ≤ w.heap.size) (ho : o.op = .buildSlice 22 32 #[(0, .const (.int .u8 157)), (1, .const (.int .u8 97)), (2, .const (.int .u8 177)), (3, .const (.int .u8 157)), (4, .const (.int .u8 239)), (5, .const (.int .u8 253)), (6, .const (.int .u8 90)), (7, .const (.int .u8 96)), (8, .const (.int .u8 186)), (9, .const (.int .u8 132)), (10, .const (.int .u8 74)), (11, .const (.int .u8 244)), (12, .const (.int .u8 146)), (13, .const (.int .u8 236)), (14, .const (.int .u8 44)), (15, .const (.int .u8 196)), (16, .const (.int .u8 68)), (17, .const (.int .u8 73)), (18, .const (.int .u8 197)), (19, .const (.int .u8 105)), (20, .const (.int .u8 123)), (21, .const (.int .u8 50)), (22, .const (.int .u8 105)), (23, .const (.int .u8 25)), (24, .const (.int .u8 112)), (25, .const (.int .u8 59)), (26, .const (.int .u8 172)), (27, .const (.int .u8 3)), (28, .const (.int .u8 28)), (29, .const (.int .u8 174)), (30, .const (.int .u8 127)), (31, .const (.int .u8 96))]) : Does Tryd.prog o a.eval w (fun v w' => Below w.heap.size w w' ∧ Own lo LV v w') :=
  Does.new (.slice (some ⟨w.heap.size, 0, none⟩) 32 32) (.cells (ints .u8 LV) 5) (by simp only [execOp, ho, Act.eval, List.map_toArray, List.map]; kernel_rfl) ⟨_, rfl, hlo, heap_alloc_new _ _⟩
theorem cLives (w : World) (hT : TabA w) : Ret 10 #[] w (Is (.bool true)) := by
  unfold Ret
  have hO0 : Below w.heap.size w w := Below.refl _ _
  go_enter Tryd.func10, Tryd.ntmps10
  refine wp_seq_k fun K1 hK1 => ?_
  refine wp_plain_inv 1 (specs [Is (.bool false)]) (specs_stb ⟨Is.stb _, trivial⟩) (by kernel_rfl) ?_ ?_
  · refine ⟨fun a w hB hfr hdep => Step.plain rfl (dAssign (R := Is (.bool false)) rfl rfl), trivial⟩
  intro u1 hb1
  simp only [List.take, List.drop, FinAll, Act.put, List.setIfInBounds_toArray, List.set_cons_zero]
  rintro _ rfl
  have hO1 := (hO0).trans (hb1.mono (hO0).size)
  have hT1 := TabA.below hT hb1
  refine hK1 _ _ ?_
  clear hK1 K1
  refine wp_seq_k fun K2 hK2 => ?_
  refine wp_plain_inv 2 (specs [Own u1.heap.size (LV), Own u1.heap.size (LV)]) (specs_stb ⟨Own.stb _ _, Own.stb _ _, trivial⟩) (by kernel_rfl) ?_ ?_
  · refine ⟨fun a w hB hfr hdep => Step.plain rfl (dLV hB.size rfl),
      fun a w hB hfr hdep => Step.plain rfl (dAssign (R := Own u1.heap.size (LV)) rfl (hdep 0 6 (by kernel_rfl))), trivial⟩
  intro u2 hb2
  simp only [List.take, List.drop, FinAll, Act.put, List.setIfInBounds_toArray, List.set_cons_succ, List.set_cons_zero]
  rintro v6_2 h6_2 v1_2 h1_2
  have hO2 := (hO1).trans (hb2.mono (hO1).size)
  have hT2 := TabA.below hT1 hb2
  refine hK2 _ _ ?_
  clear hK2 K2
  refine wp_seq_k fun K3 hK3 => ?_
  refine wp_plain_inv 7 (specs [Own u1.heap.size (LV), Tup2 (Own u2.heap.size (PUB (LV))) (Is (.int .i64 0)), Tup2 (Own u2.heap.size (PUB (LV))) (Is (.int .i64 0)), Own u2.heap.size (PUB (LV)), Is (.int .i64 0), Own u2.heap.size (PUB (LV)), Is (.int .i64 0)]) (specs_stb ⟨Own.stb _ _, Tup2.stb (Own.stb _ _) (Is.stb _), Tup2.stb (Own.stb _ _) (Is.stb _), Own.stb _ _, Is.stb _, Own.stb _ _, Is.stb _, trivial⟩) (by kernel_rfl) ?_ ?_
  · refine ⟨fun a w hB hfr hdep => Step.plain rfl (dMove (R := Own u1.heap.size (LV)) rfl (use (hfr 1 (by kernel_rfl)) ((Own.stb _ _) _ _ _ hB h1_2))),
      fun a w hB hfr hdep => Step.plain rfl (Does.call 8 #[(a.eval (.tmp 8))] (by kernel_rfl) (tupLo hB.size (cPublic w (TabA.below hT2 hB) (Own.bts (hdep 0 8 (by kernel_rfl)) (by first | decide | (rw [digs_len]; omega) | (rw [SEED_len]; omega) | (unfold PUB; rw [digs_len]; omega) | simp)) LV_dig rfl))),
      fun a w hB hfr hdep => Step.plain rfl (dMove (R := Tup2 (Own u2.heap.size (PUB (LV))) (Is (.int .i64 0))) rfl (hdep 1 9 (by kernel_rfl))),
      fun a w hB hfr hdep => Step.plain rfl (dExt0 rfl (hdep 2 7 (by kernel_rfl))),
      fun a w hB hfr hdep => Step.plain rfl (dExt1 rfl (hdep 2 7 (by kernel_rfl))),
      fun a w hB hfr hdep => Step.plain rfl (dAssign (R := Own u2.heap.size (PUB (LV))) rfl (hdep 3 10 (by kernel_rfl))),
      fun a w hB hfr hdep => Step.plain rfl (dAssign (R := Is (.int .i64 0)) rfl (hdep 4 11 (by kernel_rfl))), trivial⟩
  intro u3 hb3
  simp only [List.take, List.drop, FinAll, Act.put, List.setIfInBounds_toArray, List.set_cons_succ, List.set_cons_zero]
  rintro v8_3 h8_3 v9_3 h9_3 v7_3 h7_3 v10_3 h10_3 _ rfl v2_3 h2_3 _ rfl
  have hO3 := (hO2).trans (hb3.mono (hO2).size)
  have hT3 := TabA.below hT2 hb3
  refine hK3 _ _ ?_
  clear hK3 K3
  refine wp_seq_k fun K4 hK4 => ?_
  refine wp_plain_inv 7 (specs [Own u1.heap.size (LV), Tup2 (OwnC u3.heap.size (SIG (LV) ([]))) (Is (.int .i64 0)), Tup2 (OwnC u3.heap.size (SIG (LV) ([]))) (Is (.int .i64 0)), OwnC u3.heap.size (SIG (LV) ([])), Is (.int .i64 0), OwnC u3.heap.size (SIG (LV) ([])), Is (.int .i64 0)]) (specs_stb ⟨Own.stb _ _, Tup2.stb (OwnC.stb _ _) (Is.stb _), Tup2.stb (OwnC.stb _ _) (Is.stb _), OwnC.stb _ _, Is.stb _, OwnC.stb _ _, Is.stb _, trivial⟩) (by kernel_rfl) ?_ ?_
  · refine ⟨fun a w hB hfr hdep => Step.plain rfl (dMove (R := Own u1.heap.size (LV)) rfl (use (hfr 1 (by kernel_rfl)) ((Own.stb _ _) _ _ _ hB ((Own.stb _ _) _ _ _ hb3 h1_2)))),
      fun a w hB hfr hdep => Step.plain rfl (Does.call 9 #[(a.eval (.tmp 13)), .slice none 0 0] (by kernel_rfl) (tupLoC hB.size (cSign w (TabA.below hT3 hB) (Own.bts (hdep 0 13 (by kernel_rfl)) (by first | decide | (rw [digs_len]; omega) | (rw [SEED_len]; omega) | (unfold PUB; rw [digs_len]; omega) | simp)) (btsNil rfl) LV_dig rfl (dig_lt (by simp; try omega)) (by decide)))),
      fun a w hB hfr hdep => Step.plain rfl (dMove (R := Tup2 (OwnC u3.heap.size (SIG (LV) ([]))) (Is (.int .i64 0))) rfl (hdep 1 14 (by kernel_rfl))),
      fun a w hB hfr hdep => Step.plain rfl (dExt0 rfl (hdep 2 12 (by kernel_rfl))),
      fun a w hB hfr hdep => Step.plain rfl (dExt1 rfl (hdep 2 12 (by kernel_rfl))),
      fun a w hB hfr hdep => Step.plain rfl (dAssign (R := OwnC u3.heap.size (SIG (LV) ([]))) rfl (hdep 3 15 (by kernel_rfl))),
      fun a w hB hfr hdep => Step.plain rfl (dAssign (R := Is (.int .i64 0)) rfl (hdep 4 16 (by kernel_rfl))), trivial⟩
  intro u4 hb4
  simp only [List.take, List.drop, FinAll, Act.put, List.setIfInBounds_toArray, List.set_cons_succ, List.set_cons_zero]
  rintro v13_4 h13_4 v14_4 h14_4 v12_4 h12_4 v15_4 h15_4 _ rfl v4_4 h4_4 _ rfl
  have hO4 := (hO3).trans (hb4.mono (hO3).size)
  have hT4 := TabA.below hT3 hb4
  refine hK4 _ _ ?_
  clear hK4 K4
  obtain ⟨gp, hvp, hlp, hrowp⟩ := ((Own.stb _ _) _ _ _ hb4 h2_3)
  rw [PUB_len] at hvp
  subst hvp
  obtain ⟨gs, caps, curs, hvs, hls, hrows, hcs, hds, hes⟩ := h4_4
  rw [SIG_len] at hvs
  subst hvs
  have kp0 : u4.cell? ⟨gp, 0, none⟩ = some (.int .u8 215) := cell_val hrowp 0 (by rw [PUB_len]; decide) (by rw [PUB_LV]; rfl)
  have kp1 : u4.cell? ⟨gp, 1, none⟩ = some (.int .u8 90) := cell_val hrowp 1 (by rw [PUB_len]; decide) (by rw [PUB_LV]; rfl)
  have kp2 : u4.cell? ⟨gp, 2, none⟩ = some (.int .u8 152) := cell_val hrowp 2 (by rw [PUB_len]; decide) (by rw [PUB_LV]; rfl)
  have kp3 : u4.cell? ⟨gp, 3, none⟩ = some (.int .u8 1) := cell_val hrowp 3 (by rw [PUB_len]; decide) (by rw [PUB_LV]; rfl)
  have ks0 : u4.cell? ⟨gs, 0, none⟩ = some (.int .u8 229) := cell_cur hrows hes 0 (by rw [SIG_len]; decide) (by rw [SIG_LV 0 (by decide), RB_LV]; rfl)
  have ks1 : u4.cell? ⟨gs, 1, none⟩ = some (.int .u8 86) := cell_cur hrows hes 1 (by rw [SIG_len]; decide) (by rw [SIG_LV 1 (by decide), RB_LV]; rfl)
  have ks2 : u4.cell? ⟨gs, 2, none⟩ = some (.int .u8 67) := cell_cur hrows hes 2 (by rw [SIG_len]; decide) (by rw [SIG_LV 2 (by decide), RB_LV]; rfl)
  have ks3 : u4.cell? ⟨gs, 3, none⟩ = some (.int .u8 0) := cell_cur hrows hes 3 (by rw [SIG_len]; decide) (by rw [SIG_LV 3 (by decide), RB_LV]; rfl)
  have HO : Hid _ := hO4
  clear hrows hes
  go_wp2
  go_ret
  exact ⟨_, rfl, HO.out, rfl⟩
end Go.Proofs.YtabgihjffjlfiaaDoor
set_option linter.unusedVariables false
namespace Go.Proofs.YtabgihjffjlfiaaDoor
theorem nm_LN (n : Nat) : bp.nm (LN * n) = Pt.zero := by rw [Pt.nm_mul, bp_L, Pt.zero_nm]
/-- So many of the base hang on what is left modulo L. -/
theorem nm_mod (n : Nat) : bp.nm (n % LN) = bp.nm n := by
  have h : n = LN * (n / LN) + n % LN := (Nat.div_add_mod n LN).symm
  have e : bp.nm (LN * (n / LN) + n % LN) = bp.nm (n % LN) := by rw [Pt.nm_add, nm_LN, Pt.zero_add]
  rw [← h] at e
  exact e.symm
/-- What is signed is verified. -/
theorem sign_round (a k r : Nat) : (bp.nm ((k * a + r) % LN)).add ((bp.nm a).neg.nm k) = bp.nm r := by
  rw [nm_mod, Pt.neg_nm, ← Pt.nm_mul, Nat.mul_comm a k, Nat.add_comm (k * a) r, Pt.nm_add, Pt.add_assoc, Pt.add_neg, Pt.add_zero]
theorem sign_round' (a k r s : Nat) (hs : s = (k % LN * a + r % LN) % LN) : (bp.nm s).add ((bp.nm a).neg.nm (k % LN)) = bp.nm (r % LN) := by
  rw [hs]; exact sign_round a (k % LN) (r % LN)
/-- A point told by three numbers, of which the third is not 0. -/
def Fr (X Y Z : Fe) (p : Pt) : Prop := Z ≠ 0 ∧ p.x * Z = X ∧ p.y * Z = Y
theorem fr_zero : Fr 0 1 1 Pt.zero := ⟨one_ne, by show (0 : Fe) * 1 = 0; grobner, by show (1 : Fe) * 1 = 1; grobner⟩
theorem fr_aff (p : Pt) : Fr p.x p.y 1 p := ⟨one_ne, by grobner, by grobner⟩
theorem fr_back {X Y Z : Fe} {p : Pt} (h : Fr X Y Z p) : X * fin Z = p.x ∧ Y * fin Z = p.y := by
  obtain ⟨h0, h1, h2⟩ := h
  have hi := mul_fin h0
  constructor
  · rw [← h1]; grobner
  · rw [← h2]; grobner
theorem fr_add {X1 Y1 Z1 X2 Y2 Z2 : Fe} {p q : Pt} (h1 : Fr X1 Y1 Z1 p) (h2 : Fr X2 Y2 Z2 q) {z k P M : Fe} (hz : z = Z1 * Z2) (hk : k = dd * ((X1 * X2) * (Y1 * Y2))) (hP : P = z * z + k) (hM : M = z * z - k) :
    Fr (z * (M * (X1 * Y2 + Y1 * X2))) (z * (P * (Y1 * Y2 + X1 * X2))) (P * M) (p.add q) := by
  obtain ⟨z1, a1, b1⟩ := h1
  obtain ⟨z2, a2, b2⟩ := h2
  have n1 := den1 p.on q.on
  have n2 := den2 p.on q.on
  have sx := p.addX q
  have sy := p.addY q
  have zz : Z1 * Z2 ≠ 0 := mul_ne z1 z2
  have fP : P = (Z1 * Z2) * (Z1 * Z2) * (1 + dd * (p.x * q.x) * (p.y * q.y)) := by rw [hP, hz, hk, ← a1, ← a2, ← b1, ← b2]; grobner
  have fM : M = (Z1 * Z2) * (Z1 * Z2) * (1 - dd * (p.x * q.x) * (p.y * q.y)) := by rw [hM, hz, hk, ← a1, ← a2, ← b1, ← b2]; grobner
  have fX : X1 * Y2 + Y1 * X2 = (Z1 * Z2) * (p.x * q.y + p.y * q.x) := by rw [← a1, ← a2, ← b1, ← b2]; grobner
  have fY : Y1 * Y2 + X1 * X2 = (Z1 * Z2) * (p.y * q.y + p.x * q.x) := by rw [← a1, ← a2, ← b1, ← b2]; grobner
  refine ⟨?_, ?_, ?_⟩
  · rw [fP, fM]; exact mul_ne (mul_ne (mul_ne zz zz) n1) (mul_ne (mul_ne zz zz) n2)
  · rw [fX, ← sx, hz, fP]; grobner
  · rw [fY, ← sy, hz, fM]; grobner
end Go.Proofs.YtabgihjffjlfiaaDoor
set_option linter.unusedVariables false
namespace Go.Proofs.YtabgihjffjlfiaaDoor
open Go.RowKit Go.Sort Go.BigFrame EN
set_option maxRecDepth 100000
set_option maxHeartbeats 2000000
theorem LL_LN : LL = LN := rfl
theorem LL_256 : LL < 256 ^ 32 := by decide
theorem numL_lt (l : List Nat) : numL l < LL := Nat.mod_lt _ LL_pos
theorem SN_lt (s m : List Nat) : SN s m < LL := Nat.mod_lt _ LL_pos
theorem enc_256 (p : Pt) : p.enc < 256 ^ 32 := Nat.lt_of_lt_of_le p.enc_lt (by decide)
theorem PUB_enc (s : List Nat) : (PT s).enc = valD (PUB s) := by
  unfold PUB
  rw [valD_digs_lt (enc_256 _)]
theorem RB_len (s m : List Nat) : (RB s m).length = 32 := by unfold RB; rw [digs_len]
theorem SIG_take (s m : List Nat) : (SIG s m).take 32 = RB s m := by
  unfold SIG
  exact List.take_left' (RB_len s m)
theorem SIG_drop (s m : List Nat) : (SIG s m).drop 32 = digs 32 (SN s m) := by
  unfold SIG
  exact List.drop_left' (RB_len s m)
theorem SIG_dig (s m : List Nat) : Dig (SIG s m) := (digs_dig _ _).app (digs_dig _ _)
theorem PUB_dig (s : List Nat) : Dig (PUB s) := digs_dig _ _
theorem sig_is (s m : List Nat) : isL ((SIG s m).drop 32) = true := by
  rw [SIG_drop]
  unfold isL
  rw [valD_digs_lt (Nat.lt_trans (SN_lt s m) LL_256), digs_len]
  exact decide_eq_true ⟨rfl, SN_lt s m⟩
theorem sig_pt (s m : List Nat) : (bp.nm (valD ((SIG s m).drop 32))).add (((PT s).nm (valD (digs 32 (numL ((SIG s m).take 32 ++ PUB s ++ m))))).neg) = bp.nm (RN s m) := by
  rw [SIG_drop, SIG_take, valD_digs_lt (Nat.lt_trans (SN_lt s m) LL_256), valD_digs_lt (Nat.lt_trans (numL_lt _) LL_256)]
  have h := sign_round (valD (SEC s)) (KN s m) (RN s m)
  rw [Pt.neg_nm] at h
  exact h
theorem sig_ok (s m : List Nat) : decide ((SIG s m).take 32 = digs 32 (Pt.enc ((bp.nm (valD ((SIG s m).drop 32))).add (((PT s).nm (valD (digs 32 (numL ((SIG s m).take 32 ++ PUB s ++ m))))).neg)))) = true := by
  rw [sig_pt, SIG_take]
  exact decide_eq_true rfl
theorem cVerOk {s m : List Nat} {v1 v2 v3 : Value} (w : World) (hT : TabV w) (hp : Bts (PUB s) v1 w) (hm : Bts m v2 w) (hs : Bts (SIG s m) v3 w) (hmd : Dig m) (hml : m.length ≤ 50000) : Ret 13 #[v1, v2, v3] w (Is (.int .i64 0)) :=
  verOk w hT hp hm hs (PUB_dig s) hmd (SIG_dig s m) (PUB_enc s) (PUB_len s) (SIG_len s m) hml (sig_is s m) (sig_ok s m)
end Go.Proofs.YtabgihjffjlfiaaDoor
set_option linter.unusedVariables false
namespace Go.Proofs.YtabgihjffjlfiaaDoor
open Go.RowKit Go.Sort Go.BigFrame EN
set_option maxRecDepth 100000
set_option maxHeartbeats 2000000
/-- What is carried behind so many digits. -/
def carr (A B k : Nat) : Nat := (A % 256 ^ k + B % 256 ^ k) / 256 ^ k
theorem carr_le (A B k : Nat) : carr A B k ≤ 1 := by
  have hp : 0 < 256 ^ k := Nat.pow_pos (by decide)
  have h1 := Nat.mod_lt A hp
  have h2 := Nat.mod_lt B hp
  unfold carr
  have : (A % 256 ^ k + B % 256 ^ k) / 256 ^ k < 2 := (Nat.div_lt_iff_lt_mul hp).2 (by omega)
  omega
theorem carr_dig (A B k : Nat) : (A + B) / 256 ^ k % 256 = (A / 256 ^ k % 256 + B / 256 ^ k % 256 + carr A B k) % 256 := by
  have hp : 0 < 256 ^ k := Nat.pow_pos (by decide)
  have e : (A + B) / 256 ^ k = A / 256 ^ k + B / 256 ^ k + carr A B k := by
    unfold carr
    generalize 256 ^ k = P at *
    have h1 := Nat.div_add_mod A P
    have h2 := Nat.div_add_mod B P
    have : A + B = (A % P + B % P) + P * (A / P + B / P) := by rw [Nat.mul_add]; omega
    rw [this, Nat.add_mul_div_left _ _ hp]; omega
  rw [e]; omega
theorem carr_step (A B k : Nat) : carr A B (k + 1) = (A / 256 ^ k % 256 + B / 256 ^ k % 256 + carr A B k) / 256 := by
  have hp : 0 < 256 ^ k := Nat.pow_pos (by decide)
  unfold carr
  rw [Nat.pow_succ]
  generalize 256 ^ k = P at *
  rw [Nat.mod_mul, Nat.mod_mul, ← Nat.div_div_eq_div_mul]
  have : A % P + P * (A / P % 256) + (B % P + P * (B / P % 256)) = (A % P + B % P) + P * (A / P % 256 + B / P % 256) := by rw [Nat.mul_add]; omega
  rw [this, Nat.add_mul_div_left _ _ hp]
  congr 1; omega
/-- The signature while L is added to its number. -/
def TT (R : List Nat) (S k : Nat) : List Nat := R ++ ((digs 32 (S + LL)).take k ++ (digs 32 S).drop k)
theorem TT_len {R : List Nat} (S : Nat) {k : Nat} (hR : R.length = 32) (hk : k ≤ 32) : (TT R S k).length = 64 := by
  unfold TT
  rw [List.length_append, List.length_append, List.length_take, List.length_drop, digs_len, digs_len]; omega
theorem TT_start {R : List Nat} (S : Nat) : TT R S 0 = R ++ digs 32 S := by simp [TT]
theorem TT_end {R : List Nat} (S : Nat) : TT R S 32 = R ++ digs 32 (S + LL) := by
  unfold TT
  rw [List.take_of_length_le (by rw [digs_len]; omega), List.drop_eq_nil_of_le (by rw [digs_len]; omega), List.append_nil]
theorem TT_get {R : List Nat} (S : Nat) {k : Nat} (hR : R.length = 32) (hk : k < 32) : (TT R S k).getD (32 + k) 0 = S / 256 ^ k % 256 := by
  unfold TT
  rw [List.getD_eq_getElem?_getD, List.getElem?_append_right (by omega), List.getElem?_append_right (by rw [List.length_take]; omega), List.length_take, digs_len, hR, show 32 + k - 32 - min k 32 = 0 by omega, List.getElem?_drop, Nat.add_zero, ← List.getD_eq_getElem?_getD]
  exact digs_get _ _ _ hk
theorem TT_step {R : List Nat} (S : Nat) {k : Nat} (hR : R.length = 32) (hk : k < 32) : (TT R S k).set (32 + k) ((S + LL) / 256 ^ k % 256) = TT R S (k + 1) := by
  unfold TT
  have h1 : ((digs 32 (S + LL)).take k).length = k := by rw [List.length_take, digs_len]; omega
  have h2 : (digs 32 S).drop k = (digs 32 S)[k]'(by rw [digs_len]; exact hk) :: (digs 32 S).drop (k + 1) := List.drop_eq_getElem_cons _
  rw [List.set_append_right _ _ (by omega), hR, show 32 + k - 32 = k by omega, List.set_append_right _ _ (by omega), h1, Nat.sub_self, h2, List.set_cons_zero, List.take_add_one, List.append_assoc]
  congr 1
  congr 1
  rw [List.getElem?_eq_getElem (by rw [digs_len]; exact hk)]
  have := digs_get 32 (S + LL) k hk
  rw [List.getD_eq_getElem?_getD, List.getElem?_eq_getElem (by rw [digs_len]; exact hk)] at this
  simp only [Option.getD_some] at this
  rw [this]; rfl
theorem great_is {R : List Nat} {S : Nat} (hR : R.length = 32) (hS : S < LL) : isL ((R ++ digs 32 (S + LL)).drop 32) = false := by
  rw [List.drop_left' hR]
  unfold isL
  rw [valD_digs_lt (Nat.lt_trans (show S + LL < 2 * LL by omega) (by decide))]
  exact decide_eq_false fun h => by omega
end Go.Proofs.YtabgihjffjlfiaaDoor
set_option linter.unusedVariables false
namespace Go.Proofs.YtabgihjffjlfiaaDoor
open Go.RowKit Go.Sort Go.BigFrame EN
set_option maxRecDepth 100000
set_option maxHeartbeats 4000000
section
variable {ρ : Operand → Value} {o : Oper} {x y : Operand} {w : World}
theorem run_addN {n k r : Nat} (hr : n + k = r) (hb : r < 9223372036854775808) (ho : o.op = .binOp .add 3 x y 3) (hx : ρ x = .int .i64 (n : Int)) (hy : ρ y = .int .i64 (k : Int)) : (execOp ρ o).run Tryd.prog w = .ok (.value (.int .i64 (r : Int))) w := by
  have e : (n : Int) + (k : Int) = (r : Int) := by omega
  have e2 : IntKind.i64.wrap (r : Int) = (r : Int) := by rw [IntKind.wrap_i64]; omega
  simp [execOp, ho, hx, hy, go_sem, e, e2]
theorem run_conv53 {n : Nat} (hn : n < 256) (ho : o.op = .convert 5 3 x) (hx : ρ x = .int .u8 (n : Int)) : (execOp ρ o).run Tryd.prog w = .ok (.value (.int .i64 (n : Int))) w := by
  have e2 : IntKind.i64.wrap (n : Int) = (n : Int) := by rw [IntKind.wrap_i64]; omega
  simp [execOp, ho, hx, go_sem, e2]
end
theorem LL_digs : digs 32 LL = [237,211,245,92,26,99,18,88,214,156,247,162,222,249,222,20,0,0,0,0,0,0,0,0,0,0,0,0,0,0,0,16] := by decide
theorem LL_arr : ints .u8 (digs 32 LL) = #[.int .u8 237, .int .u8 211, .int .u8 245, .int .u8 92, .int .u8 26, .int .u8 99, .int .u8 18, .int .u8 88, .int .u8 214, .int .u8 156, .int .u8 247, .int .u8 162, .int .u8 222, .int .u8 249, .int .u8 222, .int .u8 20, .int .u8 0, .int .u8 0, .int .u8 0, .int .u8 0, .int .u8 0, .int .u8 0, .int .u8 0, .int .u8 0, .int .u8 0, .int .u8 0, .int .u8 0, .int .u8 0, .int .u8 0, .int .u8 0, .int .u8 0, .int .u8 16] := by rw [LL_digs]; rfl
theorem signGreat {v1 v2 : Value} {l1 l2 : List Nat} (w : World) (hT : TabV w) (hv1 : Bts l1 v1 w) (hv2 : Bts l2 v2 w) (hd1 : Dig l1) (hd2 : Dig l2) : Ret 5 #[v1, v2] w (Is (.bool true)) := by
  obtain ⟨a1, c1, rfl⟩ := hv1.form
  obtain ⟨a2, c2, rfl⟩ := hv2.form
  unfold Ret
  go_enter Tryd.func5, Tryd.ntmps5
  go_wp2_with fail
  refine (cFew 60 w hv2 (by omega)).mono ?_
  rintro e w1 ⟨v, rfl, hB1, hM1⟩
  obtain ⟨m, hm⟩ : ∃ m, m = l2.take 60 := ⟨_, rfl⟩
  have lm : m.length ≤ 60 := by rw [hm, List.length_take]; omega
  have dm : Dig m := by rw [hm]; exact hd2.take _
  rw [← hm] at hM1
  clear hm
  obtain ⟨am, cm, rfl⟩ := hM1.form
  obtain ⟨lenm, hlm⟩ : ∃ n, n = m.length := ⟨_, rfl⟩
  rw [← hlm] at hM1 ⊢
  clear hlm
  obtain ⟨s, hs⟩ : ∃ s, s = SEED l1 := ⟨_, rfl⟩
  have ls : s.length = 32 := by rw [hs]; exact SEED_len l1
  have ds : Dig s := by rw [hs]; exact SEED_dig hd1
  go_wp2_with fail
  refine (cSeed w1 (Bts.stb _ _ _ _ hB1 hv1)).mono ?_
  rintro e w2 ⟨v, rfl, hB2, hO2⟩
  have hS2 : Bts s v w2 := by rw [hs]; exact hO2.bts (by rw [SEED_len]; omega)
  clear hO2
  have hB02 := hB1.trans (hB2.mono hB1.size)
  go_wp2_with fail
  refine (cPublic w2 (hT.below hB02).1 hS2 ds ls).mono ?_
  rintro e w3 ⟨v, rfl, hB3, x1, x2, rfl, hO3, rfl⟩
  have hP3 : Bts (PUB s) x1 w3 := hO3.bts (by rw [PUB_len]; omega)
  clear hO3
  obtain ⟨ap, cp, rfl⟩ := hP3.form
  rw [PUB_len] at hP3 ⊢
  have hB03 := hB02.trans (hB3.mono hB02.size)
  go_wp2_with fail
  refine (cSeed w3 (Bts.stb _ _ _ _ hB03 hv1)).mono ?_
  rintro e w4 ⟨v, rfl, hB4, hO4⟩
  have hS4 : Bts s v w4 := by rw [hs]; exact hO4.bts (by rw [SEED_len]; omega)
  clear hO4 hs
  have hB04 := hB03.trans (hB4.mono hB03.size)
  have hB14 := (hB2.trans (hB3.mono hB2.size)).trans (hB4.mono (by have := hB2.size; have := hB3.size; omega))
  have hM4 := Bts.stb _ _ _ _ hB14 hM1
  have hP4 := Bts.stb _ _ _ _ hB4 hP3
  have hT4 := hT.below hB04
  go_wp2_with fail
  refine (cSign w4 hT4.1 hS4 hM4 ds ls dm (by omega)).mono ?_
  rintro e w5 ⟨v, rfl, hB5, x1, x2, rfl, ⟨g, cap, cur, rfl, hg, hrow, hc, hc2, hcur⟩, rfl⟩
  rw [SIG_len] at hc hcur ⊢
  obtain ⟨S, hS⟩ : ∃ S, S = SN s m := ⟨_, rfl⟩
  obtain ⟨R, hR⟩ : ∃ R, R = RB s m := ⟨_, rfl⟩
  have lR : R.length = 32 := by rw [hR]; exact RB_len s m
  have dR : Dig R := by rw [hR]; exact digs_dig _ _
  have hSL : S < LL := by rw [hS]; exact SN_lt s m
  have hcur0 : ∀ i, i < 64 → cur[i]? = some (.int .u8 (((TT R S 0).getD i 0 : Nat) : Int)) := by rw [TT_start, hR, hS]; exact hcur
  clear hcur hS hR
  obtain ⟨w6, hw6⟩ : ∃ w6, w6 = w5.alloc (.cells (ints .u8 (digs 32 LL)) 5) := ⟨_, rfl⟩
  have hB56 : Below w5.heap.size w5 w6 := by rw [hw6]; exact below1 _ _
  have hL6 : w6.heap[w5.heap.size]? = some (.cells (ints .u8 (digs 32 LL)) 5 (0, 0)) := by rw [hw6]; exact heap_alloc_new _ _
  have hB46 := hB5.trans (hB56.mono hB5.size)
  have hrow6 := block_below hB56 (lt_of_heap hrow) hrow
  have HW6 : Hid _ := hw6
  clear hw6
  have hgl : g < w5.heap.size := lt_of_heap hrow
  go_wp2_with fail
  rw [← LL_arr, ← HW6.out]
  clear HW6
  have ng : g ≠ w5.heap.size := by omega
  go_loopw [10, 11] (fun c i wr => ∃ k : Nat, k ≤ 32 ∧ i = .int .i64 k ∧ c = .int .i64 (carr S LL k : Nat) ∧ Below w4.heap.size w4 wr ∧ wr.heap[w5.heap.size]? = some (.cells (ints .u8 (digs 32 LL)) 5 (0, 0)) ∧ ∃ cu : Array Value, wr.heap[g]? = some (.cells cu 5 (0, 0)) ∧ ∀ i, i < 64 → cu[i]? = some (.int .u8 (((TT R S k).getD i 0 : Nat) : Int))) (fun _ i _ => 32 - (intOf i).toNat)
  case atStart => exact ⟨0, by omega, rfl, by rw [show carr S LL 0 = 0 by simp [carr, Nat.mod_one]]; rfl, hB46, hL6, cur, hrow6, hcur0⟩
  case round =>
    obtain ⟨k, hk, rfl, rfl, hB, hL, cu, hcu, hcs⟩ := hrel
    clear hrow6 hcur0 hL6 hrow hB46 hB56
    by_cases hlt : k < 32
    · have ck := cell_of_row _ g (32 + k) _ _ _ hcu
      rw [hcs (32 + k) (by omega), TT_get S lR hlt] at ck
      have cl := cell_ints hL k (by rw [digs_len]; exact hlt)
      rw [digs_get 32 LL k hlt] at cl
      have fk := frozen_of_row _ g (32 + k) _ _ hcu
      have h1 := carr_dig S LL k
      have h2 := carr_step S LL k
      have h3 := carr_le S LL k
      have a256 : S / 256 ^ k % 256 < 256 := Nat.mod_lt _ (by decide)
      have b256 : LL / 256 ^ k % 256 < 256 := Nat.mod_lt _ (by decide)
      obtain ⟨a, ha⟩ : ∃ a, a = S / 256 ^ k % 256 := ⟨_, rfl⟩
      obtain ⟨b, hb⟩ : ∃ b, b = LL / 256 ^ k % 256 := ⟨_, rfl⟩
      obtain ⟨c, hc'⟩ : ∃ c, c = carr S LL k := ⟨_, rfl⟩
      obtain ⟨x, hx⟩ : ∃ x, x = (S + LL) / 256 ^ k % 256 := ⟨_, rfl⟩
      obtain ⟨c', hcc⟩ : ∃ c', c' = carr S LL (k + 1) := ⟨_, rfl⟩
      rw [← ha, ← hb, ← hc', ← hx] at h1
      rw [← ha, ← hb, ← hc', ← hcc] at h2
      rw [← hc'] at h3 ⊢
      rw [← ha] at ck a256
      rw [← hb] at cl b256
      have HC : Hid (c' = carr S LL (k + 1)) := hcc
      obtain ⟨v, hvv⟩ : ∃ v, v = a + b + c := ⟨_, rfl⟩
      have hv0 : (a : Int) + (b : Int) + (c : Int) = (v : Int) := by omega
      have hv1 : (v : Int) % 256 = (x : Int) := by omega
      have hv2 : (v : Int) / 256 = (c' : Int) := by omega
      have hv3 : v < 600 := by omega
      have hx3 : x < 256 := by omega
      have hlg := lt_of_heap hcu
      have hll := lt_of_heap hL
      have HX : Hid (x = (S + LL) / 256 ^ k % 256) := hx
      clear ha hb hc' hx hcc h1 h2
      go_wp2_with fail
      refine wp_region_inv 15 (specs [Is (.slice (some ⟨g, 0, none⟩) 64 cap), Is (.int .i64 (k : Int)), Is (.int .i64 ((32 + k : Nat) : Int)), Is (.pointer (some ⟨g, 0 + (32 + k), none⟩)), Is (.int .u8 (a : Int)), Is (.int .i64 (a : Int)), Is (.slice (some ⟨w5.heap.size, 0, none⟩) 32 32), Is (.int .i64 (k : Int)), Is (.pointer (some ⟨w5.heap.size, 0 + k, none⟩)), Is (.int .u8 (b : Int)), Is (.int .i64 (b : Int)), Is (.int .i64 ((a + b : Nat) : Int)), Is (.int .i64 (c : Int)), Is (.int .i64 (v : Int)), Is (.int .i64 (v : Int))])
        (by kernel_rfl) (specs_stb ⟨Is.stb _, Is.stb _, Is.stb _, Is.stb _, Is.stb _, Is.stb _, Is.stb _, Is.stb _, Is.stb _, Is.stb _, Is.stb _, Is.stb _, Is.stb _, Is.stb _, Is.stb _, trivial⟩) (by kernel_rfl) ?_ ?_
      · refine ⟨fun a w hB hfr hdep => Step.plain rfl (dMove (R := Is _) rfl (hfr 7 (by kernel_rfl))),
          fun a w hB hfr hdep => Step.plain rfl (dMove (R := Is _) rfl (hfr 11 (by kernel_rfl))),
          fun a w hB hfr hdep => Step.plain rfl (Does.run _ (run_addN (n := 32) (k := k) rfl (by omega) rfl rfl (hdep 1 41 (by kernel_rfl))) rfl),
          fun a w hB hfr hdep => Step.plain rfl (Does.run _ (run_idx22 rfl (hdep 0 40 (by kernel_rfl)) (hdep 2 42 (by kernel_rfl)) (by omega)) rfl),
          fun a w hB hfr hdep => Step.plain rfl (Does.run _ (run_load5 rfl (hdep 3 43 (by kernel_rfl)) (by rw [Nat.zero_add]; exact (hB.cell (p := ⟨g, 32 + k, none⟩) hlg).trans ck)) rfl),
          fun a w hB hfr hdep => Step.plain rfl (Does.run _ (run_conv53 a256 rfl (hdep 4 44 (by kernel_rfl))) rfl),
          fun a w hB hfr hdep => Step.plain rfl (dMove (R := Is _) rfl (hfr 9 (by kernel_rfl))),
          fun a w hB hfr hdep => Step.plain rfl (dMove (R := Is _) rfl (hfr 11 (by kernel_rfl))),
          fun a w hB hfr hdep => Step.plain rfl (Does.run _ (run_idx22 rfl (hdep 6 46 (by kernel_rfl)) (hdep 7 47 (by kernel_rfl)) (by omega)) rfl),
          fun a w hB hfr hdep => Step.plain rfl (Does.run _ (run_load5 rfl (hdep 8 48 (by kernel_rfl)) (by rw [Nat.zero_add]; exact (hB.cell (p := ⟨w5.heap.size, k, none⟩) hll).trans cl)) rfl),
          fun a w hB hfr hdep => Step.plain rfl (Does.run _ (run_conv53 b256 rfl (hdep 9 49 (by kernel_rfl))) rfl),
          fun a w hB hfr hdep => Step.plain rfl (Does.run _ (run_addN rfl (by omega) rfl (hdep 5 45 (by kernel_rfl)) (hdep 10 50 (by kernel_rfl))) rfl),
          fun a w hB hfr hdep => Step.plain rfl (dMove (R := Is _) rfl (hfr 10 (by kernel_rfl))),
          fun a w hB hfr hdep => Step.plain rfl (Does.run _ (run_addN hvv.symm (by omega) rfl (hdep 11 51 (by kernel_rfl)) (hdep 12 52 (by kernel_rfl))) rfl),
          fun a w hB hfr hdep => Step.plain rfl (dAssign (R := Is _) rfl (hdep 13 53 (by kernel_rfl))), trivial⟩
      intro u hu
      simp only [List.take, List.drop, FinAll, Act.put, List.setIfInBounds_toArray, List.set_cons_succ, List.set_cons_zero]
      rintro _ rfl _ rfl _ rfl _ rfl _ rfl _ rfl _ rfl _ rfl _ rfl _ rfl _ rfl _ rfl _ rfl _ rfl _ rfl
      have hcu2 := block_below hu hlg hcu
      have hL2 := block_below hu hll hL
      have hBu := hB.trans (hu.mono hB.size)
      obtain ⟨s1, s2⟩ := cur_set (l := TT R S k) hcu2 (by rw [TT_len S lR hk]; exact hcs) (32 + k) x (by rw [TT_len S lR hk]; omega)
      rw [HX.out, TT_step S lR hlt, ← HX.out] at s2
      rw [TT_len S lR (show k + 1 ≤ 32 by omega)] at s2
      have ck2 := (hu.cell (p := ⟨g, 32 + k, none⟩) hlg).trans ck
      have fk2 := frozen_of_row _ g (32 + k) _ _ hcu2
      have hB' := hBu.setCell (p := ⟨g, 32 + k, none⟩) (by show _ ≤ g; omega) (.int .u8 (x : Int))
      have hL' := (heap_setCell_other u ⟨g, 32 + k, none⟩ w5.heap.size (.int .u8 (x : Int)) (Ne.symm ng)).trans hL2
      have HS1 : Hid _ := s1
      have HS2 : Hid _ := s2
      have HB : Hid _ := hB'
      have HL : Hid _ := hL'
      clear s1 s2 hB' hL' hcs hcu hL hcu2 hL2 ck cl hvv HX fk
      go_wp2
      go_roundw
      case rel => exact ⟨k + 1, by omega, by go_num, by rw [← HC.out], HB.out, HL.out, _, HS1.out, HS2.out⟩
      case measure => simp [intOf]; omega
    · obtain rfl : k = 32 := by omega
      rw [TT_end] at hcs
      have lG : (R ++ digs 32 (S + LL)).length = 64 := by rw [List.length_append, digs_len, lR]
      have dG : Dig (R ++ digs 32 (S + LL)) := dR.app (digs_dig _ _)
      have hQ : Bts (R ++ digs 32 (S + LL)) (.slice (some ⟨g, 0, none⟩) 64 cap) wr := ⟨_, _, by rw [lG], by rw [lG]; exact hc, hc2, fun _ => ⟨g, 0, rfl, bytesAt_cur hcu (by rw [lG]; exact hcs)⟩⟩
      have hC := verIs wr (hT4.below hB) (Bts.stb _ _ _ _ hB hP4) (Bts.stb _ _ _ _ hB hM4) hQ (PUB_dig s) dm dG (PUB_enc s) (PUB_len s) lG (great_is lR hSL)
      have hB0r := hB04.trans (hB.mono hB04.size)
      clear hcs hcu hL hQ
      go_wp2_with fail
      refine hC.mono ?_
      rintro e w7 ⟨v, rfl, hB7, rfl⟩
      have hB07 := hB0r.trans (hB7.mono hB0r.size)
      go_wp2_with fail
      refine (cLives w7 (hT.below hB07).1).mono ?_
      rintro e w8 ⟨v, rfl, hB8, rfl⟩
      have hB08 := hB07.trans (hB8.mono hB07.size)
      go_wp2
      go_ret
      exact ⟨_, rfl, hB08, rfl⟩
end Go.Proofs.YtabgihjffjlfiaaDoor
