/-
  The plain mathematics of both digests (numbers and lists): nothing of the program stands here.
-/
import Derived.WalkKit
namespace Go.Proofs.YtomfnkbghlpkeaaDoor

/-- A word turned to the right. -/
def rot (W x b : Nat) : Nat := x >>> b ||| (x <<< (W - b)) % 2 ^ W
def tn (W x a b c : Nat) : Nat := rot W x a ^^^ rot W x b ^^^ rot W x c
def ts (W x a b c : Nat) : Nat := rot W x a ^^^ rot W x b ^^^ x >>> c

structure Sh where
  W : Nat
  n : Nat
  A0 : Nat
  A1 : Nat
  A2 : Nat
  B0 : Nat
  B1 : Nat
  B2 : Nat
  C0 : Nat
  C1 : Nat
  C2 : Nat
  D0 : Nat
  D1 : Nat
  D2 : Nat
def sh32 : Sh := ⟨32, 64, 2, 13, 22, 6, 11, 25, 7, 18, 3, 17, 19, 10⟩
def sh64 : Sh := ⟨64, 80, 28, 34, 39, 14, 18, 41, 1, 8, 7, 19, 61, 6⟩

theorem shr_lt {x b M : Nat} (h : x < M) : x >>> b < M := by
  rw [Nat.shiftRight_eq_div_pow]; exact Nat.lt_of_le_of_lt (Nat.div_le_self _ _) h
theorem rot_lt {W x b : Nat} (h : x < 2 ^ W) : rot W x b < 2 ^ W :=
  Nat.or_lt_two_pow (shr_lt h) (Nat.mod_lt _ (Nat.two_pow_pos _))
theorem tn_lt {W x a b c : Nat} (h : x < 2 ^ W) : tn W x a b c < 2 ^ W :=
  Nat.xor_lt_two_pow (Nat.xor_lt_two_pow (rot_lt h) (rot_lt h)) (rot_lt h)
theorem ts_lt {W x a b c : Nat} (h : x < 2 ^ W) : ts W x a b c < 2 ^ W :=
  Nat.xor_lt_two_pow (Nat.xor_lt_two_pow (rot_lt h) (rot_lt h)) (shr_lt h)

/-- One byte into its word. -/
def put1 (s : Sh) (ws : List Nat) (k b : Nat) : List Nat :=
  ws.set (k / (s.W / 8)) ((ws.getD (k / (s.W / 8)) 0 <<< 8) % 2 ^ s.W ||| b)
/-- The words behind the first k bytes. -/
def P1 (s : Sh) (bs : List Nat) : Nat → List Nat
  | 0 => List.replicate 80 0
  | k + 1 => put1 s (P1 s bs k) k (bs.getD k 0)
/-- One word more (word number t). -/
def put2 (s : Sh) (ws : List Nat) (t : Nat) : List Nat :=
  ws.set t ((ws.getD (t - 16) 0 + ts s.W (ws.getD (t - 15) 0) s.C0 s.C1 s.C2 + ws.getD (t - 7) 0 + ts s.W (ws.getD (t - 2) 0) s.D0 s.D1 s.D2) % 2 ^ s.W)
def P2 (s : Sh) (ws : List Nat) : Nat → List Nat
  | 0 => ws
  | k + 1 => put2 s (P2 s ws k) (16 + k)
/-- The words of a block. -/
def spr (s : Sh) (bs : List Nat) : List Nat := P2 s (P1 s bs (2 * s.W)) (s.n - 16)

theorem P1_len (s : Sh) (bs : List Nat) : ∀ k, (P1 s bs k).length = 80
  | 0 => by simp [P1]
  | k + 1 => by simp [P1, put1, P1_len s bs k]
theorem P2_len (s : Sh) (ws : List Nat) (h : ws.length = 80) : ∀ k, (P2 s ws k).length = 80
  | 0 => h
  | k + 1 => by simp [P2, put2, P2_len s ws h k]
theorem spr_len (s : Sh) (bs : List Nat) : (spr s bs).length = 80 := P2_len _ _ (P1_len _ _ _) _

theorem getD_set_lt {l : List Nat} {i v M : Nat} (h : ∀ j, l.getD j 0 < M) (hv : v < M) (j : Nat) : (l.set i v).getD j 0 < M := by
  have hj := h j
  simp only [List.getD_eq_getElem?_getD, List.getElem?_set] at *
  split
  · split <;> simp
    · exact hv
    · omega
  · exact hj
theorem P1_lt (s : Sh) (hs : 8 ≤ s.W) (bs : List Nat) (hb : ∀ j, bs.getD j 0 < 256) : ∀ k j, (P1 s bs k).getD j 0 < 2 ^ s.W
  | 0, j => by
    have hp := Nat.two_pow_pos s.W
    simp only [P1, List.getD_eq_getElem?_getD, List.getElem?_replicate]
    split <;> simp <;> omega
  | k + 1, j => by
    refine getD_set_lt (P1_lt s hs bs hb k) (Nat.or_lt_two_pow (Nat.mod_lt _ (Nat.two_pow_pos _)) ?_) j
    have : 2 ^ 8 ≤ 2 ^ s.W := Nat.pow_le_pow_right (by decide) hs
    have := hb k
    omega
theorem P2_lt (s : Sh) (ws : List Nat) (h : ∀ j, ws.getD j 0 < 2 ^ s.W) : ∀ k j, (P2 s ws k).getD j 0 < 2 ^ s.W
  | 0, j => h j
  | k + 1, j => getD_set_lt (P2_lt s ws h k) (Nat.mod_lt _ (Nat.two_pow_pos _)) j
theorem spr_lt (s : Sh) (hs : 8 ≤ s.W) (bs : List Nat) (hb : ∀ j, bs.getD j 0 < 256) (j : Nat) : (spr s bs).getD j 0 < 2 ^ s.W :=
  P2_lt s _ (P1_lt s hs bs hb _) _ j

structure S8 where
  a : Nat
  b : Nat
  c : Nat
  d : Nat
  e : Nat
  f : Nat
  g : Nat
  h : Nat
/-- One step, with the word of the step k and the block's word w. -/
def rnd (s : Sh) (k w : Nat) (q : S8) : S8 :=
  let x := (q.h + tn s.W q.e s.B0 s.B1 s.B2 + ((q.e &&& q.f) ^^^ ((2 ^ s.W - 1 - q.e) &&& q.g)) + k + w) % 2 ^ s.W
  let y := (tn s.W q.a s.A0 s.A1 s.A2 + ((q.a &&& q.b) ^^^ (q.a &&& q.c) ^^^ (q.b &&& q.c))) % 2 ^ s.W
  ⟨(x + y) % 2 ^ s.W, q.a, q.b, q.c, (q.d + x) % 2 ^ s.W, q.e, q.f, q.g⟩
def R (s : Sh) (ks ws : List Nat) (q : S8) : Nat → S8
  | 0 => q
  | t + 1 => rnd s (ks.getD t 0 >>> (64 - s.W)) (ws.getD t 0) (R s ks ws q t)
def S8.lt (q : S8) (M : Nat) : Prop := q.a < M ∧ q.b < M ∧ q.c < M ∧ q.d < M ∧ q.e < M ∧ q.f < M ∧ q.g < M ∧ q.h < M
theorem R_lt (s : Sh) (ks ws : List Nat) (q : S8) (h : q.lt (2 ^ s.W)) : ∀ t, (R s ks ws q t).lt (2 ^ s.W)
  | 0 => h
  | t + 1 => by
    obtain ⟨h1, h2, h3, h4, h5, h6, h7, h8⟩ := R_lt s ks ws q h t
    exact ⟨Nat.mod_lt _ (Nat.two_pow_pos _), h1, h2, h3, Nat.mod_lt _ (Nat.two_pow_pos _), h5, h6, h7⟩
def S8.list (q : S8) : List Nat := [q.a, q.b, q.c, q.d, q.e, q.f, q.g, q.h]
def ofL (l : List Nat) : S8 := ⟨l.getD 0 0, l.getD 1 0, l.getD 2 0, l.getD 3 0, l.getD 4 0, l.getD 5 0, l.getD 6 0, l.getD 7 0⟩
/-- The state behind a block. -/
def blk (s : Sh) (ks : List Nat) (st : List Nat) (bs : List Nat) : List Nat :=
  let q := R s ks (spr s bs) (ofL st) s.n
  List.zipWith (fun x y => (x + y) % 2 ^ s.W) st q.list
def addN (W : Nat) (st ql : List Nat) : Nat → List Nat
  | 0 => st
  | i + 1 => (addN W st ql i).set i (((addN W st ql i).getD i 0 + ql.getD i 0) % 2 ^ W)
theorem addN_len (W : Nat) (st ql : List Nat) : ∀ i, (addN W st ql i).length = st.length
  | 0 => rfl
  | i + 1 => by simp [addN, addN_len W st ql i]
theorem addN_8 (W : Nat) (st ql : List Nat) (h : st.length = 8) (h' : ql.length = 8) : addN W st ql 8 = List.zipWith (fun x y => (x + y) % 2 ^ W) st ql := by
  match st, h with
  | [a, b, c, d, e, f, g, i], _ =>
    match ql, h' with
    | [a', b', c', d', e', f', g', i'], _ => rfl
theorem blk_len (s : Sh) (ks st bs : List Nat) (h : st.length = 8) : (blk s ks st bs).length = 8 := by
  simp [blk, S8.list, h]
theorem blk_lt (s : Sh) (ks st bs : List Nat) (j : Nat) : (blk s ks st bs).getD j 0 < 2 ^ s.W := by
  have hp := Nat.two_pow_pos s.W
  simp only [blk, List.getD_eq_getElem?_getD, List.getElem?_zipWith]
  split
  · simp; exact Nat.mod_lt _ hp
  · simp; omega
/-- The state behind the first k blocks. -/
def blks (s : Sh) (ks st bs : List Nat) : Nat → List Nat
  | 0 => st
  | k + 1 => blk s ks (blks s ks st bs k) ((bs.drop (2 * s.W * k)).take (2 * s.W))
theorem blks_len (s : Sh) (ks st bs : List Nat) (h : st.length = 8) : ∀ k, (blks s ks st bs k).length = 8
  | 0 => h
  | k + 1 => blk_len _ _ _ _ (blks_len s ks st bs h k)
theorem blks_lt (s : Sh) (ks st bs : List Nat) (h : ∀ j, st.getD j 0 < 2 ^ s.W) : ∀ k j, (blks s ks st bs k).getD j 0 < 2 ^ s.W
  | 0, j => h j
  | _ + 1, _ => blk_lt _ _ _ _ _
theorem sub_getD (bs : List Nat) (a n j : Nat) (h : j < n) : ((bs.drop a).take n).getD j 0 = bs.getD (a + j) 0 := by
  simp [h]
theorem sub_lt (bs : List Nat) (a n : Nat) (hb : ∀ j, bs.getD j 0 < 256) (j : Nat) : ((bs.drop a).take n).getD j 0 < 256 := by
  by_cases h : j < n
  · rw [sub_getD bs a n j h]; exact hb _
  · have : ((bs.drop a).take n)[j]? = none := by rw [List.getElem?_eq_none]; simp; omega
    rw [List.getD_eq_getElem?_getD, this]; simp
def tailN (size bits : Nat) (base : List Nat) : Nat → List Nat
  | 0 => base
  | i + 1 => (tailN size bits base i).set (size - 1 - i) ((bits >>> (8 * i)) % 256)
def padB (size : Nat) (rest : List Nat) : List Nat := (rest ++ List.replicate (size - rest.length) 0).set rest.length 128
/-- The last blocks: what is left of a message, filled up. -/
def lastB (s : Sh) (rest : List Nat) (length : Nat) : List Nat :=
  let size := if 2 * s.W < rest.length + 1 + s.W / 4 then 4 * s.W else 2 * s.W
  tailN size (length * 8) (padB size rest) 8
theorem tailN_len (size bits : Nat) (base : List Nat) : ∀ i, (tailN size bits base i).length = base.length
  | 0 => rfl
  | i + 1 => by simp [tailN, tailN_len size bits base i]
theorem padB_len (size : Nat) (rest : List Nat) (h : rest.length ≤ size) : (padB size rest).length = size := by
  simp [padB]; omega
theorem tailN_lt (size bits : Nat) (base : List Nat) (h : ∀ j, base.getD j 0 < 256) : ∀ i j, (tailN size bits base i).getD j 0 < 256
  | 0, j => h j
  | i + 1, j => getD_set_lt (tailN_lt size bits base h i) (Nat.mod_lt _ (by decide)) j
theorem padB_lt (size : Nat) (rest : List Nat) (h : ∀ j, rest.getD j 0 < 256) (j : Nat) : (padB size rest).getD j 0 < 256 := by
  refine getD_set_lt (fun j => ?_) (by decide) j
  have hj := h j
  simp only [List.getD_eq_getElem?_getD, List.getElem?_append, List.getElem?_replicate] at *
  split
  · exact hj
  · split <;> simp
theorem lastB_lt (s : Sh) (rest : List Nat) (length : Nat) (h : ∀ j, rest.getD j 0 < 256) (j : Nat) : (lastB s rest length).getD j 0 < 256 :=
  tailN_lt _ _ _ (padB_lt _ _ h) _ _
theorem lastB_len (s : Sh) (rest : List Nat) (length : Nat) (h : rest.length ≤ 2 * s.W) : (lastB s rest length).length = if 2 * s.W < rest.length + 1 + s.W / 4 then 4 * s.W else 2 * s.W := by
  unfold lastB
  rw [tailN_len, padB_len]
  split <;> omega
theorem ones_xor (W e : Nat) (h : e < 2 ^ W) : (2 ^ W - 1) ^^^ e = 2 ^ W - 1 - e := by
  apply Nat.eq_of_testBit_eq
  intro i
  rw [Nat.testBit_xor, Nat.testBit_two_pow_sub_one, show 2 ^ W - 1 - e = 2 ^ W - (e + 1) by omega, Nat.testBit_two_pow_sub_succ h]
  by_cases hi : i < W
  · simp [hi]
  · simp [hi]
    exact Nat.testBit_lt_two_pow (Nat.lt_of_lt_of_le h (Nat.pow_le_pow_right (by decide) (by omega)))
end Go.Proofs.YtomfnkbghlpkeaaDoor
