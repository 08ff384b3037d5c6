/-
  JSON read, as a function of lists; what is written is read as the same. JSON read: values; what is written is read as the same. JSON read: what is read is a value, and something is taken. JSON read: blanks around change nothing. JSON: lists and maps in one another. JSON: how long the text of a cut value may be. The library's contracts for this program's functions of strings, slices and strconv, laid out of the library's own theorems (what the kit's own command prints, but for WriteByte's table, which is written by hand). JSON: the writer's builder: how it stands, what is put behind it. JSON: the writer puts a text behind what it has. JSON: the writer's bytes, truths, integers, texts. JSON: the writer's texts. JSON: names unlike one another.
-/
import Derived.Test.YtljgnpneeecafaaDoorC2
import Derived.Shelf.Strings.BuilderK
import Derived.Shelf.Strings.SlTrimAscii
import Derived.Shelf.Small.Strs
import Derived.Shelf.Small.Wraps
import Derived.Shelf.Strconv.Itoa3
import Derived.Shelf.LaysM
import Derived.Shelf.Slices.Turned
import Derived.Test.YtljgnpneeecafaaDoorProg
import Derived.Lib.OthersKept
import Derived.Lib.AppendStr
import Derived.Defers
import Derived.Lib.UnsafeStr
import Derived.Maps.OwnSet
import Derived.StringKeys
set_option linter.unusedVariables false
namespace Go.Proofs.YtljgnpneeecafaaDoor
open Go.RowKit Go.Sort Go.BigFrame
set_option maxRecDepth 100000
set_option maxHeartbeats 2000000
/-- What is read, and what is left; or the first error. -/
abbrev Rd (α : Type) := Except Int (α × List Nat)
def rdMap {α β : Type} (f : α → β) : Rd α → Rd β
  | .error e => .error e
  | .ok (x, r) => .ok (f x, r)
def blankB (c : Nat) : Bool := c == 32 || c == 9 || c == 10 || c == 13
def gapL : List Nat → List Nat
  | [] => []
  | c :: l => if blankB c then gapL l else c :: l
/-- A digit of sixteen. -/
def hexP (c : Nat) : Option Nat := if 48 ≤ c ∧ c ≤ 57 then some (c - 48) else if 97 ≤ c ∧ c ≤ 102 then some (c - 87) else if 65 ≤ c ∧ c ≤ 70 then some (c - 55) else none
def escP (k : Nat) : Option Nat := if k = 34 then some 34 else if k = 92 then some 92 else if k = 47 then some 47 else if k = 98 then some 8 else if k = 102 then some 12 else if k = 110 then some 10 else if k = 114 then some 13 else if k = 116 then some 9 else none
/-- What stands behind '\u00'. -/
def uniP : List Nat → Option (Nat × List Nat)
  | 48 :: 48 :: a :: b :: r => match hexP a, hexP b with
    | some x, some y => if 16 * x + y ≤ 126 then some (16 * x + y, r) else none
    | _, _ => none
  | _ => none
/-- A string behind its first sign. -/
def txtP : Nat → List Nat → Rd (List Nat)
  | 0, _ => .error 13
  | _ + 1, [] => .error 13
  | f + 1, c :: r =>
    if c < 32 ∨ 126 < c then .error 13
    else if c = 34 then .ok ([], r)
    else if c ≠ 92 then rdMap (c :: ·) (txtP f r)
    else match r with
      | [] => .error 13
      | k :: r2 => match escP k with
        | some x => rdMap (x :: ·) (txtP f r2)
        | none => if k = 117 then (match uniP r2 with | some (x, r3) => rdMap (x :: ·) (txtP f r3) | none => .error 13) else .error 13
theorem hexP_hexD : ∀ n, n < 16 → hexP (hexD n) = some n := by decide
theorem esc_u : escP 117 = none := by decide
theorem txtP_quoC (f : Nat) (c : Nat) (hc : c ≤ 126) (r : List Nat) : txtP (f + 1) (quoC c ++ r) = rdMap (c :: ·) (txtP f r) := by
  unfold quoC
  by_cases h1 : c < 32
  · rw [if_pos h1]
    show txtP (f + 1) (92 :: 117 :: 48 :: 48 :: hexD (c / 16) :: hexD (c % 16) :: r) = _
    conv => lhs; unfold txtP
    have e : uniP (48 :: 48 :: hexD (c / 16) :: hexD (c % 16) :: r) = some (c, r) := by
      show (match hexP (hexD (c / 16)), hexP (hexD (c % 16)) with | some x, some y => if 16 * x + y ≤ 126 then some (16 * x + y, r) else none | _, _ => none) = _
      rw [hexP_hexD _ (by omega), hexP_hexD _ (by omega)]
      simp only []
      rw [show 16 * (c / 16) + c % 16 = c by omega, if_pos hc]
    simp [esc_u, e]
  · rw [if_neg h1]
    by_cases h2 : c = 34 ∨ c = 92
    · rw [if_pos h2]
      show txtP (f + 1) (92 :: c :: r) = _
      conv => lhs; unfold txtP
      have e : escP c = some c := by rcases h2 with rfl | rfl <;> decide
      simp [e]
    · rw [if_neg h2]
      show txtP (f + 1) (c :: r) = _
      conv => lhs; unfold txtP
      rw [if_neg (by omega), if_neg (by omega), if_pos (by omega)]
/-- A string that is written is read as it is. -/
theorem txtP_quoI : ∀ (bs : List Nat) (f : Nat) (r : List Nat), (∀ c ∈ bs, c ≤ 126) → bs.length < f → txtP f (quoI bs ++ 34 :: r) = .ok (bs, r)
  | [], f + 1, r, _, _ => by show txtP (f + 1) (34 :: r) = _; unfold txtP; simp
  | [], 0, _, _, h => absurd h (by simp)
  | c :: bs, 0, _, _, h => absurd h (by simp)
  | c :: bs, f + 1, r, hc, h => by
    show txtP (f + 1) ((quoC c ++ quoI bs) ++ 34 :: r) = _
    rw [List.append_assoc, txtP_quoC f c (hc c (by simp)), txtP_quoI bs f r (fun x hx => hc x (by simp [hx])) (by simp at h; omega)]
    rfl
/- numbers -/
def isD (c : Nat) : Bool := decide (48 ≤ c) && decide (c ≤ 57)
def valT (l : List Nat) : Nat := l.foldl (fun n c => 10 * n + (c - 48)) 0
/-- Digits, and what they tell. -/
def numD (minus : Bool) (d r : List Nat) : Rd Int :=
  if d.length = 0 ∨ 16 < d.length ∨ (d.head? = some 48 ∧ (1 < d.length ∨ minus = true)) then .error 13
  else if 1000000000000000 < valT d then .error 13
  else .ok (if minus then -(valT d : Int) else (valT d : Int), r)
def numP (s : List Nat) : Rd Int := match s with
  | 45 :: r => numD true (r.takeWhile isD) (r.dropWhile isD)
  | _ => numD false (s.takeWhile isD) (s.dropWhile isD)
theorem digF_isD : ∀ f n, ∀ c ∈ digF f n, isD c = true
  | 0, _ => fun c hc => by simp [digF] at hc
  | f + 1, n => fun c hc => by
    unfold digF at hc
    split at hc
    · rw [List.mem_singleton.1 hc]; simp [isD]; omega
    · rcases List.mem_append.1 hc with h | h
      · exact digF_isD f _ c h
      · rw [List.mem_singleton.1 h]; simp [isD]; omega
theorem valT_snoc (l : List Nat) (c : Nat) : valT (l ++ [c]) = 10 * valT l + (c - 48) := by simp [valT]
theorem digF_val : ∀ f n, n < 10 ^ f → valT (digF f n) = n
  | 0, n, h => by simp at h; subst h; rfl
  | f + 1, n, h => by
    unfold digF
    split
    · simp [valT]
    · rw [valT_snoc, digF_val f (n / 10) (by rw [Nat.pow_succ] at h; omega)]; omega
theorem digF_size : ∀ f n k, n < 10 ^ k → 0 < k → (digF f n).length ≤ k
  | 0, _, _, _, _ => by simp [digF]
  | f + 1, n, k, h, hk => by
    unfold digF
    split
    · simp; omega
    · match k, hk with
      | 1, _ => simp at h; omega
      | k + 2, _ =>
        have := digF_size f (n / 10) (k + 1) (by rw [Nat.pow_succ] at h; omega) (by omega)
        simp; omega
theorem digF_pos : ∀ f n, 0 < f → digF f n ≠ []
  | f + 1, n, _ => by unfold digF; split <;> simp
theorem digF_head : ∀ f n, 0 < n → n < 10 ^ f → (digF f n).head? ≠ some 48
  | 0, n, h, h2 => by simp [digF]
  | f + 1, n, h, h2 => by
    unfold digF
    split
    · simp; omega
    · have h3 : n / 10 < 10 ^ f := by rw [Nat.pow_succ] at h2; omega
      have hf : 0 < f := by
        cases f with
        | zero => simp at h3; omega
        | succ f => omega
      have := digF_head f (n / 10) (by omega) h3
      have hne := digF_pos f (n / 10) hf
      cases hd : digF f (n / 10) with
      | nil => exact absurd hd hne
      | cons a l => rw [hd] at this; simpa using this
theorem span_digs {d r : List Nat} (hd : ∀ c ∈ d, isD c = true) (hr : ∀ c ∈ r.head?, isD c = false) : (d ++ r).takeWhile isD = d ∧ (d ++ r).dropWhile isD = r := by
  constructor
  · rw [List.takeWhile_append_of_pos hd]
    cases r with
    | nil => simp
    | cons a l => rw [List.takeWhile_cons_of_neg (by simp [hr a (by simp)])]; simp
  · rw [List.dropWhile_append_of_pos hd]
    cases r with
    | nil => simp
    | cons a l => rw [List.dropWhile_cons_of_neg (by simp [hr a (by simp)])]
theorem digN_head45 (n : Nat) (r : List Nat) : ∃ a l, digN n ++ r = a :: l ∧ a ≠ 45 ∧ isD a = true := by
  have h1 := digF_pos 20 n (by decide)
  have h2 := digF_isD 20 n
  show ∃ a l, digF 20 n ++ r = _ ∧ _
  cases hd : digF 20 n with
  | nil => exact absurd hd h1
  | cons a l =>
    have := h2 a (by rw [hd]; simp)
    exact ⟨a, l ++ r, rfl, fun e => by subst e; simp [isD] at this, this⟩
/-- A number that is written is read as it is. -/
theorem numP_digT (z : Int) (r : List Nat) (h1 : -1000000000000000 ≤ z) (h2 : z ≤ 1000000000000000) (hr : ∀ c ∈ r.head?, isD c = false) : numP (digT z ++ r) = .ok (z, r) := by
  have key : ∀ (n : Nat), n ≤ 1000000000000000 → (digN n).length ≠ 0 ∧ (digN n).length ≤ 16 ∧ valT (digN n) = n := fun n hn =>
    ⟨fun e => digF_pos 20 n (by decide) (List.eq_nil_of_length_eq_zero e), digF_size 20 n 16 (by omega) (by decide), digF_val 20 n (by omega)⟩
  unfold digT
  by_cases hz : z < 0
  · rw [if_pos hz]
    obtain ⟨N, hN⟩ : ∃ N, N = (-z).toNat := ⟨_, rfl⟩
    rw [← hN]
    obtain ⟨k1, k2, k3⟩ := key N (by omega)
    have hh : (digN N).head? ≠ some 48 := digF_head 20 N (by omega) (by omega)
    show numD true ((digN N ++ r).takeWhile isD) ((digN N ++ r).dropWhile isD) = _
    obtain ⟨e1, e2⟩ := span_digs (digF_isD 20 N) hr
    rw [show (digN N ++ r).takeWhile isD = digN N from e1, show (digN N ++ r).dropWhile isD = r from e2]
    unfold numD
    rw [if_neg (by rintro (h | h | h); exact k1 h; omega; exact hh h.1), k3, if_neg (by omega)]
    simp; omega
  · rw [if_neg hz]
    obtain ⟨N, hN⟩ : ∃ N, N = z.toNat := ⟨_, rfl⟩
    rw [← hN]
    obtain ⟨k1, k2, k3⟩ := key N (by omega)
    obtain ⟨a, l, ha, hne, _⟩ := digN_head45 N r
    have hnp : numP (digN N ++ r) = numD false ((digN N ++ r).takeWhile isD) ((digN N ++ r).dropWhile isD) := by
      rw [ha]
      unfold numP
      split
      · next h => injection h with h _; exact absurd h hne
      · rfl
    rw [hnp]
    obtain ⟨e1, e2⟩ := span_digs (digF_isD 20 N) hr
    rw [show (digN N ++ r).takeWhile isD = digN N from e1, show (digN N ++ r).dropWhile isD = r from e2]
    unfold numD
    rw [if_neg ?_, k3, if_neg (by omega)]
    · simp; omega
    · rintro (h | h | ⟨h, h3⟩)
      · exact k1 h
      · omega
      · rcases h3 with h3 | h3
        · by_cases h0 : N = 0
          · subst h0; revert h3; decide
          · exact digF_head 20 N (by omega) (by omega) h
        · cases h3
end Go.Proofs.YtljgnpneeecafaaDoor
set_option linter.unusedVariables false
namespace Go.Proofs.YtljgnpneeecafaaDoor
open Go.RowKit Go.Sort Go.BigFrame
set_option maxRecDepth 100000
set_option maxHeartbeats 2000000
def litP (p s : List Nat) : Option (List Nat) := if s.take p.length = p then some (s.drop p.length) else none
/-- A value, its kids read by others. -/
def headP {K : Type} (s : List Nat) (lst : List Nat → Rd (List K)) (mp : List Nat → Rd (List (List Nat) × List K)) : Rd (JN K) :=
  match litP [110, 117, 108, 108] s with
  | some r => .ok (⟨0, 0, [], [], []⟩, r)
  | none => match litP [116, 114, 117, 101] s with
    | some r => .ok (⟨1, 1, [], [], []⟩, r)
    | none => match litP [102, 97, 108, 115, 101] s with
      | some r => .ok (⟨1, 0, [], [], []⟩, r)
      | none => match s with
        | 34 :: r => rdMap (fun t => ⟨3, 0, t, [], []⟩) (txtP (r.length + 1) r)
        | 91 :: r => rdMap (fun ks => ⟨4, 0, [], [], ks⟩) (lst r)
        | 123 :: r => rdMap (fun p => ⟨5, 0, [], p.1, p.2⟩) (mp r)
        | s => rdMap (fun n => ⟨2, n, [], [], []⟩) (numP s)
def itemsP {K : Type} (kp : List Nat → Rd K) : Nat → List Nat → Rd (List K)
  | 0, _ => .error 13
  | f + 1, s => match kp s with
    | .error e => .error e
    | .ok (k, r) => match gapL r with
      | 93 :: q => .ok ([k], q)
      | 44 :: q => rdMap (k :: ·) (itemsP kp f q)
      | _ => .error 13
def listP {K : Type} (kp : List Nat → Rd K) (s : List Nat) : Rd (List K) := match gapL s with
  | 93 :: q => .ok ([], q)
  | _ => itemsP kp (s.length + 1) s
def pairsP {K : Type} (kp : List Nat → Rd K) : Nat → List (List Nat) → List Nat → Rd (List (List Nat) × List K)
  | 0, _, _ => .error 13
  | f + 1, seen, s => match gapL s with
    | 34 :: q => match txtP (q.length + 1) q with
      | .error e => .error e
      | .ok (nm, r) => if nm ∈ seen then .error 8 else match gapL r with
        | 58 :: r2 => match kp r2 with
          | .error e => .error e
          | .ok (k, r3) => match gapL r3 with
            | 125 :: q => .ok (([nm], [k]), q)
            | 44 :: q => rdMap (fun p => (nm :: p.1, k :: p.2)) (pairsP kp f (nm :: seen) q)
            | _ => .error 13
        | _ => .error 13
    | _ => .error 13
def mapP {K : Type} (kp : List Nat → Rd K) (s : List Nat) : Rd (List (List Nat) × List K) := match gapL s with
  | 125 :: q => .ok (([], []), q)
  | _ => pairsP kp (s.length + 1) [] s
/-- A value, m lists and maps in one another at most. -/
def valP : (m : Nat) → List Nat → Rd (J (m + 1))
  | 0, s => headP (K := J 0) (gapL s) (fun _ => .error 9) (fun _ => .error 9)
  | m + 1, s => headP (K := J (m + 1)) (gapL s) (listP (valP m)) (mapP (valP m))
theorem gapL_of {a : Nat} {l : List Nat} (h : blankB a = false) : gapL (a :: l) = a :: l := by simp [gapL, h]
/- pieces with commas between -/
def itL : List (List Nat) → List Nat
  | [] => []
  | [x] => x
  | x :: y :: l => x ++ 44 :: itL (y :: l)
theorem itL_cons (x : List Nat) {l : List (List Nat)} (h : l ≠ []) : itL (x :: l) = x ++ 44 :: itL l := by
  cases l with
  | nil => exact absurd rfl h
  | cons y l => rfl
theorem itL_snoc : ∀ (l : List (List Nat)) (x : List Nat), itL (l ++ [x]) = itL l ++ (if l.length = 0 then [] else [44]) ++ x
  | [], x => by simp [itL]
  | [y], x => by simp [itL]
  | y :: z :: l, x => by
    have := itL_snoc (z :: l) x
    rw [List.cons_append, itL_cons y (by simp), this, itL_cons y (by simp)]
    simp
theorem accW_it (f : Nat → List Nat) : ∀ k, accW f k = itL ((List.range k).map f)
  | 0 => rfl
  | k + 1 => by
    show accW f k ++ (if k = 0 then [] else [44]) ++ f k = _
    rw [List.range_succ, List.map_append, List.map_cons, List.map_nil, itL_snoc, accW_it f k]
    simp
theorem itL_len : ∀ l : List (List Nat), l.length ≤ (itL l).length + 1
  | [] => by simp
  | [x] => by simp
  | x :: y :: l => by
    have := itL_len (y :: l)
    rw [itL_cons x (by simp)]
    simp at this ⊢
    omega
theorem writeJ_list (n : Nat) (m : Int) (t : List Nat) (ns : List (List Nat)) (ks : List (J n)) : writeJ (n + 1) (⟨4, m, t, ns, ks⟩ : JN (J n)) = 91 :: (itL (ks.map (writeJ n)) ++ [93]) := by
  show 91 :: (accW (fun i => (ks.map (writeJ n)).getD i []) ks.length ++ [93]) = _
  rw [accW_it]
  congr 3
  apply List.ext_getElem (by simp)
  intro i h1 h2
  simp at h1 h2 ⊢
  simp [h2]
theorem writeJ_map (n : Nat) (m : Int) (t : List Nat) (ns : List (List Nat)) (ks : List (J n)) (h : ns.length = ks.length) : writeJ (n + 1) (⟨5, m, t, ns, ks⟩ : JN (J n)) = 123 :: (itL (List.zipWith (fun a k => quoT a ++ [58] ++ writeJ n k) ns ks) ++ [125]) := by
  show 123 :: (accW (fun i => quoT (ns.getD i []) ++ [58] ++ (ks.map (writeJ n)).getD i []) ks.length ++ [125]) = _
  rw [accW_it]
  congr 3
  apply List.ext_getElem (by simp [h])
  intro i h1 h2
  have hk : i < ks.length := by simpa using h1
  have hn : i < ns.length := by omega
  simp [hk, hn]
/-- No digit stands ahead. -/
def NoD (r : List Nat) : Prop := ∀ c ∈ r.head?, isD c = false
theorem items_back {K : Type} {kp : List Nat → Rd K} {wr : K → List Nat} : ∀ (ks : List K) (f : Nat) (r : List Nat), (∀ k ∈ ks, ∀ r, NoD r → kp (wr k ++ r) = .ok (k, r)) → ks ≠ [] → ks.length ≤ f → itemsP kp f (itL (ks.map wr) ++ 93 :: r) = .ok (ks, r)
  | [], _, _, _, h, _ => absurd rfl h
  | _ :: _, 0, _, _, _, h => absurd h (by simp)
  | [k], f + 1, r, hk, _, _ => by
    show itemsP kp (f + 1) (wr k ++ 93 :: r) = _
    unfold itemsP
    rw [hk k (by simp) _ (fun c hc => by simp at hc; subst hc; decide)]
    rfl
  | k :: k2 :: ks, f + 1, r, hk, _, hf => by
    have ih := items_back (k2 :: ks) f r (fun x hx => hk x (by simp [hx])) (by simp) (by simp at hf ⊢; omega)
    rw [List.map_cons, itL_cons _ (by simp), List.append_assoc, List.cons_append]
    conv => lhs; unfold itemsP
    rw [hk k (by simp) _ (fun c hc => by simp at hc; subst hc; decide)]
    show rdMap (k :: ·) (itemsP kp f _) = _
    rw [ih]; rfl
theorem pairs_back {K : Type} {kp : List Nat → Rd K} {wr : K → List Nat} : ∀ (ns : List (List Nat)) (ks : List K) (f : Nat) (seen : List (List Nat)) (r : List Nat), (∀ k ∈ ks, ∀ r, NoD r → kp (wr k ++ r) = .ok (k, r)) → ns.length = ks.length → ks ≠ [] → ks.length ≤ f → (∀ a ∈ ns, ∀ c ∈ a, c ≤ 126) → ns.Nodup → (∀ a ∈ ns, a ∉ seen) →
    pairsP kp f seen (itL (List.zipWith (fun a k => quoT a ++ [58] ++ wr k) ns ks) ++ 125 :: r) = .ok ((ns, ks), r)
  | _, [], _, _, _, _, _, h, _, _, _, _ => absurd rfl h
  | [], _ :: _, _, _, _, _, h, _, _, _, _, _ => absurd h (by simp)
  | _, _ :: _, 0, _, _, _, _, _, h, _, _, _ => absurd h (by simp)
  | a :: ns, k :: ks, f + 1, seen, r, hk, hl, _, hf, h126, hnd, hs => by
    have ha : a ∉ seen := hs a (by simp)
    have key : ∀ (x : List Nat), pairsP kp (f + 1) seen ((quoT a ++ [58] ++ wr k) ++ x) = (match kp (wr k ++ x) with
          | .error e => .error e
          | .ok (k, r3) => match gapL r3 with
            | 125 :: q => .ok (([a], [k]), q)
            | 44 :: q => rdMap (fun p => (a :: p.1, k :: p.2)) (pairsP kp f (a :: seen) q)
            | _ => .error 13) := fun x => by
      have e : (quoT a ++ [58] ++ wr k) ++ x = 34 :: (quoI a ++ 34 :: (58 :: (wr k ++ x))) := by unfold quoT; simp
      have et : txtP ((quoI a ++ 34 :: (58 :: (wr k ++ x))).length + 1) (quoI a ++ 34 :: (58 :: (wr k ++ x))) = .ok (a, 58 :: (wr k ++ x)) :=
        txtP_quoI a _ _ (h126 a (by simp)) (by have := quoI_ge a; simp; omega)
      rw [e]
      conv => lhs; unfold pairsP
      rw [gapL_of (by decide)]
      simp only [et, if_neg ha]
      rw [gapL_of (by decide)]
      rfl
    by_cases hks : ks = []
    · subst hks
      obtain rfl : ns = [] := List.eq_nil_of_length_eq_zero (by simpa using hl)
      show pairsP kp (f + 1) seen ((quoT a ++ [58] ++ wr k) ++ 125 :: r) = _
      rw [key, hk k (by simp) _ (fun c hc => by simp at hc; subst hc; decide)]
      rfl
    · have hzne : List.zipWith (fun a k => quoT a ++ [58] ++ wr k) ns ks ≠ [] := fun e => by
        have := congrArg List.length e
        simp at this hl
        rcases this with h | h
        · rw [h] at hl; simp at hl; exact hks (List.eq_nil_of_length_eq_zero (by omega))
        · exact hks h
      rw [List.nodup_cons] at hnd
      have ih := pairs_back ns ks f (a :: seen) r (fun x hx => hk x (by simp [hx])) (by simpa using hl) hks (by simp at hf; omega) (fun b hb => h126 b (by simp [hb])) hnd.2
        (fun b hb hm => by
          rcases List.mem_cons.1 hm with h | h
          · subst h; exact hnd.1 hb
          · exact hs b (by simp [hb]) h)
      rw [List.zipWith_cons_cons, itL_cons _ hzne, List.append_assoc, List.cons_append, key, hk k (by simp) _ (fun c hc => by simp at hc; subst hc; decide)]
      show rdMap _ (pairsP kp f (a :: seen) _) = _
      rw [ih]; rfl
theorem head_blank {K : Type} (s : List Nat) (a : Nat) (l : List Nat) (h : s = a :: l) (hb : blankB a = false) : gapL s = s := by rw [h]; exact gapL_of hb
theorem lit_no {p s : List Nat} {a b : Nat} {l q : List Nat} (hp : p = b :: q) (hs : s = a :: l) (h : a ≠ b) : litP p s = none := by
  subst hp hs
  unfold litP
  rw [if_neg]
  intro e
  simp at e
  exact h e.1
theorem lit_yes (p r : List Nat) : litP p (p ++ r) = some r := by unfold litP; simp
/-- How a value's text begins. -/
theorem writeJ_head (n d : Nat) (j : J (n + 1)) (h : IsJ (n + 1) d j) : ∃ a l, writeJ (n + 1) j = a :: l ∧ blankB a = false ∧ a ≠ 93 ∧ a ≠ 125 := by
  obtain ⟨ki, m, t, ns, ks⟩ := j
  obtain ⟨⟨a1, a2, _⟩, _⟩ := h
  have a1 : 0 ≤ ki := a1
  have a2 : ki ≤ 5 := a2
  rcases (by omega : ki = 0 ∨ ki = 1 ∨ ki = 2 ∨ ki = 3 ∨ ki = 4 ∨ ki = 5) with rfl | rfl | rfl | rfl | rfl | rfl
  · exact ⟨110, _, rfl, by decide, by decide, by decide⟩
  · by_cases h1 : m = 1
    · subst h1; exact ⟨116, _, rfl, by decide, by decide, by decide⟩
    · refine ⟨102, [97, 108, 115, 101], ?_, by decide, by decide, by decide⟩
      show (if (1 : Int) = 1 then (if m = 1 then _ else _) else _) = _
      rw [if_pos rfl, if_neg h1]
  · show ∃ a l, digT m = _ ∧ _
    unfold digT
    split
    · exact ⟨45, _, rfl, by decide, by decide, by decide⟩
    · obtain ⟨a, l, e, _, hd⟩ := digN_head45 m.toNat []
      rw [List.append_nil] at e
      refine ⟨a, l, e, ?_, ?_, ?_⟩
      · simp [isD] at hd; simp [blankB]; omega
      · rintro rfl; revert hd; decide
      · rintro rfl; revert hd; decide
  · exact ⟨34, _, rfl, by decide, by decide, by decide⟩
  · exact ⟨91, _, rfl, by decide, by decide, by decide⟩
  · exact ⟨123, _, rfl, by decide, by decide, by decide⟩
theorem letters_le {l : List Nat} (h : lettersB l = true) : ∀ c ∈ l, c ≤ 126 := by
  unfold lettersB at h
  rw [List.all_eq_true] at h
  intro c hc
  simpa using h c hc
theorem names_nodup {t : List Nat} {ns : List (List Nat)} (h : NamesOk t ns ns.length) : ns.Nodup ∧ ∀ a ∈ ns, ∀ c ∈ a, c ≤ 126 := by
  obtain ⟨_, h2⟩ := h
  constructor
  · unfold List.Nodup
    rw [List.pairwise_iff_getElem]
    intro i j hi hj hij e
    have := (h2 j hj).2 i hij
    simp [hi, hj] at this
    exact this e
  · intro a ha
    obtain ⟨i, hi, rfl⟩ := List.getElem_of_mem ha
    have := (h2 i hi).1
    simp [hi] at this
    exact letters_le this
theorem isJ_parts {n d : Nat} {ki m : Int} {t : List Nat} {ns : List (List Nat)} {ks : List (J n)} (h : IsJ (n + 1) d (⟨ki, m, t, ns, ks⟩ : JN (J n))) : (0 ≤ ki ∧ ki ≤ 5 ∧ (d = 0 → ki ≤ 3)) ∧ (ki ≠ 3 → t = []) ∧ (ki ≠ 5 → ns.length = 0) ∧ (ki ≠ 5 → ki ≠ 4 → ks.length = 0) ∧ (ki = 2 → -1000000000000000 ≤ m ∧ m ≤ 1000000000000000) ∧ (ki = 1 → m = 0 ∨ m = 1) ∧
    (ki ≠ 2 → ki ≠ 1 → m = 0 ∧ (ki = 5 → ns.length = ks.length) ∧ NamesOk t ns ns.length ∧ ∀ k ∈ ks, IsJ n (d - 1) k) := h
/-- The four kinds that hold no others. -/
theorem plain_back {n d : Nat} {ki m : Int} {t : List Nat} {ns : List (List Nat)} {ks : List (J n)} (h : IsJ (n + 1) d (⟨ki, m, t, ns, ks⟩ : JN (J n))) (h3 : ki ≤ 3) (lst : List Nat → Rd (List (J n))) (mp : List Nat → Rd (List (List Nat) × List (J n))) (r : List Nat) (hr : NoD r) :
    headP (gapL (writeJ (n + 1) (⟨ki, m, t, ns, ks⟩ : JN (J n)) ++ r)) lst mp = .ok ((⟨ki, m, t, ns, ks⟩ : JN (J n)), r) := by
  have hh := h
  obtain ⟨⟨a1, a2, _⟩, b1, b2, b3, b4, b5, b6⟩ := isJ_parts h
  obtain rfl : ns = [] := List.eq_nil_of_length_eq_zero (b2 (by omega))
  obtain rfl : ks = [] := List.eq_nil_of_length_eq_zero (b3 (by omega) (by omega))
  rcases (by omega : ki = 0 ∨ ki = 1 ∨ ki = 2 ∨ ki = 3) with rfl | rfl | rfl | rfl
  · obtain rfl : t = [] := b1 (by decide)
    obtain rfl : m = 0 := (b6 (by decide) (by decide)).1
    show headP (gapL (110 :: _)) _ _ = _
    rw [gapL_of (by decide)]
    rfl
  · obtain rfl : t = [] := b1 (by decide)
    rcases b5 rfl with rfl | rfl
    · show headP (gapL (102 :: _)) _ _ = _
      rw [gapL_of (by decide)]
      rfl
    · show headP (gapL (116 :: _)) _ _ = _
      rw [gapL_of (by decide)]
      rfl
  · obtain rfl : t = [] := b1 (by decide)
    obtain ⟨c1, c2⟩ := b4 rfl
    have hn := numP_digT m r c1 c2 hr
    obtain ⟨a, l, e, hb, _, _⟩ := writeJ_head n d _ hh
    have e : digT m = a :: l := e
    have hd : a = 45 ∨ isD a = true := by
      unfold digT at e
      split at e
      · injection e with e _; exact .inl e.symm
      · obtain ⟨a', l', e', _, hd'⟩ := digN_head45 m.toNat []
        rw [List.append_nil, e] at e'
        injection e' with e' _
        exact .inr (by rw [e']; exact hd')
    have hr3 : 45 ≤ a ∧ a ≤ 57 := by
      rcases hd with rfl | h
      · decide
      · simp [isD] at h; omega
    show headP (gapL (digT m ++ r)) _ _ = _
    rw [e] at hn ⊢
    rw [List.cons_append] at hn ⊢
    rw [gapL_of hb]
    unfold headP
    rw [lit_no rfl rfl (by omega), lit_no rfl rfl (by omega), lit_no rfl rfl (by omega)]
    dsimp only
    split
    · next h => injection h with h _; omega
    · next h => injection h with h _; omega
    · next h => injection h with h _; omega
    · rw [hn]; rfl
  · obtain rfl : m = 0 := (b6 (by decide) (by decide)).1
    have hl := letters_le (b6 (by decide) (by decide)).2.2.1.1
    show headP (gapL (34 :: ((quoI t ++ [34]) ++ r))) _ _ = _
    rw [gapL_of (by decide), List.append_assoc]
    show rdMap _ (txtP _ (quoI t ++ 34 :: r)) = _
    rw [txtP_quoI t _ r hl (by have := quoI_ge t; simp; omega)]
    rfl
/-- What is written is read as the same. -/
theorem valP_back : ∀ (m : Nat) (j : J (m + 1)) (r : List Nat), IsJ (m + 1) m j → NoD r → valP m (writeJ (m + 1) j ++ r) = .ok (j, r)
  | 0, j, r, h, hr => by
    obtain ⟨ki, z, t, ns, ks⟩ := j
    exact plain_back h (h.1.2.2 rfl) _ _ r hr
  | m + 1, j, r, h, hr => by
    obtain ⟨ki, z, t, ns, ks⟩ := j
    by_cases h3 : ki ≤ 3
    · exact plain_back h h3 _ _ r hr
    have hh := h
    obtain ⟨⟨a1, a2, _⟩, b1, b2, b3, b4, b5, b6⟩ := isJ_parts h
    obtain rfl : t = [] := b1 (by omega)
    obtain ⟨rfl, c2, c3, c4⟩ := b6 (by omega) (by omega)
    have hk : ∀ k ∈ ks, ∀ r, NoD r → valP m (writeJ (m + 1) k ++ r) = .ok (k, r) := fun k hk r hr => valP_back m k r (c4 k hk) hr
    rcases (by omega : ki = 4 ∨ ki = 5) with rfl | rfl
    · obtain rfl : ns = [] := List.eq_nil_of_length_eq_zero (b2 (by decide))
      rw [writeJ_list]
      show headP (gapL (91 :: ((itL (ks.map (writeJ (m + 1))) ++ [93]) ++ r))) _ _ = _
      rw [gapL_of (by decide), List.append_assoc]
      show rdMap _ (listP (valP m) (itL (ks.map (writeJ (m + 1))) ++ 93 :: r)) = _
      have e : listP (valP m) (itL (ks.map (writeJ (m + 1))) ++ 93 :: r) = .ok (ks, r) := by
        by_cases h0 : ks = []
        · subst h0; rfl
        · have hi := items_back (kp := valP m) (wr := writeJ (m + 1)) ks ((itL (ks.map (writeJ (m + 1))) ++ 93 :: r).length + 1) r hk h0 (by have := itL_len (ks.map (writeJ (m + 1))); simp at this ⊢; omega)
          obtain ⟨k0, ks', rfl⟩ : ∃ k0 ks', ks = k0 :: ks' := by
            cases ks with
            | nil => exact absurd rfl h0
            | cons a l => exact ⟨a, l, rfl⟩
          obtain ⟨a, l, e, hb, h93, _⟩ := writeJ_head m _ k0 (c4 k0 (by simp))
          obtain ⟨l2, e2⟩ : ∃ l2, itL ((k0 :: ks').map (writeJ (m + 1))) ++ 93 :: r = a :: l2 := by
            rw [List.map_cons]
            by_cases hks : ks' = []
            · subst hks; exact ⟨_, by show writeJ (m + 1) k0 ++ _ = _; rw [e]; rfl⟩
            · exact ⟨_, by rw [itL_cons _ (by simpa using hks), e]; rfl⟩
          rw [e2] at hi ⊢
          unfold listP
          rw [gapL_of hb]
          split
          · next h => injection h with h _; exact absurd h h93
          · exact hi
      rw [e]; rfl
    · have hl := c2 rfl
      obtain ⟨n1, n2⟩ := names_nodup c3
      rw [writeJ_map _ _ _ _ _ hl]
      obtain ⟨Z, hZ⟩ : ∃ Z, Z = List.zipWith (fun a k => quoT a ++ [58] ++ writeJ (m + 1) k) ns ks := ⟨_, rfl⟩
      rw [← hZ]
      show headP (gapL (123 :: ((itL Z ++ [125]) ++ r))) _ _ = _
      rw [gapL_of (by decide), List.append_assoc]
      show rdMap _ (mapP (valP m) (itL Z ++ 125 :: r)) = _
      have e : mapP (valP m) (itL Z ++ 125 :: r) = .ok ((ns, ks), r) := by
        by_cases h0 : ks = []
        · subst h0
          obtain rfl : ns = [] := List.eq_nil_of_length_eq_zero (by simpa using hl)
          subst hZ; rfl
        · have hZl : Z.length = ks.length := by rw [hZ]; simp [hl]
          have hi := pairs_back (kp := valP m) (wr := writeJ (m + 1)) ns ks ((itL Z ++ 125 :: r).length + 1) [] r hk hl h0 (by have := itL_len Z; simp; omega) n2 n1 (fun _ _ h => by cases h)
          rw [← hZ] at hi
          obtain ⟨k0, ks', rfl⟩ : ∃ k0 ks', ks = k0 :: ks' := by
            cases ks with
            | nil => exact absurd rfl h0
            | cons a l => exact ⟨a, l, rfl⟩
          obtain ⟨a0, ns', rfl⟩ : ∃ a0 ns', ns = a0 :: ns' := by
            cases ns with
            | nil => simp at hl
            | cons a l => exact ⟨a, l, rfl⟩
          obtain ⟨l2, e2⟩ : ∃ l2, itL Z ++ 125 :: r = 34 :: l2 := by
            rw [hZ, List.zipWith_cons_cons]
            by_cases hz : List.zipWith (fun a k => quoT a ++ [58] ++ writeJ (m + 1) k) ns' ks' = []
            · rw [hz]; exact ⟨_, rfl⟩
            · rw [itL_cons _ hz]; exact ⟨_, rfl⟩
          rw [e2] at hi ⊢
          unfold mapP
          rw [gapL_of (by decide)]
          exact hi
      rw [e]; rfl
end Go.Proofs.YtljgnpneeecafaaDoor
set_option linter.unusedVariables false
namespace Go.Proofs.YtljgnpneeecafaaDoor
open Go.RowKit Go.Sort Go.BigFrame
set_option maxRecDepth 100000
set_option maxHeartbeats 2000000
theorem rdMap_ok {α β : Type} {f : α → β} {x : Rd α} {y : β} {r : List Nat} (h : rdMap f x = .ok (y, r)) : ∃ a, x = .ok (a, r) ∧ y = f a := by
  cases x with
  | error e => simp [rdMap] at h
  | ok p =>
    obtain ⟨a, q⟩ := p
    simp only [rdMap, Except.ok.injEq, Prod.mk.injEq] at h
    exact ⟨a, by rw [h.2], h.1.symm⟩
theorem hexP_lt {c x : Nat} (h : hexP c = some x) : x < 16 := by
  unfold hexP at h
  split at h
  · injection h with h; omega
  · split at h
    · injection h with h; omega
    · split at h
      · injection h with h; omega
      · cases h
theorem escP_le {k x : Nat} (h : escP k = some x) : x ≤ 126 := by
  unfold escP at h
  repeat' split at h
  all_goals first | (injection h with h; omega) | cases h
theorem uniP_ok {s : List Nat} {x : Nat} {r : List Nat} (h : uniP s = some (x, r)) : x ≤ 126 ∧ r.length < s.length := by
  unfold uniP at h
  split at h
  · split at h
    · split at h
      · injection h with h
        injection h with h1 h2
        subst h1 h2
        exact ⟨by omega, by simp; omega⟩
      · cases h
    · cases h
  · cases h
theorem txtP_ok : ∀ (f : Nat) (s t r : List Nat), txtP f s = .ok (t, r) → (∀ c ∈ t, c ≤ 126) ∧ r.length < s.length
  | 0, s, t, r, h => by simp [txtP] at h
  | f + 1, [], t, r, h => by simp [txtP] at h
  | f + 1, c :: s, t, r, h => by
    have cons : ∀ (x : Nat) (s' : List Nat), x ≤ 126 → s'.length ≤ s.length → rdMap (x :: ·) (txtP f s') = .ok (t, r) → (∀ c ∈ t, c ≤ 126) ∧ r.length < (c :: s).length := fun x s' hx hs h => by
      obtain ⟨a, h1, rfl⟩ := rdMap_ok h
      obtain ⟨h2, h3⟩ := txtP_ok f s' a r h1
      refine ⟨fun y hy => ?_, by simp; omega⟩
      rcases List.mem_cons.1 hy with rfl | hy
      · exact hx
      · exact h2 y hy
    unfold txtP at h
    split at h
    · cases h
    · split at h
      · injection h with h
        injection h with h1 h2
        subst h1 h2
        exact ⟨fun c hc => (by cases hc), by simp⟩
      · split at h
        · exact cons c s (by omega) (Nat.le_refl _) h
        · cases s with
          | nil => cases h
          | cons k r2 =>
            dsimp only at h
            split at h
            · next x hx => exact cons x r2 (escP_le hx) (by simp) h
            · split at h
              · split at h
                · next x r3 hu =>
                  obtain ⟨h1, h2⟩ := uniP_ok hu
                  exact cons x r3 h1 (by simp; omega) h
                · cases h
              · cases h
theorem numD_ok {minus : Bool} {d r q : List Nat} {z : Int} (h : numD minus d r = .ok (z, q)) : -1000000000000000 ≤ z ∧ z ≤ 1000000000000000 ∧ q = r ∧ d.length ≠ 0 := by
  unfold numD at h
  split at h
  · cases h
  · next hn =>
    split at h
    · cases h
    · injection h with h
      injection h with h1 h2
      have : d.length ≠ 0 := fun e => hn (.inl e)
      refine ⟨?_, ?_, h2.symm, this⟩ <;> (cases minus <;> simp at h1 <;> omega)
theorem span_len (s : List Nat) (h : (s.takeWhile isD).length ≠ 0) : (s.dropWhile isD).length < s.length := by
  have := congrArg List.length (List.takeWhile_append_dropWhile (p := isD) (l := s))
  rw [List.length_append] at this; omega
theorem numP_ok {s r : List Nat} {z : Int} (h : numP s = .ok (z, r)) : -1000000000000000 ≤ z ∧ z ≤ 1000000000000000 ∧ r.length < s.length := by
  unfold numP at h
  split at h
  · obtain ⟨h1, h2, rfl, h4⟩ := numD_ok h
    have := span_len _ h4
    exact ⟨h1, h2, by simp; omega⟩
  · obtain ⟨h1, h2, rfl, h4⟩ := numD_ok h
    exact ⟨h1, h2, span_len _ h4⟩
theorem gapL_len : ∀ s : List Nat, (gapL s).length ≤ s.length
  | [] => Nat.le_refl _
  | c :: s => by
    have := gapL_len s
    unfold gapL; split <;> simp; omega
theorem lit_len {p s r : List Nat} (h : litP p s = some r) (hp : p ≠ []) : r.length < s.length := by
  unfold litP at h
  split at h
  · next e =>
    injection h with h
    subst h
    have := congrArg List.length e
    have hp2 : 0 < p.length := List.length_pos_iff.2 hp
    simp at this ⊢; omega
  · cases h
theorem itemsP_ok {K : Type} {kp : List Nat → Rd K} {P : K → Prop} (hk : ∀ s k r, kp s = .ok (k, r) → P k ∧ r.length < s.length) : ∀ (f : Nat) (s : List Nat) (ks : List K) (r : List Nat), itemsP kp f s = .ok (ks, r) → (∀ k ∈ ks, P k) ∧ r.length < s.length
  | 0, s, ks, r, h => by simp [itemsP] at h
  | f + 1, s, ks, r, h => by
    unfold itemsP at h
    split at h
    · cases h
    · next k q hq =>
      obtain ⟨h1, h2⟩ := hk _ _ _ hq
      have hg := gapL_len q
      split at h
      · next q2 e =>
        rw [e] at hg
        injection h with h
        injection h with h3 h4
        subst h3 h4
        refine ⟨fun x hx => ?_, by simp at hg; omega⟩
        obtain rfl : x = k := by simpa using hx
        exact h1
      · next q2 e =>
        rw [e] at hg
        obtain ⟨a, h3, rfl⟩ := rdMap_ok h
        obtain ⟨h4, h5⟩ := itemsP_ok hk f q2 a r h3
        refine ⟨fun x hx => ?_, by simp at hg; omega⟩
        rcases List.mem_cons.1 hx with rfl | hx
        · exact h1
        · exact h4 x hx
      · cases h
theorem pairsP_ok {K : Type} {kp : List Nat → Rd K} {P : K → Prop} (hk : ∀ s k r, kp s = .ok (k, r) → P k ∧ r.length < s.length) : ∀ (f : Nat) (seen : List (List Nat)) (s : List Nat) (p : List (List Nat) × List K) (r : List Nat), pairsP kp f seen s = .ok (p, r) →
    (∀ k ∈ p.2, P k) ∧ p.1.length = p.2.length ∧ (∀ a ∈ p.1, (∀ c ∈ a, c ≤ 126) ∧ a ∉ seen) ∧ p.1.Nodup ∧ r.length < s.length
  | 0, seen, s, p, r, h => by simp [pairsP] at h
  | f + 1, seen, s, p, r, h => by
    unfold pairsP at h
    have hg0 := gapL_len s
    split at h
    · next q e =>
      rw [e] at hg0
      split at h
      · cases h
      · next nm r1 ht =>
        obtain ⟨t1, t2⟩ := txtP_ok _ _ _ _ ht
        split at h
        · cases h
        · next hns =>
          have hg1 := gapL_len r1
          split at h
          · next r2 e2 =>
            rw [e2] at hg1
            split at h
            · cases h
            · next k r3 hq =>
              obtain ⟨h1, h2⟩ := hk _ _ _ hq
              have hg := gapL_len r3
              split at h
              · next q2 e3 =>
                rw [e3] at hg
                injection h with h
                injection h with h3 h4
                subst h3 h4
                refine ⟨fun x hx => ?_, rfl, fun a ha => ?_, by simp, by simp at hg hg0 hg1; omega⟩
                · obtain rfl : x = k := by simpa using hx
                  exact h1
                · obtain rfl : a = nm := by simpa using ha
                  exact ⟨t1, hns⟩
              · next q2 e3 =>
                rw [e3] at hg
                obtain ⟨a, h3, rfl⟩ := rdMap_ok h
                obtain ⟨h4, h5, h6, h7, h8⟩ := pairsP_ok hk f (nm :: seen) q2 a r h3
                refine ⟨fun x hx => ?_, by simp [h5], fun b hb => ?_, ?_, by simp at hg hg0 hg1; omega⟩
                · rcases List.mem_cons.1 hx with rfl | hx
                  · exact h1
                  · exact h4 x hx
                · rcases List.mem_cons.1 hb with rfl | hb
                  · exact ⟨t1, hns⟩
                  · have := h6 b hb
                    exact ⟨this.1, fun hm => this.2 (by simp [hm])⟩
                · rw [List.nodup_cons]
                  exact ⟨fun hm => (h6 nm hm).2 (by simp), h7⟩
              · cases h
          · cases h
    · cases h
theorem nodup_names {ns : List (List Nat)} (h : ns.Nodup) (h2 : ∀ a ∈ ns, ∀ c ∈ a, c ≤ 126) : NamesOk [] ns ns.length := by
  refine ⟨rfl, fun i hi => ⟨?_, fun l hl e => ?_⟩⟩
  · rw [show ns.getD i [] = ns[i]'hi by simp [hi]]
    unfold lettersB
    rw [List.all_eq_true]
    intro c hc
    simpa using h2 _ (List.getElem_mem hi) c hc
  · have hl2 : l < ns.length := by omega
    rw [show ns.getD i [] = ns[i]'hi by simp [hi], show ns.getD l [] = ns[l]'hl2 by simp [hl2]] at e
    unfold List.Nodup at h
    rw [List.pairwise_iff_getElem] at h
    exact h l i hl2 hi hl e
theorem isJ_of {n d : Nat} {ki m : Int} {t : List Nat} {ns : List (List Nat)} {ks : List (J n)} (h : (0 ≤ ki ∧ ki ≤ 5 ∧ (d = 0 → ki ≤ 3)) ∧ (ki ≠ 3 → t = []) ∧ (ki ≠ 5 → ns.length = 0) ∧ (ki ≠ 5 → ki ≠ 4 → ks.length = 0) ∧ (ki = 2 → -1000000000000000 ≤ m ∧ m ≤ 1000000000000000) ∧ (ki = 1 → m = 0 ∨ m = 1) ∧
    (ki ≠ 2 → ki ≠ 1 → m = 0 ∧ (ki = 5 → ns.length = ks.length) ∧ NamesOk t ns ns.length ∧ ∀ k ∈ ks, IsJ n (d - 1) k)) : IsJ (n + 1) d (⟨ki, m, t, ns, ks⟩ : JN (J n)) := h
theorem headP_ok {n d : Nat} {s : List Nat} {lst : List Nat → Rd (List (J n))} {mp : List Nat → Rd (List (List Nat) × List (J n))} {j : J (n + 1)} {r : List Nat}
    (hl : ∀ s ks r, lst s = .ok (ks, r) → d ≠ 0 ∧ (∀ k ∈ ks, IsJ n (d - 1) k) ∧ r.length ≤ s.length)
    (hm : ∀ s p r, mp s = .ok (p, r) → d ≠ 0 ∧ (∀ k ∈ p.2, IsJ n (d - 1) k) ∧ p.1.length = p.2.length ∧ (∀ a ∈ p.1, ∀ c ∈ a, c ≤ 126) ∧ p.1.Nodup ∧ r.length ≤ s.length)
    (h : headP s lst mp = .ok (j, r)) : IsJ (n + 1) d j ∧ r.length < s.length := by
  unfold headP at h
  split at h
  · next q e =>
    injection h with h
    injection h with h1 h2
    subst h1 h2
    exact ⟨isJ_of ⟨⟨by decide, by decide, fun _ => by decide⟩, fun _ => rfl, fun _ => rfl, fun _ _ => rfl, fun h => absurd h (by decide), fun h => absurd h (by decide), fun _ _ => ⟨rfl, fun _ => rfl, ⟨rfl, fun i hi => absurd hi (by simp)⟩, fun k hk => by cases hk⟩⟩, lit_len e (by simp)⟩
  · split at h
    · next q e =>
      injection h with h
      injection h with h1 h2
      subst h1 h2
      exact ⟨isJ_of ⟨⟨by decide, by decide, fun _ => by decide⟩, fun _ => rfl, fun _ => rfl, fun _ _ => rfl, fun h => absurd h (by decide), fun _ => .inr rfl, fun _ h => absurd rfl h⟩, lit_len e (by simp)⟩
    · split at h
      · next q e =>
        injection h with h
        injection h with h1 h2
        subst h1 h2
        exact ⟨isJ_of ⟨⟨by decide, by decide, fun _ => by decide⟩, fun _ => rfl, fun _ => rfl, fun _ _ => rfl, fun h => absurd h (by decide), fun _ => .inl rfl, fun _ h => absurd rfl h⟩, lit_len e (by simp)⟩
      · split at h
        · next q =>
          obtain ⟨t, h1, rfl⟩ := rdMap_ok h
          obtain ⟨h2, h3⟩ := txtP_ok _ _ _ _ h1
          refine ⟨isJ_of ⟨⟨by decide, by decide, fun _ => by decide⟩, fun h => absurd rfl h, fun _ => rfl, fun _ _ => rfl, fun h => absurd h (by decide), fun h => absurd h (by decide), fun _ _ => ⟨rfl, fun _ => rfl, ⟨?_, fun i hi => absurd hi (by simp)⟩, fun k hk => by cases hk⟩⟩, by simp; omega⟩
          show lettersB t = true
          unfold lettersB
          rw [List.all_eq_true]
          intro c hc
          simpa using h2 c hc
        · next q =>
          obtain ⟨ks, h1, rfl⟩ := rdMap_ok h
          obtain ⟨h0, h2, h3⟩ := hl _ _ _ h1
          exact ⟨isJ_of ⟨⟨by decide, by decide, fun e => absurd e h0⟩, fun _ => rfl, fun _ => rfl, fun _ h => absurd rfl h, fun h => absurd h (by decide), fun h => absurd h (by decide), fun _ _ => ⟨rfl, fun h => absurd h (by decide), ⟨rfl, fun i hi => absurd hi (by simp)⟩, h2⟩⟩, by simp; omega⟩
        · next q =>
          obtain ⟨p, h1, rfl⟩ := rdMap_ok h
          obtain ⟨h0, h2, h3, h4, h5, h6⟩ := hm _ _ _ h1
          exact ⟨isJ_of ⟨⟨by decide, by decide, fun e => absurd e h0⟩, fun _ => rfl, fun h => absurd rfl h, fun h => absurd rfl h, fun h => absurd h (by decide), fun h => absurd h (by decide), fun _ _ => ⟨rfl, fun _ => h3, nodup_names h5 h4, h2⟩⟩, by simp; omega⟩
        · obtain ⟨z, h1, rfl⟩ := rdMap_ok h
          obtain ⟨h2, h3, h4⟩ := numP_ok h1
          exact ⟨isJ_of ⟨⟨by decide, by decide, fun _ => by decide⟩, fun _ => rfl, fun _ => rfl, fun _ _ => rfl, fun _ => ⟨h2, h3⟩, fun h => absurd h (by decide), fun h => absurd rfl h⟩, h4⟩
/-- What is read is a value. -/
theorem valP_is : ∀ (m : Nat) (s : List Nat) (j : J (m + 1)) (r : List Nat), valP m s = .ok (j, r) → IsJ (m + 1) m j ∧ r.length < s.length
  | 0, s, j, r, h => by
    have := gapL_len s
    obtain ⟨h1, h2⟩ := headP_ok (n := 0) (d := 0) (fun _ _ _ h => by cases h) (fun _ _ _ h => by cases h) h
    exact ⟨h1, by omega⟩
  | m + 1, s, j, r, h => by
    have := gapL_len s
    have hk : ∀ s k r, valP m s = .ok (k, r) → IsJ (m + 1) (m + 1 - 1) k ∧ r.length < s.length := fun s k r h => valP_is m s k r h
    obtain ⟨h1, h2⟩ := headP_ok (n := m + 1) (d := m + 1) (lst := listP (valP m)) (mp := mapP (valP m)) (fun s ks r h => by
        have hg := gapL_len s
        refine ⟨by omega, ?_⟩
        unfold listP at h
        split at h
        · next q e =>
          rw [e] at hg
          injection h with h
          injection h with h1 h2
          subst h1 h2
          exact ⟨fun k hk => (by cases hk), by simp at hg; omega⟩
        · obtain ⟨h1, h2⟩ := itemsP_ok hk _ _ _ _ h
          exact ⟨h1, by omega⟩) (fun s p r h => by
        have hg := gapL_len s
        refine ⟨by omega, ?_⟩
        unfold mapP at h
        split at h
        · next q e =>
          rw [e] at hg
          injection h with h
          injection h with h1 h2
          subst h1 h2
          exact ⟨fun k hk => (by cases hk), rfl, fun a ha => (by cases ha), by simp, by simp at hg; omega⟩
        · obtain ⟨h1, h2, h3, h4, h5⟩ := pairsP_ok hk _ _ _ _ _ h
          exact ⟨h1, h2, fun a ha => (h3 a ha).1, h4, by omega⟩) h
    exact ⟨h1, by omega⟩
end Go.Proofs.YtljgnpneeecafaaDoor
set_option linter.unusedVariables false
namespace Go.Proofs.YtljgnpneeecafaaDoor
open Go.RowKit Go.Sort Go.BigFrame
set_option maxRecDepth 100000
set_option maxHeartbeats 2000000
/-- The same answer, with g left behind. -/
def Ext {α : Type} (g : List Nat) (x y : Rd α) : Prop := match x with
  | .error e => y = .error e
  | .ok (a, r) => y = .ok (a, r ++ g)
theorem Ext.map {α β : Type} {g : List Nat} {x y : Rd α} (f : α → β) (h : Ext g x y) : Ext g (rdMap f x) (rdMap f y) := by
  cases x with
  | error e => have h : y = .error e := h; subst h; rfl
  | ok p => have h : y = .ok (p.1, p.2 ++ g) := h; subst h; rfl
def Blk (g : List Nat) : Prop := ∀ c ∈ g, blankB c = true
theorem blk_le {c : Nat} (h : blankB c = true) : c ≤ 32 := by simp [blankB] at h; omega
theorem gapL_blk : ∀ {g : List Nat}, Blk g → gapL g = []
  | [], _ => rfl
  | c :: g, h => by unfold gapL; rw [if_pos (h c (by simp))]; exact gapL_blk (fun x hx => h x (by simp [hx]))
theorem gapL_pre : ∀ {g : List Nat} (s : List Nat), Blk g → gapL (g ++ s) = gapL s
  | [], _, _ => rfl
  | c :: g, s, h => by rw [List.cons_append]; conv => lhs; unfold gapL
                       rw [if_pos (h c (by simp))]; exact gapL_pre s (fun x hx => h x (by simp [hx]))
theorem gapL_none {g : List Nat} (hg : Blk g) : ∀ {s : List Nat}, gapL s = [] → gapL (s ++ g) = []
  | [], _ => gapL_blk hg
  | c :: s, h => by
    unfold gapL at h
    split at h
    · next hc =>
      rw [List.cons_append]; unfold gapL
      rw [if_pos hc]; exact gapL_none hg h
    · cases h
theorem gapL_some {g : List Nat} {a : Nat} {l : List Nat} : ∀ {s : List Nat}, gapL s = a :: l → gapL (s ++ g) = a :: (l ++ g)
  | [], h => by cases h
  | c :: s, h => by
    unfold gapL at h
    rw [List.cons_append]; unfold gapL
    split at h
    · next hc => rw [if_pos hc]; exact gapL_some h
    · next hc => rw [if_neg hc]; injection h with h1 h2; rw [h1, h2]
theorem txtP_blk : ∀ (f : Nat) (g : List Nat), Blk g → txtP f g = .error 13
  | 0, _, _ => rfl
  | f + 1, [], _ => rfl
  | f + 1, c :: g, h => by
    have hc := h c (by simp)
    conv => lhs; unfold txtP
    by_cases h32 : c = 32
    · subst h32
      rw [if_neg (by decide), if_neg (by decide), if_pos (by decide), txtP_blk f g (fun x hx => h x (by simp [hx]))]
      rfl
    · have := blk_le hc
      rw [if_pos (by omega)]
theorem hexP_blk {c : Nat} (h : blankB c = true) : hexP c = none := by
  have := blk_le h
  unfold hexP
  rw [if_neg (by omega), if_neg (by omega), if_neg (by omega)]
theorem escP_blk {c : Nat} (h : blankB c = true) : escP c = none := by
  have := blk_le h
  unfold escP
  repeat rw [if_neg (by omega)]
theorem uniP_ext {g : List Nat} (hg : Blk g) (s : List Nat) : uniP (s ++ g) = (uniP s).map (fun p => (p.1, p.2 ++ g)) := by
  have ex : ∀ (a b : Nat) (r : List Nat), uniP (48 :: 48 :: a :: b :: r) = (match hexP a, hexP b with | some x, some y => if 16 * x + y ≤ 126 then some (16 * x + y, r) else none | _, _ => none) := fun _ _ _ => rfl
  have no : ∀ (l : List Nat), (∀ a b r, l = 48 :: 48 :: a :: b :: r → hexP a = none ∨ hexP b = none) → uniP l = none := fun l hl => by
    unfold uniP
    split
    · next a b r =>
      rcases hl a b r rfl with h | h
      · rw [h]
      · rw [h]; split
        · next h1 h2 => cases h2
        · rfl
    · rfl
  match s with
  | [] => rw [List.nil_append, no g (fun a b r e => by rw [e] at hg; have := blk_le (hg 48 (by simp)); omega)]; rfl
  | [c] => rw [no ([c] ++ g) (fun a b r e => by
        rw [List.singleton_append] at e
        injection e with _ e; rw [e] at hg; have := blk_le (hg 48 (by simp)); omega), show uniP [c] = none from no [c] (fun a b r e => by simp at e)]; rfl
  | [c, c2] => rw [no ([c, c2] ++ g) (fun a b r e => by
        simp only [List.cons_append, List.nil_append] at e
        injection e with _ e; injection e with _ e; rw [e] at hg; exact .inl (hexP_blk (hg a (by simp)))), show uniP [c, c2] = none from no [c, c2] (fun a b r e => by simp at e)]
               rfl
  | [c, c2, c3] => rw [no ([c, c2, c3] ++ g) (fun a b r e => by
        simp only [List.cons_append, List.nil_append] at e
        injection e with _ e; injection e with _ e; injection e with _ e; rw [e] at hg; exact .inr (hexP_blk (hg b (by simp)))), show uniP [c, c2, c3] = none from no [c, c2, c3] (fun a b r e => by simp at e)]
                   rfl
  | c :: c2 :: a :: b :: r =>
    by_cases hc : c = 48 ∧ c2 = 48
    · obtain ⟨rfl, rfl⟩ := hc
      simp only [List.cons_append]
      rw [ex, ex]
      cases hexP a with
      | none => rfl
      | some x => cases hexP b with
        | none => rfl
        | some y =>
          dsimp only
          split <;> rfl
    · rw [no _ (fun a' b' r' e => by injection e with e1 e; injection e with e2 e; exact absurd ⟨e1, e2⟩ hc), no _ (fun a' b' r' e => by injection e with e1 e; injection e with e2 e; exact absurd ⟨e1, e2⟩ hc)]
      rfl
theorem uniP_len {s : List Nat} {x : Nat} {r : List Nat} (h : uniP s = some (x, r)) : r.length < s.length := (uniP_ok h).2
theorem txtP_ext {g : List Nat} (hg : Blk g) : ∀ (f : Nat) (s : List Nat) (f' : Nat), s.length < f → (s ++ g).length < f' → Ext g (txtP f s) (txtP f' (s ++ g))
  | 0, _, _, h, _ => absurd h (by omega)
  | f + 1, _, 0, _, h => absurd h (by omega)
  | f + 1, [], f' + 1, _, _ => txtP_blk _ _ hg
  | f + 1, c :: s, f' + 1, h, h' => by
    simp only [List.cons_append, List.length_cons] at h h'
    rw [List.cons_append]
    unfold txtP
    by_cases h1 : c < 32 ∨ 126 < c
    · rw [if_pos h1, if_pos h1]; rfl
    · rw [if_neg h1, if_neg h1]
      by_cases h2 : c = 34
      · rw [if_pos h2, if_pos h2]; rfl
      · rw [if_neg h2, if_neg h2]
        by_cases h3 : c ≠ 92
        · rw [if_pos h3, if_pos h3]
          exact (txtP_ext hg f s f' (by omega) (by omega)).map _
        · rw [if_neg h3, if_neg h3]
          cases s with
          | nil =>
            cases g with
            | nil => rfl
            | cons k g =>
              have hk := hg k (by simp)
              have := blk_le hk
              show (match escP k with | some x => _ | none => _) = _
              rw [escP_blk hk]
              dsimp only
              rw [if_neg (by omega)]
          | cons k r2 =>
            rw [List.cons_append]
            dsimp only
            simp only [List.length_cons, List.cons_append] at h h'
            cases hk : escP k with
            | some x => exact (txtP_ext hg f r2 f' (by omega) (by omega)).map _
            | none =>
              dsimp only
              by_cases hu : k = 117
              · rw [if_pos hu, if_pos hu, uniP_ext hg]
                cases hx : uniP r2 with
                | none => rfl
                | some p =>
                  have hl := uniP_len (s := r2) (x := p.1) (r := p.2) hx
                  exact (txtP_ext hg f p.2 f' (by omega) (by simp at h' ⊢; omega)).map _
              · rw [if_neg hu, if_neg hu]; rfl
theorem blk_noD {g : List Nat} (hg : Blk g) : NoD g := fun c hc => by
  have hm : c ∈ g := List.mem_of_mem_head? hc
  have := blk_le (hg c hm)
  simp [isD]; omega
theorem span_ext {g : List Nat} (hg : Blk g) (s : List Nat) : (s ++ g).takeWhile isD = s.takeWhile isD ∧ (s ++ g).dropWhile isD = s.dropWhile isD ++ g := by
  have e : s ++ g = s.takeWhile isD ++ (s.dropWhile isD ++ g) := by rw [← List.append_assoc, List.takeWhile_append_dropWhile]
  have hall : ∀ c ∈ s.takeWhile isD, isD c = true := fun c hc => by
    have := List.all_takeWhile (p := isD) (l := s)
    rw [List.all_eq_true] at this
    exact this c hc
  have hn : NoD (s.dropWhile isD ++ g) := by
    cases hd : s.dropWhile isD with
    | nil => rw [List.nil_append]; exact blk_noD hg
    | cons a l =>
      intro c hc
      simp at hc
      subst hc
      have := List.head?_dropWhile_not isD s
      rw [hd] at this
      simpa using this
  have := span_digs hall hn
  rw [← e] at this
  exact this
theorem numD_ext {minus : Bool} {d r g : List Nat} : Ext g (numD minus d r) (numD minus d (r ++ g)) := by
  unfold numD
  split
  · rfl
  · split <;> rfl
theorem numP_ext {g : List Nat} (hg : Blk g) (s : List Nat) : Ext g (numP s) (numP (s ++ g)) := by
  have no : ∀ l : List Nat, (∀ r, l ≠ 45 :: r) → numP l = numD false (l.takeWhile isD) (l.dropWhile isD) := fun l hl => by
    unfold numP
    split
    · next r => exact absurd rfl (hl r)
    · rfl
  by_cases h : ∃ r, s = 45 :: r
  · obtain ⟨r, rfl⟩ := h
    obtain ⟨e1, e2⟩ := span_ext hg r
    show Ext g (numD true _ _) (numD true ((r ++ g).takeWhile isD) ((r ++ g).dropWhile isD))
    rw [e1, e2]; exact numD_ext
  · obtain ⟨e1, e2⟩ := span_ext hg s
    rw [no s (fun r e => h ⟨r, e⟩), no (s ++ g) (fun r e => by
      cases s with
      | nil =>
        rw [List.nil_append] at e
        rw [e] at hg
        have := blk_le (hg 45 (by simp)); omega
      | cons c s =>
        rw [List.cons_append] at e
        injection e with e _
        exact h ⟨s, by rw [e]⟩), e1, e2]
    exact numD_ext
theorem litP_ext {g p : List Nat} (hg : Blk g) (hp : ∀ c ∈ p, blankB c = false) (s : List Nat) : litP p (s ++ g) = (litP p s).map (· ++ g) := by
  unfold litP
  by_cases h : s.take p.length = p
  · have hl : p.length ≤ s.length := by have := congrArg List.length h; simp at this; omega
    rw [if_pos h, List.take_append_of_le_length hl, if_pos h, List.drop_append_of_le_length hl]
    rfl
  · rw [if_neg h, if_neg]
    · rfl
    · intro e
      by_cases hl : p.length ≤ s.length
      · rw [List.take_append_of_le_length hl] at e; exact h e
      · have hlen := congrArg List.length e
        simp at hlen
        have hi : s.length < p.length := by omega
        have hx : p[s.length]'hi = (s ++ g)[s.length]'(by simp; omega) := by
          have : ((s ++ g).take p.length)[s.length]'(by rw [e]; exact hi) = p[s.length]'hi := by simp only [e]
          rw [← this, List.getElem_take]
        rw [List.getElem_append_right (Nat.le_refl _)] at hx
        have h1 := hp _ (List.getElem_mem hi)
        rw [hx, hg _ (List.getElem_mem _)] at h1
        cases h1
theorem gapL_shape (s : List Nat) : gapL s = [] ∨ ∃ a l, gapL s = a :: l := by
  cases gapL s with
  | nil => exact .inl rfl
  | cons a l => exact .inr ⟨a, l, rfl⟩
theorem itemsP_ext {K : Type} {kp : List Nat → Rd K} {g : List Nat} (hg : Blk g) (hk : ∀ s, Ext g (kp s) (kp (s ++ g))) (hl : ∀ s k r, kp s = .ok (k, r) → r.length < s.length) : ∀ (f : Nat) (s : List Nat) (f' : Nat), s.length < f → (s ++ g).length < f' → Ext g (itemsP kp f s) (itemsP kp f' (s ++ g))
  | 0, _, _, h, _ => absurd h (by omega)
  | f + 1, _, 0, _, h => absurd h (by omega)
  | f + 1, s, f' + 1, h, h' => by
    have h1 := hk s
    unfold itemsP
    cases hx : kp s with
    | error e =>
      rw [hx] at h1
      have h1 : kp (s ++ g) = .error e := h1
      rw [h1]; rfl
    | ok p =>
      obtain ⟨k, r⟩ := p
      have hlen := hl s k r hx
      rw [hx] at h1
      have h1 : kp (s ++ g) = .ok (k, r ++ g) := h1
      rw [h1]
      dsimp only
      have hgl := gapL_len r
      rcases gapL_shape r with e | ⟨a, l, e⟩
      · rw [e, gapL_none hg e]; rfl
      · rw [e, gapL_some e]
        rw [e] at hgl
        simp at hgl h h'
        by_cases h93 : a = 93
        · subst h93; rfl
        · by_cases h44 : a = 44
          · subst h44
            exact (itemsP_ext hg hk hl f l f' (by omega) (by simp; omega)).map _
          · split
            · next e2 => injection e2 with e2 _; exact absurd e2 h93
            · next e2 => injection e2 with e2 _; exact absurd e2 h44
            · show _ = _
              split
              · next e2 => injection e2 with e2 _; exact absurd e2 h93
              · next e2 => injection e2 with e2 _; exact absurd e2 h44
              · rfl
theorem pairsP_ext {K : Type} {kp : List Nat → Rd K} {g : List Nat} (hg : Blk g) (hk : ∀ s, Ext g (kp s) (kp (s ++ g))) (hl : ∀ s k r, kp s = .ok (k, r) → r.length < s.length) : ∀ (f : Nat) (seen : List (List Nat)) (s : List Nat) (f' : Nat), s.length < f → (s ++ g).length < f' → Ext g (pairsP kp f seen s) (pairsP kp f' seen (s ++ g))
  | 0, _, _, _, h, _ => absurd h (by omega)
  | f + 1, _, _, 0, _, h => absurd h (by omega)
  | f + 1, seen, s, f' + 1, h, h' => by
    unfold pairsP
    have hgl0 := gapL_len s
    rcases gapL_shape s with e | ⟨a, l, e⟩
    · rw [e, gapL_none hg e]; rfl
    rw [e, gapL_some e]
    rw [e] at hgl0
    simp at hgl0 h h'
    by_cases h34 : a = 34
    case neg =>
      split
      · next e2 => injection e2 with e2 _; exact absurd e2 h34
      · show _ = _
        split
        · next e2 => injection e2 with e2 _; exact absurd e2 h34
        · rfl
    subst h34
    have ht := txtP_ext hg (l.length + 1) l ((l ++ g).length + 1) (by omega) (by omega)
    cases htx : txtP (l.length + 1) l with
    | error e =>
      rw [htx] at ht
      have ht : txtP ((l ++ g).length + 1) (l ++ g) = .error e := ht
      simp only [htx, ht]; rfl
    | ok p =>
      obtain ⟨nm, r1⟩ := p
      have hlt := (txtP_ok _ _ _ _ htx).2
      rw [htx] at ht
      have ht : txtP ((l ++ g).length + 1) (l ++ g) = .ok (nm, r1 ++ g) := ht
      simp only [htx, ht]
      by_cases hm : nm ∈ seen
      · rw [if_pos hm, if_pos hm]; rfl
      rw [if_neg hm, if_neg hm]
      have hgl1 := gapL_len r1
      rcases gapL_shape r1 with e | ⟨a, l1, e⟩
      · rw [e, gapL_none hg e]; rfl
      rw [e, gapL_some e]
      rw [e] at hgl1
      simp at hgl1
      by_cases h58 : a = 58
      case neg =>
        split
        · next e2 => injection e2 with e2 _; exact absurd e2 h58
        · show _ = _
          split
          · next e2 => injection e2 with e2 _; exact absurd e2 h58
          · rfl
      subst h58
      have h1 := hk l1
      cases hx : kp l1 with
      | error e =>
        rw [hx] at h1
        have h1 : kp (l1 ++ g) = .error e := h1
        simp only [hx, h1]; rfl
      | ok p =>
        obtain ⟨k, r⟩ := p
        have hlen := hl l1 k r hx
        rw [hx] at h1
        have h1 : kp (l1 ++ g) = .ok (k, r ++ g) := h1
        simp only [hx, h1]
        have hgl := gapL_len r
        rcases gapL_shape r with e | ⟨a, l2, e⟩
        · rw [e, gapL_none hg e]; rfl
        · rw [e, gapL_some e]
          rw [e] at hgl
          simp at hgl
          by_cases h125 : a = 125
          · subst h125; rfl
          · by_cases h44 : a = 44
            · subst h44
              exact (pairsP_ext hg hk hl f (nm :: seen) l2 f' (by omega) (by simp; omega)).map _
            · split
              · next e2 => injection e2 with e2 _; exact absurd e2 h125
              · next e2 => injection e2 with e2 _; exact absurd e2 h44
              · show _ = _
                split
                · next e2 => injection e2 with e2 _; exact absurd e2 h125
                · next e2 => injection e2 with e2 _; exact absurd e2 h44
                · rfl
theorem listP_ext {K : Type} {kp : List Nat → Rd K} {g : List Nat} (hg : Blk g) (hk : ∀ s, Ext g (kp s) (kp (s ++ g))) (hl : ∀ s k r, kp s = .ok (k, r) → r.length < s.length) (s : List Nat) : Ext g (listP kp s) (listP kp (s ++ g)) := by
  have hi := itemsP_ext hg hk hl (s.length + 1) s ((s ++ g).length + 1) (by omega) (by omega)
  unfold listP
  rcases gapL_shape s with e | ⟨a, l, e⟩
  · rw [e, gapL_none hg e]; exact hi
  · rw [e, gapL_some e]
    by_cases h93 : a = 93
    · subst h93; rfl
    · split
      · next e2 => injection e2 with e2 _; exact absurd e2 h93
      · split
        · next e2 => injection e2 with e2 _; exact absurd e2 h93
        · exact hi
theorem mapP_ext {K : Type} {kp : List Nat → Rd K} {g : List Nat} (hg : Blk g) (hk : ∀ s, Ext g (kp s) (kp (s ++ g))) (hl : ∀ s k r, kp s = .ok (k, r) → r.length < s.length) (s : List Nat) : Ext g (mapP kp s) (mapP kp (s ++ g)) := by
  have hi := pairsP_ext hg hk hl (s.length + 1) [] s ((s ++ g).length + 1) (by omega) (by omega)
  unfold mapP
  rcases gapL_shape s with e | ⟨a, l, e⟩
  · rw [e, gapL_none hg e]; exact hi
  · rw [e, gapL_some e]
    by_cases h125 : a = 125
    · subst h125; rfl
    · split
      · next e2 => injection e2 with e2 _; exact absurd e2 h125
      · split
        · next e2 => injection e2 with e2 _; exact absurd e2 h125
        · exact hi
theorem headP_ext {K : Type} {g : List Nat} (hg : Blk g) {lst : List Nat → Rd (List K)} {mp : List Nat → Rd (List (List Nat) × List K)} (h1 : ∀ s, Ext g (lst s) (lst (s ++ g))) (h2 : ∀ s, Ext g (mp s) (mp (s ++ g))) (s : List Nat) : Ext g (headP (gapL s) lst mp) (headP (gapL (s ++ g)) lst mp) := by
  rcases gapL_shape s with e | ⟨a, l, e⟩
  · rw [e, gapL_none hg e]; rfl
  rw [e, gapL_some e, ← List.cons_append]
  have hn := numP_ext hg (a :: l)
  unfold headP
  rw [litP_ext hg (by decide), litP_ext hg (by decide), litP_ext hg (by decide)]
  cases litP [110, 117, 108, 108] (a :: l) with
  | some r => rfl
  | none => cases litP [116, 114, 117, 101] (a :: l) with
    | some r => rfl
    | none => cases litP [102, 97, 108, 115, 101] (a :: l) with
      | some r => rfl
      | none =>
        simp only [Option.map_none]
        by_cases h34 : a = 34
        · subst h34
          exact (txtP_ext hg (l.length + 1) l ((l ++ g).length + 1) (by omega) (by omega)).map _
        by_cases h91 : a = 91
        · subst h91; exact (h1 l).map _
        by_cases h123 : a = 123
        · subst h123; exact (h2 l).map _
        rw [List.cons_append] at hn ⊢
        split
        · next e2 => injection e2 with e2 _; exact absurd e2 h34
        · next e2 => injection e2 with e2 _; exact absurd e2 h91
        · next e2 => injection e2 with e2 _; exact absurd e2 h123
        · split
          · next e2 => injection e2 with e2 _; exact absurd e2 h34
          · next e2 => injection e2 with e2 _; exact absurd e2 h91
          · next e2 => injection e2 with e2 _; exact absurd e2 h123
          · exact hn.map _
theorem valP_ext {g : List Nat} (hg : Blk g) : ∀ (m : Nat) (s : List Nat), Ext g (valP m s) (valP m (s ++ g))
  | 0, s => headP_ext (K := J 0) (lst := fun _ => .error 9) (mp := fun _ => .error 9) hg (fun _ => rfl) (fun _ => rfl) s
  | m + 1, s => headP_ext hg (listP_ext hg (valP_ext hg m) (fun s k r h => (valP_is m s k r h).2)) (mapP_ext hg (valP_ext hg m) (fun s k r h => (valP_is m s k r h).2)) s
theorem valP_pre {g : List Nat} (hg : Blk g) (m : Nat) (s : List Nat) : valP m (g ++ s) = valP m s := by
  cases m <;> (show headP (gapL (g ++ s)) _ _ = headP (gapL s) _ _; rw [gapL_pre s hg])
/-- A text read. -/
def readL (s : List Nat) : Except Int (J 7) := match valP 6 s with
  | .error e => .error e
  | .ok (j, r) => if gapL r = [] then .ok j else .error 13
/-- Blanks around change nothing. -/
theorem readL_blanks {g g' : List Nat} (hg : Blk g) (hg' : Blk g') (s : List Nat) : readL (g ++ s ++ g') = readL s := by
  have h := valP_ext hg' 6 (g ++ s)
  rw [valP_pre hg] at h
  unfold readL
  cases hx : valP 6 s with
  | error e =>
    rw [hx] at h
    have h : valP 6 (g ++ s ++ g') = .error e := h
    rw [h]
  | ok p =>
    obtain ⟨j, r⟩ := p
    rw [hx] at h
    have h : valP 6 (g ++ s ++ g') = .ok (j, r ++ g') := h
    rw [h]
    dsimp only
    rcases gapL_shape r with e | ⟨a, l, e⟩
    · rw [e, gapL_none hg' e]
    · rw [e, gapL_some e, if_neg (by simp), if_neg (by simp)]
/-- What is written is read as the same. -/
theorem readL_back (j : J 7) (h : IsJ 7 6 j) : readL (writeJ 7 j) = .ok j := by
  have := valP_back 6 j [] h (fun c hc => by cases hc)
  rw [List.append_nil] at this
  unfold readL
  rw [this]; rfl
/-- What is read is a value. -/
theorem readL_is {s : List Nat} {j : J 7} (h : readL s = .ok j) : IsJ 7 6 j := by
  unfold readL at h
  cases hx : valP 6 s with
  | error e => rw [hx] at h; cases h
  | ok p =>
    obtain ⟨j', r⟩ := p
    rw [hx] at h
    dsimp only at h
    split at h
    · injection h with h
      subst h
      exact (valP_is 6 s j' r hx).1
    · cases h
end Go.Proofs.YtljgnpneeecafaaDoor
set_option linter.unusedVariables false
namespace Go.Proofs.YtljgnpneeecafaaDoor
open Go.RowKit Go.Sort Go.BigFrame
set_option maxRecDepth 100000
set_option maxHeartbeats 2000000
/-- So many signs that begin a list, or a map with one name. -/
def pre1 (named : Bool) : List Nat := if named then [123, 34, 97, 34, 58] else [91]
def end1 (named : Bool) : List Nat := if named then [125] else [93]
def preN (named : Bool) : Nat → List Nat
  | 0 => []
  | n + 1 => preN named n ++ pre1 named
def endN (named : Bool) : Nat → List Nat
  | 0 => []
  | n + 1 => endN named n ++ end1 named
theorem preN_cons (named : Bool) : ∀ n, preN named (n + 1) = pre1 named ++ preN named n
  | 0 => by simp [preN]
  | n + 1 => by
    have := preN_cons named n
    show preN named (n + 1) ++ pre1 named = pre1 named ++ (preN named n ++ pre1 named)
    rw [this, List.append_assoc]
theorem valP_too (named : Bool) : ∀ (m : Nat) (x : List Nat), valP m (preN named (m + 1) ++ x) = .error 9
  | 0, x => by
    cases named
    · show headP (gapL (91 :: x)) _ _ = _
      rw [gapL_of (by decide)]; rfl
    · show headP (gapL (123 :: (34 :: 97 :: 34 :: 58 :: x))) _ _ = _
      rw [gapL_of (by decide)]; rfl
  | m + 1, x => by
    have ih := valP_too named m x
    rw [preN_cons, List.append_assoc]
    cases named
    · obtain ⟨s, hs⟩ : ∃ s, s = preN false (m + 1) ++ x := ⟨_, rfl⟩
      rw [← hs] at ih ⊢
      show headP (gapL (91 :: s)) _ _ = _
      rw [gapL_of (by decide)]
      show rdMap _ (listP (valP m) s) = _
      have e : s = 91 :: (preN false m ++ x) := by rw [hs, preN_cons]; rfl
      have h2 : itemsP (valP m) (s.length + 1) s = .error 9 := by unfold itemsP; rw [ih]
      unfold listP
      rw [show gapL s = 91 :: (preN false m ++ x) by rw [e]; exact gapL_of (by decide), h2]
      rfl
    · obtain ⟨s, hs⟩ : ∃ s, s = preN true (m + 1) ++ x := ⟨_, rfl⟩
      rw [← hs] at ih ⊢
      show headP (gapL (123 :: (34 :: 97 :: 34 :: 58 :: s))) _ _ = _
      rw [gapL_of (by decide)]
      show rdMap _ (mapP (valP m) (34 :: 97 :: 34 :: 58 :: s)) = _
      have h2 : ∀ f, pairsP (valP m) (f + 1) [] (34 :: 97 :: 34 :: 58 :: s) = .error 9 := fun f => by
        unfold pairsP
        rw [gapL_of (by decide)]
        have et : txtP ((97 :: 34 :: 58 :: s).length + 1) (97 :: 34 :: 58 :: s) = .ok ([97], 58 :: s) := by
          have := txtP_quoI [97] ((97 :: 34 :: 58 :: s).length + 1) (58 :: s) (fun c hc => by simp at hc; omega) (by simp)
          exact this
        simp only [et]
        rw [if_neg (by simp), gapL_of (by decide)]
        simp only [ih]
      unfold mapP
      rw [gapL_of (by decide), h2]
      rfl
/-- A value: so many lists in one another, null within, told so deep. -/
def deepT (named : Bool) : (m n : Nat) → J (m + 1)
  | m, 0 => (⟨0, 0, [], [], []⟩ : JN (J m))
  | 0, _ + 1 => (⟨if named then 5 else 4, 0, [], if named then [[97]] else [], [()]⟩ : JN (J 0))
  | m + 1, n + 1 => (⟨if named then 5 else 4, 0, [], if named then [[97]] else [], [deepT named m n]⟩ : JN (J (m + 1)))
theorem deepT_is (named : Bool) : ∀ (m n d : Nat), n ≤ d → n ≤ m → IsJ (m + 1) d (deepT named m n)
  | m, 0, d, _, _ => by
    have : IsJ (m + 1) d (⟨0, 0, [], [], []⟩ : JN (J m)) := isJ_of ⟨⟨by decide, by decide, fun _ => by decide⟩, fun _ => rfl, fun _ => rfl, fun _ _ => rfl, fun h => absurd h (by decide), fun h => absurd h (by decide), fun _ _ => ⟨rfl, fun _ => rfl, ⟨rfl, fun i hi => absurd hi (by simp)⟩, fun k hk => by cases hk⟩⟩
    cases m <;> exact this
  | 0, n + 1, _, _, h => absurd h (by omega)
  | m + 1, n + 1, d, hd, hm => by
    have ih := deepT_is named m n (d - 1) (by omega) (by omega)
    cases named
    · exact isJ_of (ki := 4) ⟨⟨by decide, by decide, fun e => by omega⟩, fun _ => rfl, fun _ => rfl, fun _ h => absurd rfl h, fun h => absurd h (by decide), fun h => absurd h (by decide), fun _ _ => ⟨rfl, fun h => absurd h (by decide), ⟨rfl, fun i hi => absurd hi (by simp)⟩, fun k hk => by rw [List.mem_singleton.1 hk]; exact ih⟩⟩
    · exact isJ_of (ki := 5) ⟨⟨by decide, by decide, fun e => by omega⟩, fun _ => rfl, fun h => absurd rfl h, fun h => absurd rfl h, fun h => absurd h (by decide), fun h => absurd h (by decide), fun _ _ => ⟨rfl, fun _ => rfl, ⟨rfl, fun i hi => by
        have : i = 0 := by simpa using hi
        subst this
        exact ⟨by decide, fun l hl => absurd hl (by omega)⟩⟩, fun k hk => by rw [List.mem_singleton.1 hk]; exact ih⟩⟩
theorem deepT_not (named : Bool) : ∀ (m n d : Nat), d < n → d ≤ m → ¬ IsJ (m + 1) d (deepT named m n)
  | m, 0, d, h, _ => absurd h (by omega)
  | 0, n + 1, d, h, hm => fun hi => by
    obtain rfl : d = 0 := by omega
    have := (isJ_parts hi).1.2.2 rfl
    revert this
    cases named <;> decide
  | m + 1, n + 1, d, h, hm => fun hi => by
    have hp := isJ_parts hi
    by_cases h0 : d = 0
    · have := hp.1.2.2 h0
      revert this
      cases named <;> decide
    · have := (hp.2.2.2.2.2.2 (by cases named <;> decide) (by cases named <;> decide)).2.2.2 (deepT named m n) (by simp)
      exact deepT_not named m n (d - 1) (by omega) (by omega) this
theorem deepT_write (named : Bool) : ∀ (m n : Nat), n ≤ m → writeJ (m + 1) (deepT named m n) = preN named n ++ [110, 117, 108, 108] ++ endN named n
  | m, 0, _ => by cases m <;> rfl
  | 0, n + 1, h => absurd h (by omega)
  | m + 1, n + 1, h => by
    have ih := deepT_write named m n (by omega)
    have e : endN named (n + 1) = endN named n ++ end1 named := rfl
    rw [preN_cons, e]
    cases named
    · show writeJ (m + 2) (⟨4, 0, [], [], [deepT false m n]⟩ : JN (J (m + 1))) = _
      rw [writeJ_list]
      show 91 :: (writeJ (m + 1) (deepT false m n) ++ [93]) = _
      rw [ih]
      simp [pre1, end1]
    · show writeJ (m + 2) (⟨5, 0, [], [[97]], [deepT true m n]⟩ : JN (J (m + 1))) = _
      rw [writeJ_map _ _ _ _ _ rfl]
      show 123 :: ((quoT [97] ++ [58] ++ writeJ (m + 1) (deepT true m n)) ++ [125]) = _
      rw [ih]
      simp [pre1, end1, quoT, quoI, quoC]
/-- Six are read, the seventh is too deep. -/
theorem readL_deep (named : Bool) (n : Nat) (h : n ≤ 6) : readL (preN named n ++ [110, 117, 108, 108] ++ endN named n) = .ok (deepT named 6 n) := by
  rw [← deepT_write named 6 n h]
  exact readL_back _ (deepT_is named 6 n 6 h h)
theorem preN_add (named : Bool) (a : Nat) : ∀ b, preN named (a + b) = preN named a ++ preN named b
  | 0 => by simp [preN]
  | b + 1 => by
    show preN named (a + b) ++ pre1 named = _
    rw [preN_add named a b]
    show _ = preN named a ++ (preN named b ++ pre1 named)
    rw [List.append_assoc]
theorem readL_too (named : Bool) (n : Nat) (h : 6 < n) : readL (preN named n ++ [110, 117, 108, 108] ++ endN named n) = .error 9 := by
  obtain ⟨b, rfl⟩ : ∃ b, n = 7 + b := ⟨n - 7, by omega⟩
  rw [preN_add, List.append_assoc, List.append_assoc]
  unfold readL
  rw [valP_too named 6]
end Go.Proofs.YtljgnpneeecafaaDoor
set_option linter.unusedVariables false
namespace Go.Proofs.YtljgnpneeecafaaDoor
open Go.RowKit Go.Sort Go.BigFrame
set_option maxRecDepth 100000
set_option maxHeartbeats 2000000
theorem quoI_six : ∀ l : List Nat, (quoI l).length ≤ 6 * l.length
  | [] => Nat.le_refl _
  | c :: l => by
    show (quoC c ++ quoI l).length ≤ _
    have := quoI_six l
    have := quoC_len c
    simp; omega
theorem quoT_six {l : List Nat} (h : l.length ≤ 50) : (quoT l).length ≤ 302 := by
  have := quoI_six l
  unfold quoT
  simp; omega
theorem accW_le {f : Nat → List Nat} {C : Nat} : ∀ k, (∀ i, i < k → (f i).length ≤ C) → (accW f k).length ≤ k * (C + 1)
  | 0, _ => by simp [accW]
  | k + 1, h => by
    have h1 := accW_le k (fun i hi => h i (by omega))
    have h2 := h k (by omega)
    have h3 := accW_len f k
    rw [Nat.succ_mul]
    split at h3 <;> omega
def capW : Nat → Nat
  | 0 => 0
  | n + 1 => 5 * (capW n + 304) + 400
theorem getD_le {α : Type} {l : List (List α)} {C : Nat} (h : ∀ x ∈ l, x.length ≤ C) (i : Nat) : (l.getD i []).length ≤ C := by
  by_cases hi : i < l.length
  · rw [show l.getD i [] = l[i]'hi by simp [hi]]; exact h _ (List.getElem_mem hi)
  · rw [show l.getD i [] = [] by simp [hi]]; simp
theorem writeJ_cap : ∀ (n : Nat) (j : J n), (writeJ n (cutJ n j)).length ≤ capW n
  | 0, _ => Nat.zero_le _
  | n + 1, j => by
    obtain ⟨ks, hks⟩ : ∃ ks, ks = (if n = 0 then [] else ((JN.kids j).take 5).map (cutJ n)) := ⟨_, rfl⟩
    have e : cutJ (n + 1) j = (⟨JN.kind j, JN.num j, (JN.text j).take 50, ((JN.names j).take 5).map (fun x => x.take 50), ks⟩ : JN (J n)) := by rw [hks]; rfl
    have hk5 : ks.length ≤ 5 := by rw [hks]; split <;> simp; omega
    have hkl : ∀ x ∈ ks.map (writeJ n), x.length ≤ capW n := fun x hx => by
      obtain ⟨k, hk, rfl⟩ := List.mem_map.1 hx
      rw [hks] at hk
      split at hk
      · cases hk
      · obtain ⟨k', _, rfl⟩ := List.mem_map.1 hk
        exact writeJ_cap n k'
    have hnl : ∀ x ∈ ((JN.names j).take 5).map (fun x => x.take 50), x.length ≤ 50 := fun x hx => by
      obtain ⟨y, _, rfl⟩ := List.mem_map.1 hx
      simp; omega
    obtain ⟨NS, hNS⟩ : ∃ NS, NS = ((JN.names j).take 5).map (fun x => x.take 50) := ⟨_, rfl⟩
    rw [e]
    rw [← hNS] at hnl ⊢
    have hc : capW (n + 1) = 5 * (capW n + 304) + 400 := rfl
    have hmul : ∀ C, C + 1 ≤ capW n + 304 → ks.length * (C + 1) ≤ 5 * (capW n + 304) := fun C h => Nat.mul_le_mul hk5 h
    show (if JN.kind j = 1 then (if JN.num j = 1 then [116, 114, 117, 101] else [102, 97, 108, 115, 101])
      else if JN.kind j = 2 then digT (JN.num j)
      else if JN.kind j = 3 then quoT ((JN.text j).take 50)
      else if JN.kind j = 4 then 91 :: (accW (fun i => (ks.map (writeJ n)).getD i []) ks.length ++ [93])
      else if JN.kind j = 5 then 123 :: (accW (fun i => quoT (NS.getD i []) ++ [58] ++ (ks.map (writeJ n)).getD i []) ks.length ++ [125])
      else [110, 117, 108, 108]).length ≤ _
    split
    · split <;> simp <;> omega
    · split
      · unfold digT
        split
        · have := digN_len (-JN.num j).toNat
          simp; omega
        · have := digN_len (JN.num j).toNat
          omega
      · split
        · have := quoT_six (l := (JN.text j).take 50) (by simp; omega)
          omega
        · split
          · have := accW_le (f := fun i => (ks.map (writeJ n)).getD i []) (C := capW n) ks.length (fun i _ => getD_le hkl i)
            have := hmul (capW n) (by omega)
            simp only [List.length_cons, List.length_append, List.length_nil]
            omega
          · split
            · have := accW_le (f := fun i => quoT (NS.getD i []) ++ [58] ++ (ks.map (writeJ n)).getD i []) (C := 303 + capW n) ks.length (fun i _ => by
                have h1 := quoT_six (getD_le hnl i)
                have h2 := getD_le hkl i
                simp only [List.length_cons, List.length_append, List.length_nil]
                omega)
              have := hmul (303 + capW n) (by omega)
              simp only [List.length_cons, List.length_append, List.length_nil]
              omega
            · simp; omega
theorem writeJ_small (j : J 8) : (writeJ 8 (cutJ 8 j)).length ≤ 100000000000000 := Nat.le_trans (writeJ_cap 8 j) (by decide)
end Go.Proofs.YtljgnpneeecafaaDoor
set_option linter.unusedVariables false
namespace Go.Proofs
open Go.Shelf
def Tryd.lays169_ren : Go.Shelf.Ren := ⟨fun | 169 => 16 | n => n, fun | 70 => 40 | 9 => 9 | 0 => 0 | 72 => 43 | 37 => 41 | 127 => 63 | 3 => 3 | 5 => 5 | n => n, fun | n => n⟩
theorem Tryd.lays169 : Go.Proofs.Lays.n169 Tryd.prog Tryd.lays169_ren := {
  mixed := by kernel_rfl
  f169 := Tryd.func16.trans (congrArg some (by kernel_rfl))
  t0 := Tryd.underlying0
  a0 := Tryd.isAgg0
  z0 := Tryd.sizeOf0
  v0 := Tryd.zeroValue0
  t3 := Tryd.underlying3
  a3 := Tryd.isAgg3
  z3 := Tryd.sizeOf3
  v3 := Tryd.zeroValue3
  t9 := Tryd.underlying9
  a9 := Tryd.isAgg9
  z9 := Tryd.sizeOf9
  v9 := Tryd.zeroValue9
  t37 := Tryd.underlying41
  a37 := Tryd.isAgg41
  z37 := Tryd.sizeOf41
  v37 := Tryd.zeroValue41
  t70 := Tryd.underlying40
  a70 := Tryd.isAgg40
  z70 := Tryd.sizeOf40
  v70 := Tryd.zeroValue40
  t72 := Tryd.underlying43
  a72 := Tryd.isAgg43
  z72 := Tryd.sizeOf43
  v72 := Tryd.zeroValue43
  t127 := Tryd.underlying63
  a127 := Tryd.isAgg63
  z127 := Tryd.sizeOf63
  v127 := Tryd.zeroValue63 }
theorem Tryd.Builder_Extra_169 : Builder.Extra Tryd.prog Tryd.lays169_ren := {
  sizeBuilder := by kernel_rfl
  liesBuilder := by kernel_rfl
  t5 := Tryd.underlying5
  a5 := Tryd.isAgg5
  z5 := Tryd.sizeOf5
  v5 := Tryd.zeroValue5
  infoByte := by kernel_rfl
  cellsByte := by kernel_rfl
  sizeByte := by kernel_rfl
  neB5 := by decide }
open Go.RowKit in
/-- (*strings.Builder).String: "String returns the accumulated string.": WHATEVER THE BUILDER HOLDS; THE FORM '_k': OVER 'Lib.IsBuilderF' (a builder that 'String()' may have read), AND WITH THE FRAME THAT REACHES ABOVE THE BUILDER: 'Lib.OthersKept': every block that is not b and is no row of uint8's stands as it stood: the iterator of a range among them. (LAID: no walk: one application.) -/
theorem Tryd.Builder_String_any_k (B b : Nat) (l : List UInt8) (w : World) (h : Lib.IsBuilderF 43 5 B b (Lib.byteCells l) w) (hBw : B ≤ w.heap.size) :
    Calls Tryd.prog 16 #[.pointer (some ⟨b, 0, none⟩)] w fun e w' => e = .returned (.string ⟨l.toArray⟩) ∧ (Lib.IsBuilderF 43 5 B b (Lib.byteCells l) w' ∧ Below B w w' ∧ Lib.OthersKept 5 (some b) w w') := Any.Builder_String_any_k Tryd.lays169 Tryd.Builder_Extra_169 B b l w h hBw
def Tryd.lays161_ren : Go.Shelf.Ren := ⟨fun | 161 => 53 | 231 => 60 | 227 => 61 | 233 => 62 | 235 => 63 | 228 => 70 | 197 => 71 | 151 => 72 | 260 => 79 | 152 => 80 | 137 => 68 | 119 => 87 | 224 => 88 | 225 => 89 | 217 => 78 | 266 => 86 | n => n, fun | 9 => 9 | 4 => 4 | 3 => 3 | 5 => 5 | 117 => 94 | 116 => 93 | 0 => 0 | 124 => 97 | 105 => 104 | 21 => 21 | 119 => 122 | 46 => 120 | 139 => 125 | 138 => 124 | n => n, fun | 3 => 1 | 4 => 2 | n => n⟩
theorem Tryd.lays161 : Go.Proofs.Lays.n161 Tryd.prog Tryd.lays161_ren := {
  mixed := by kernel_rfl
  f119 := Tryd.func87.trans (congrArg some (by kernel_rfl))
  f137 := Tryd.func68.trans (congrArg some (by kernel_rfl))
  f151 := Tryd.func72.trans (congrArg some (by kernel_rfl))
  f152 := Tryd.func80.trans (congrArg some (by kernel_rfl))
  f161 := Tryd.func53.trans (congrArg some (by kernel_rfl))
  f197 := Tryd.func71.trans (congrArg some (by kernel_rfl))
  f217 := Tryd.func78.trans (congrArg some (by kernel_rfl))
  f224 := Tryd.func88.trans (congrArg some (by kernel_rfl))
  f225 := Tryd.func89.trans (congrArg some (by kernel_rfl))
  f227 := Tryd.func61.trans (congrArg some (by kernel_rfl))
  f228 := Tryd.func70.trans (congrArg some (by kernel_rfl))
  f231 := Tryd.func60.trans (congrArg some (by kernel_rfl))
  f233 := Tryd.func62.trans (congrArg some (by kernel_rfl))
  f235 := Tryd.func63.trans (congrArg some (by kernel_rfl))
  f260 := Tryd.func79.trans (congrArg some (by kernel_rfl))
  f266 := Tryd.func86.trans (congrArg some (by kernel_rfl))
  t0 := Tryd.underlying0
  a0 := Tryd.isAgg0
  z0 := Tryd.sizeOf0
  v0 := Tryd.zeroValue0
  t3 := Tryd.underlying3
  a3 := Tryd.isAgg3
  z3 := Tryd.sizeOf3
  v3 := Tryd.zeroValue3
  t4 := Tryd.underlying4
  a4 := Tryd.isAgg4
  z4 := Tryd.sizeOf4
  v4 := Tryd.zeroValue4
  t5 := Tryd.underlying5
  a5 := Tryd.isAgg5
  z5 := Tryd.sizeOf5
  v5 := Tryd.zeroValue5
  t9 := Tryd.underlying9
  a9 := Tryd.isAgg9
  z9 := Tryd.sizeOf9
  v9 := Tryd.zeroValue9
  t21 := Tryd.underlying21
  a21 := Tryd.isAgg21
  z21 := Tryd.sizeOf21
  v21 := Tryd.zeroValue21
  t46 := Tryd.underlying120
  a46 := Tryd.isAgg120
  z46 := Tryd.sizeOf120
  v46 := Tryd.zeroValue120
  t105 := Tryd.underlying104
  a105 := Tryd.isAgg104
  z105 := Tryd.sizeOf104
  v105 := Tryd.zeroValue104
  t116 := Tryd.underlying93
  a116 := Tryd.isAgg93
  z116 := Tryd.sizeOf93
  t117 := Tryd.underlying94
  a117 := Tryd.isAgg94
  z117 := Tryd.sizeOf94
  v117 := Tryd.zeroValue94
  t119 := Tryd.underlying122
  a119 := Tryd.isAgg122
  z119 := Tryd.sizeOf122
  t124 := Tryd.underlying97
  a124 := Tryd.isAgg97
  z124 := Tryd.sizeOf97
  v124 := Tryd.zeroValue97
  t138 := Tryd.underlying124
  a138 := Tryd.isAgg124
  z138 := Tryd.sizeOf124
  v138 := Tryd.zeroValue124
  t139 := Tryd.underlying125
  a139 := Tryd.isAgg125
  z139 := Tryd.sizeOf125
  v139 := Tryd.zeroValue125
  g3 := by kernel_rfl
  g4 := by kernel_rfl }
def Tryd.lays137_ren : Go.Shelf.Ren := ⟨fun | 137 => 68 | 217 => 78 | 266 => 86 | n => n, fun | 9 => 9 | 5 => 5 | 3 => 3 | n => n, fun | n => n⟩
theorem Tryd.lays137 : Go.Proofs.Lays.n137 Tryd.prog Tryd.lays137_ren := {
  mixed := by kernel_rfl
  f137 := Tryd.func68.trans (congrArg some (by kernel_rfl))
  f217 := Tryd.func78.trans (congrArg some (by kernel_rfl))
  f266 := Tryd.func86.trans (congrArg some (by kernel_rfl))
  t3 := Tryd.underlying3
  a3 := Tryd.isAgg3
  z3 := Tryd.sizeOf3
  v3 := Tryd.zeroValue3
  t5 := Tryd.underlying5
  a5 := Tryd.isAgg5
  z5 := Tryd.sizeOf5
  v5 := Tryd.zeroValue5
  t9 := Tryd.underlying9
  a9 := Tryd.isAgg9
  z9 := Tryd.sizeOf9
  v9 := Tryd.zeroValue9 }
open Go.RowKit in
/-- strings.IndexByte: "IndexByte returns the index of the first instance of c in s, or -1 if c is not present in s.": IT RETURNS 'Lib.indexByte s c'; the world is as it was. (LAID: no walk: one application.) -/
theorem Tryd.strings_IndexByte (s : ByteArray) (c : Int) (w : World) :
    Calls Tryd.prog 68 #[.string s, .int .u8 c] w fun e w' => e = .returned (.int .i64 (Lib.indexByte s.data.toList c.toNat.toUInt8)) ∧ w' = w := Any.strings_IndexByte Tryd.lays137 s c w
def Tryd.lays103_ren : Go.Shelf.Ren := ⟨fun | 103 => 56 | 210 => 66 | 206 => 77 | n => n, fun | 9 => 9 | 4 => 4 | 24 => 77 | 3 => 3 | n => n, fun | n => n⟩
theorem Tryd.lays103 : Go.Proofs.Lays.n103 Tryd.prog Tryd.lays103_ren := {
  mixed := by kernel_rfl
  f103 := Tryd.func56.trans (congrArg some (by kernel_rfl))
  f206 := Tryd.func77.trans (congrArg some (by kernel_rfl))
  f210 := Tryd.func66.trans (congrArg some (by kernel_rfl))
  t3 := Tryd.underlying3
  a3 := Tryd.isAgg3
  z3 := Tryd.sizeOf3
  v3 := Tryd.zeroValue3
  t4 := Tryd.underlying4
  a4 := Tryd.isAgg4
  z4 := Tryd.sizeOf4
  v4 := Tryd.zeroValue4
  t9 := Tryd.underlying9
  a9 := Tryd.isAgg9
  z9 := Tryd.sizeOf9
  v9 := Tryd.zeroValue9
  t24 := Tryd.underlying77
  a24 := Tryd.isAgg77
  z24 := Tryd.sizeOf77
  v24 := Tryd.zeroValue77 }
open Go.RowKit in
/-- strings.CutPrefix: "CutPrefix returns s without the provided leading prefix string and reports whether it found the prefix. If s doesn't start with prefix, CutPrefix returns s, false. If prefix is the empty string, CutPrefix returns s, true.": IT RETURNS '(Lib.trimPrefix s p, Lib.hasPrefix s p)'; the world is as it was. (LAID: no walk: one application.) -/
theorem Tryd.strings_CutPrefix (s p : ByteArray) (w : World) :
    Calls Tryd.prog 56 #[.string s, .string p] w fun e w' => e = .returned (.tuple #[.string ⟨(Lib.trimPrefix s.data.toList p.data.toList).toArray⟩, .bool (Lib.hasPrefix s.data.toList p.data.toList)]) ∧ w' = w := Any.strings_CutPrefix Tryd.lays103 s p w
def Tryd.laysM171_ren : Go.Shelf.Ren := ⟨fun | 171 => 39 | 243 => 55 | 246 => 65 | 283 => 73 | 284 => 74 | 285 => 75 | 286 => 76 | 129 => 82 | 317 => 81 | 318 => 83 | 319 => 84 | 320 => 85 | 337 => 90 | 338 => 91 | n => n, fun | 3 => 3 | 9 => 9 | 2 => 2 | 4 => 4 | 171 => 107 | 0 => 0 | 53 => 108 | 37 => 41 | 5 => 5 | 173 => 111 | 212 => 117 | 51 => 118 | 20 => 20 | 213 => 119 | 46 => 120 | 232 => 129 | 233 => 130 | n => n, fun | 17 => 0 | 18 => 4 | 19 => 5 | n => n⟩
theorem Tryd.laysM171 : Go.Proofs.LaysM.n171 Tryd.prog Tryd.laysM171_ren := {
  mixed := by kernel_rfl
  f129 := Tryd.func82.trans (congrArg some (by kernel_rfl))
  f171 := Tryd.func39.trans (congrArg some (by kernel_rfl))
  f243 := Tryd.func55.trans (congrArg some (by kernel_rfl))
  f246 := Tryd.func65.trans (congrArg some (by kernel_rfl))
  f283 := Tryd.func73.trans (congrArg some (by kernel_rfl))
  f284 := Tryd.func74.trans (congrArg some (by kernel_rfl))
  f285 := Tryd.func75.trans (congrArg some (by kernel_rfl))
  f286 := Tryd.func76.trans (congrArg some (by kernel_rfl))
  f317 := Tryd.func81.trans (congrArg some (by kernel_rfl))
  f318 := Tryd.func83.trans (congrArg some (by kernel_rfl))
  f319 := Tryd.func84.trans (congrArg some (by kernel_rfl))
  f320 := Tryd.func85.trans (congrArg some (by kernel_rfl))
  f337 := Tryd.func90.trans (congrArg some (by kernel_rfl))
  f338 := Tryd.func91.trans (congrArg some (by kernel_rfl))
  t0 := Tryd.underlying0
  a0 := Tryd.isAgg0
  z0 := Tryd.sizeOf0
  v0 := Tryd.zeroValue0
  t2 := Tryd.underlying2
  a2 := Tryd.isAgg2
  z2 := Tryd.sizeOf2
  v2 := Tryd.zeroValue2
  t3 := Tryd.underlying3
  a3 := Tryd.isAgg3
  z3 := Tryd.sizeOf3
  v3 := Tryd.zeroValue3
  t4 := Tryd.underlying4
  a4 := Tryd.isAgg4
  z4 := Tryd.sizeOf4
  v4 := Tryd.zeroValue4
  t5 := Tryd.underlying5
  a5 := Tryd.isAgg5
  z5 := Tryd.sizeOf5
  v5 := Tryd.zeroValue5
  t9 := Tryd.underlying9
  a9 := Tryd.isAgg9
  z9 := Tryd.sizeOf9
  v9 := Tryd.zeroValue9
  t20 := Tryd.underlying20
  a20 := Tryd.isAgg20
  z20 := Tryd.sizeOf20
  v20 := Tryd.zeroValue20
  t37 := Tryd.underlying41
  a37 := Tryd.isAgg41
  z37 := Tryd.sizeOf41
  v37 := Tryd.zeroValue41
  t46 := Tryd.underlying120
  a46 := Tryd.isAgg120
  z46 := Tryd.sizeOf120
  v46 := Tryd.zeroValue120
  t51 := Tryd.underlying118
  a51 := Tryd.isAgg118
  z51 := Tryd.sizeOf118
  v51 := Tryd.zeroValue118
  t53 := Tryd.underlying108
  a53 := Tryd.isAgg108
  z53 := Tryd.sizeOf108
  v53 := Tryd.zeroValue108
  t171 := Tryd.underlying107
  a171 := Tryd.isAgg107
  z171 := Tryd.sizeOf107
  v171 := Tryd.zeroValue107
  t173 := Tryd.underlying111
  a173 := Tryd.isAgg111
  z173 := Tryd.sizeOf111
  v173 := Tryd.zeroValue111
  t212 := Tryd.underlying117
  a212 := Tryd.isAgg117
  z212 := Tryd.sizeOf117
  v212 := Tryd.zeroValue117
  t213 := Tryd.underlying119
  a213 := Tryd.isAgg119
  z213 := Tryd.sizeOf119
  t232 := Tryd.underlying129
  a232 := Tryd.isAgg129
  z232 := Tryd.sizeOf129
  v232 := Tryd.zeroValue129
  t233 := Tryd.underlying130
  a233 := Tryd.isAgg130
  z233 := Tryd.sizeOf130
  v233 := Tryd.zeroValue130
  g17 := by kernel_rfl
  g18 := by kernel_rfl
  g19 := by kernel_rfl
  i0 := by kernel_rfl
  i2 := by kernel_rfl
  i3 := by kernel_rfl
  i4 := by kernel_rfl
  i5 := by kernel_rfl
  i9 := by kernel_rfl
  i20 := by kernel_rfl
  i37 := by kernel_rfl
  i46 := by kernel_rfl
  i51 := by kernel_rfl
  i53 := by kernel_rfl
  i171 := by kernel_rfl
  i173 := by kernel_rfl
  i212 := by kernel_rfl
  i232 := by kernel_rfl
  i233 := by kernel_rfl
  m17 := by kernel_rfl
  m18 := by kernel_rfl
  m19 := by kernel_rfl }
open Go.RowKit Go.Sort Go.Lib in
/-- strconv.Itoa: "Itoa is equivalent to FormatInt(int64(i), 10).": i's DECIMAL NUMERAL ('Lib.itoa': a '-' where i is negative, then the digits), FOR EVERY int. The world behind the call: the world before it, new blocks behind the heap (the library's 'var a [24]byte'), draws. (LAID: no walk: one application.) -/
theorem Tryd.strconv_Itoa (n : Int) (h0 : -9223372036854775808 ≤ n) (h1 : n ≤ 9223372036854775807) (w : World) (htab : Lib.TabIs Tryd.prog w "internal/strconv.uint64pow10" .u64 Lib.pow10Tab) :
    Calls Tryd.prog 39 #[.int .i64 n] w fun e w' => e = .returned (.string ⟨(Lib.itoa n).toArray⟩) ∧ ∃ k os, w' = grow (w.drewN k) os := Any.strconv_Itoa Tryd.laysM171 n h0 h1 w htab
def Tryd.lays110_ren : Go.Shelf.Ren := ⟨fun | 110 => 59 | 109 => 69 | n => n, fun | 31 => 22 | 9 => 9 | 4 => 4 | 3 => 3 | 0 => 0 | n => n, fun | n => n⟩
theorem Tryd.lays110 : Go.Proofs.Lays.n110 Tryd.prog Tryd.lays110_ren := {
  mixed := by kernel_rfl
  f109 := Tryd.func69.trans (congrArg some (by kernel_rfl))
  f110 := Tryd.func59.trans (congrArg some (by kernel_rfl))
  t0 := Tryd.underlying0
  a0 := Tryd.isAgg0
  z0 := Tryd.sizeOf0
  v0 := Tryd.zeroValue0
  t3 := Tryd.underlying3
  a3 := Tryd.isAgg3
  z3 := Tryd.sizeOf3
  v3 := Tryd.zeroValue3
  t4 := Tryd.underlying4
  a4 := Tryd.isAgg4
  z4 := Tryd.sizeOf4
  v4 := Tryd.zeroValue4
  t9 := Tryd.underlying9
  a9 := Tryd.isAgg9
  z9 := Tryd.sizeOf9
  v9 := Tryd.zeroValue9
  t31 := Tryd.underlying22
  a31 := Tryd.isAgg22
  z31 := Tryd.sizeOf22
  v31 := Tryd.zeroValue22 }
open Go.Lib in
/-- slices.Contains at []string: "Contains reports whether v is present in s.": IT RETURNS 'Lib.containsS (the elements) v', which is true just where v is among them ('Lib.containsS_iff'); the world is as it was. ITS CALLEE slices.Index IS MET BY ITS OWN CONTRACT OFF THE SHELF (lay that first): no loop is walked here. (LAID: no walk: one application.) -/
theorem Tryd.slices_Contains_string (b off n c : Nat) (zs : List ByteArray) (x : ByteArray) (w : World) (hz : n ≤ zs.length) (hbig : n ≤ 9223372036854775807) (hc : ∀ j, j < zs.length → w.cell? ⟨b, off + j, none⟩ = some (.string (zs.getD j ByteArray.empty))) :
    Calls Tryd.prog 59 #[.slice (some ⟨b, off, none⟩) n c, .string x] w fun e w' => e = .returned (.bool (Lib.containsS (zs.take n) x)) ∧ w' = w := Any.slices_Contains_string Tryd.lays110 b off n c zs x w hz hbig hc
open Go.Lib in
/-- The same at a slice of length 0, a nil one too. (LAID: no walk: one application.) -/
theorem Tryd.slices_Contains_string_empty (a : Option Addr) (c : Nat) (x : ByteArray) (w : World) :
    Calls Tryd.prog 59 #[.slice a 0 c, .string x] w fun e w' => e = .returned (.bool false) ∧ w' = w := Any.slices_Contains_string_empty Tryd.lays110 a c x w
def Tryd.lays167_ren : Go.Shelf.Ren := ⟨fun | 167 => 58 | 240 => 54 | 276 => 64 | n => n, fun | 70 => 40 | 0 => 0 | 4 => 4 | 9 => 9 | 20 => 20 | 72 => 43 | 37 => 41 | 164 => 98 | 5 => 5 | 75 => 70 | 80 => 49 | n => n, fun | n => n⟩
theorem Tryd.lays167 : Go.Proofs.Lays.n167 Tryd.prog Tryd.lays167_ren := {
  mixed := by kernel_rfl
  f240 := Tryd.func54.trans (congrArg some (by kernel_rfl))
  f276 := Tryd.func64.trans (congrArg some (by kernel_rfl))
  t0 := Tryd.underlying0
  a0 := Tryd.isAgg0
  z0 := Tryd.sizeOf0
  v0 := Tryd.zeroValue0
  t4 := Tryd.underlying4
  a4 := Tryd.isAgg4
  z4 := Tryd.sizeOf4
  v4 := Tryd.zeroValue4
  t9 := Tryd.underlying9
  a9 := Tryd.isAgg9
  z9 := Tryd.sizeOf9
  v9 := Tryd.zeroValue9
  t20 := Tryd.underlying20
  a20 := Tryd.isAgg20
  z20 := Tryd.sizeOf20
  v20 := Tryd.zeroValue20
  t37 := Tryd.underlying41
  a37 := Tryd.isAgg41
  z37 := Tryd.sizeOf41
  v37 := Tryd.zeroValue41
  t70 := Tryd.underlying40
  a70 := Tryd.isAgg40
  z70 := Tryd.sizeOf40
  v70 := Tryd.zeroValue40
  t72 := Tryd.underlying43
  a72 := Tryd.isAgg43
  z72 := Tryd.sizeOf43
  v72 := Tryd.zeroValue43
  t164 := Tryd.underlying98
  a164 := Tryd.isAgg98
  z164 := Tryd.sizeOf98
  v164 := Tryd.zeroValue98
  f167 := Tryd.func58.trans (congrArg some (by kernel_rfl))
  t5 := Tryd.underlying5
  a5 := Tryd.isAgg5
  z5 := Tryd.sizeOf5
  v5 := Tryd.zeroValue5
  t75 := Tryd.underlying70
  a75 := Tryd.isAgg70
  z75 := Tryd.sizeOf70
  v75 := Tryd.zeroValue70 }
theorem Tryd.Builder_Extra_167 : Builder.Extra Tryd.prog Tryd.lays167_ren := {
  sizeBuilder := by kernel_rfl
  liesBuilder := by kernel_rfl
  t5 := Tryd.underlying5
  a5 := Tryd.isAgg5
  z5 := Tryd.sizeOf5
  v5 := Tryd.zeroValue5
  infoByte := by kernel_rfl
  cellsByte := by kernel_rfl
  sizeByte := by kernel_rfl
  neB5 := by decide }
open Go.RowKit in
theorem Tryd.Builder_WriteByte_k (B b : Nat) (bs : List Value) (c : Int) (w : World) (h : Lib.IsBuilderF 43 5 B b bs w) (hlen : bs.length + 1 ≤ 140737488355328) (hBw : B ≤ w.heap.size) :
    Calls Tryd.prog 58 #[.pointer (some ⟨b, 0, none⟩), .int .u8 c] w fun e w' => e = .returned .nilIface ∧ (Lib.BuilderAtF 43 5 B b (.pointer (some ⟨b, 0, none⟩)) (bs ++ [.int .u8 c]) w' ∧ Below B w w' ∧ Lib.OthersKept 5 (some b) w w') := Any.Builder_WriteByte_k Tryd.lays167 Tryd.Builder_Extra_167 B b bs c w h hlen hBw
end Go.Proofs
set_option linter.unusedVariables false
namespace Go.Proofs.YtljgnpneeecafaaDoor
open Go.RowKit Go.Sort Go.BigFrame
set_option maxRecDepth 100000
set_option maxHeartbeats 2000000
/-- A writer in block g: what it has put together, how many lists and maps stand around. -/
def WrAt (lo g : Nat) (bs : List Nat) (ar : Nat) (p : Value) (w : World) : Prop :=
  lo ≤ g ∧ ∃ v, w.heap[g]? = some (.cells #[p, v, .int .i64 (ar : Int)] 47 (0, 0)) ∧ w.ownsRow lo 5 1 v bs.length (bv bs)
/-- Nothing old has changed, but for the writer's own. -/
def Fw (lo g : Nat) (w w' : World) : Prop := Below lo w w' ∧ Lib.OthersKept 5 (some g) w w'
theorem Fw.refl (lo g : Nat) (w : World) : Fw lo g w w := ⟨Below.refl _ _, Lib.OthersKept.refl _ _ _⟩
theorem Fw.trans {lo g : Nat} {a b c : World} (h : Fw lo g a b) (h' : Fw lo g b c) : Fw lo g a c := ⟨h.1.trans h'.1, h.2.trans h'.2⟩
theorem others_new {e : TypeId} {b : Option Nat} {w w' : World} (h : Below w.heap.size w w') : Lib.OthersKept e b w w' := fun k o hk _ _ => block_below h (lt_of_heap hk) hk
theorem Fw.new {lo g : Nat} {w w' : World} (h : Below w.heap.size w w') (hl : lo ≤ w.heap.size) : Fw lo g w w' := ⟨h.mono hl, others_new h⟩
theorem Fw.size {lo g : Nat} {w w' : World} (h : Fw lo g w w') : w.heap.size ≤ w'.heap.size := h.1.size
/-- A block of no bytes stays. -/
theorem Fw.block {lo g k t : Nat} {w w' : World} {cs : Array Value} {fz : Nat × Nat} (h : Fw lo g w w') (hk : w.heap[k]? = some (.cells cs t fz)) (hkg : k ≠ g) (ht : t ≠ 5) : w'.heap[k]? = some (.cells cs t fz) :=
  h.2 k _ hk (fun e => hkg (Option.some.inj e)) (fun c f e => by injection e with _ e2 _; exact ht e2)
theorem WrAt.new {lo g : Nat} {bs : List Nat} {ar : Nat} {p : Value} {w w' : World} (h : WrAt lo g bs ar p w) (hb : Below w.heap.size w w') : WrAt lo g bs ar p w' := by
  obtain ⟨h1, v, h2, h3⟩ := h
  exact ⟨h1, v, block_below hb (lt_of_heap h2) h2, own_on h3 hb⟩
theorem WrAt.lt {lo g : Nat} {bs : List Nat} {ar : Nat} {p : Value} {w : World} (h : WrAt lo g bs ar p w) : g < w.heap.size := by
  obtain ⟨_, v, h2, _⟩ := h; exact lt_of_heap h2
theorem own_ne {lo g n : Nat} {v : Value} {xs : List Value} {w : World} {cs : Array Value} {fz : Nat × Nat} (h3 : w.ownsRow lo 5 1 v n xs) (h2 : w.heap[g]? = some (.cells cs 47 fz)) : v.ownBlock ≠ some g := by
  rcases h3.2 with ⟨rfl, _⟩ | ⟨b, cap, cur, rfl, _, hg, _⟩
  · intro h; cases h
  · intro h
    have : b = g := by simpa [Value.ownBlock] using h
    subst this
    rw [hg] at h2
    injection h2 with h2
    injection h2 with _ h2 _
    exact absurd h2 (by decide)
/-- A store into the writer's block. -/
theorem own_store {lo g n j : Nat} {v x : Value} {xs : List Value} {w : World} {cs : Array Value} {fz : Nat × Nat} (h3 : w.ownsRow lo 5 1 v n xs) (h2 : w.heap[g]? = some (.cells cs 47 fz)) : (w.setCell ⟨g, j, none⟩ x).ownsRow lo 5 1 v n xs :=
  h3.kept (row := some g) ⟨rfl, rfl, rfl, by simp [World.setCell], fun k _ hk => Below.heap_setCell _ _ _ _ (fun e => hk (by simp [e]))⟩ (Or.inr (own_ne h3 h2))
theorem strCells_bv {s : ByteArray} {t : List Nat} (h : Str s t) : Lib.strCells s = bv t := by
  obtain ⟨h1, h2, h3⟩ := h
  unfold Lib.strCells bv
  apply List.ext_getElem
  · simpa using h1
  · intro i a b
    have hs : i < s.size := by simpa using a
    have hb : i < t.length := by omega
    have h4 := h2 i hs
    have h6 : t.getD i 0 = t[i]'hb := by simp [hb]
    rw [List.getElem_map, List.getElem_map]
    have h5 : (s.data.toList[i]'(by simpa using hs)).toNat = (s[i]'hs).toNat := rfl
    rw [h5, h4, h6]
theorem sizeBuilder : ∃ j, Tryd.prog.info? 43 = some j ∧ j.size = 2 := Option.map_eq_some_iff.1 (by kernel_rfl)
theorem liesBuilder : liesAt Tryd.prog Tryd.prog.depth 47 (3 / Tryd.prog.cellsOf 47) 0 43 1 = true := by kernel_rfl
theorem check_used {lo g : Nat} {bs : List Nat} {ar : Nat} {w : World} (h : WrAt lo g bs ar (.pointer (some ⟨g, 0, none⟩)) w) :
    Calls Tryd.prog 54 #[.pointer (some ⟨g, 0, none⟩)] w fun e w' => e = .returned (.tuple #[]) ∧ w' = w := by
  obtain ⟨_, v, h2, _⟩ := h
  obtain ⟨j, hj, _⟩ := sizeBuilder
  have h0 : w.cell? ⟨g, 0, none⟩ = some (.pointer (some ⟨g, 0, none⟩)) := (cell_of_row _ _ _ _ _ _ h2).trans rfl
  have hneq := Lib.run_neq_ptr_same (P := Tryd.prog) w ⟨g, 0, none⟩ Tryd.underlying40 hj
  clear h2
  go_enter Tryd.func54, Tryd.ntmps54
  go_wp2
  go_end0
  exact ⟨rfl, rfl⟩
theorem check_fresh {lo g : Nat} {bs : List Nat} {ar : Nat} {w : World} (h : WrAt lo g bs ar (.pointer none) w) :
    Calls Tryd.prog 54 #[.pointer (some ⟨g, 0, none⟩)] w fun e w' => e = .returned (.tuple #[]) ∧ w' = w.setCell ⟨g, 0, none⟩ (.pointer (some ⟨g, 0, none⟩)) := by
  obtain ⟨_, v, h2, _⟩ := h
  obtain ⟨j, hj, hjs⟩ := sizeBuilder
  have h0 : w.cell? ⟨g, 0, none⟩ = some (.pointer none) := (cell_of_row _ _ _ _ _ _ h2).trans rfl
  have hsh : w.shape? g = some (47, 3) := by simp [World.shape?, h2]
  have hfz : w.frozen? ⟨g, 0, none⟩ = false := Lib.frozen_of_heap h2 0
  have hj0 : j.size ≠ 0 := by rw [hjs]; decide
  have c1 : (convert 40 98 (.pointer (some ⟨g, 0, none⟩))).run Tryd.prog w = .ok (.pointer (some ⟨g, 0, none⟩)) w := by
    simp [convert, run_underlying Tryd.underlying40, run_underlying Tryd.underlying98, Conv.unsafePointer, Conv.seenAt, viewAt, cellsIn, hsh, sizeOf, typeInfo, hj, hj0]
  have c2 : (convert 98 40 (.pointer (some ⟨g, 0, none⟩))).run Tryd.prog w = .ok (.pointer (some ⟨g, 0, none⟩)) w := by
    simp [convert, run_underlying Tryd.underlying98, run_underlying Tryd.underlying40, Conv.unsafePointer, Conv.seenAt, viewAt, hsh, variablesAt, liesBuilder, sizeOf, typeInfo, hj]
  clear hj0
  clear h2
  go_enter Tryd.func54, Tryd.ntmps54
  go_wp2
  rw [run_callFunc_extern Tryd.func64 (by kernel_rfl) (by kernel_rfl) (by kernel_rfl) (e := Extern.AbiNoEscape.same) (by kernel_rfl)]
  rw [Lib.run_noEscape]
  simp only [Result.andThen]
  rw [Oper.upon_value]
  go_wp2
  go_end0
  exact ⟨rfl, rfl⟩
end Go.Proofs.YtljgnpneeecafaaDoor
set_option linter.unusedVariables false
namespace Go.Proofs.YtljgnpneeecafaaDoor
open Go.RowKit Go.Sort Go.BigFrame
set_option maxRecDepth 100000
set_option maxHeartbeats 2000000
/-- Fresh, or used. -/
def WrF (lo g : Nat) (bs : List Nat) (ar : Nat) (w : World) : Prop := WrAt lo g bs ar (.pointer none) w ∨ WrAt lo g bs ar (.pointer (some ⟨g, 0, none⟩)) w
theorem check54 {lo g : Nat} {bs : List Nat} {ar : Nat} {w : World} (h : WrF lo g bs ar w) :
    Calls Tryd.prog 54 #[.pointer (some ⟨g, 0, none⟩)] w fun e w' => e = .returned (.tuple #[]) ∧ WrAt lo g bs ar (.pointer (some ⟨g, 0, none⟩)) w' ∧ Fw lo g w w' := by
  rcases h with h | h
  · refine (check_fresh h).mono ?_
    rintro e w' ⟨rfl, rfl⟩
    obtain ⟨h1, v, h2, h3⟩ := h
    refine ⟨rfl, ⟨h1, v, heap_setCell_same _ _ _ _ _ _ h2, own_store h3 h2⟩, (Below.refl lo w).setCell (p := ⟨g, 0, none⟩) h1 _, (Lib.OthersKept.refl _ _ w).setCell ⟨g, 0, none⟩ rfl _⟩
  · refine (check_used h).mono ?_
    rintro e w' ⟨rfl, rfl⟩
    exact ⟨rfl, h, Fw.refl _ _ _⟩
theorem len15 {lo g : Nat} {bs : List Nat} {ar : Nat} {w : World} (h : WrF lo g bs ar w) :
    Calls Tryd.prog 15 #[.pointer (some ⟨g, 0, none⟩)] w fun e w' => e = .returned (.int .i64 (bs.length : Int)) ∧ w' = w := by
  obtain ⟨p, _, v, h2, h3⟩ : ∃ p, WrAt lo g bs ar p w := by rcases h with h | h <;> exact ⟨_, h⟩
  obtain ⟨a, cap, rfl, _⟩ := own_slice h3
  have c1 : w.cell? ⟨g, 1, none⟩ = some (.slice a bs.length cap) := (cell_of_row _ _ _ _ _ _ h2).trans rfl
  clear h2 h3
  go_enter Tryd.func15, Tryd.ntmps15
  go_wp2
  go_ret
  exact ⟨rfl, rfl⟩
theorem write38 {lo g : Nat} {bs t : List Nat} {s : ByteArray} {ar : Nat} {w : World} (h : WrF lo g bs ar w) (hs : Str s t) (hl : bs.length + t.length ≤ 1000000) (hlo : lo ≤ w.heap.size) :
    Calls Tryd.prog 38 #[.pointer (some ⟨g, 0, none⟩), .string s] w fun e w' => e = .returned (.tuple #[.int .i64 (t.length : Int), .nilIface]) ∧ WrF lo g (bs ++ t) ar w' ∧ Fw lo g w w' := by
  obtain ⟨i0, hi, hz0, hz1, hz2⟩ := info5
  have hsz := hs.size
  go_enter Tryd.func38, Tryd.ntmps38
  go_wp2_with fail
  refine (check54 h).mono ?_
  rintro e w1 ⟨rfl, ⟨hB, v, hbk, hown⟩, hF⟩
  have c0 : w1.cell? ⟨g, 0, none⟩ = some (.pointer (some ⟨g, 0, none⟩)) := (cell_of_row _ _ _ _ _ _ hbk).trans rfl
  have c1 : w1.cell? ⟨g, 1, none⟩ = some v := (cell_of_row _ _ _ _ _ _ hbk).trans rfl
  have hsl := own_slice hown
  go_wp2_with (at_builtin; refine Lib.wpList_append_own_string _ rfl _ _ 41 9 rfl lo 5 i0 Tryd.underlying41 Tryd.underlying9 hi hz0 hz1 hz2 _ _ _ rfl hown s rfl (by unfold maxLen; omega) (by omega) (by have := hF.size; omega) ?_)
  intro v' w2 hown' hgrow _
  have hne := own_ne hown hbk
  have hlt := lt_of_heap hbk
  have hb2 : w2.heap[g]? = some (.cells #[.pointer (some ⟨g, 0, none⟩), v, .int .i64 (ar : Int)] 47 (0, 0)) := by
    rw [hgrow.block g hlt (fun e => hne e.symm)]; exact hbk
  have d0 : w2.cell? ⟨g, 0, none⟩ = some (.pointer (some ⟨g, 0, none⟩)) := (cell_of_row _ _ _ _ _ _ hb2).trans rfl
  have d1 : w2.cell? ⟨g, 1, none⟩ = some v := (cell_of_row _ _ _ _ _ _ hb2).trans rfl
  have f1 : w2.frozen? ⟨g, 1, none⟩ = false := Lib.frozen_of_heap hb2 1
  obtain ⟨ao, cap', rfl, _⟩ := own_slice hown'
  go_wp2
  go_ret2
  have hkind : ∀ b, v.ownBlock = some b → ∃ c fz, w1.heap[b]? = some (.cells c 5 fz) := fun b hb => by
    rcases hown.2 with ⟨rfl, _⟩ | ⟨b', cap, cur, rfl, _, hg, _⟩
    · cases hb
    · have : b' = b := by simpa [Value.ownBlock] using hb
      subst this; exact ⟨_, _, hg⟩
  refine ⟨rfl, .inr ⟨hB, _, heap_setCell_same _ _ _ _ _ _ hb2, ?_⟩, hF.trans ⟨((Below.refl lo w1).grown hgrow (by have := hF.size; omega) (fun k hk => (hown.lt k hk).1)).setCell (p := ⟨g, 1, none⟩) hB _, ((Lib.OthersKept.refl _ _ w1).grown hgrow hkind).setCell ⟨g, 1, none⟩ rfl _⟩⟩
  have e1 : bv bs ++ Lib.strCells s = bv (bs ++ t) := by rw [strCells_bv hs]; simp [bv]
  have e2 : (bs ++ t).length = bs.length + t.length := List.length_append
  rw [e2, ← e1]
  exact own_store hown' hb2
theorem Fw.lo {lo g : Nat} {w w' : World} (h : Fw lo g w w') (hl : lo ≤ w.heap.size) : lo ≤ w'.heap.size := by have := h.size; omega
/-- What is held, of the text that is meant: all of it, or both too long. -/
def Held2 (bs T : List Nat) : Prop := bs = T ∨ (2000 < bs.length ∧ 2000 < T.length)
/-- A writer that has put together what is held of a text. -/
def WS (lo g ar : Nat) (T : List Nat) (w : World) : Prop := lo ≤ w.heap.size ∧ ∃ bs, WrF lo g bs ar w ∧ bs.length ≤ 2100 ∧ Dig bs ∧ Held2 bs T
theorem WS.new {lo g ar : Nat} {T : List Nat} {w w' : World} (h : WS lo g ar T w) (hb : Below w.heap.size w w') : WS lo g ar T w' := by
  obtain ⟨h0, bs, h1, h2⟩ := h
  refine ⟨by have := hb.size; omega, bs, ?_, h2⟩
  rcases h1 with h1 | h1
  · exact .inl (h1.new hb)
  · exact .inr (h1.new hb)
theorem dig_app {a b : List Nat} (ha : Dig a) (hb : Dig b) : Dig (a ++ b) := dig_lt fun x hx => by
  rcases List.mem_append.1 hx with h | h
  · exact mem_of_dig ha x h
  · exact mem_of_dig hb x h
theorem put23 {lo g ar : Nat} {T t : List Nat} {s : ByteArray} {w : World} (h : WS lo g ar T w) (hs : Str s t) (ht : t.length ≤ 60) :
    Calls Tryd.prog 23 #[.pointer (some ⟨g, 0, none⟩), .string s] w fun e w' => e = .returned (.tuple #[]) ∧ WS lo g ar (T ++ t) w' ∧ Fw lo g w w' := by
  obtain ⟨h0, bs, h1, h2, h3, h4⟩ := h
  have hlen := len15 h1
  by_cases hb : bs.length ≤ 2000
  · have hw := write38 h1 hs (by omega) h0
    have hbi : (bs.length : Int) ≤ 2000 := by omega
    obtain ⟨N, hN⟩ : ∃ N, N = bs.length := ⟨_, rfl⟩
    rw [← hN] at hlen hbi
    have HN : Hid _ := hN
    clear hN
    go_enter Tryd.func23, Tryd.ntmps23
    go_wp2_with fail
    refine hlen.mono ?_
    rintro e w1 ⟨rfl, rfl⟩
    go_wp2_with fail
    refine hw.mono ?_
    rintro e w1 ⟨rfl, h5, hF⟩
    go_wp2
    go_end0
    have hN := HN.out
    refine ⟨rfl, ⟨hF.lo h0, bs ++ t, h5, by rw [List.length_append]; omega, dig_app h3 hs.dig, ?_⟩, hF⟩
    rcases h4 with rfl | ⟨h4, _⟩
    · exact .inl rfl
    · omega
  · have hbi : ¬ (bs.length : Int) ≤ 2000 := by omega
    obtain ⟨N, hN⟩ : ∃ N, N = bs.length := ⟨_, rfl⟩
    rw [← hN] at hlen hbi
    have HN : Hid _ := hN
    clear hN
    go_enter Tryd.func23, Tryd.ntmps23
    go_wp2_with fail
    refine hlen.mono ?_
    rintro e w1 ⟨rfl, rfl⟩
    go_wp2
    go_end0
    have hN := HN.out
    refine ⟨rfl, ⟨h0, bs, h1, h2, h3, .inr ⟨by omega, ?_⟩⟩, Fw.refl _ _ _⟩
    rw [List.length_append]
    rcases h4 with rfl | ⟨_, h4⟩ <;> omega
/-- What is deeper. -/
theorem deeper41 {lo g ar : Nat} {T : List Nat} {w : World} (h : WS lo g ar T w) (ha : ar < 6) :
    Calls Tryd.prog 41 #[.pointer (some ⟨g, 2, none⟩)] w fun e w' => e = .returned (.bool true) ∧ WS lo g (ar + 1) T w' ∧ Fw lo g w w' := by
  obtain ⟨h0, bs, h1, h2⟩ := h
  obtain ⟨p, hp, hB, v, hbk, hown⟩ : ∃ p, (p = .pointer none ∨ p = .pointer (some ⟨g, 0, none⟩)) ∧ WrAt lo g bs ar p w := by rcases h1 with h | h <;> exact ⟨_, by simp, h⟩
  have c2 : w.cell? ⟨g, 2, none⟩ = some (.int .i64 (ar : Int)) := (cell_of_row _ _ _ _ _ _ hbk).trans rfl
  have f2 : w.frozen? ⟨g, 2, none⟩ = false := Lib.frozen_of_heap hbk 2
  have hne : ((ar : Int) == 6) = false := by simp; omega
  go_enter Tryd.func41, Tryd.ntmps41
  go_wp2
  go_ret
  have e : (ar : Int) + 1 = ((ar + 1 : Nat) : Int) := by omega
  refine ⟨rfl, ⟨by simpa [World.setCell] using h0, bs, ?_, h2⟩, (Below.refl lo w).setCell (p := ⟨g, 2, none⟩) hB _, (Lib.OthersKept.refl _ _ w).setCell ⟨g, 2, none⟩ rfl _⟩
  have hw : ∀ q, q = p → WrAt lo g bs (ar + 1) q (w.setCell ⟨g, 2, none⟩ (.int .i64 ((ar : Int) + 1))) := by
    rintro q rfl
    refine ⟨hB, v, ?_, own_store hown hbk⟩
    rw [heap_setCell_same _ _ _ _ _ _ hbk, e]
    rfl
  rcases hp with rfl | rfl
  · exact .inl (hw _ rfl)
  · exact .inr (hw _ rfl)
theorem deeper_no {lo g : Nat} {T : List Nat} {w : World} (h : WS lo g 6 T w) :
    Calls Tryd.prog 41 #[.pointer (some ⟨g, 2, none⟩)] w fun e w' => e = .returned (.bool false) ∧ w' = w := by
  obtain ⟨h0, bs, h1, h2⟩ := h
  obtain ⟨p, hp, hB, v, hbk, hown⟩ : ∃ p, (p = .pointer none ∨ p = .pointer (some ⟨g, 0, none⟩)) ∧ WrAt lo g bs 6 p w := by rcases h1 with h | h <;> exact ⟨_, by simp, h⟩
  have c2 : w.cell? ⟨g, 2, none⟩ = some (.int .i64 6) := (cell_of_row _ _ _ _ _ _ hbk).trans rfl
  clear hbk
  go_enter Tryd.func41, Tryd.ntmps41
  go_wp2
  go_ret
  exact ⟨rfl, rfl⟩
theorem higher42 {lo g ar : Nat} {T : List Nat} {w : World} (u : FrameMode) (h : WS lo g (ar + 1) T w) (ha : ar < 6) :
    CallsD Tryd.prog 42 #[.pointer (some ⟨g, 2, none⟩)] u w fun e u' w' => u' = u ∧ e = .returned (.tuple #[]) ∧ WS lo g ar T w' ∧ Fw lo g w w' := by
  obtain ⟨h0, bs, h1, h2⟩ := h
  obtain ⟨p, hp, hB, v, hbk, hown⟩ : ∃ p, (p = .pointer none ∨ p = .pointer (some ⟨g, 0, none⟩)) ∧ WrAt lo g bs (ar + 1) p w := by rcases h1 with h | h <;> exact ⟨_, by simp, h⟩
  have c2 : w.cell? ⟨g, 2, none⟩ = some (.int .i64 ((ar + 1 : Nat) : Int)) := (cell_of_row _ _ _ _ _ _ hbk).trans rfl
  have f2 : w.frozen? ⟨g, 2, none⟩ = false := Lib.frozen_of_heap hbk 2
  go_enter_d Tryd.func42, Tryd.ntmps42
  go_wp2
  go_end0
  refine ⟨rfl, ⟨by simpa [World.setCell] using h0, bs, ?_, h2⟩, (Below.refl lo w).setCell (p := ⟨g, 2, none⟩) hB _, (Lib.OthersKept.refl _ _ w).setCell ⟨g, 2, none⟩ rfl _⟩
  have hw : ∀ q, q = p → WrAt lo g bs ar q (w.setCell ⟨g, 2, none⟩ (.int .i64 (ar : Int))) := by
    rintro q rfl
    refine ⟨hB, v, ?_, own_store hown hbk⟩
    rw [heap_setCell_same _ _ _ _ _ _ hbk]
    rfl
  rcases hp with rfl | rfl
  · exact .inl (hw _ rfl)
  · exact .inr (hw _ rfl)
end Go.Proofs.YtljgnpneeecafaaDoor
set_option linter.unusedVariables false
namespace Go.Proofs.YtljgnpneeecafaaDoor
open Go.RowKit Go.Sort Go.BigFrame
set_option maxRecDepth 100000
set_option maxHeartbeats 2000000
section
variable {ρ : Operand → Value} {o : Oper} {x y z : Operand} {w : World}
theorem quo8O {n : Nat} (hn : n < 256) (ho : o.op = .binOp .quo 5 x y 5) (hx : ρ x = .int .u8 (n : Int)) (hy : ρ y = .int .u8 16) : (execOp ρ o).run Tryd.prog w = .ok (.value (.int .u8 ((n / 16 : Nat) : Int))) w := by
  have h2 : IntKind.u8.wrap ((n : Int) / 16) = (n : Int) / 16 := by rw [IntKind.wrap_u8]; omega
  simp [execOp, ho, hx, hy, go_sem, h2]
theorem rem8O {n : Nat} (hn : n < 256) (ho : o.op = .binOp .rem 5 x y 5) (hx : ρ x = .int .u8 (n : Int)) (hy : ρ y = .int .u8 16) : (execOp ρ o).run Tryd.prog w = .ok (.value (.int .u8 ((n % 16 : Nat) : Int))) w := by
  have h2 : IntKind.u8.wrap ((n : Int) % 16) = (n : Int) % 16 := by rw [IntKind.wrap_u8]; omega
  have h3 : (n : Int).tmod 16 = (n : Int) % 16 := Int.tmod_eq_emod_of_nonneg (by omega)
  simp [execOp, ho, hx, hy, go_sem, h3]
theorem hexAt {k : Nat} (hk : k < 16) (ho : o.op = .index 9 x y) (hx : ρ x = .string hexS) (hy : ρ y = .int .u8 (k : Int)) : (execOp ρ o).run Tryd.prog w = .ok (.value (.int .u8 ((hexD k : Nat) : Int))) w := by
  have hs : (hexS.size : Int) = 16 := rfl
  have h1 : (k : Int) < 16 := by omega
  have h2 : ∀ j (h : j < 16), (hexS[j]'h).toNat = hexD j := by decide
  have h3 := h2 k hk
  rw [← h3]
  simp [execOp, ho, hx, hy, go_sem, hs, h1]
  rfl
theorem dHex2 {lo a b : Nat} (hlo : lo ≤ w.heap.size) (ho : o.op = .buildSlice 41 2 #[(0, x), (1, y)]) (hx : ρ x = .int .u8 (a : Int)) (hy : ρ y = .int .u8 (b : Int)) : Does Tryd.prog o ρ w (fun v w' => Below w.heap.size w w' ∧ Own lo [a, b] v w') :=
  Does.new (.slice (some ⟨w.heap.size, 0, none⟩) 2 2) (.cells #[.int .u8 (a : Int), .int .u8 (b : Int)] 5) (by simp only [execOp, ho, List.map_toArray, List.map, hx, hy]; kernel_rfl) ⟨_, rfl, hlo, heap_alloc_new _ _⟩
theorem strO {l : List Nat} (hl : l.length ≤ 1000) {lo : Nat} (ho : o.op = .convert 41 9 x) (hx : Own lo l (ρ x) w) : (execOp ρ o).run Tryd.prog w = .ok (.value (.string (strOf l))) w := by
  have hb := hx.bts hl
  obtain ⟨a, c, e⟩ := hb.form
  rw [e] at hb
  have := hb.str
  simp [execOp, ho, e, this, Result.andThen]
end
theorem enc1 : ∀ c, c < 127 → Utf8.encode ((c : Nat) : Int) = strOf [c] := by decide +kernel
theorem written40 {c : Nat} (w : World) (hc : c ≤ 126) : Ret 40 #[.int .u8 (c : Int)] w (Is (.string (strOf (quoC c)))) := by
  unfold Ret
  by_cases h32 : c < 32
  · have h32i : (c : Int) < 32 := by omega
    obtain ⟨a, ha⟩ : ∃ a, a = c / 16 := ⟨_, rfl⟩
    obtain ⟨b, hb⟩ : ∃ b, b = c % 16 := ⟨_, rfl⟩
    have ha2 : a < 16 := by omega
    have hb2 : b < 16 := by omega
    have e : strOf (quoC c) = ByteArray.mk #[92, 117, 48, 48] ++ strOf [hexD a, hexD b] := by
      unfold quoC
      rw [if_pos h32, ← ha, ← hb, show [92, 117, 48, 48, hexD a, hexD b] = [92, 117, 48, 48] ++ [hexD a, hexD b] from rfl, strOf_app, show ByteArray.mk #[92, 117, 48, 48] = strOf [92, 117, 48, 48] by decide]
    rw [e]
    have HA : Hid _ := ha
    have HB : Hid _ := hb
    clear ha hb e
    have hz : (ByteArray.mk #[92, 117, 48, 48]).size + (strOf [hexD a, hexD b]).size ≤ 9223372036854775807 := by rw [strOf_size]; show 4 + 2 ≤ _; omega
    go_enter Tryd.func40, Tryd.ntmps40
    go_wp2_with fail
    refine wp_region_inv 9 (specs [Is (.int .u8 (c : Int)), Is (.int .u8 (a : Int)), Is (.int .u8 ((hexD a : Nat) : Int)), Is (.int .u8 (c : Int)), Is (.int .u8 (b : Int)), Is (.int .u8 ((hexD b : Nat) : Int)), Own w.heap.size [hexD a, hexD b], Is (.string (strOf [hexD a, hexD b])), Is (.string (ByteArray.mk #[92, 117, 48, 48] ++ strOf [hexD a, hexD b]))])
      (by kernel_rfl) (specs_stb ⟨Is.stb _, Is.stb _, Is.stb _, Is.stb _, Is.stb _, Is.stb _, Own.stb _ _, Is.stb _, Is.stb _, trivial⟩) (by kernel_rfl) ?_ ?_
    · refine ⟨fun a1 w2 hB2 hfr hdep => Step.plain rfl (dMove (R := Is _) rfl (hfr 0 (by kernel_rfl))),
        fun a1 w2 hB2 hfr hdep => Step.plain rfl (Does.run _ (quo8O (n := c) (by omega) rfl (hdep 0 5 (by kernel_rfl)) rfl) (by rw [← HA.out]; rfl)),
        fun a1 w2 hB2 hfr hdep => Step.plain rfl (Does.run _ (hexAt ha2 rfl rfl (hdep 1 6 (by kernel_rfl))) rfl),
        fun a1 w2 hB2 hfr hdep => Step.plain rfl (dMove (R := Is _) rfl (hfr 0 (by kernel_rfl))),
        fun a1 w2 hB2 hfr hdep => Step.plain rfl (Does.run _ (rem8O (n := c) (by omega) rfl (hdep 3 8 (by kernel_rfl)) rfl) (by rw [← HB.out]; rfl)),
        fun a1 w2 hB2 hfr hdep => Step.plain rfl (Does.run _ (hexAt hb2 rfl rfl (hdep 4 9 (by kernel_rfl))) rfl),
        fun a1 w2 hB2 hfr hdep => Step.plain rfl (dHex2 hB2.size rfl (hdep 2 7 (by kernel_rfl)) (hdep 5 10 (by kernel_rfl))),
        fun a1 w2 hB2 hfr hdep => Step.plain rfl (Does.run _ (strO (l := [hexD a, hexD b]) (show 2 ≤ 1000 by decide) rfl (hdep 6 11 (by kernel_rfl))) rfl),
        fun a1 w2 hB2 hfr hdep => Step.plain rfl (Does.run _ (catO rfl rfl (hdep 7 12 (by kernel_rfl)) hz) rfl), trivial⟩
    intro u hu
    simp only [List.take, List.drop, FinAll, Act.put, List.setIfInBounds_toArray, List.set_cons_succ, List.set_cons_zero]
    rintro _ rfl _ rfl _ rfl _ rfl _ rfl _ rfl _ ⟨_, rfl, _⟩ _ rfl _ rfl
    go_wp2
    go_ret
    exact ⟨_, rfl, hu, rfl⟩
  · have h32i : ¬ (c : Int) < 32 := by omega
    have hE := enc1 c (by omega)
    by_cases hq : c = 34 ∨ c = 92
    · have e : strOf (quoC c) = ByteArray.mk #[92] ++ strOf [c] := by
        unfold quoC
        rw [if_neg h32, if_pos hq, show [92, c] = [92] ++ [c] from rfl, strOf_app, show ByteArray.mk #[92] = strOf [92] by decide]
      rw [e]
      have hcs1 : ¬ ((ByteArray.mk #[92]).size + (strOf [c]).size > 9223372036854775807) := by rw [strOf_size]; show ¬ 1 + 1 > _; omega
      clear e h32
      rcases hq with rfl | rfl
      all_goals
        go_enter Tryd.func40, Tryd.ntmps40
        go_wp2
        go_ret
        exact ⟨_, rfl, Below.refl _ _, rfl⟩
    · have e : strOf (quoC c) = strOf [c] := by unfold quoC; rw [if_neg h32, if_neg hq]
      rw [e]
      have q1 : ((c : Int) == 34) = false := by have : ¬ (c : Int) = 34 := by omega
                                                simpa using this
      have q2 : ((c : Int) == 92) = false := by have : ¬ (c : Int) = 92 := by omega
                                                simpa using this
      clear e h32 hq
      go_enter Tryd.func40, Tryd.ntmps40
      go_wp2
      go_ret
      exact ⟨_, rfl, Below.refl _ _, rfl⟩
/-- A writer's method that hands back a truth: if it is P, the text stands behind; if not, nothing old is touched all the same. -/
def WOk (lo g ar : Nat) (T : List Nat) (w : World) (P : Prop) (t : List Nat) (e : Ending) (w' : World) : Prop :=
  ∃ c : Bool, e = .returned (.bool c) ∧ (c = true ↔ P) ∧ Fw lo g w w' ∧ ∃ T', WS lo g ar T' w' ∧ (c = true → T' = T ++ t)
theorem str_lit {bs : List Nat} (h : ∀ x ∈ bs, x < 256) : Str (strOf bs) bs := str_strOf (dig_lt h)
theorem truth24 {lo g ar : Nat} {T : List Nat} {w : World} (n : Int) (hW : WS lo g ar T w) :
    Calls Tryd.prog 24 #[.pointer (some ⟨g, 0, none⟩), .int .i64 n] w (WOk lo g ar T w (n = 0 ∨ n = 1) (if n = 1 then [116, 114, 117, 101] else [102, 97, 108, 115, 101])) := by
  by_cases h0 : n = 0
  · subst h0
    have hp := put23 hW (str_lit (bs := [102, 97, 108, 115, 101]) (by decide)) (by decide)
    rw [show strOf [102, 97, 108, 115, 101] = ByteArray.mk #[102, 97, 108, 115, 101] by decide] at hp
    go_enter Tryd.func24, Tryd.ntmps24
    go_wp2_with fail
    refine hp.mono ?_
    rintro e w1 ⟨rfl, h1, hF⟩
    go_wp2
    go_ret
    exact ⟨true, rfl, by simp, hF, _, h1, fun _ => rfl⟩
  · by_cases h1 : n = 1
    · subst h1
      have hp := put23 hW (str_lit (bs := [116, 114, 117, 101]) (by decide)) (by decide)
      rw [show strOf [116, 114, 117, 101] = ByteArray.mk #[116, 114, 117, 101] by decide] at hp
      go_enter Tryd.func24, Tryd.ntmps24
      go_wp2_with fail
      refine hp.mono ?_
      rintro e w1 ⟨rfl, h1, hF⟩
      go_wp2
      go_ret
      exact ⟨true, rfl, by simp, hF, _, h1, fun _ => rfl⟩
    · have q0 : (n == 0) = false := by simpa using h0
      have q1 : (n == 1) = false := by simpa using h1
      go_enter Tryd.func24, Tryd.ntmps24
      go_wp2
      go_ret
      exact ⟨false, rfl, ⟨fun e => (by cases e), fun e => (by rcases e with e | e <;> contradiction)⟩, Fw.refl _ _ _, _, hW, fun e => by cases e⟩
theorem dec_digF : ∀ f n, n < 10 ^ f → (digF f n).map UInt8.ofNat = if f = 0 then [] else Lib.decDigits n
  | 0, _, _ => rfl
  | f + 1, n, h => by
    rw [if_neg (by omega)]
    rw [Lib.decDigits]
    unfold digF
    split
    · next h10 => rw [dif_pos (by omega)]; rfl
    · next h10 =>
      rw [dif_neg (by omega), List.map_append, dec_digF f (n / 10) (by rw [Nat.pow_succ] at h; omega)]
      cases f with
      | zero => simp at h; omega
      | succ f => rfl
theorem itoa_digT (n : Int) (h1 : -1000000000000000 ≤ n) (h2 : n ≤ 1000000000000000) : (⟨(Lib.itoa n).toArray⟩ : ByteArray) = strOf (digT n) := by
  have key : ∀ N : Nat, N ≤ 1000000000000000 → (digN N).map UInt8.ofNat = Lib.decDigits N := fun N hN => by
    have := dec_digF 20 N (by omega)
    exact this
  rw [strOf_arr]
  congr 2
  unfold digT Lib.itoa
  split
  · rw [List.map_cons, key _ (by omega)]
    rw [show n.natAbs = (-n).toNat by omega]
    rfl
  · rw [key _ (by omega)]
/-- The library's table of the powers of ten. -/
def Tab (w : World) : Prop := Lib.TabIs Tryd.prog w "internal/strconv.uint64pow10" .u64 Lib.pow10Tab
theorem digT_len (n : Int) : (digT n).length ≤ 21 := by
  unfold digT
  split
  · have := digN_len (-n).toNat; simp; omega
  · have := digN_len n.toNat; omega
theorem digT_dig (n : Int) : Dig (digT n) := by
  unfold digT
  split
  · exact dig_app (a := [45]) (dig_lt (by simp)) (digN_dig _)
  · exact digN_dig _
theorem below_growN (w : World) (k : Nat) (os : Array Obj) : Below w.heap.size w (grow (w.drewN k) os) := ⟨rfl, rfl, rfl, by simp [grow, World.drewN], fun i hi => by show (w.heap ++ os)[i]? = _; rw [Array.getElem?_append_left hi]⟩
theorem integer25 {lo g ar : Nat} {T : List Nat} {w : World} (n : Int) (hn1 : -9223372036854775808 ≤ n) (hn2 : n ≤ 9223372036854775807) (hT : Tab w) (hW : WS lo g ar T w) :
    Calls Tryd.prog 25 #[.pointer (some ⟨g, 0, none⟩), .int .i64 n] w (WOk lo g ar T w (-1000000000000000 ≤ n ∧ n ≤ 1000000000000000) (digT n)) := by
  by_cases h0 : n < -1000000000000000
  · go_enter Tryd.func25, Tryd.ntmps25
    go_wp2
    go_ret
    exact ⟨false, rfl, by constructor; intro e; cases e; intro e; omega, Fw.refl _ _ _, _, hW, fun e => by cases e⟩
  · by_cases h1 : 1000000000000000 < n
    · go_enter Tryd.func25, Tryd.ntmps25
      go_wp2
      go_ret
      exact ⟨false, rfl, by constructor; intro e; cases e; intro e; omega, Fw.refl _ _ _, _, hW, fun e => by cases e⟩
    · have hI := Tryd.strconv_Itoa n hn1 hn2 w hT
      rw [itoa_digT n (by omega) (by omega)] at hI
      go_enter Tryd.func25, Tryd.ntmps25
      go_wp2_with fail
      refine hI.mono ?_
      rintro e w1 ⟨rfl, hg⟩
      have hb : Below w.heap.size w w1 := by obtain ⟨k, os, rfl⟩ := hg; exact below_growN _ _ _
      clear hg
      have hp := put23 (hW.new hb) (str_strOf (digT_dig n)) (by have := digT_len n; omega)
      go_wp2_with fail
      refine hp.mono ?_
      rintro e w2 ⟨rfl, h1, hF⟩
      go_wp2
      go_ret
      exact ⟨true, rfl, by constructor; intro _; omega; intro _; rfl, (Fw.new hb hW.1).trans hF, _, h1, fun _ => rfl⟩
end Go.Proofs.YtljgnpneeecafaaDoor
set_option linter.unusedVariables false
namespace Go.Proofs.YtljgnpneeecafaaDoor
open Go.RowKit Go.Sort Go.BigFrame
set_option maxRecDepth 100000
set_option maxHeartbeats 2000000
theorem lettersB_snoc {bs : List Nat} {k : Nat} (hk : k < bs.length) (h : lettersB (bs.take k) = true) (h2 : bs.getD k 0 ≤ 126) : lettersB (bs.take (k + 1)) = true := by
  unfold lettersB at h ⊢
  rw [List.take_succ_eq_append_getElem hk, List.all_append, h]
  have : bs.getD k 0 = bs[k] := by simp [hk]
  rw [this] at h2
  simp [h2]
theorem lettersB_not {bs : List Nat} {k : Nat} (hk : k < bs.length) (h2 : ¬ bs.getD k 0 ≤ 126) : ¬ lettersB bs = true := by
  intro h
  unfold lettersB at h
  rw [List.all_eq_true] at h
  have := h _ (List.getElem_mem hk)
  have e : bs.getD k 0 = bs[k] := by simp [hk]
  rw [e] at h2
  simp at this
  exact h2 this
theorem quoI_snoc {bs : List Nat} {k : Nat} (hk : k < bs.length) : quoI (bs.take (k + 1)) = quoI (bs.take k) ++ quoC (bs.getD k 0) := by
  rw [List.take_succ_eq_append_getElem hk, quoI_app]
  have e : bs.getD k 0 = bs[k] := by simp [hk]
  rw [e]
  simp [quoI]
theorem text26 {lo g ar : Nat} {T bs : List Nat} {s : ByteArray} {w : World} (hs : Str s bs) (hl : bs.length ≤ 1000000) (hW : WS lo g ar T w) :
    Calls Tryd.prog 26 #[.pointer (some ⟨g, 0, none⟩), .string s] w (WOk lo g ar T w (lettersB bs = true) (quoT bs)) := by
  have hp := put23 hW (str_lit (bs := [34]) (by decide)) (by decide)
  rw [show strOf [34] = ByteArray.mk #[34] by decide] at hp
  have hsz := hs.size
  have hat := hs.at'
  have hdig := hs.dig
  obtain ⟨N, hN⟩ : ∃ N, N = bs.length := ⟨_, rfl⟩
  have HN : Hid _ := hN
  rw [← hN] at hsz hl
  clear hN
  go_enter Tryd.func26, Tryd.ntmps26
  go_wp2_with fail
  refine hp.mono ?_
  rintro e w1 ⟨rfl, h1, hF1⟩
  go_wp2_with fail
  go_loopw [10] (fun i wr => ∃ k : Nat, k ≤ N ∧ i = .int .i64 k ∧ WS lo g ar (T ++ [34] ++ quoI (bs.take k)) wr ∧ Fw lo g w wr ∧ lettersB (bs.take k) = true) (fun i _ => N - (intOf i).toNat)
  case atStart => exact ⟨0, by omega, rfl, by simpa [quoI] using h1, hF1, rfl⟩
  case round =>
    obtain ⟨k, hk, rfl, hWk, hF, hL⟩ := hrel
    by_cases hlt : k < N
    · have hks : k < s.size := by omega
      have hkb : k < bs.length := by rw [← HN.out]; exact hlt
      obtain ⟨c, hc⟩ : ∃ c, c = bs.getD k 0 := ⟨_, rfl⟩
      have hx : (s[k]'hks).toNat = c := (hat k hks).trans hc.symm
      have hxi : ((s[k]'hks).toNat : Int) = (c : Int) := by rw [hx]
      have HC : Hid _ := hc
      clear hc
      by_cases hc126 : c ≤ 126
      · have hci : ¬ (126 : Int) < (c : Int) := by omega
        have hwr := written40 wr hc126
        clear hat
        go_wp2_with fail
        refine hwr.mono ?_
        rintro e w2 ⟨_, rfl, hB2, rfl⟩
        have hp2 := put23 (hWk.new hB2) (str_strOf (quoC_dig (c := c) (by omega))) (by have := quoC_len c; omega)
        go_wp2_with fail
        refine hp2.mono ?_
        rintro e w3 ⟨rfl, h3, hF3⟩
        go_wp2
        refine ⟨⟨k + 1, by omega, by go_num, ?_, (hF.trans (Fw.new hB2 hWk.1)).trans hF3, lettersB_snoc hkb hL (by rw [← HC.out]; exact hc126)⟩, by simp [intOf]; omega⟩
        rw [quoI_snoc hkb, ← HC.out, ← List.append_assoc]
        exact h3
      · have hci : (126 : Int) < (c : Int) := by omega
        clear hat
        go_wp2
        go_ret
        exact ⟨false, rfl, ⟨fun e => (by cases e), fun e => absurd e (lettersB_not hkb (by rw [← HC.out]; exact hc126))⟩, hF, _, hWk, fun e => (by cases e)⟩
    · obtain rfl : N = k := by omega
      have hp2 := put23 hWk (str_lit (bs := [34]) (by decide)) (by decide)
      rw [show strOf [34] = ByteArray.mk #[34] by decide] at hp2
      clear hat
      go_wp2_with fail
      refine hp2.mono ?_
      rintro e w3 ⟨rfl, h3, hF3⟩
      go_wp2
      go_ret
      have e : bs.take N = bs := List.take_of_length_le (by rw [HN.out]; exact Nat.le_refl _)
      rw [e] at h3 hL
      refine ⟨true, rfl, ⟨fun _ => hL, fun _ => rfl⟩, hF.trans hF3, _, h3, fun _ => ?_⟩
      unfold quoT
      simp
end Go.Proofs.YtljgnpneeecafaaDoor
set_option linter.unusedVariables false
namespace Go.Proofs.YtljgnpneeecafaaDoor
open Go.RowKit Go.Sort Go.BigFrame Go.Maps
set_option maxRecDepth 100000
set_option maxHeartbeats 2000000
/-- A name as a key. -/
def keyL (x : List Nat) : Lit := .string (strOf x).data.toList
theorem keyL_inj {x y : List Nat} (hx : Dig x) (hy : Dig y) (h : (strOf x).data.toList = (strOf y).data.toList) : x = y := by
  have e := str_eq_iff (str_strOf hx) (str_strOf hy)
  rw [Lib.toList_data, Lib.toList_data, h] at e
  simpa using e.symm
theorem any_keyL {x : List Nat} (hx : Dig x) : ∀ {acc : List (List Nat)}, (∀ a ∈ acc, Dig a) → (acc.map keyL).any (fun y => y.sameKey (keyL x)) = decide (x ∈ acc)
  | [], _ => rfl
  | a :: acc, h => by
    rw [List.map_cons, List.any_cons, any_keyL hx (fun b hb => h b (by simp [hb]))]
    have e : (keyL a).sameKey (keyL x) = decide (x = a) := by
      show ((strOf a).data.toList == (strOf x).data.toList) = _
      rw [Bool.eq_iff_iff, beq_iff_eq, decide_eq_true_eq]
      exact ⟨fun h' => (keyL_inj (h a (by simp)) hx h').symm, fun h' => by rw [h']⟩
    rw [e]
    by_cases h1 : x = a <;> simp [h1]
theorem fold_key : ∀ (xs acc : List (List Nat)), (∀ a ∈ xs, Dig a) → (∀ a ∈ acc, Dig a) →
    ((xs.map keyL).foldl addKey (acc.map keyL)).length ≤ acc.length + xs.length ∧ (((xs.map keyL).foldl addKey (acc.map keyL)).length = acc.length + xs.length ↔ xs.Nodup ∧ ∀ x ∈ xs, x ∉ acc)
  | [], acc, _, _ => by simp
  | x :: xs, acc, h1, h2 => by
    have hx := h1 x (by simp)
    rw [List.map_cons, List.foldl_cons]
    have e : addKey (acc.map keyL) (keyL x) = if x ∈ acc then acc.map keyL else (acc ++ [x]).map keyL := by
      unfold addKey
      rw [any_keyL hx h2]
      by_cases h : x ∈ acc <;> simp [h]
    rw [e]
    by_cases h : x ∈ acc
    · rw [if_pos h]
      obtain ⟨a1, a2⟩ := fold_key xs acc (fun a ha => h1 a (by simp [ha])) h2
      refine ⟨by simp; omega, ⟨fun h' => ?_, fun h' => absurd h (h'.2 x (by simp))⟩⟩
      simp at h'; omega
    · rw [if_neg h]
      obtain ⟨a1, a2⟩ := fold_key xs (acc ++ [x]) (fun a ha => h1 a (by simp [ha])) (fun a ha => by
        rcases List.mem_append.1 ha with ha | ha
        · exact h2 a ha
        · rw [List.mem_singleton.1 ha]; exact hx)
      rw [List.length_append, List.length_singleton] at a1 a2
      refine ⟨by rw [List.length_cons]; omega, ?_⟩
      rw [List.length_cons, show acc.length + (xs.length + 1) = acc.length + 1 + xs.length by omega, a2, List.nodup_cons]
      constructor
      · rintro ⟨b1, b2⟩
        refine ⟨⟨fun hm => b2 x hm (by simp), b1⟩, fun y hy => ?_⟩
        rcases List.mem_cons.1 hy with rfl | hy
        · exact h
        · exact fun hm => b2 y hy (by simp [hm])
      · rintro ⟨⟨b1, b2⟩, b3⟩
        refine ⟨b2, fun y hy hm => ?_⟩
        rcases List.mem_append.1 hm with hm | hm
        · exact b3 y (by simp [hy]) hm
        · rw [List.mem_singleton.1 hm] at hy; exact b1 hy
/-- The set of the first names. -/
def SetN (ns : List (List Nat)) (k : Nat) : DataW Unit := setOf (.agg []) ((ns.take k).map keyL)
theorem setN_zero (ns : List (List Nat)) : SetN ns 0 = .map [] := by simp [SetN, setOf]
theorem setN_succ {ns : List (List Nat)} {k : Nat} (hk : k < ns.length) : SetN ns (k + 1) = (SetN ns k).put (keyL (ns.getD k [])) (.agg []) := by
  unfold SetN
  rw [List.take_succ_eq_append_getElem hk, List.map_append, List.map_singleton, setOf_snoc]
  congr 2
  simp [hk]
theorem setN_size {ns : List (List Nat)} (hd : ∀ a ∈ ns, Dig a) : Maps.size (SetN ns ns.length) ≤ ns.length ∧ (Maps.size (SetN ns ns.length) = ns.length ↔ ns.Nodup) := by
  unfold SetN
  rw [size_setOf _ _ (fun y hy => by obtain ⟨_, _, rfl⟩ := List.mem_map.1 hy; trivial), List.take_length]
  have := fold_key ns [] hd (by simp)
  simpa using this
theorem lawStr : Keyed Tryd.prog 9 := string_keyed Tryd.underlying9
theorem unlike43 {ns : List (List Nat)} {nv : Value} {w : World} (hn : SRow ns nv w) (hl : ∀ x ∈ ns, x.length ≤ 1000000) : Ret 43 #[nv] w (Tells ns.Nodup) := by
  obtain ⟨a, cap, rfl, l1, l2, hc⟩ := hn
  have hd : ∀ x ∈ ns, Dig x := fun x hx => by
    obtain ⟨i, hi, rfl⟩ := List.getElem_of_mem hx
    obtain ⟨b, off, _, h⟩ := hc (by omega)
    obtain ⟨s, _, hs⟩ := h i hi
    have := hs.dig
    simpa [hi] using this
  have hsz := setN_size hd
  have hmm : ∀ (z : Int) (w : World), (Instr.makeMap 84 (some (.int .i64 z))).run Tryd.prog w = .ok (.map (some w.heap.size)) (w.alloc (.map #[] 0)) := fun z w => by
    kernel_rfl
  obtain ⟨N, hN⟩ : ∃ N, N = ns.length := ⟨_, rfl⟩
  rw [← hN] at hsz l1 hc ⊢
  have HN : Hid _ := hN
  clear hN
  unfold Ret
  go_enter Tryd.func43, Tryd.ntmps43
  go_wp2
  go_loopw [11] (fun i wr => ∃ k : Nat, k ≤ N ∧ i = .int .i64 k ∧ wr.ownsMap Tryd.prog 9 (unitElem (H := Unit)) w.heap.size k (SetN ns k) ∧ Below w.heap.size w wr) (fun i _ => N - (intOf i).toNat)
  case atStart => exact ⟨0, by omega, rfl, by rw [setN_zero]; exact World.ownsMap_made _ _ _ _, (Below.refl _ _).alloc (Nat.le_refl _) _⟩
  case round =>
    obtain ⟨k, hk, rfl, hown, hB⟩ := hrel
    by_cases hlt : k < N
    · obtain ⟨b, off, rfl, hcc⟩ := hc (by omega)
      obtain ⟨s, hs1, hs2⟩ := hcc k hlt
      have hkn : k < ns.length := by rw [← HN.out]; exact hlt
      have hx : (ns.getD k []).length ≤ 1000000 := by
        have e : ns.getD k [] = ns[k] := by simp [hkn]
        rw [e]; exact hl _ (List.getElem_mem hkn)
      have hcell : wr.cell? ⟨b, off + k, none⟩ = some (.string s) := (hB.cell (p := ⟨b, off + k, none⟩) (block_lt_of_cell hs1)).trans hs1
      have hkey : keyOf Tryd.prog 9 (.string s) = some (keyL (ns.getD k [])) := by
        have e := hs2.eq
        have := Go.WideMaps.keyOf_string_mk (P := Tryd.prog) (k := 9) Tryd.underlying9 (s := s) (by rw [hs2.size]; unfold maxLen; omega)
        rw [this, e]; rfl
      clear hcc
      go_wp2_with (first
        | (at_mapUpdate; refine wpList_mapUpdate_own _ rfl _ _ _ 84 rfl 9 85 lawStr Tryd.underlying84 (unitElem (H := Unit)) w.heap.size k _ rfl hown (by unfold maxLen; omega) _ _ _ rfl rfl hkey _ [] unitElem_mk ?_; intro w1 hown1 hgrow1)
        | go_in)
      go_roundw
      case rel => exact ⟨k + 1, by omega, by go_num, (setN_succ hkn).symm ▸ hown1, hB.grown hgrow1 hB.size (fun j hj => by cases hj; exact Nat.le_refl _)⟩
      case measure => simp [intOf]; omega
    · obtain rfl : k = N := by omega
      have hlen := hsz
      clear hc hsz
      go_wp2_with (first
        | (at_len; refine wpList_len_own _ rfl _ 84 rfl 9 85 Tryd.underlying84 _ w.heap.size k _ rfl hown ?_; refine Hid.out ?_)
        | go_in)
      refine Lib.hid ?_
      go_wp2
      go_ret
      have hS : ∀ (s n : Nat) (P : Prop), (s = n ↔ P) → Tells P (.bool ((s : Int) == (n : Int))) wr := fun s n P h => by
        refine ⟨_, rfl, ?_⟩
        rw [beq_iff_eq, Int.natCast_inj]; exact h
      exact ⟨_, rfl, hB, hS _ _ _ hlen.2⟩
end Go.Proofs.YtljgnpneeecafaaDoor
