/-
  Bytes as strings; bytes.Equal.
-/
import Derived.Test.YtpfcboakafbnlaaDoorF
import Derived.Deep.MidRow
import Derived.Lib.Strings
import Derived.Laws.BytesString
import Derived.Laws.CopyOwn
set_option linter.unusedVariables false
namespace Go.Proofs.YtpfcboakafbnlaaDoor
open Go.RowKit Go.Sort Go.BigFrame
set_option maxRecDepth 100000
set_option maxHeartbeats 2000000
def strOf (bs : List Nat) : ByteArray := bs.foldl (fun r n => r.push (UInt8.ofNat n)) ByteArray.empty
theorem strOf_fold (bs : List Nat) : (bs.map fun (x : Nat) => (x : Int)).foldl (fun r n => r.push (UInt8.ofNat n.toNat)) ByteArray.empty = strOf bs := by
  unfold strOf
  rw [List.foldl_map]; rfl
theorem strOf_data (bs : List Nat) : ∀ r : ByteArray, (bs.foldl (fun r n => r.push (UInt8.ofNat n)) r).data.toList = r.data.toList ++ bs.map UInt8.ofNat := by
  induction bs with
  | nil => intro r; simp
  | cons b t ih => intro r; rw [List.foldl_cons, ih]; simp [ByteArray.push]
theorem strOf_inj {x y : List Nat} (hx : ∀ j, x.getD j 0 < 256) (hy : ∀ j, y.getD j 0 < 256) (h : strOf x = strOf y) : x = y := by
  have e1 := strOf_data x ByteArray.empty
  have e2 := strOf_data y ByteArray.empty
  have h' : (strOf x).data.toList = (strOf y).data.toList := by rw [h]
  unfold strOf at h'
  rw [e1, e2] at h'
  have h2 : x.map UInt8.ofNat = y.map UInt8.ofNat := by simpa using h'
  have hl : x.length = y.length := by simpa using congrArg List.length h2
  apply List.ext_getElem hl
  intro i h1 h3
  have h4 : (x.map UInt8.ofNat)[i]'(by simpa using h1) = (y.map UInt8.ofNat)[i]'(by simpa using h3) := by simp only [h2]
  simp only [List.getElem_map] at h4
  have a := hx i
  have b := hy i
  simp [h1] at a
  simp [h3] at b
  have := congrArg UInt8.toNat h4
  simp at this
  omega
theorem strOf_eq {x y : List Nat} (hx : ∀ j, x.getD j 0 < 256) (hy : ∀ j, y.getD j 0 < 256) : ((strOf x).toList == (strOf y).toList) = decide (x = y) := by
  rw [Bool.eq_iff_iff, beq_iff_eq, decide_eq_true_eq]
  constructor
  · intro h
    refine strOf_inj hx hy ?_
    rw [Lib.toList_data, Lib.toList_data] at h
    exact WideShapes.bytes_inj h
  · rintro rfl; rfl
theorem loadCells_view {w : World} {b off : Nat} {bs : List Nat} (h : BytesAt w b off bs) : (loadCells ⟨b, off, none⟩ bs.length).run Tryd.prog w = .ok ((bs.map fun (x : Nat) => (x : Int)).map (Value.int .u8)).toArray w := by
  have := run_loadCells_list (P := Tryd.prog) w ⟨b, off, none⟩ ((bs.map fun (x : Nat) => (x : Int)).map (Value.int .u8)) (fun j v hv => by
    have hj : j < bs.length := by
      by_cases h : j < bs.length
      · exact h
      · rw [List.getElem?_eq_none (by simp; omega)] at hv; cases hv
    rw [Addr.add_mid, h j hj, ← hv]; simp [hj])
  simpa using this
theorem toString_view {w : World} {a : Option Addr} {len cap : Nat} {bs : List Nat} (hl : bs.length = len) (h : View w a bs) : (convert 22 9 (.slice a len cap)).run Tryd.prog w = .ok (.string (strOf bs)) w := by
  rw [run_convert_bytes_string w 22 9 5 a len cap Tryd.underlying22 Tryd.underlying5 Tryd.underlying9]
  cases a with
  | none =>
    have : bs = [] := by
      cases bs with
      | nil => rfl
      | cons x r => obtain ⟨b, off, h', _⟩ := h (by simp); cases h'
    subst this; rfl
  | some ad =>
    rw [run_bytesToString w ad len cap (bs.map fun (x : Nat) => (x : Int)) ?_, strOf_fold]
    by_cases hp : 0 < bs.length
    · obtain ⟨b, off, h', hb⟩ := h hp
      cases h'
      rw [← hl]; exact loadCells_view hb
    · have : bs = [] := List.length_eq_zero_iff.1 (by omega)
      subst this; subst hl; rfl
theorem equal35 (a : Option Addr) (la ca : Nat) (x : List Nat) (b : Option Addr) (lb cb : Nat) (y : List Nat) (w : World) (hx : x.length = la) (hy : y.length = lb) (ha : View w a x) (hb : View w b y) (hx2 : ∀ j, x.getD j 0 < 256) (hy2 : ∀ j, y.getD j 0 < 256) :
    Calls Tryd.prog 55 #[.slice a la ca, .slice b lb cb] w fun e w' => e = .returned (.bool (decide (x = y))) ∧ w' = w := by
  have h1 := toString_view (cap := ca) hx ha
  have h2 := toString_view (cap := cb) hy hb
  have HE : Hid (((strOf x).toList == (strOf y).toList) = decide (x = y)) := strOf_eq hx2 hy2
  clear hx hy
  go_enter Tryd.func55, Tryd.ntmps55
  go_wp2
  go_ret
  refine ⟨?_, rfl⟩
  rw [← HE.out]; rfl
theorem View.take {w : World} {a : Option Addr} {bs : List Nat} (h : View w a bs) (n : Nat) : View w a (bs.take n) := fun hp => by
  obtain ⟨b, off, rfl, hb⟩ := h (by simp at hp; omega)
  refine ⟨b, off, rfl, fun i hi => ?_⟩
  have hi' : i < n ∧ i < bs.length := by simp at hi; omega
  rw [show (bs.take n).getD i 0 = bs.getD i 0 by simp [hi'.1]]
  exact hb i hi'.2
theorem results_cell_tmp {P : Program} {fn : Func} {p q : Tmp} {ty : TypeId} (h : fn.results = #[.cell p ty, .tmp q]) (tmps : Array Value) (w : World) (g : Nat) (t : TypeId) (cs : Array Value) (fr : Nat × Nat) (d : TypeDesc) (v : Value)
    (hp : tmps.getD p undef = .pointer (some ⟨g, 0, none⟩)) (hq : tmps.getD q undef = v) (hg : w.heap[g]? = some (.cells cs t fr))
    (hu : P.underlying ty = some d) (hd : (match d with | .struct _ | .array _ _ => true | _ => false) = true) (hi : (P.info? ty).map (·.size) = some cs.size) :
    (results fn tmps).run P w = .ok (.tuple #[.agg cs, v]) w := by
  have hp' : tmps[p]?.getD undef = .pointer (some ⟨g, 0, none⟩) := by simpa using hp
  have hq' : tmps[q]?.getD undef = v := by simpa using hq
  simp [results, h, hp', hq', asAddr, run_loadVar_row w g t ty cs fr d hg hu hd hi]
end Go.Proofs.YtpfcboakafbnlaaDoor
