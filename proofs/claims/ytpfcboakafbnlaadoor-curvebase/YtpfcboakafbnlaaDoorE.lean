/-
  The walk of ofBytes.
-/
import Derived.Test.YtpfcboakafbnlaaDoorD
import Derived.Test.YtpfcboakafbnlaaDoorMN
set_option linter.unusedVariables false
namespace Go.Proofs.YtpfcboakafbnlaaDoor
open Go.RowKit Go.Sort Go.BigFrame
set_option maxRecDepth 100000
set_option maxHeartbeats 4000000
def RelO (w wr : World) (L : List Nat) : Prop :=
  Below w.heap.size w wr ∧ wr.heap[w.heap.size]? = some (.cells z5 27 (0, 0)) ∧ wr.heap[w.heap.size + 1]? = some (.cells (ints .u64 L) 27 (0, 0))
theorem RelO.set {w wr : World} {L : List Nat} (h : RelO w wr L) (k v : Nat) : RelO w (wr.setCell ⟨w.heap.size + 1, k, none⟩ (.int .u64 (v : Int))) (L.set k v) :=
  ⟨h.1.setCell (by show w.heap.size ≤ w.heap.size + 1; omega) _, (heap_setCell_other _ _ _ _ (by show w.heap.size ≠ w.heap.size + 1; omega)).trans h.2.1, set_ints h.2.2 _ _⟩
theorem RelO.drew {w wr : World} {L : List Nat} (h : RelO w wr L) : RelO w wr.drew L := ⟨h.1.drew, h.2.1, h.2.2⟩
theorem or_part (x c sh : Nat) (hx : x < 2 ^ sh) (hs : sh < 51) (hc : c < 256) : bits .or .u64 (x : Int) (bits .and .u64 (IntKind.u64.wrap ((c : Int) * 2 ^ sh)) 2251799813685247) = ((x + c * 2 ^ sh % 2251799813685248 : Nat) : Int) := by
  have hp : 2 ^ sh ≤ 2 ^ 50 := Nat.pow_le_pow_right (by decide) (by omega)
  have h1 : c * 2 ^ sh ≤ 255 * 2 ^ 50 := Nat.mul_le_mul (by omega) hp
  have h2 : ((c : Int) * 2 ^ sh) = ((c * 2 ^ sh : Nat) : Int) := by simp
  rw [h2, wrapu _ (by omega) (by omega), and51 _ (by omega), bits_or_u64_nat _ _ (by omega) (by omega), or_add x _ sh hx]
  rw [show (2251799813685248 : Nat) = 2 ^ 51 from rfl, Nat.mod_mod_of_dvd _ (Nat.pow_dvd_pow 2 (by omega)), Nat.mul_mod_left]
theorem or_zero (c s : Nat) (hc : c < 256) : bits .or .u64 0 ((c : Int) / 2 ^ s) = ((c / 2 ^ s : Nat) : Int) := by
  have h := Nat.div_le_self c (2 ^ s)
  have := bits_or_u64_nat 0 (c / 2 ^ s) (by decide) (by omega)
  simpa using this
theorem ofBytes34 (a : Option Addr) (cap : Nat) (bs : List Nat) (w : World) (hlen : Hid (bs.length = 32)) (hcap : 32 ≤ cap) (hcap2 : cap ≤ 9223372036854775807) (hb : Dig bs) (hv : View w a bs) :
    Calls Tryd.prog 54 #[.slice a 32 cap] w fun e w' => e = .returned (.agg (elc (splitE (valD bs)))) ∧ Below w.heap.size w w' := by
  go_enter Tryd.func54, Tryd.ntmps54
  go_wp2_with fail
  have hR0 : RelO w (((w.alloc (.cells z5 27)).alloc (.cells z5 27))) (splitE (valD (bs.take 0))).list := ⟨below2 _ _ _, heap2_0 _ _ _, by
    have h0 : ints .u64 (splitE (valD (bs.take 0))).list = z5 := by simp [valD, splitE, E5.list, ints, z5]
    rw [h0]; exact heap_alloc2_new _ _ _⟩
  obtain ⟨g, off, rfl, hc⟩ := hv (by rw [hlen.out]; decide)
  have hgl : g < w.heap.size := block_lt_of_cell (hc 0 (by rw [hlen.out]; decide))
  go_loopw [10] (fun i wr => ∃ k : Nat, k ≤ 32 ∧ i = .int .i64 k ∧ RelO w wr (splitE (valD (bs.take k))).list) (fun i _ => 32 - (intOf i).toNat)
  case atStart => exact ⟨0, by omega, rfl, hR0⟩
  case round =>
    obtain ⟨k, hk, rfl, hR⟩ := hrel
    clear hR0
    by_cases hlt : k < 32
    · obtain ⟨V, hV⟩ : ∃ V, V = valD (bs.take k) := ⟨_, rfl⟩
      obtain ⟨c, hcc⟩ : ∃ c, c = bs.getD k 0 := ⟨_, rfl⟩
      have hVl : V < 256 ^ k := by rw [hV]; exact valD_take_lt hb k
      have hcl : c < 256 := by rw [hcc]; exact hb k
      have HV : Hid (valD (bs.take (k + 1)) = V + 256 ^ k * c) := by show _ = _; rw [valD_take_succ, ← hV, ← hcc]
      rw [← hV] at hR
      obtain ⟨h1, h2, h3⟩ := split_step V c k hlt hVl hcl
      rw [← HV.out] at h3
      have cb := (hR.1.cell (p := ⟨g, off + k, none⟩) hgl).trans (hc k (by rw [hlen.out]; omega))
      rw [← hcc] at cb
      obtain ⟨at', hat⟩ : ∃ t, t = 8 * k / 51 := ⟨_, rfl⟩
      obtain ⟨sh, hsh⟩ : ∃ t, t = 8 * k % 51 := ⟨_, rfl⟩
      have iat : 8 * (k : Int) / 51 = (at' : Int) := by omega
      have ish : 8 * (k : Int) % 51 = (sh : Int) := by omega
      have hat5 : at' < 5 := by omega
      have hsh5 : sh < 51 := by omega
      rw [← hat, ← hsh] at h1 h3
      rw [← hat] at h2
      have c1 := cell_ints hR.2.2 at' (by rw [splitE_len]; omega)
      have f1 := free_ints hR.2.2 at'
      obtain ⟨x, hx⟩ : ∃ t, t = (splitE V).list.getD at' 0 := ⟨_, rfl⟩
      rw [← hx] at c1 h1 h3
      have HR1 : Hid (RelO w (wr.setCell ⟨w.heap.size + 1, at', none⟩ (.int .u64 (bits .or .u64 (x : Int) (bits .and .u64 (IntKind.u64.wrap ((c : Int) * 2 ^ sh)) 2251799813685247)))).drew ((splitE V).list.set at' (x + c * 2 ^ sh % 2251799813685248))) := by
        show RelO _ _ _
        rw [or_part x c sh h1 hsh5 hcl]
        exact (hR.set _ _).drew
      have H2 : Hid ((splitE V).list.getD (at' + 1) 0 = 0) := h2
      have H3 : Hid (((splitE V).list.set at' (x + c * 2 ^ sh % 2251799813685248)).set (at' + 1) (c / 2 ^ (51 - sh)) = (splitE (valD (bs.take (k + 1)))).list) := h3
      clear hat hsh hx h1 h2 h3 hV hcc hR
      go_wp2_with fail
      go_region
      generalize (wr.setCell ⟨w.heap.size + 1, at', none⟩ (.int .u64 (bits .or .u64 (x : Int) (bits .and .u64 (IntKind.u64.wrap ((c : Int) * 2 ^ sh)) 2251799813685247)))).drew = w2 at HR1 ⊢
      have hR := HR1.out
      have hl5 : ((splitE V).list.set at' (x + c * 2 ^ sh % 2251799813685248)).length = 5 := by rw [List.length_set]; rfl
      clear HR1 c1 f1 cb
      by_cases h4 : at' + 1 < 5
      · have c2 := cell_ints hR.2.2 (at' + 1) (by rw [hl5]; omega)
        have f2 := free_ints hR.2.2 (at' + 1)
        have e0 : ((splitE V).list.set at' (x + c * 2 ^ sh % 2251799813685248)).getD (at' + 1) 0 = 0 := by
          rw [List.getD_eq_getElem?_getD, List.getElem?_set_ne (by omega), ← List.getD_eq_getElem?_getD]; exact H2.out
        rw [e0] at c2
        have HR2 : Hid (RelO w (w2.setCell ⟨w.heap.size + 1, at' + 1, none⟩ (.int .u64 (bits .or .u64 0 ((c : Int) / 2 ^ (51 - sh))))).drew (splitE (valD (bs.take (k + 1)))).list) := by
          show RelO _ _ _
          rw [← H3.out, or_zero c (51 - sh) hcl]
          exact (hR.set _ _).drew
        clear hR hl5 e0 hv hc hgl hb
        go_wp2_with fail
        go_region
        go_wp2
        go_roundw
        case rel => exact ⟨k + 1, by omega, by go_num, HR2.out⟩
        case measure => simp [intOf]; omega
      · have HR2 : Hid (RelO w w2 (splitE (valD (bs.take (k + 1)))).list) := by
          show RelO _ _ _
          rw [← H3.out, List.set_eq_of_length_le (by rw [hl5]; omega)]
          exact hR
        clear hR hl5 hv hc hgl hb
        go_wp2
        go_roundw
        case rel => exact ⟨k + 1, by omega, by go_num, HR2.out⟩
        case measure => simp [intOf]; omega
    · obtain rfl : k = 32 := by omega
      rw [List.take_of_length_le (by rw [hlen.out]; exact Nat.le_refl _)] at hR
      obtain ⟨rv, hrv⟩ : ∃ r, r = elc (splitE (valD bs)) := ⟨_, rfl⟩
      have hrl : rv.size = 5 := by rw [hrv]; rfl
      have hr1 : rv.all (·.oneCell') = true := by rw [hrv]; exact elc_one _
      obtain ⟨hB, hz2, h5⟩ := hR
      rw [← elc_ints, ← hrv] at h5
      have HRV : Hid (rv = elc (splitE (valD bs))) := hrv
      clear hrv hv hc hgl hb
      go_wp2_with (first
        | (refine wpList_load_row rfl 27 (.tmp 3) rfl _ rfl 27 rv (0, 0) _ h5 Tryd.underlying27 rfl (by rw [hrl]; exact info26) ?_)
        | (refine wpList_store_row rfl 27 (.tmp 2) (.tmp 50) rfl _ rv rfl rfl 27 _ hz2 (by rw [hrl]; exact info26) (by rw [hrl]; rfl) hr1 ?_))
      refine bodyPost_ret (v := .agg rv) ?_ rfl ⟨by rw [HRV.out], setRow_below hB (by omega) _⟩
      exact results_cell_row Tryd.results54 _ _ _ 27 rv (0, 0) _ rfl (setRow_heap _ _ _ _ _ _ hz2) Tryd.underlying27 rfl (by rw [hrl]; exact info26)
end Go.Proofs.YtpfcboakafbnlaaDoor
