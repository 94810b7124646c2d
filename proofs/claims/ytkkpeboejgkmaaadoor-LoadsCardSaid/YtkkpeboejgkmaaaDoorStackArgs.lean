/- Stack: are these arguments? -/
import Derived.Test.YtkkpeboejgkmaaaDoorStackBase
import Derived.Lib.Bytealg
namespace Go.Proofs.YtkkpeboejgkmaaaDoor
open Go.RowKit
set_option linter.unusedVariables false
set_option linter.unusedSimpArgs false

theorem index_nonneg (l : List UInt8) (c : UInt8) : 0 ≤ Lib.indexByte l c ↔ c ∈ l := by
  induction l with
  | nil => simp [Lib.indexByte]
  | cons b l ih =>
    unfold Lib.indexByte
    by_cases h : b = c
    · simp [h]
    · have h' : c ≠ b := fun e => h e.symm
      simp only [List.mem_cons, h', false_or, ← ih]
      have hne : (b == c) = false := by simpa using h
      simp only [hne]
      simp only [Bool.false_eq_true, if_false]
      by_cases g : Lib.indexByte l c = -1
      · simp [g]
      · have g' : (Lib.indexByte l c == -1) = false := by simpa using g
        simp only [g', Bool.false_eq_true, if_false]
        constructor <;> intro <;> omega

set_option maxHeartbeats 1000000 in
theorem index_any (s : ByteArray) (w : World) : Calls Tryd.prog 57 #[.string s, .int .u8 0] w fun e w' => e = .returned (.int .i64 (Lib.indexByte s.data.toList 0)) ∧ w' = w := by
  have h76 := @run_callFunc_extern Tryd.prog 76 _ Extern.BytealgIndexByte.indexByte Tryd.func76 (by kernel_rfl) (by kernel_rfl) (by kernel_rfl) (by kernel_rfl)
  have hr : ∀ w, (Extern.BytealgIndexByte.indexByte #[.string s, .int .u8 0]).run Tryd.prog w = .ok (.int .i64 (Lib.indexByte s.data.toList 0)) w := fun w => Lib.run_indexByteString s 0 w
  generalize Lib.indexByte s.data.toList 0 = r at *
  go_enter Tryd.func57, Tryd.ntmps57
  go_wp2
  go_ret
  exact ⟨rfl, rfl⟩

def okArg (s : ByteArray) : Bool := decide (s.size ≤ 30) && !(s.data.toList.contains 0)
def okArgs (ss : List ByteArray) : Bool := decide (ss.length ≤ 8) && ss.all okArg
theorem okArg_long {s : ByteArray} (h : 30 < s.size) : okArg s = false := by simp [okArg]; omega
theorem okArg_zero {s : ByteArray} (h : 0 ≤ Lib.indexByte s.data.toList 0) : okArg s = false := by
  have := (index_nonneg _ _).1 h
  simp [okArg, List.contains_iff_mem, this]
theorem okArg_yes {s : ByteArray} (h : s.size ≤ 30) (h0 : Lib.indexByte s.data.toList 0 < 0) : okArg s = true := by
  have : ¬ (0 : UInt8) ∈ s.data.toList := fun m => by have := (index_nonneg _ _).2 m; omega
  simp [okArg, h, this]
theorem all_false {ss : List ByteArray} {k : Nat} (hk : k < ss.length) (h : okArg (ss.getD k ByteArray.empty) = false) : ss.all okArg = false := by
  rw [List.all_eq_false]
  refine ⟨ss.getD k ByteArray.empty, ?_, by rw [h]; decide⟩
  simp [List.getD, List.getElem?_eq_getElem hk]
theorem all_take {ss : List ByteArray} {k : Nat} (hk : k < ss.length) (h : okArg (ss.getD k ByteArray.empty) = true) (ht : (ss.take k).all okArg = true) : (ss.take (k + 1)).all okArg = true := by
  rw [List.take_succ_eq_append_getElem hk, List.all_append, ht]
  simp [List.getD, List.getElem?_eq_getElem hk] at h
  simp [h]

set_option maxHeartbeats 1000000 in
theorem areArgs_any (a : Option Addr) (b off cap : Nat) (ss : List ByteArray) (w : World) (hn : ss.length ≤ 1000) (ha : 0 < ss.length → a = some ⟨b, off, none⟩)
    (hcell : ∀ i, i < ss.length → w.cell? ⟨b, off + i, none⟩ = some (.string (ss.getD i ByteArray.empty))) :
    Calls Tryd.prog 47 #[.slice a ss.length cap] w fun e w' => e = .returned (.bool (okArgs ss)) ∧ w' = w := by
  by_cases h8 : 8 < ss.length
  · have hr : okArgs ss = false := by simp [okArgs]; omega
    rw [hr]
    clear hr hcell ha
    go_enter Tryd.func47, Tryd.ntmps47
    go_wp2
    go_ret
    exact ⟨rfl, rfl⟩
  · have hr : okArgs ss = ss.all okArg := by simp [okArgs]; intro; omega
    rw [hr]
    have HC := hide hcell
    have HA := hide ha
    clear hr hcell ha
    go_enter Tryd.func47, Tryd.ntmps47
    go_wp2
    go_loop [10] (fun i => ∃ k : Nat, k ≤ ss.length ∧ i = .int .i64 k ∧ (ss.take k).all okArg = true) (fun i => ss.length - (intOf i).toNat)
    case atStart => exact ⟨0, by omega, rfl, rfl⟩
    case round =>
      obtain ⟨k, hk, rfl, hall⟩ := hrel
      have HALL := hide hall
      clear hall
      by_cases hlt : k < ss.length
      · have hca := (unhide HC) k hlt
        have e := (unhide HA) (by omega)
        subst e
        obtain ⟨s, hs⟩ : ∃ s, s = ss.getD k ByteArray.empty := ⟨_, rfl⟩
        rw [← hs] at hca
        have HS := hide hs
        clear hs
        by_cases hl : s.size ≤ 30
        · obtain ⟨r, hr⟩ : ∃ r, r = Lib.indexByte s.data.toList 0 := ⟨_, rfl⟩
          have HR := hide hr
          clear hr
          by_cases h0 : 0 ≤ r
          · have F := hide (all_false hlt (by rw [← unhide HS]; exact okArg_zero (by rw [← unhide HR]; exact h0)))
            go_wp2_with (go_at_call 57; refine (index_any _ _).mono ?_; rw [← unhide HR]; rintro e w' ⟨rfl, rfl⟩)
            go_ret
            exact ⟨by rw [unhide F]; rfl, rfl⟩
          · have F := hide (all_take hlt (by rw [← unhide HS]; exact okArg_yes hl (by rw [← unhide HR]; omega)) (unhide HALL))
            go_wp2_with (go_at_call 57; refine (index_any _ _).mono ?_; rw [← unhide HR]; rintro e w' ⟨rfl, rfl⟩)
            go_round
            case rel => exact ⟨k + 1, by omega, by go_num, unhide F⟩
            case measure => simp [intOf]; omega
        · have F := hide (all_false hlt (by rw [← unhide HS]; exact okArg_long (by omega)))
          go_wp2_with fail
          go_ret
          exact ⟨by rw [unhide F]; rfl, rfl⟩
      · have F := hide (show ss.all okArg = true by have := unhide HALL; rwa [List.take_of_length_le (by omega)] at this)
        go_wp2
        go_ret
        exact ⟨by rw [unhide F]; rfl, rfl⟩
end Go.Proofs.YtkkpeboejgkmaaaDoor
