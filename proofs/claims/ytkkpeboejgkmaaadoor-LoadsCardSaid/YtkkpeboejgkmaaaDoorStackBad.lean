/- Stack: arguments that are none: both programs say so. -/
import Derived.Test.YtkkpeboejgkmaaaDoorStackPure
namespace Go.Proofs.YtkkpeboejgkmaaaDoor
open Go.RowKit
set_option linter.unusedVariables false
set_option linter.unusedSimpArgs false

set_option maxHeartbeats 1000000 in
theorem stack_exe_bad (a : Option Addr) (b off cap : Nat) (ss : List ByteArray) (w : World) (hn : ss.length ≤ 1000) (ha : 0 < ss.length → a = some ⟨b, off, none⟩)
    (hcell : ∀ i, i < ss.length → w.cell? ⟨b, off + i, none⟩ = some (.string (ss.getD i ByteArray.empty))) (hok : okArgs ss = false) :
    Calls Tryd.prog 28 #[.slice a ss.length cap] w fun e w' => e = .returned (.tuple #[.slice none 0 0, .int .u64 0, .iface 31 (.int .i64 6)]) ∧ w' = w := by
  have HC := hide hcell
  have HA := hide ha
  have HO := hide hok
  clear hcell ha hok
  go_enter Tryd.func28, Tryd.ntmps28
  go_wp2_with fail
  refine (areArgs_any a b off cap ss _ hn (unhide HA) (unhide HC)).mono ?_
  rw [unhide HO]
  rintro e w' ⟨rfl, rfl⟩
  go_wp2
  go_ret3
  exact ⟨rfl, rfl⟩

/-- A byte of a string. -/
theorem byte_zero {s : ByteArray} {j : Nat} (hj : j < s.size) (h : (s[j].toNat : Int) = 0) : okArg s = false := by
  have : s[j] = 0 := by
    apply UInt8.toNat_inj.1
    have : s[j].toNat = 0 := by omega
    simpa using this
  have hm : (0 : UInt8) ∈ s.data.toList := by
    rw [← this]
    exact List.getElem_mem (l := s.data.toList) (by simpa using hj)
  simp [okArg, hm]
theorem byte_ok {s : ByteArray} (h : okArg s = true) {j : Nat} (hj : j < s.size) : (s[j].toNat : Int) ≠ 0 := fun e => by
  have := byte_zero hj e
  rw [h] at this
  cases this
theorem okArg_bytes {s : ByteArray} (h : s.size ≤ 30) (h0 : ∀ j, (hj : j < s.size) → (s[j].toNat : Int) ≠ 0) : okArg s = true := by
  have : ¬ (0 : UInt8) ∈ s.data.toList := fun m => by
    obtain ⟨j, hj, e⟩ := List.getElem_of_mem m
    have hj' : j < s.size := by simpa using hj
    have : s[j] = 0 := e
    exact h0 j hj' (by rw [this]; rfl)
  simp [okArg, h, this]

set_option maxHeartbeats 1000000 in
theorem stack_ref_bad (a : Option Addr) (b off cap : Nat) (ss : List ByteArray) (w : World) (hn : ss.length ≤ 1000) (ha : 0 < ss.length → a = some ⟨b, off, none⟩)
    (hcell : ∀ i, i < ss.length → w.cell? ⟨b, off + i, none⟩ = some (.string (ss.getD i ByteArray.empty))) (hs : ∀ s ∈ ss, s.size ≤ maxLen) (hok : okArgs ss = false) :
    Calls Tryd.prog 17 #[.slice a ss.length cap] w fun e w' => e = .returned (.tuple #[.slice none 0 0, .int .u64 0, .int .i64 6]) ∧ w' = w := by
  have HC := hide hcell
  have HA := hide ha
  have HO := hide hok
  by_cases h8 : 8 < ss.length
  · clear hcell ha hok
    go_enter Tryd.func17, Tryd.ntmps17
    go_wp2
    go_ret3
    exact ⟨rfl, rfl⟩
  · clear hcell ha hok
    go_enter Tryd.func17, Tryd.ntmps17
    go_wp2
    go_loop [5] (fun i => ∃ k : Nat, k ≤ ss.length ∧ i = .int .i64 k ∧ (ss.take k).all okArg = true) (fun i => ss.length - (intOf i).toNat)
    case atStart => exact ⟨0, by omega, rfl, rfl⟩
    case round =>
      obtain ⟨k, hk, rfl, hall⟩ := hrel
      have HALL := hide hall
      clear hall
      by_cases hlt : k < ss.length
      · have hca := (unhide HC) k hlt
        have e := (unhide HA) (by omega)
        subst e
        have hms := hs (ss.getD k ByteArray.empty) (by simp [List.getD, List.getElem?_eq_getElem hlt])
        obtain ⟨s, hs'⟩ : ∃ s, s = ss.getD k ByteArray.empty := ⟨_, rfl⟩
        rw [← hs'] at hca hms
        have HS := hide hs'
        unfold maxLen at hms
        clear hs'
        by_cases hl : s.size ≤ 30
        · go_wp2
          go_loop [6] (fun i => ∃ j : Nat, j ≤ s.size ∧ i = .int .i64 j ∧ ∀ m, (hm : m < s.size) → m < j → (s[m].toNat : Int) ≠ 0) (fun i => s.size - (intOf i).toNat)
          case atStart => exact ⟨0, by omega, rfl, fun m hm h => by omega⟩
          case round =>
            obtain ⟨j, hj, rfl, hnz⟩ := hrel
            have HNZ := hide hnz
            clear hnz
            by_cases hjl : j < s.size
            · by_cases hz : (s[j].toNat : Int) = 0
              · have hb : ((s[j].toNat : Int) == 0) = true := by simpa using hz
                have HZ := hide hz
                clear hz
                go_wp2
                go_ret3
                exact ⟨rfl, rfl⟩
              · have hb : ((s[j].toNat : Int) == 0) = false := by simpa using hz
                have HZ := hide hz
                clear hz
                go_wp2
                go_round
                case rel =>
                  refine ⟨j + 1, by omega, by go_num, fun m hm h => ?_⟩
                  by_cases e : m = j
                  · subst e; exact unhide HZ
                  · exact unhide HNZ m hm (by omega)
                case measure => simp [intOf]; omega
            · have F := hide (all_take hlt (by rw [← unhide HS]; exact okArg_bytes hl (fun m hm => unhide HNZ m hm (by omega))) (unhide HALL))
              go_wp2
              go_round
              case rel => exact ⟨k + 1, by omega, by go_num, unhide F⟩
              case measure => simp [intOf]; omega
        · go_wp2
          go_ret3
          exact ⟨rfl, rfl⟩
      · exfalso
        have : ss.all okArg = true := by have := unhide HALL; rwa [List.take_of_length_le (by omega)] at this
        have h2 := unhide HO
        simp [okArgs, this] at h2
        omega
end Go.Proofs.YtkkpeboejgkmaaaDoor
