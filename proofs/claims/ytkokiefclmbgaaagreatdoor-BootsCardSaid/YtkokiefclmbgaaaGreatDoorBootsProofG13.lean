import Derived.Test.YtkokiefclmbgaaaGreatDoorBootsProofG12
import Derived.Deep.MidRow
import Derived.Deep.QuietTactic
import Derived.BigQuiet
/- exe.readHeader. -/
namespace Go.Proofs.YtkokiefclmbgaaaGreatDoor
open Go.RowKit
set_option linter.unusedVariables false
set_option linter.unusedSimpArgs false

/-- The table of the header's numbers, as cells. -/
def tblRow : List Value := [.int .i64 16, .int .i64 2, .int .u64 2, .int .i64 18, .int .i64 2, .int .u64 243, .int .i64 20, .int .i64 4, .int .u64 1, .int .i64 32, .int .i64 8, .int .u64 64, .int .i64 52, .int .i64 2, .int .u64 64, .int .i64 54, .int .i64 2, .int .u64 56]
theorem tblSize : (Tryz.prog.info? 269).map (·.size) = some tblRow.length := by kernel_rfl
theorem tblAt0 (w : World) : (Instr.index 269 (.agg tblRow.toArray) (.int .i64 0)).run Tryz.prog w = .ok (.agg #[.int .i64 16, .int .i64 2, .int .u64 2]) w := by kernel_rfl
theorem tblAt1 (w : World) : (Instr.index 269 (.agg tblRow.toArray) (.int .i64 1)).run Tryz.prog w = .ok (.agg #[.int .i64 18, .int .i64 2, .int .u64 243]) w := by kernel_rfl
theorem tblAt2 (w : World) : (Instr.index 269 (.agg tblRow.toArray) (.int .i64 2)).run Tryz.prog w = .ok (.agg #[.int .i64 20, .int .i64 4, .int .u64 1]) w := by kernel_rfl
theorem tblAt3 (w : World) : (Instr.index 269 (.agg tblRow.toArray) (.int .i64 3)).run Tryz.prog w = .ok (.agg #[.int .i64 32, .int .i64 8, .int .u64 64]) w := by kernel_rfl
theorem tblAt4 (w : World) : (Instr.index 269 (.agg tblRow.toArray) (.int .i64 4)).run Tryz.prog w = .ok (.agg #[.int .i64 52, .int .i64 2, .int .u64 64]) w := by kernel_rfl
theorem tblAt5 (w : World) : (Instr.index 269 (.agg tblRow.toArray) (.int .i64 5)).run Tryz.prog w = .ok (.agg #[.int .i64 54, .int .i64 2, .int .u64 56]) w := by kernel_rfl
/-- The first k numbers of the header are right. -/
def fOk (B : List Int) : Nat → Prop
  | 0 => True
  | 1 => numAt B 16 2 = 2
  | 2 => numAt B 16 2 = 2 ∧ numAt B 18 2 = 243
  | 3 => numAt B 16 2 = 2 ∧ numAt B 18 2 = 243 ∧ numAt B 20 4 = 1
  | 4 => numAt B 16 2 = 2 ∧ numAt B 18 2 = 243 ∧ numAt B 20 4 = 1 ∧ numAt B 32 8 = 64
  | 5 => numAt B 16 2 = 2 ∧ numAt B 18 2 = 243 ∧ numAt B 20 4 = 1 ∧ numAt B 32 8 = 64 ∧ numAt B 52 2 = 64
  | 6 => numAt B 16 2 = 2 ∧ numAt B 18 2 = 243 ∧ numAt B 20 4 = 1 ∧ numAt B 32 8 = 64 ∧ numAt B 52 2 = 64 ∧ numAt B 54 2 = 56
  | _ => False

def HdrPost (B : List Int) (w : World) (e : Ending) (w' : World) : Prop := ∃ n : Int, ∃ ok : Bool, e = .returned (.tuple #[.int .i64 n, .bool ok]) ∧ Below w.heap.size w w' ∧ (ok = true ↔ HdrOk B) ∧ (HdrOk B → n = numAt B 56 2)

set_option maxRecDepth 100000 in
set_option maxHeartbeats 2000000 in
theorem readHeader_any (b off cap : Nat) (B : List Int) (w : World) (hB : IsBytes B) (hcap : B.length ≤ cap) (hlen : B.length ≤ 1000000) (hv : BView w b off B) (hbw : b < w.heap.size) (ht : w.rangeAt 1 0 tblRow) (hgw : 1 < w.heap.size) :
    Calls Tryz.prog 97 #[.slice (some ⟨b, off, none⟩) B.length cap] w fun e w' => HdrPost B w e w' := by
  by_cases h64 : 64 ≤ B.length
  case neg =>
    have hno : ¬ HdrOk B := fun h => h64 h.1
    have HN := hide hno
    clear hv hB hno ht
    go_enter Tryz.func97, Tryz.ntmps97
    go_wp2
    go_ret2
    exact ⟨0, false, rfl, Below.refl _ _, no_iff (unhide HN), fun h => absurd h (unhide HN)⟩
  have hcv := conv7 b off cap B w hv (by omega)
  obtain ⟨s7, hs7⟩ : ∃ s7, s7 = strOfNums (B.take 7) := ⟨_, rfl⟩
  rw [← hs7] at hcv
  have h7 : (7 : Int) ≤ (cap : Int) := by omega
  have h70 : ¬ cap = 0 := by omega
  have HT := hide ht
  have HV := hide hv
  have HBB := hide hB
  clear ht hv hB
  by_cases hm : (s7.toList == [127, 69, 76, 70, 2, 1, 1]) = true
  case neg =>
    have hm' : (s7.toList == [127, 69, 76, 70, 2, 1, 1]) = false := by simpa using hm
    have hno : ¬ HdrOk B := fun h => hm (by rw [hs7]; exact h.2.1)
    have HN := hide hno
    have HM := hide hm
    clear hno hm hs7
    go_enter Tryz.func97, Tryz.ntmps97
    go_wp2
    go_ret2
    exact ⟨0, false, rfl, Below.refl _ _, no_iff (unhide HN), fun h => absurd h (unhide HN)⟩
  have hm2 : (!s7.toList == [127, 69, 76, 70, 2, 1, 1]) = false := by rw [hm]; rfl
  have hmg : magicOk B := by unfold magicOk; rw [← hs7]; exact hm
  have HMG := hide hmg
  clear hm hs7 hmg
  go_enter Tryz.func97, Tryz.ntmps97
  go_wp2_with (refine wpList_load_mid rfl 269 _ rfl 1 0 (by rfl) tblRow _ (unhide HT) Tryz.underlying269 rfl tblSize ?_)
  go_loopw [17] (fun i wr => ∃ k : Nat, k ≤ 6 ∧ i = .int .i64 k ∧ fOk B k ∧ Below w.heap.size w wr) (fun i _ => 6 - (intOf i).toNat)
  case atStart => exact ⟨0, by omega, rfl, trivial, Below.refl _ _⟩
  case round =>
    obtain ⟨k, hk, rfl, hf, hbl⟩ := hrel
    have HF := hide hf
    have HBL := hide hbl
    clear hf hbl
    have hk7 : k = 0 ∨ k = 1 ∨ k = 2 ∨ k = 3 ∨ k = 4 ∨ k = 5 ∨ k = 6 := by omega
    rcases hk7 with rfl | rfl | rfl | rfl | rfl | rfl | rfl
    · rw [show ((0 : Nat) : Int) = (0 : Int) from rfl]
      have ti := tblAt0
      have HBL1 := hide ((unhide HBL).alloc (unhide HBL).size (.cells #[.int .i64 16, .int .i64 2, .int .u64 2] 268))
      have hb8 := numAt_8 (unhide HBB) 16 2 (by omega)
      obtain ⟨x, hx⟩ : ∃ x, x = numAt B 16 2 := ⟨_, rfl⟩
      have HN8 : Hid (∀ m, Calls Tryz.prog 103 #[.slice (some ⟨b, off, none⟩) B.length cap, .int .i64 16, .int .i64 2] ((wr.alloc (.cells #[.int .i64 16, .int .i64 2, .int .u64 2] 268)).drewN m) fun e w' => e = .returned (.int .u64 x) ∧ w' = (wr.alloc (.cells #[.int .i64 16, .int .i64 2, .int .u64 2] 268)).drewN m) := hide (fun m => by
        rw [hx]
        exact number_any b off cap B 16 2 _ (unhide HBB) (by omega) (by omega) (by omega) hcap hlen (fun j hj => by rw [World.cell?_drewN]; exact ((unhide HV).below (unhide HBL1) hbw) j hj))
      have HX := hide hx
      clear hx
      by_cases hxe : x = 2
      · have f : (x != 2) = false := by simpa using hxe
        have HXE : Hid (numAt B 16 2 = 2) := hide (by rw [← unhide HX]; exact hxe)
        clear hxe hb8
        go_wp2_with fail
        go_quiet ((go_at_call 103; exact Calls.quiet_of_same (unhide HN8 _)))
        go_wp2
        go_roundw
        case rel => exact ⟨1, by omega, rfl, unhide HXE, ⟨(unhide HBL1).os, (unhide HBL1).tape, (unhide HBL1).output, (unhide HBL1).size, (unhide HBL1).block⟩⟩
        case measure => simp [intOf]
      · have f : (x != 2) = true := by simpa using hxe
        have hno : ¬ HdrOk B := fun h => hxe (by rw [unhide HX]; exact h.2.2.1)
        have HN := hide hno
        clear hxe hb8 hno
        go_wp2_with fail
        go_quiet ((go_at_call 103; exact Calls.quiet_of_same (unhide HN8 _)))
        go_wp2
        go_ret2
        exact ⟨0, false, rfl, ⟨(unhide HBL1).os, (unhide HBL1).tape, (unhide HBL1).output, (unhide HBL1).size, (unhide HBL1).block⟩, no_iff (unhide HN), fun h => absurd h (unhide HN)⟩
    · rw [show ((1 : Nat) : Int) = (1 : Int) from rfl]
      have ti := tblAt1
      have HBL1 := hide ((unhide HBL).alloc (unhide HBL).size (.cells #[.int .i64 18, .int .i64 2, .int .u64 243] 268))
      have hb8 := numAt_8 (unhide HBB) 18 2 (by omega)
      obtain ⟨x, hx⟩ : ∃ x, x = numAt B 18 2 := ⟨_, rfl⟩
      have HN8 : Hid (∀ m, Calls Tryz.prog 103 #[.slice (some ⟨b, off, none⟩) B.length cap, .int .i64 18, .int .i64 2] ((wr.alloc (.cells #[.int .i64 18, .int .i64 2, .int .u64 243] 268)).drewN m) fun e w' => e = .returned (.int .u64 x) ∧ w' = (wr.alloc (.cells #[.int .i64 18, .int .i64 2, .int .u64 243] 268)).drewN m) := hide (fun m => by
        rw [hx]
        exact number_any b off cap B 18 2 _ (unhide HBB) (by omega) (by omega) (by omega) hcap hlen (fun j hj => by rw [World.cell?_drewN]; exact ((unhide HV).below (unhide HBL1) hbw) j hj))
      have HX := hide hx
      clear hx
      by_cases hxe : x = 243
      · have f : (x != 243) = false := by simpa using hxe
        have HXE : Hid (numAt B 18 2 = 243) := hide (by rw [← unhide HX]; exact hxe)
        clear hxe hb8
        go_wp2_with fail
        go_quiet ((go_at_call 103; exact Calls.quiet_of_same (unhide HN8 _)))
        go_wp2
        go_roundw
        case rel => exact ⟨2, by omega, rfl, ⟨unhide HF, unhide HXE⟩, ⟨(unhide HBL1).os, (unhide HBL1).tape, (unhide HBL1).output, (unhide HBL1).size, (unhide HBL1).block⟩⟩
        case measure => simp [intOf]
      · have f : (x != 243) = true := by simpa using hxe
        have hno : ¬ HdrOk B := fun h => hxe (by rw [unhide HX]; exact h.2.2.2.1)
        have HN := hide hno
        clear hxe hb8 hno
        go_wp2_with fail
        go_quiet ((go_at_call 103; exact Calls.quiet_of_same (unhide HN8 _)))
        go_wp2
        go_ret2
        exact ⟨0, false, rfl, ⟨(unhide HBL1).os, (unhide HBL1).tape, (unhide HBL1).output, (unhide HBL1).size, (unhide HBL1).block⟩, no_iff (unhide HN), fun h => absurd h (unhide HN)⟩
    · rw [show ((2 : Nat) : Int) = (2 : Int) from rfl]
      have ti := tblAt2
      have HBL1 := hide ((unhide HBL).alloc (unhide HBL).size (.cells #[.int .i64 20, .int .i64 4, .int .u64 1] 268))
      have hb8 := numAt_8 (unhide HBB) 20 4 (by omega)
      obtain ⟨x, hx⟩ : ∃ x, x = numAt B 20 4 := ⟨_, rfl⟩
      have HN8 : Hid (∀ m, Calls Tryz.prog 103 #[.slice (some ⟨b, off, none⟩) B.length cap, .int .i64 20, .int .i64 4] ((wr.alloc (.cells #[.int .i64 20, .int .i64 4, .int .u64 1] 268)).drewN m) fun e w' => e = .returned (.int .u64 x) ∧ w' = (wr.alloc (.cells #[.int .i64 20, .int .i64 4, .int .u64 1] 268)).drewN m) := hide (fun m => by
        rw [hx]
        exact number_any b off cap B 20 4 _ (unhide HBB) (by omega) (by omega) (by omega) hcap hlen (fun j hj => by rw [World.cell?_drewN]; exact ((unhide HV).below (unhide HBL1) hbw) j hj))
      have HX := hide hx
      clear hx
      by_cases hxe : x = 1
      · have f : (x != 1) = false := by simpa using hxe
        have HXE : Hid (numAt B 20 4 = 1) := hide (by rw [← unhide HX]; exact hxe)
        clear hxe hb8
        go_wp2_with fail
        go_quiet ((go_at_call 103; exact Calls.quiet_of_same (unhide HN8 _)))
        go_wp2
        go_roundw
        case rel => exact ⟨3, by omega, rfl, ⟨(unhide HF).1, (unhide HF).2, unhide HXE⟩, ⟨(unhide HBL1).os, (unhide HBL1).tape, (unhide HBL1).output, (unhide HBL1).size, (unhide HBL1).block⟩⟩
        case measure => simp [intOf]
      · have f : (x != 1) = true := by simpa using hxe
        have hno : ¬ HdrOk B := fun h => hxe (by rw [unhide HX]; exact h.2.2.2.2.1)
        have HN := hide hno
        clear hxe hb8 hno
        go_wp2_with fail
        go_quiet ((go_at_call 103; exact Calls.quiet_of_same (unhide HN8 _)))
        go_wp2
        go_ret2
        exact ⟨0, false, rfl, ⟨(unhide HBL1).os, (unhide HBL1).tape, (unhide HBL1).output, (unhide HBL1).size, (unhide HBL1).block⟩, no_iff (unhide HN), fun h => absurd h (unhide HN)⟩
    · rw [show ((3 : Nat) : Int) = (3 : Int) from rfl]
      have ti := tblAt3
      have HBL1 := hide ((unhide HBL).alloc (unhide HBL).size (.cells #[.int .i64 32, .int .i64 8, .int .u64 64] 268))
      have hb8 := numAt_8 (unhide HBB) 32 8 (by omega)
      obtain ⟨x, hx⟩ : ∃ x, x = numAt B 32 8 := ⟨_, rfl⟩
      have HN8 : Hid (∀ m, Calls Tryz.prog 103 #[.slice (some ⟨b, off, none⟩) B.length cap, .int .i64 32, .int .i64 8] ((wr.alloc (.cells #[.int .i64 32, .int .i64 8, .int .u64 64] 268)).drewN m) fun e w' => e = .returned (.int .u64 x) ∧ w' = (wr.alloc (.cells #[.int .i64 32, .int .i64 8, .int .u64 64] 268)).drewN m) := hide (fun m => by
        rw [hx]
        exact number_any b off cap B 32 8 _ (unhide HBB) (by omega) (by omega) (by omega) hcap hlen (fun j hj => by rw [World.cell?_drewN]; exact ((unhide HV).below (unhide HBL1) hbw) j hj))
      have HX := hide hx
      clear hx
      by_cases hxe : x = 64
      · have f : (x != 64) = false := by simpa using hxe
        have HXE : Hid (numAt B 32 8 = 64) := hide (by rw [← unhide HX]; exact hxe)
        clear hxe hb8
        go_wp2_with fail
        go_quiet ((go_at_call 103; exact Calls.quiet_of_same (unhide HN8 _)))
        go_wp2
        go_roundw
        case rel => exact ⟨4, by omega, rfl, ⟨(unhide HF).1, (unhide HF).2.1, (unhide HF).2.2, unhide HXE⟩, ⟨(unhide HBL1).os, (unhide HBL1).tape, (unhide HBL1).output, (unhide HBL1).size, (unhide HBL1).block⟩⟩
        case measure => simp [intOf]
      · have f : (x != 64) = true := by simpa using hxe
        have hno : ¬ HdrOk B := fun h => hxe (by rw [unhide HX]; exact h.2.2.2.2.2.1)
        have HN := hide hno
        clear hxe hb8 hno
        go_wp2_with fail
        go_quiet ((go_at_call 103; exact Calls.quiet_of_same (unhide HN8 _)))
        go_wp2
        go_ret2
        exact ⟨0, false, rfl, ⟨(unhide HBL1).os, (unhide HBL1).tape, (unhide HBL1).output, (unhide HBL1).size, (unhide HBL1).block⟩, no_iff (unhide HN), fun h => absurd h (unhide HN)⟩
    · rw [show ((4 : Nat) : Int) = (4 : Int) from rfl]
      have ti := tblAt4
      have HBL1 := hide ((unhide HBL).alloc (unhide HBL).size (.cells #[.int .i64 52, .int .i64 2, .int .u64 64] 268))
      have hb8 := numAt_8 (unhide HBB) 52 2 (by omega)
      obtain ⟨x, hx⟩ : ∃ x, x = numAt B 52 2 := ⟨_, rfl⟩
      have HN8 : Hid (∀ m, Calls Tryz.prog 103 #[.slice (some ⟨b, off, none⟩) B.length cap, .int .i64 52, .int .i64 2] ((wr.alloc (.cells #[.int .i64 52, .int .i64 2, .int .u64 64] 268)).drewN m) fun e w' => e = .returned (.int .u64 x) ∧ w' = (wr.alloc (.cells #[.int .i64 52, .int .i64 2, .int .u64 64] 268)).drewN m) := hide (fun m => by
        rw [hx]
        exact number_any b off cap B 52 2 _ (unhide HBB) (by omega) (by omega) (by omega) hcap hlen (fun j hj => by rw [World.cell?_drewN]; exact ((unhide HV).below (unhide HBL1) hbw) j hj))
      have HX := hide hx
      clear hx
      by_cases hxe : x = 64
      · have f : (x != 64) = false := by simpa using hxe
        have HXE : Hid (numAt B 52 2 = 64) := hide (by rw [← unhide HX]; exact hxe)
        clear hxe hb8
        go_wp2_with fail
        go_quiet ((go_at_call 103; exact Calls.quiet_of_same (unhide HN8 _)))
        go_wp2
        go_roundw
        case rel => exact ⟨5, by omega, rfl, ⟨(unhide HF).1, (unhide HF).2.1, (unhide HF).2.2.1, (unhide HF).2.2.2, unhide HXE⟩, ⟨(unhide HBL1).os, (unhide HBL1).tape, (unhide HBL1).output, (unhide HBL1).size, (unhide HBL1).block⟩⟩
        case measure => simp [intOf]
      · have f : (x != 64) = true := by simpa using hxe
        have hno : ¬ HdrOk B := fun h => hxe (by rw [unhide HX]; exact h.2.2.2.2.2.2.1)
        have HN := hide hno
        clear hxe hb8 hno
        go_wp2_with fail
        go_quiet ((go_at_call 103; exact Calls.quiet_of_same (unhide HN8 _)))
        go_wp2
        go_ret2
        exact ⟨0, false, rfl, ⟨(unhide HBL1).os, (unhide HBL1).tape, (unhide HBL1).output, (unhide HBL1).size, (unhide HBL1).block⟩, no_iff (unhide HN), fun h => absurd h (unhide HN)⟩
    · rw [show ((5 : Nat) : Int) = (5 : Int) from rfl]
      have ti := tblAt5
      have HBL1 := hide ((unhide HBL).alloc (unhide HBL).size (.cells #[.int .i64 54, .int .i64 2, .int .u64 56] 268))
      have hb8 := numAt_8 (unhide HBB) 54 2 (by omega)
      obtain ⟨x, hx⟩ : ∃ x, x = numAt B 54 2 := ⟨_, rfl⟩
      have HN8 : Hid (∀ m, Calls Tryz.prog 103 #[.slice (some ⟨b, off, none⟩) B.length cap, .int .i64 54, .int .i64 2] ((wr.alloc (.cells #[.int .i64 54, .int .i64 2, .int .u64 56] 268)).drewN m) fun e w' => e = .returned (.int .u64 x) ∧ w' = (wr.alloc (.cells #[.int .i64 54, .int .i64 2, .int .u64 56] 268)).drewN m) := hide (fun m => by
        rw [hx]
        exact number_any b off cap B 54 2 _ (unhide HBB) (by omega) (by omega) (by omega) hcap hlen (fun j hj => by rw [World.cell?_drewN]; exact ((unhide HV).below (unhide HBL1) hbw) j hj))
      have HX := hide hx
      clear hx
      by_cases hxe : x = 56
      · have f : (x != 56) = false := by simpa using hxe
        have HXE : Hid (numAt B 54 2 = 56) := hide (by rw [← unhide HX]; exact hxe)
        clear hxe hb8
        go_wp2_with fail
        go_quiet ((go_at_call 103; exact Calls.quiet_of_same (unhide HN8 _)))
        go_wp2
        go_roundw
        case rel => exact ⟨6, by omega, rfl, ⟨(unhide HF).1, (unhide HF).2.1, (unhide HF).2.2.1, (unhide HF).2.2.2.1, (unhide HF).2.2.2.2, unhide HXE⟩, ⟨(unhide HBL1).os, (unhide HBL1).tape, (unhide HBL1).output, (unhide HBL1).size, (unhide HBL1).block⟩⟩
        case measure => simp [intOf]
      · have f : (x != 56) = true := by simpa using hxe
        have hno : ¬ HdrOk B := fun h => hxe (by rw [unhide HX]; exact h.2.2.2.2.2.2.2.1)
        have HN := hide hno
        clear hxe hb8 hno
        go_wp2_with fail
        go_quiet ((go_at_call 103; exact Calls.quiet_of_same (unhide HN8 _)))
        go_wp2
        go_ret2
        exact ⟨0, false, rfl, ⟨(unhide HBL1).os, (unhide HBL1).tape, (unhide HBL1).output, (unhide HBL1).size, (unhide HBL1).block⟩, no_iff (unhide HN), fun h => absurd h (unhide HN)⟩
    · rw [show ((6 : Nat) : Int) = (6 : Int) from rfl]
      have hb8 := numAt_8 (unhide HBB) 56 2 (by omega)
      have hx16 := numAt_bd (unhide HBB) 2 56
      have e16 : (256 : Int) ^ 2 = 65536 := by decide
      rw [e16] at hx16
      obtain ⟨x, hx⟩ : ∃ x, x = numAt B 56 2 := ⟨_, rfl⟩
      rw [← hx] at hx16
      have HN8 : Hid (Calls Tryz.prog 103 #[.slice (some ⟨b, off, none⟩) B.length cap, .int .i64 56, .int .i64 2] wr fun e w' => e = .returned (.int .u64 x) ∧ w' = wr) := hide (by
        rw [hx]
        exact number_any b off cap B 56 2 _ (unhide HBB) (by omega) (by omega) (by omega) hcap hlen ((unhide HV).below (unhide HBL) hbw))
      have HH : Hid (HdrOk B ↔ (1 ≤ x ∧ x ≤ 8 ∧ 64 + 56 * x ≤ (B.length : Int))) := hide (by
        obtain ⟨r0, r1, r2, r3, r4, r5⟩ := unhide HF
        unfold HdrOk
        rw [← hx]
        constructor
        · rintro ⟨_, _, _, _, _, _, _, _, h⟩; exact h
        · intro h; exact ⟨h64, unhide HMG, r0, r1, r2, r3, r4, r5, h⟩)
      have HX := hide hx
      obtain ⟨hx0, hx1⟩ := hx16
      clear hx hb8 e16 HF
      by_cases t6 : 1 ≤ x
      case neg =>
        have HN := hide (fun h : HdrOk B => t6 ((unhide HH).1 h).1)
        go_wp2_with fail
        refine (unhide HN8).mono ?_
        rintro e w1 ⟨rfl, hw1⟩
        subst hw1
        go_wp2
        go_ret2
        exact ⟨0, false, rfl, unhide HBL, no_iff (unhide HN), fun h => absurd h (unhide HN)⟩
      by_cases t7 : x ≤ 8
      case neg =>
        have HN := hide (fun h : HdrOk B => t7 ((unhide HH).1 h).2.1)
        go_wp2_with fail
        refine (unhide HN8).mono ?_
        rintro e w1 ⟨rfl, hw1⟩
        subst hw1
        go_wp2
        go_ret2
        exact ⟨0, false, rfl, unhide HBL, no_iff (unhide HN), fun h => absurd h (unhide HN)⟩
      by_cases t8 : 64 + 56 * x ≤ (B.length : Int)
      case neg =>
        have HN := hide (fun h : HdrOk B => t8 ((unhide HH).1 h).2.2)
        go_wp2_with fail
        refine (unhide HN8).mono ?_
        rintro e w1 ⟨rfl, hw1⟩
        subst hw1
        go_wp2
        go_ret2
        exact ⟨0, false, rfl, unhide HBL, no_iff (unhide HN), fun h => absurd h (unhide HN)⟩
      go_wp2_with fail
      refine (unhide HN8).mono ?_
      rintro e w1 ⟨rfl, hw1⟩
      subst hw1
      go_wp2
      go_ret2
      exact ⟨x, true, rfl, unhide HBL, ⟨fun _ => (unhide HH).2 ⟨t6, t7, t8⟩, fun _ => rfl⟩, fun _ => unhide HX⟩
end Go.Proofs.YtkokiefclmbgaaaGreatDoor
