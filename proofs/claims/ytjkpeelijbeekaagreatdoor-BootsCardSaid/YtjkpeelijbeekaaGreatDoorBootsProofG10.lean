import Derived.Test.YtjkpeelijbeekaaGreatDoorBootsProofG03
import Derived.Lib.Bytealg
/- Stack: are these arguments? -/
namespace Go.Proofs.YtjkpeelijbeekaaGreatDoor
open Go.RowKit
set_option linter.unusedVariables false
set_option linter.unusedSimpArgs false

theorem index_nonneg (l : List UInt8) (c : UInt8) : 0 ≤ Lib.indexByte l c ↔ c ∈ l := by
  induction l with
  | nil => simp [Lib.indexByte]
  | cons b l ih =>
    unfold Lib.indexByte
    by_cases h : b = c
    · simp [h]
    · have h' : c ≠ b := fun e => h e.symm
      simp only [List.mem_cons, h', false_or, ← ih]
      have hne : (b == c) = false := by simpa using h
      simp only [hne]
      simp only [Bool.false_eq_true, if_false]
      by_cases g : Lib.indexByte l c = -1
      · simp [g]
      · have g' : (Lib.indexByte l c == -1) = false := by simpa using g
        simp only [g', Bool.false_eq_true, if_false]
        constructor <;> intro <;> omega

set_option maxHeartbeats 1000000 in
theorem index_any (s : ByteArray) (w : World) : Calls Tryz.prog 124 #[.string s, .int .u8 0] w fun e w' => e = .returned (.int .i64 (Lib.indexByte s.data.toList 0)) ∧ w' = w := by
  have h76 := @run_callFunc_extern Tryz.prog 173 _ Extern.BytealgIndexByte.indexByte Tryz.func173 (by kernel_rfl) (by kernel_rfl) (by kernel_rfl) (by kernel_rfl)
  have hr : ∀ w, (Extern.BytealgIndexByte.indexByte #[.string s, .int .u8 0]).run Tryz.prog w = .ok (.int .i64 (Lib.indexByte s.data.toList 0)) w := fun w => Lib.run_indexByteString s 0 w
  generalize Lib.indexByte s.data.toList 0 = r at *
  go_enter Tryz.func124, Tryz.ntmps124
  go_wp2
  go_ret
  exact ⟨rfl, rfl⟩

def okArg (s : ByteArray) : Bool := decide (s.size ≤ 30) && !(s.data.toList.contains 0)
def okArgs (ss : List ByteArray) : Bool := decide (ss.length ≤ 8) && ss.all okArg
theorem okArg_long {s : ByteArray} (h : 30 < s.size) : okArg s = false := by simp [okArg]; omega
theorem okArg_zero {s : ByteArray} (h : 0 ≤ Lib.indexByte s.data.toList 0) : okArg s = false := by
  have := (index_nonneg _ _).1 h
  simp [okArg, List.contains_iff_mem, this]
theorem okArg_yes {s : ByteArray} (h : s.size ≤ 30) (h0 : Lib.indexByte s.data.toList 0 < 0) : okArg s = true := by
  have : ¬ (0 : UInt8) ∈ s.data.toList := fun m => by have := (index_nonneg _ _).2 m; omega
  simp [okArg, h, this]
theorem all_false {ss : List ByteArray} {k : Nat} (hk : k < ss.length) (h : okArg (ss.getD k ByteArray.empty) = false) : ss.all okArg = false := by
  rw [List.all_eq_false]
  refine ⟨ss.getD k ByteArray.empty, ?_, by rw [h]; decide⟩
  simp [List.getD, List.getElem?_eq_getElem hk]
theorem all_take {ss : List ByteArray} {k : Nat} (hk : k < ss.length) (h : okArg (ss.getD k ByteArray.empty) = true) (ht : (ss.take k).all okArg = true) : (ss.take (k + 1)).all okArg = true := by
  rw [List.take_succ_eq_append_getElem hk, List.all_append, ht]
  simp [List.getD, List.getElem?_eq_getElem hk] at h
  simp [h]

set_option maxHeartbeats 1000000 in
theorem areArgs_any (a : Option Addr) (b off cap : Nat) (ss : List ByteArray) (w : World) (hn : ss.length ≤ 1000) (ha : 0 < ss.length → a = some ⟨b, off, none⟩)
    (hcell : ∀ i, i < ss.length → w.cell? ⟨b, off + i, none⟩ = some (.string (ss.getD i ByteArray.empty))) :
    Calls Tryz.prog 106 #[.slice a ss.length cap] w fun e w' => e = .returned (.bool (okArgs ss)) ∧ w' = w := by
  by_cases h8 : 8 < ss.length
  · have hr : okArgs ss = false := by simp [okArgs]; omega
    rw [hr]
    clear hr hcell ha
    go_enter Tryz.func106, Tryz.ntmps106
    go_wp2
    go_ret
    exact ⟨rfl, rfl⟩
  · have hr : okArgs ss = ss.all okArg := by simp [okArgs]; intro; omega
    rw [hr]
    have HC := hide hcell
    have HA := hide ha
    clear hr hcell ha
    go_enter Tryz.func106, Tryz.ntmps106
    go_wp2
    go_loop [10] (fun i => ∃ k : Nat, k ≤ ss.length ∧ i = .int .i64 k ∧ (ss.take k).all okArg = true) (fun i => ss.length - (intOf i).toNat)
    case atStart => exact ⟨0, by omega, rfl, rfl⟩
    case round =>
      obtain ⟨k, hk, rfl, hall⟩ := hrel
      have HALL := hide hall
      clear hall
      by_cases hlt : k < ss.length
      · have hca := (unhide HC) k hlt
        have e := (unhide HA) (by omega)
        subst e
        obtain ⟨s, hs⟩ : ∃ s, s = ss.getD k ByteArray.empty := ⟨_, rfl⟩
        rw [← hs] at hca
        have HS := hide hs
        clear hs
        by_cases hl : s.size ≤ 30
        · obtain ⟨r, hr⟩ : ∃ r, r = Lib.indexByte s.data.toList 0 := ⟨_, rfl⟩
          have HR := hide hr
          clear hr
          by_cases h0 : 0 ≤ r
          · have F := hide (all_false hlt (by rw [← unhide HS]; exact okArg_zero (by rw [← unhide HR]; exact h0)))
            go_wp2_with (go_at_call 124; refine (index_any _ _).mono ?_; rw [← unhide HR]; rintro e w' ⟨rfl, rfl⟩)
            go_ret
            exact ⟨by rw [unhide F]; rfl, rfl⟩
          · have F := hide (all_take hlt (by rw [← unhide HS]; exact okArg_yes hl (by rw [← unhide HR]; omega)) (unhide HALL))
            go_wp2_with (go_at_call 124; refine (index_any _ _).mono ?_; rw [← unhide HR]; rintro e w' ⟨rfl, rfl⟩)
            go_round
            case rel => exact ⟨k + 1, by omega, by go_num, unhide F⟩
            case measure => simp [intOf]; omega
        · have F := hide (all_false hlt (by rw [← unhide HS]; exact okArg_long (by omega)))
          go_wp2_with fail
          go_ret
          exact ⟨by rw [unhide F]; rfl, rfl⟩
      · have F := hide (show ss.all okArg = true by have := unhide HALL; rwa [List.take_of_length_le (by omega)] at this)
        go_wp2
        go_ret
        exact ⟨by rw [unhide F]; rfl, rfl⟩
end Go.Proofs.YtjkpeelijbeekaaGreatDoor

/- Stack: what the pages hold, as plain lists. -/
namespace Go.Proofs.YtjkpeelijbeekaaGreatDoor
open Go.RowKit

def strInts (s : ByteArray) : List Int := s.data.toList.map fun c => (c.toNat : Int)
theorem strInts_length (s : ByteArray) : (strInts s).length = s.size := by simp [strInts]
/-- How many bytes the arguments take, each with a byte 0 behind it. -/
def total : List ByteArray → Nat
  | [] => 0
  | s :: r => s.size + 1 + total r
def zeroRoom : List Int := List.replicate 512 0
theorem zeroRoom_length : zeroRoom.length = 512 := List.length_replicate
/-- The room with the arguments at its end. -/
def room : List ByteArray → List Int
  | [] => zeroRoom
  | s :: r => splice (room r) (512 - total (s :: r)) (strInts s)
/-- Their addresses. -/
def addrs : List ByteArray → List Int
  | [] => []
  | s :: r => ((65024 + (512 - total (s :: r)) : Nat) : Int) :: addrs r
theorem addrs_length : ∀ ss, (addrs ss).length = ss.length
  | [] => rfl
  | s :: r => by simp [addrs, addrs_length r]
theorem room_length : ∀ ss, total ss ≤ 512 → (room ss).length = 512
  | [], _ => zeroRoom_length
  | s :: r, h => by
    unfold room
    have h' : total r ≤ 512 := by unfold total at h; omega
    rw [splice_length _ _ _ (by rw [room_length r h', strInts_length]; unfold total at h ⊢; omega), room_length r h']
theorem total_le {ss : List ByteArray} (h : ss.all okArg = true) : total ss ≤ 31 * ss.length := by
  induction ss with
  | nil => simp [total]
  | cons s r ih =>
    simp only [List.all_cons, Bool.and_eq_true] at h
    have h1 := h.1
    simp [okArg] at h1
    have := ih h.2
    simp only [total, List.length_cons]
    omega
theorem all_drop {ss : List ByteArray} (h : ss.all okArg = true) (k : Nat) : (ss.drop k).all okArg = true := by
  rw [List.all_eq_true] at h ⊢
  exact fun x hx => h x (List.mem_of_mem_drop hx)
theorem ok_all {ss : List ByteArray} (h : okArgs ss = true) : ss.length ≤ 8 ∧ ss.all okArg = true := by
  simpa [okArgs] using h
theorem total_drop_le {ss : List ByteArray} (h : okArgs ss = true) (k : Nat) : total (ss.drop k) ≤ 248 := by
  have h1 := ok_all h
  have := total_le (all_drop h1.2 k)
  simp at this
  omega
theorem drop_cons {ss : List ByteArray} {k : Nat} (h : k < ss.length) : ss.drop k = ss.getD k ByteArray.empty :: ss.drop (k + 1) := by
  rw [List.drop_eq_getElem_cons h]
  simp [List.getD, List.getElem?_eq_getElem h]
theorem size_le {ss : List ByteArray} (h : okArgs ss = true) {k : Nat} (hk : k < ss.length) : (ss.getD k ByteArray.empty).size ≤ 30 := by
  have h1 := (List.all_eq_true.1 (ok_all h).2) (ss.getD k ByteArray.empty) (by simp [List.getD, List.getElem?_eq_getElem hk])
  simp [okArg] at h1
  exact h1.1
/-- Where the header goes. -/
def spOff (ss : List ByteArray) : Nat := (512 - total ss - 8 * (ss.length + 2)) / 16 * 16
def heads (ss : List ByteArray) : List Int := ((ss.length : Nat) : Int) :: (addrs ss ++ [0])
theorem heads_length (ss : List ByteArray) : (heads ss).length = ss.length + 2 := by simp [heads, addrs_length]
/-- All that the two pages hold. -/
def stackRoom (ss : List ByteArray) : List Int := splice (room ss) (spOff ss) (words8 (heads ss))
/-- The words as they are while the arguments from k on are laid. -/
def wordsTo (ss : List ByteArray) (k : Nat) : List Int := ((ss.length : Nat) : Int) :: (List.replicate k 0 ++ addrs (ss.drop k) ++ [0])
theorem wordsTo_length (ss : List ByteArray) (k : Nat) (h : k ≤ ss.length) : (wordsTo ss k).length = ss.length + 2 := by
  simp [wordsTo, addrs_length]; omega
theorem wordsTo_zero (ss : List ByteArray) : wordsTo ss 0 = heads ss := by simp [wordsTo, heads]
theorem wordsTo_step (ss : List ByteArray) (k : Nat) (h : k < ss.length) :
    (wordsTo ss (k + 1)).set (k + 1) ((65024 + (512 - total (ss.drop k)) : Nat) : Int) = wordsTo ss k := by
  unfold wordsTo
  rw [List.set_cons_succ]
  congr 1
  rw [drop_cons h, addrs]
  rw [List.replicate_succ', List.append_assoc, List.append_assoc, List.append_assoc]
  rw [List.set_append_right _ _ (by simp)]
  simp
end Go.Proofs.YtjkpeelijbeekaaGreatDoor

/- Stack: arguments that are none: both programs say so. -/
namespace Go.Proofs.YtjkpeelijbeekaaGreatDoor
open Go.RowKit
set_option linter.unusedVariables false
set_option linter.unusedSimpArgs false

set_option maxHeartbeats 1000000 in
theorem stack_exe_bad (a : Option Addr) (b off cap : Nat) (ss : List ByteArray) (w : World) (hn : ss.length ≤ 1000) (ha : 0 < ss.length → a = some ⟨b, off, none⟩)
    (hcell : ∀ i, i < ss.length → w.cell? ⟨b, off + i, none⟩ = some (.string (ss.getD i ByteArray.empty))) (hok : okArgs ss = false) :
    Calls Tryz.prog 69 #[.slice a ss.length cap] w fun e w' => e = .returned (.tuple #[.slice none 0 0, .int .u64 0, .iface 45 (.int .i64 6)]) ∧ w' = w := by
  have HC := hide hcell
  have HA := hide ha
  have HO := hide hok
  clear hcell ha hok
  go_enter Tryz.func69, Tryz.ntmps69
  go_wp2_with fail
  refine (areArgs_any a b off cap ss _ hn (unhide HA) (unhide HC)).mono ?_
  rw [unhide HO]
  rintro e w' ⟨rfl, rfl⟩
  go_wp2
  go_ret3
  exact ⟨rfl, rfl⟩

/-- A byte of a string. -/
theorem byte_zero {s : ByteArray} {j : Nat} (hj : j < s.size) (h : (s[j].toNat : Int) = 0) : okArg s = false := by
  have : s[j] = 0 := by
    apply UInt8.toNat_inj.1
    have : s[j].toNat = 0 := by omega
    simpa using this
  have hm : (0 : UInt8) ∈ s.data.toList := by
    rw [← this]
    exact List.getElem_mem (l := s.data.toList) (by simpa using hj)
  simp [okArg, hm]
theorem byte_ok {s : ByteArray} (h : okArg s = true) {j : Nat} (hj : j < s.size) : (s[j].toNat : Int) ≠ 0 := fun e => by
  have := byte_zero hj e
  rw [h] at this
  cases this
theorem okArg_bytes {s : ByteArray} (h : s.size ≤ 30) (h0 : ∀ j, (hj : j < s.size) → (s[j].toNat : Int) ≠ 0) : okArg s = true := by
  have : ¬ (0 : UInt8) ∈ s.data.toList := fun m => by
    obtain ⟨j, hj, e⟩ := List.getElem_of_mem m
    have hj' : j < s.size := by simpa using hj
    have : s[j] = 0 := e
    exact h0 j hj' (by rw [this]; rfl)
  simp [okArg, h, this]

set_option maxHeartbeats 1000000 in
theorem stack_ref_bad (a : Option Addr) (b off cap : Nat) (ss : List ByteArray) (w : World) (hn : ss.length ≤ 1000) (ha : 0 < ss.length → a = some ⟨b, off, none⟩)
    (hcell : ∀ i, i < ss.length → w.cell? ⟨b, off + i, none⟩ = some (.string (ss.getD i ByteArray.empty))) (hs : ∀ s ∈ ss, s.size ≤ maxLen) (hok : okArgs ss = false) :
    Calls Tryz.prog 50 #[.slice a ss.length cap] w fun e w' => e = .returned (.tuple #[.slice none 0 0, .int .u64 0, .int .i64 6]) ∧ w' = w := by
  have HC := hide hcell
  have HA := hide ha
  have HO := hide hok
  by_cases h8 : 8 < ss.length
  · clear hcell ha hok
    go_enter Tryz.func50, Tryz.ntmps50
    go_wp2
    go_ret3
    exact ⟨rfl, rfl⟩
  · clear hcell ha hok
    go_enter Tryz.func50, Tryz.ntmps50
    go_wp2
    go_loop [5] (fun i => ∃ k : Nat, k ≤ ss.length ∧ i = .int .i64 k ∧ (ss.take k).all okArg = true) (fun i => ss.length - (intOf i).toNat)
    case atStart => exact ⟨0, by omega, rfl, rfl⟩
    case round =>
      obtain ⟨k, hk, rfl, hall⟩ := hrel
      have HALL := hide hall
      clear hall
      by_cases hlt : k < ss.length
      · have hca := (unhide HC) k hlt
        have e := (unhide HA) (by omega)
        subst e
        have hms := hs (ss.getD k ByteArray.empty) (by simp [List.getD, List.getElem?_eq_getElem hlt])
        obtain ⟨s, hs'⟩ : ∃ s, s = ss.getD k ByteArray.empty := ⟨_, rfl⟩
        rw [← hs'] at hca hms
        have HS := hide hs'
        unfold maxLen at hms
        clear hs'
        by_cases hl : s.size ≤ 30
        · go_wp2
          go_loop [6] (fun i => ∃ j : Nat, j ≤ s.size ∧ i = .int .i64 j ∧ ∀ m, (hm : m < s.size) → m < j → (s[m].toNat : Int) ≠ 0) (fun i => s.size - (intOf i).toNat)
          case atStart => exact ⟨0, by omega, rfl, fun m hm h => by omega⟩
          case round =>
            obtain ⟨j, hj, rfl, hnz⟩ := hrel
            have HNZ := hide hnz
            clear hnz
            by_cases hjl : j < s.size
            · by_cases hz : (s[j].toNat : Int) = 0
              · have hb : ((s[j].toNat : Int) == 0) = true := by simpa using hz
                have HZ := hide hz
                clear hz
                go_wp2
                go_ret3
                exact ⟨rfl, rfl⟩
              · have hb : ((s[j].toNat : Int) == 0) = false := by simpa using hz
                have HZ := hide hz
                clear hz
                go_wp2
                go_round
                case rel =>
                  refine ⟨j + 1, by omega, by go_num, fun m hm h => ?_⟩
                  by_cases e : m = j
                  · subst e; exact unhide HZ
                  · exact unhide HNZ m hm (by omega)
                case measure => simp [intOf]; omega
            · have F := hide (all_take hlt (by rw [← unhide HS]; exact okArg_bytes hl (fun m hm => unhide HNZ m hm (by omega))) (unhide HALL))
              go_wp2
              go_round
              case rel => exact ⟨k + 1, by omega, by go_num, unhide F⟩
              case measure => simp [intOf]; omega
        · go_wp2
          go_ret3
          exact ⟨rfl, rfl⟩
      · exfalso
        have : ss.all okArg = true := by have := unhide HALL; rwa [List.take_of_length_le (by omega)] at this
        have h2 := unhide HO
        simp [okArgs, this] at h2
        omega
end Go.Proofs.YtjkpeelijbeekaaGreatDoor
