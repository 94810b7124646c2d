/- Stack: what the pages hold, as plain lists. -/
import Derived.Test.YtkkpeboejgkmaaaDoorStackArgs
namespace Go.Proofs.YtkkpeboejgkmaaaDoor
open Go.RowKit

def strInts (s : ByteArray) : List Int := s.data.toList.map fun c => (c.toNat : Int)
theorem strInts_length (s : ByteArray) : (strInts s).length = s.size := by simp [strInts]
/-- How many bytes the arguments take, each with a byte 0 behind it. -/
def total : List ByteArray → Nat
  | [] => 0
  | s :: r => s.size + 1 + total r
def zeroRoom : List Int := List.replicate 512 0
theorem zeroRoom_length : zeroRoom.length = 512 := List.length_replicate
/-- The room with the arguments at its end. -/
def room : List ByteArray → List Int
  | [] => zeroRoom
  | s :: r => splice (room r) (512 - total (s :: r)) (strInts s)
/-- Their addresses. -/
def addrs : List ByteArray → List Int
  | [] => []
  | s :: r => ((65024 + (512 - total (s :: r)) : Nat) : Int) :: addrs r
theorem addrs_length : ∀ ss, (addrs ss).length = ss.length
  | [] => rfl
  | s :: r => by simp [addrs, addrs_length r]
theorem room_length : ∀ ss, total ss ≤ 512 → (room ss).length = 512
  | [], _ => zeroRoom_length
  | s :: r, h => by
    unfold room
    have h' : total r ≤ 512 := by unfold total at h; omega
    rw [splice_length _ _ _ (by rw [room_length r h', strInts_length]; unfold total at h ⊢; omega), room_length r h']
theorem total_le {ss : List ByteArray} (h : ss.all okArg = true) : total ss ≤ 31 * ss.length := by
  induction ss with
  | nil => simp [total]
  | cons s r ih =>
    simp only [List.all_cons, Bool.and_eq_true] at h
    have h1 := h.1
    simp [okArg] at h1
    have := ih h.2
    simp only [total, List.length_cons]
    omega
theorem all_drop {ss : List ByteArray} (h : ss.all okArg = true) (k : Nat) : (ss.drop k).all okArg = true := by
  rw [List.all_eq_true] at h ⊢
  exact fun x hx => h x (List.mem_of_mem_drop hx)
theorem ok_all {ss : List ByteArray} (h : okArgs ss = true) : ss.length ≤ 8 ∧ ss.all okArg = true := by
  simpa [okArgs] using h
theorem total_drop_le {ss : List ByteArray} (h : okArgs ss = true) (k : Nat) : total (ss.drop k) ≤ 248 := by
  have h1 := ok_all h
  have := total_le (all_drop h1.2 k)
  simp at this
  omega
theorem drop_cons {ss : List ByteArray} {k : Nat} (h : k < ss.length) : ss.drop k = ss.getD k ByteArray.empty :: ss.drop (k + 1) := by
  rw [List.drop_eq_getElem_cons h]
  simp [List.getD, List.getElem?_eq_getElem h]
theorem size_le {ss : List ByteArray} (h : okArgs ss = true) {k : Nat} (hk : k < ss.length) : (ss.getD k ByteArray.empty).size ≤ 30 := by
  have h1 := (List.all_eq_true.1 (ok_all h).2) (ss.getD k ByteArray.empty) (by simp [List.getD, List.getElem?_eq_getElem hk])
  simp [okArg] at h1
  exact h1.1
/-- Where the header goes. -/
def spOff (ss : List ByteArray) : Nat := (512 - total ss - 8 * (ss.length + 2)) / 16 * 16
def heads (ss : List ByteArray) : List Int := ((ss.length : Nat) : Int) :: (addrs ss ++ [0])
theorem heads_length (ss : List ByteArray) : (heads ss).length = ss.length + 2 := by simp [heads, addrs_length]
/-- All that the two pages hold. -/
def stackRoom (ss : List ByteArray) : List Int := splice (room ss) (spOff ss) (words8 (heads ss))
/-- The words as they are while the arguments from k on are laid. -/
def wordsTo (ss : List ByteArray) (k : Nat) : List Int := ((ss.length : Nat) : Int) :: (List.replicate k 0 ++ addrs (ss.drop k) ++ [0])
theorem wordsTo_length (ss : List ByteArray) (k : Nat) (h : k ≤ ss.length) : (wordsTo ss k).length = ss.length + 2 := by
  simp [wordsTo, addrs_length]; omega
theorem wordsTo_zero (ss : List ByteArray) : wordsTo ss 0 = heads ss := by simp [wordsTo, heads]
theorem wordsTo_step (ss : List ByteArray) (k : Nat) (h : k < ss.length) :
    (wordsTo ss (k + 1)).set (k + 1) ((65024 + (512 - total (ss.drop k)) : Nat) : Int) = wordsTo ss k := by
  unfold wordsTo
  rw [List.set_cons_succ]
  congr 1
  rw [drop_cons h, addrs]
  rw [List.replicate_succ', List.append_assoc, List.append_assoc, List.append_assoc]
  rw [List.set_append_right _ _ (by simp)]
  simp
end Go.Proofs.YtkkpeboejgkmaaaDoor
