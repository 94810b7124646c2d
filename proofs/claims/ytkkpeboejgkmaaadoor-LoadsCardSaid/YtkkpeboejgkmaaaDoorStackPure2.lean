/- Stack: more on what the pages hold. -/
import Derived.Test.YtkkpeboejgkmaaaDoorStackFacts
namespace Go.Proofs.YtkkpeboejgkmaaaDoor
open Go.RowKit
def intsRow (L : List Int) : List Value := L.map (Value.int .i64)
theorem intsRow_length (L : List Int) : (intsRow L).length = L.length := by simp [intsRow]
theorem room_low : ∀ ss, total ss ≤ 512 → ∀ j, j < 512 - total ss → (room ss)[j]? = some 0
  | [], _, j, hj => by
    unfold room zeroRoom
    rw [List.getElem?_replicate]
    simp [total] at hj
    simp [hj]
  | s :: r, h, j, hj => by
    have hr : total r ≤ 512 := by unfold total at h; omega
    unfold room
    have hl : 512 - total (s :: r) + (strInts s).length ≤ (room r).length := by rw [room_length r hr, strInts_length]; unfold total at h ⊢; omega
    rw [splice_get _ _ _ hl, if_pos hj]
    exact room_low r hr j (by unfold total at hj; omega)
theorem splice_zero_ext (L : List Int) (off : Nat) (xs : List Int) (m : Nat) (hl : off + xs.length + m ≤ L.length) (h : ∀ j, off + xs.length ≤ j → j < off + xs.length + m → L[j]? = some 0) :
    splice L off (xs ++ List.replicate m 0) = splice L off xs := by
  apply List.ext_getElem?
  intro j
  rw [splice_get _ _ _ (by simp; omega), splice_get _ _ _ (by omega)]
  simp only [List.length_append, List.length_replicate]
  by_cases a : j < off
  · simp [a]
  · by_cases c : j < off + xs.length
    · rw [if_neg a, if_pos (by omega), if_neg a, if_pos c, List.getElem?_append_left (by omega)]
    · by_cases d : j < off + xs.length + m
      · rw [if_neg a, if_pos (by omega), if_neg a, if_neg c, List.getElem?_append_right (by omega), List.getElem?_replicate, if_pos (by omega), h j (by omega) d]
      · rw [if_neg a, if_neg (by omega), if_neg a, if_neg c]
theorem words8_append (xs ys : List Int) : words8 (xs ++ ys) = words8 xs ++ words8 ys := by simp [words8]
theorem words8_one (x : Int) : words8 [x] = bytes8 x := by simp [words8]
theorem bytes8_zero : bytes8 0 = List.replicate 8 0 := by decide
theorem heads_take_last (ss : List ByteArray) : (heads ss).take (ss.length + 1) = ((ss.length : Nat) : Int) :: addrs ss := by
  unfold heads
  rw [List.take_succ_cons, List.take_append_of_le_length (by rw [addrs_length]; omega), List.take_of_length_le (by rw [addrs_length]; omega)]
theorem heads_eq (ss : List ByteArray) : heads ss = (heads ss).take (ss.length + 1) ++ [0] := by
  rw [heads_take_last]; simp [heads]
theorem heads_get (ss : List ByteArray) (k : Nat) (h : k < ss.length) : (heads ss)[k + 1]? = some ((addrs ss).getD k 0) := by
  unfold heads
  rw [List.getElem?_cons_succ, List.getElem?_append_left (by rw [addrs_length]; exact h)]
  simp [List.getD, List.getElem?_eq_getElem (show k < (addrs ss).length by rw [addrs_length]; exact h)]
theorem words8_take_succ (ws : List Int) (k : Nat) (x : Int) (h : ws[k]? = some x) : words8 (ws.take (k + 1)) = words8 (ws.take k) ++ bytes8 x := by
  obtain ⟨hk, e⟩ := List.getElem?_eq_some_iff.1 h
  rw [List.take_succ_eq_append_getElem hk, words8_append, e, words8_one]
theorem put_step (ss : List ByteArray) (X k : Nat) (h : k < ss.length) (hl : (room ss).length = 512) (hX : X + 8 * (ss.length + 2) ≤ 512) :
    splice (splice (room ss) X (words8 ((heads ss).take (k + 1)))) (0 + (X + 8 + 8 * k)) (bytes8 ((addrs ss).getD k 0)) = splice (room ss) X (words8 ((heads ss).take (k + 1 + 1))) := by
  have hw : (words8 ((heads ss).take (k + 1))).length = 8 * (k + 1) := by rw [words8_length, List.length_take, heads_length]; omega
  rw [words8_take_succ (heads ss) (k + 1) _ (heads_get ss k h), ← splice_splice _ _ _ _ (by rw [hw, bytes8_length, hl]; omega), hw]
  congr 1; omega
theorem put_last (ss : List ByteArray) (X : Nat) (hok : okArgs ss = true) (hX : X = spOff ss) : splice (room ss) X (words8 ((heads ss).take (ss.length + 1))) = stackRoom ss := by
  have ht : total ss ≤ 248 := by have := total_drop_le hok 0; simpa using this
  have h8 := (ok_all hok).1
  have hl := room_length ss (by omega)
  have hw : (words8 ((heads ss).take (ss.length + 1))).length = 8 * (ss.length + 1) := by rw [words8_length, List.length_take, heads_length]; omega
  have hs : X + 8 * (ss.length + 2) ≤ 512 - total ss := by rw [hX, spOff]; omega
  rw [stackRoom, ← hX]
  conv => rhs; rw [heads_eq ss, words8_append, words8_one, bytes8_zero]
  rw [splice_zero_ext _ _ _ _ (by rw [hw, hl]; omega) (fun j h1 h2 => room_low ss (by omega) j (by rw [hw] at h2; omega))]
theorem rev_get (ss : List ByteArray) (k : Nat) (h : k < ss.length) : (intsRow (addrs ss).reverse)[ss.length - 1 - k]? = some (.int .i64 ((addrs ss).getD k 0)) := by
  have hl := addrs_length ss
  unfold intsRow
  rw [List.getElem?_map, List.getElem?_reverse (by omega), hl, show ss.length - 1 - (ss.length - 1 - k) = k from by omega, List.getD, List.getElem?_eq_getElem (by omega)]
  rfl
theorem addrs_bd : ∀ (ss : List ByteArray) (k : Nat), k < ss.length → 0 ≤ (addrs ss).getD k 0 ∧ (addrs ss).getD k 0 ≤ 65536
  | [], k, h => by simp at h
  | s :: r, 0, h => by simp [addrs]; omega
  | s :: r, k + 1, h => by
    have := addrs_bd r k (by simpa using h)
    simpa [addrs] using this
end Go.Proofs.YtkkpeboejgkmaaaDoor
