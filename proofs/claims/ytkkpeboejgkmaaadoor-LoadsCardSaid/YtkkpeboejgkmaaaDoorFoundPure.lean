/- found: what lies where in the two pages. -/
import Derived.Test.YtkkpeboejgkmaaaDoorStackPure2
import Derived.Test.YtkkpeboejgkmaaaDoorStackWord
namespace Go.Proofs.YtkkpeboejgkmaaaDoor
open Go.RowKit
theorem total_drop_mono : ∀ (ss : List ByteArray) (i : Nat), total (ss.drop i) ≤ total ss
  | [], i => by simp [total]
  | s :: r, 0 => by simp
  | s :: r, i + 1 => by
    have := total_drop_mono r i
    simp only [List.drop_succ_cons, total]
    omega
theorem total_drop_lt (ss : List ByteArray) (i : Nat) (h : i < ss.length) : (ss.getD i ByteArray.empty).size + 1 ≤ total (ss.drop i) := by
  rw [drop_cons h, total]; omega
theorem room_arg : ∀ (ss : List ByteArray), total ss ≤ 512 → ∀ (i k : Nat), i < ss.length → k ≤ (ss.getD i ByteArray.empty).size →
    (room ss)[512 - total (ss.drop i) + k]? = some (if k < (ss.getD i ByteArray.empty).size then (strInts (ss.getD i ByteArray.empty)).getD k 0 else 0)
  | [], _, i, k, h, _ => by simp at h
  | s :: r, ht, i, k, hi, hk => by
    have hr : total r ≤ 512 := by unfold total at ht; omega
    have hl : 512 - total (s :: r) + (strInts s).length ≤ (room r).length := by rw [room_length r hr, strInts_length]; unfold total at ht ⊢; omega
    have ht' : s.size + 1 + total r ≤ 512 := by unfold total at ht; exact ht
    rw [show room (s :: r) = splice (room r) (512 - total (s :: r)) (strInts s) from rfl, splice_get _ _ _ hl, strInts_length]
    cases i with
    | zero =>
      simp only [List.drop_zero, List.getD_cons_zero] at hk ⊢
      rw [if_neg (by omega)]
      by_cases h : k < s.size
      · rw [if_pos (by omega), if_pos h, Nat.add_sub_cancel_left, List.getD, List.getElem?_eq_getElem (by rw [strInts_length]; exact h)]
        rfl
      · rw [if_neg (by omega), if_neg h]
        exact room_low r hr _ (by simp only [total]; omega)
    | succ i =>
      simp only [List.drop_succ_cons, List.getD_cons_succ] at hk ⊢
      have hi' : i < r.length := by simpa using hi
      have h1 := total_drop_mono r i
      have h2 : total (s :: r) = s.size + 1 + total r := rfl
      rw [if_neg (by omega), if_neg (by omega)]
      exact room_arg r hr i k hi' hk
theorem stack_high {ss : List ByteArray} (hok : okArgs ss = true) (j : Nat) (h : 512 - total ss ≤ j) : (stackRoom ss)[j]? = (room ss)[j]? := by
  have ht : total ss ≤ 248 := by have := total_drop_le hok 0; simpa using this
  have h8 := (ok_all hok).1
  have hl := room_length ss (by omega)
  have hs : spOff ss + 8 * (ss.length + 2) ≤ 512 - total ss := by rw [spOff]; omega
  rw [stackRoom, splice_get _ _ _ (by rw [words8_length, heads_length, hl]; omega), words8_length, heads_length, if_neg (by omega), if_neg (by omega)]
theorem stack_head {ss : List ByteArray} (hok : okArgs ss = true) (i k : Nat) (hi : i < ss.length + 2) (hk : k < 8) : (stackRoom ss)[spOff ss + 8 * i + k]? = some ((heads ss).getD i 0 / 2 ^ (8 * k) % 256) := by
  have ht : total ss ≤ 248 := by have := total_drop_le hok 0; simpa using this
  have h8 := (ok_all hok).1
  have hl := room_length ss (by omega)
  have hs : spOff ss + 8 * (ss.length + 2) ≤ 512 - total ss := by rw [spOff]; omega
  rw [stackRoom, splice_get _ _ _ (by rw [words8_length, heads_length, hl]; omega), words8_length, heads_length, if_neg (by omega), if_pos (by omega), show spOff ss + 8 * i + k - spOff ss = 8 * i + k from by omega]
  exact words8_get _ _ _ hk (by rw [heads_length]; exact hi)
theorem stack_arg {ss : List ByteArray} (hok : okArgs ss = true) (i k : Nat) (hi : i < ss.length) (hk : k < (ss.getD i ByteArray.empty).size) :
    (stackRoom ss)[512 - total (ss.drop i) + k]? = some (((ss.getD i ByteArray.empty)[k].toNat : Nat) : Int) := by
  have ht : total ss ≤ 248 := by have := total_drop_le hok 0; simpa using this
  have hm := total_drop_mono ss i
  rw [stack_high hok _ (by omega), room_arg ss (by omega) i k hi (by omega), if_pos hk]
  congr 1
  generalize ss.getD i ByteArray.empty = s at hk
  have hk' : k < s.data.toList.length := by simpa using hk
  simp only [strInts, List.getD, List.getElem?_map, List.getElem?_eq_getElem hk']
  rfl
theorem stack_end {ss : List ByteArray} (hok : okArgs ss = true) (i : Nat) (hi : i < ss.length) :
    (stackRoom ss)[512 - total (ss.drop i) + (ss.getD i ByteArray.empty).size]? = some 0 := by
  have ht : total ss ≤ 248 := by have := total_drop_le hok 0; simpa using this
  have hm := total_drop_mono ss i
  rw [stack_high hok _ (by omega), room_arg ss (by omega) i _ hi (Nat.le_refl _), if_neg (by omega)]
theorem heads_zero (ss : List ByteArray) : (heads ss).getD 0 0 = (ss.length : Int) := by simp [heads]
theorem heads_last (ss : List ByteArray) : (heads ss).getD (ss.length + 1) 0 = 0 := by
  unfold heads
  rw [List.getD_cons_succ, List.getD, List.getElem?_append_right (by rw [addrs_length]; exact Nat.le_refl _), addrs_length]
  simp
theorem addrs_get : ∀ (ss : List ByteArray) (i : Nat), i < ss.length → (addrs ss).getD i 0 = ((65024 + (512 - total (ss.drop i)) : Nat) : Int)
  | [], i, h => by simp at h
  | s :: r, 0, _ => by simp [addrs]
  | s :: r, i + 1, h => by
    have := addrs_get r i (by simpa using h)
    simpa [addrs] using this
theorem heads_mid (ss : List ByteArray) (i : Nat) (h : i < ss.length) : (heads ss).getD (i + 1) 0 = ((65024 + (512 - total (ss.drop i)) : Nat) : Int) := by
  have := heads_get ss i h
  rw [List.getD, this, Option.getD_some, addrs_get ss i h]
end Go.Proofs.YtkkpeboejgkmaaaDoor
