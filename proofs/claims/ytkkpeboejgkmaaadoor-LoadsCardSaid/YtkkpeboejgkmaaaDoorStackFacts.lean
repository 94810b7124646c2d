/- Stack: closed facts on great zero values; pages as cells. -/
import Derived.Test.YtkkpeboejgkmaaaDoorStackPure
import Derived.Test.YtkkpeboejgkmaaaDoorStackZero
import Derived.Test.YtkkpeboejgkmaaaDoorCopyStr
import Derived.Deep.OwnRows
namespace Go.Proofs.YtkkpeboejgkmaaaDoor
open Go.RowKit
set_option linter.unusedVariables false
set_option linter.unusedSimpArgs false
theorem wrap_small (n : Int) (h0 : 0 ≤ n) (h1 : n < 1000000) : IntKind.i64.wrap n = n := by
  simp [IntKind.wrap, IntKind.bits, IntKind.signed]; split <;> omega
theorem u64info : (Tryd.prog.info? 42).map (fun i => (i.zero, i.size, i.bytes)) = some (some (.int .u64 0), 1, 8) := by kernel_rfl
theorem u8size : (Tryd.prog.info? 5).map (·.size) = some 1 := by kernel_rfl
def zeroWords (n : Nat) : Array Value := (wordsRow (List.replicate n 0)).toArray
theorem made_zero (n : Nat) : madeCells #[.int .u64 0] n = zeroWords n := by
  unfold madeCells zeroWords wordsRow
  apply Array.ext
  · simp
  · intro i h1 h2
    simp [Nat.mod_one]
theorem zeroWords_get (n j : Nat) (h : j < n) : (zeroWords n)[j]? = some (.int .u64 0) := by
  simp [zeroWords, wordsRow, h]
theorem zeroWords_head (n : Nat) (x : Int) : (zeroWords (n + 1)).setIfInBounds 0 (.int .u64 x) = (wordsRow (x :: List.replicate n 0)).toArray := by
  apply Array.ext'
  simp [zeroWords, wordsRow, List.replicate_succ]

theorem room_step {ss : List ByteArray} {k : Nat} (h : k < ss.length) : room (ss.drop k) = splice (room (ss.drop (k + 1))) (512 - total (ss.drop k)) (strInts (ss.getD k ByteArray.empty)) := by
  rw [drop_cons h, room]
theorem total_step {ss : List ByteArray} {k : Nat} (h : k < ss.length) : total (ss.drop k) = (ss.getD k ByteArray.empty).size + 1 + total (ss.drop (k + 1)) := by
  rw [drop_cons h, total]
theorem byteCells_ints (s : ByteArray) : Lib.byteCells s.data.toList = bytesRow (strInts s) := by
  simp [Lib.byteCells, bytesRow, strInts]

/-- The pages while they are filled out of R. -/
def pagesTo (R : List Int) : Nat → List Value
  | 0 => pageRow 0 0 zero256 ++ pageRow 0 0 zero256
  | 1 => pageRow 254 6 (R.take 256) ++ pageRow 0 0 zero256
  | _ => pageRow 254 6 (R.take 256) ++ pageRow 255 6 (R.drop 256)
theorem pageRow_length (a b : Int) (L : List Int) : (pageRow a b L).length = L.length + 2 := by simp [pageRow, bytesRow_length]


theorem splice_page (pre Z post xs : List Value) (a b x y : Value) (hz : Z.length = xs.length) :
    splice (((pre ++ (a :: b :: (Z ++ post))).set pre.length x).set (pre.length + 1) y) (pre.length + 2) xs = pre ++ (x :: y :: (xs ++ post)) := by
  have e1 : (pre ++ (a :: b :: (Z ++ post))).set pre.length x = pre ++ (x :: b :: (Z ++ post)) := by
    rw [List.set_append_right _ _ (Nat.le_refl _)]; simp
  have e2 : (pre ++ (x :: b :: (Z ++ post))).set (pre.length + 1) y = pre ++ (x :: y :: (Z ++ post)) := by
    rw [List.set_append_right _ _ (by omega)]; simp
  rw [e1, e2]
  unfold splice
  have e3 : (pre ++ (x :: y :: (Z ++ post))).take (pre.length + 2) = pre ++ [x, y] := by
    rw [List.take_append, List.take_of_length_le (by omega)]; simp
  have e4 : (pre ++ (x :: y :: (Z ++ post))).drop (pre.length + 2 + xs.length) = post := by
    rw [List.drop_append, List.drop_of_length_le (by omega), show pre.length + 2 + xs.length - pre.length = xs.length + 2 from by omega]
    simp [← hz]
  rw [e3, e4]; simp
theorem pages_step0 (R : List Int) (hR : R.length = 512) :
    splice (((pagesTo R 0).set 0 (.int .i64 254)).set 1 (.int .u8 6)) 2 (bytesRow (R.take 256)) = pagesTo R 1 := by
  have := splice_page [] (bytesRow zero256) (pageRow 0 0 zero256) (bytesRow (R.take 256)) (.int .i64 0) (.int .u8 0) (.int .i64 254) (.int .u8 6) (by rw [bytesRow_length, bytesRow_length, zero256_length]; simp [hR])
  simpa [pagesTo, pageRow] using this
theorem pages_step1 (R : List Int) (hR : R.length = 512) :
    splice (((pagesTo R 1).set 258 (.int .i64 255)).set 259 (.int .u8 6)) 260 (bytesRow (R.drop 256)) = pagesTo R 2 := by
  have hl : (pageRow 254 6 (R.take 256)).length = 258 := by rw [pageRow_length]; simp [hR]
  have := splice_page (pageRow 254 6 (R.take 256)) (bytesRow zero256) [] (bytesRow (R.drop 256)) (.int .i64 0) (.int .u8 0) (.int .i64 255) (.int .u8 6) (by rw [bytesRow_length, bytesRow_length, zero256_length]; simp [hR])
  rw [hl] at this
  simpa [pagesTo, pageRow] using this
theorem pagesTo_length (R : List Int) (hR : R.length = 512) (k : Nat) : (pagesTo R k).length = 516 := by
  match k with
  | 0 => simp only [pagesTo, List.length_append, pageRow_length, zero256_length]
  | 1 => simp only [pagesTo, List.length_append, pageRow_length, zero256_length, List.length_take, hR]; rfl
  | (k + 2) => simp only [pagesTo, List.length_append, pageRow_length, List.length_take, List.length_drop, hR]; rfl
theorem bytesRow_one (L : List Int) : ∀ v ∈ bytesRow L, v.oneCell' = true := by
  intro v hv
  obtain ⟨x, _, rfl⟩ := List.mem_map.1 hv
  rfl
theorem stackRoom_length {ss : List ByteArray} (h : okArgs ss = true) : (stackRoom ss).length = 512 := by
  have ht : total ss ≤ 248 := by have := total_drop_le h 0; simpa using this
  have h8 := (ok_all h).1
  have hl := room_length ss (by omega)
  rw [stackRoom, splice_length _ _ _ (by rw [words8_length, heads_length, hl, spOff]; omega), hl]
theorem src0 {W : World} {g : Nat} {R : List Int} (h : Hid (Holds W g 81 (bytesRow R))) : ∀ j v, (bytesRow (R.take 256))[j]? = some v → W.drew.cell? ⟨g, 0 + j, none⟩ = some v := by
  intro j v hv
  refine ((unhide h).heap (W' := W.drew) rfl).cell ?_
  simp only [bytesRow, List.map_take, List.getElem?_take, Nat.zero_add] at hv ⊢
  split at hv
  · exact hv
  · cases hv
theorem src1 {W : World} {g : Nat} {R : List Int} (h : Hid (Holds W g 81 (bytesRow R))) : ∀ j v, (bytesRow (R.drop 256))[j]? = some v → W.drew.cell? ⟨g, 256 + j, none⟩ = some v := by
  intro j v hv
  refine ((unhide h).heap (W' := W.drew) rfl).cell ?_
  simpa only [bytesRow, List.map_drop, List.getElem?_drop] using hv

end Go.Proofs.YtkkpeboejgkmaaaDoor
