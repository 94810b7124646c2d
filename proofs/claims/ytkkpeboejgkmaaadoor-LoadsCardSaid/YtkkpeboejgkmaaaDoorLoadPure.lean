/- Load: the pages of a segment as plain lists. -/
import Derived.Test.YtkkpeboejgkmaaaDoorLoadOver
import Derived.Test.YtkkpeboejgkmaaaDoorStackFacts
import Derived.Test.YtkkpeboejgkmaaaDoorSame
namespace Go.Proofs.YtkkpeboejgkmaaaDoor
open Go.RowKit
set_option linter.unusedVariables false
set_option linter.unusedSimpArgs false

/-- The byte at an address, by one segment: out of the file, or 0. -/
def segByte (B : List Int) (s : Seg) (at_ : Nat) : Int := if s.addr.toNat ≤ at_ ∧ at_ - s.addr.toNat < s.inFile.toNat then B.getD (s.offs.toNat + (at_ - s.addr.toNat)) 0 else 0
/-- Page p as one segment fills it. -/
def segPage (B : List Int) (s : Seg) (p : Nat) : List Int := (List.range 256).map fun j => segByte B s (p * 256 + j)
theorem segPage_length (B : List Int) (s : Seg) (p : Nat) : (segPage B s p).length = 256 := by simp [segPage]
/-- The pages of a segment. -/
def segPgs (B : List Int) (s : Seg) (n : Nat) : List Pg := (List.range n).map fun i => ⟨(s.addr.toNat / 256 + i : Nat), s.perm, segPage B s (s.addr.toNat / 256 + i)⟩
def apiRow (PS : List Pg) : List Value := PS.flatMap fun p => pageRow p.num p.perm p.bytes
def zeroRow : List Value := pageRow 0 0 zero256
theorem zeroRow_length : zeroRow.length = 258 := by rw [zeroRow, pageRow_length, zero256_length]
/-- n pages, k of them filled. -/
def pgFill (B : List Int) (s : Seg) (n k : Nat) : List Value := apiRow (segPgs B s k) ++ (List.replicate (n - k) zeroRow).flatten
theorem apiRow_length (PS : List Pg) (h : ∀ p ∈ PS, p.bytes.length = 256) : (apiRow PS).length = PS.length * 258 := by
  unfold apiRow
  induction PS with
  | nil => rfl
  | cons p r ih =>
    rw [List.flatMap_cons, List.length_append, ih (fun q hq => h q (List.mem_cons_of_mem _ hq)), pageRow_length, h p List.mem_cons_self, List.length_cons]
    omega
theorem segPgs_bytes (B : List Int) (s : Seg) (n : Nat) : ∀ p ∈ segPgs B s n, p.bytes.length = 256 := by
  intro p hp
  obtain ⟨i, _, rfl⟩ := List.mem_map.1 hp
  exact segPage_length _ _ _
theorem segPgs_length (B : List Int) (s : Seg) (n : Nat) : (segPgs B s n).length = n := by simp [segPgs]
theorem zeroRows_length (m : Nat) : (List.replicate m zeroRow).flatten.length = m * 258 := by
  induction m with
  | zero => rfl
  | succ m ih => rw [List.replicate_succ, List.flatten_cons, List.length_append, ih, zeroRow_length]; omega
theorem pgFill_length (B : List Int) (s : Seg) (n k : Nat) (h : k ≤ n) : (pgFill B s n k).length = n * 258 := by
  rw [pgFill, List.length_append, apiRow_length _ (segPgs_bytes B s k), segPgs_length, zeroRows_length]; omega
theorem pgFill_full (B : List Int) (s : Seg) (n : Nat) : pgFill B s n n = apiRow (segPgs B s n) := by rw [pgFill, Nat.sub_self]; simp
theorem pgFill_none (B : List Int) (s : Seg) (n : Nat) : pgFill B s n 0 = (List.replicate n zeroRow).flatten := by rw [pgFill, Nat.sub_zero]; rfl
/-- How many bytes of the file are laid ahead of the k-th page. -/
def eaten (s : Seg) (k : Nat) : Nat := if k = 0 then 0 else Nat.min s.inFile.toNat (k * 256 - s.addr.toNat % 256)
def startAt (s : Seg) (k : Nat) : Nat := if k = 0 then s.addr.toNat % 256 else 0
/-- What is copied into the k-th page. -/
def chunk (B : List Int) (s : Seg) (k : Nat) : List Int := (List.range (Nat.min (s.inFile.toNat - eaten s k) (256 - startAt s k))).map fun j => B.getD (s.offs.toNat + eaten s k + j) 0
theorem chunk_length (B : List Int) (s : Seg) (k : Nat) : (chunk B s k).length = Nat.min (s.inFile.toNat - eaten s k) (256 - startAt s k) := by simp [chunk]
theorem startAt_lt (s : Seg) (k : Nat) : startAt s k < 256 := by
  unfold startAt
  have := Nat.mod_lt s.addr.toNat (show 256 > 0 by omega)
  split <;> omega
theorem eaten_le (s : Seg) (k : Nat) : eaten s k ≤ s.inFile.toNat := by
  unfold eaten
  simp only [Nat.min_def]
  split
  · omega
  · split <;> omega
theorem min_or (a b : Nat) : (Nat.min a b = a ∧ a ≤ b) ∨ (Nat.min a b = b ∧ b ≤ a) := by simp only [Nat.min_def]; split <;> omega
theorem start_key (s : Seg) (k : Nat) : (k = 0 ∧ startAt s k = s.addr.toNat % 256 ∧ eaten s k = 0) ∨ (0 < k ∧ startAt s k = 0 ∧ (eaten s k = k * 256 - s.addr.toNat % 256 ∧ eaten s k ≤ s.inFile.toNat ∨ eaten s k = s.inFile.toNat ∧ s.inFile.toNat ≤ k * 256 - s.addr.toNat % 256)) := by
  rcases k with _ | k
  · exact .inl ⟨rfl, rfl, rfl⟩
  · refine .inr ⟨by omega, rfl, ?_⟩
    have e : eaten s (k + 1) = Nat.min s.inFile.toNat ((k + 1) * 256 - s.addr.toNat % 256) := by rw [eaten, if_neg (by omega)]
    have := min_or s.inFile.toNat ((k + 1) * 256 - s.addr.toNat % 256)
    omega
theorem eaten_step (s : Seg) (k : Nat) : eaten s (k + 1) = eaten s k + Nat.min (s.inFile.toNat - eaten s k) (256 - startAt s k) := by
  have a := start_key s k
  have b := start_key s (k + 1)
  have c := min_or (s.inFile.toNat - eaten s k) (256 - startAt s k)
  have r := Nat.mod_lt s.addr.toNat (show 256 > 0 by omega)
  omega
theorem zero256_get (j : Nat) : zero256[j]? = if j < 256 then some 0 else none := by rw [zero256, List.getElem?_replicate]
theorem page_chunk (B : List Int) (s : Seg) (k : Nat) : splice zero256 (startAt s k) (chunk B s k) = segPage B s (s.addr.toNat / 256 + k) := by
  have hcl := chunk_length B s k
  have hck : ∀ i, i < Nat.min (s.inFile.toNat - eaten s k) (256 - startAt s k) → (chunk B s k)[i]? = some (B.getD (s.offs.toNat + eaten s k + i) 0) := fun i hi => by
    rw [chunk, List.getElem?_map, List.getElem?_range hi]; rfl
  have hM := min_or (s.inFile.toNat - eaten s k) (256 - startAt s k)
  have hK := start_key s k
  have hs := startAt_lt s k
  have he := eaten_le s k
  have hr := Nat.mod_lt s.addr.toNat (show 256 > 0 by omega)
  have hd := Nat.div_add_mod s.addr.toNat 256
  generalize Nat.min (s.inFile.toNat - eaten s k) (256 - startAt s k) = M at *
  generalize startAt s k = S at *
  generalize eaten s k = Ea at *
  have hfit : S + (chunk B s k).length ≤ zero256.length := by rw [hcl, zero256_length]; omega
  apply List.ext_getElem?
  intro j
  rw [splice_get _ _ _ hfit, hcl, zero256_get]
  by_cases hj : j < 256
  · have hp : (segPage B s (s.addr.toNat / 256 + k))[j]? = some (segByte B s ((s.addr.toNat / 256 + k) * 256 + j)) := by
      rw [segPage, List.getElem?_map, List.getElem?_range hj]; rfl
    rw [if_pos hj, hp]
    unfold segByte
    generalize s.addr.toNat = A at *
    generalize s.inFile.toNat = F at *
    by_cases h1 : j < S
    · rw [if_pos h1, if_neg (by omega)]
    · rw [if_neg h1]
      by_cases h2 : j < S + M
      · rw [if_pos h2, hck _ (by omega), if_pos (by omega)]
        congr 2
        omega
      · rw [if_neg h2, if_neg (by omega)]
  · rw [if_neg hj, if_neg (by omega), if_neg (by omega)]
    rw [segPage, List.getElem?_map, List.getElem?_eq_none (by simp; omega)]; rfl
theorem splice_in (pre Z post xs : List Value) (a b x y : Value) (o : Nat) (hz : o + xs.length ≤ Z.length) :
    splice (((pre ++ (a :: b :: (Z ++ post))).set pre.length x).set (pre.length + 1) y) (pre.length + 2 + o) xs = pre ++ (x :: y :: (splice Z o xs ++ post)) := by
  have e1 : (pre ++ (a :: b :: (Z ++ post))).set pre.length x = pre ++ (x :: b :: (Z ++ post)) := by
    rw [List.set_append_right _ _ (Nat.le_refl _)]; simp
  have e2 : (pre ++ (x :: b :: (Z ++ post))).set (pre.length + 1) y = pre ++ (x :: y :: (Z ++ post)) := by
    rw [List.set_append_right _ _ (by omega)]; simp
  rw [e1, e2]
  unfold splice
  have e3 : (pre ++ (x :: y :: (Z ++ post))).take (pre.length + 2 + o) = pre ++ (x :: y :: Z.take o) := by
    rw [List.take_append, List.take_of_length_le (by omega), show pre.length + 2 + o - pre.length = o + 2 from by omega]
    simp only [List.take_succ_cons]
    rw [List.take_append_of_le_length (by omega)]
  have e4 : (pre ++ (x :: y :: (Z ++ post))).drop (pre.length + 2 + o + xs.length) = Z.drop (o + xs.length) ++ post := by
    rw [List.drop_append, List.drop_of_length_le (by omega), show pre.length + 2 + o + xs.length - pre.length = o + xs.length + 2 from by omega]
    simp only [List.drop_succ_cons, List.nil_append]
    rw [List.drop_append_of_le_length (by omega)]
  rw [e3, e4]; simp
theorem pgFill_step (B : List Int) (s : Seg) (n k : Nat) (h : k < n) :
    splice (((pgFill B s n k).set (k * 258) (.int .i64 (s.addr.toNat / 256 + k : Nat))).set (k * 258 + 1) (.int .u8 s.perm)) (k * 258 + 2 + startAt s k) (bytesRow (chunk B s k)) = pgFill B s n (k + 1) := by
  have hl : (apiRow (segPgs B s k)).length = k * 258 := by rw [apiRow_length _ (segPgs_bytes B s k), segPgs_length]
  have e1 : n - k = (n - (k + 1)) + 1 := by omega
  have e2 : segPgs B s (k + 1) = segPgs B s k ++ [⟨(s.addr.toNat / 256 + k : Nat), s.perm, segPage B s (s.addr.toNat / 256 + k)⟩] := by simp [segPgs, List.range_succ]
  have hfit : startAt s k + (bytesRow (chunk B s k)).length ≤ (bytesRow zero256).length := by
    rw [bytesRow_length, bytesRow_length, chunk_length, zero256_length]
    have := startAt_lt s k
    simp only [Nat.min_def]; split <;> omega
  have hst := splice_in (apiRow (segPgs B s k)) (bytesRow zero256) (List.replicate (n - (k + 1)) zeroRow).flatten (bytesRow (chunk B s k)) (.int .i64 0) (.int .u8 0) (.int .i64 (s.addr.toNat / 256 + k : Nat)) (.int .u8 s.perm) (startAt s k) hfit
  rw [hl] at hst
  have e3 : pgFill B s n k = apiRow (segPgs B s k) ++ (.int .i64 0 :: .int .u8 0 :: (bytesRow zero256 ++ (List.replicate (n - (k + 1)) zeroRow).flatten)) := by
    rw [pgFill, e1, List.replicate_succ, List.flatten_cons]; rfl
  rw [e3, hst, bytesRow_splice, page_chunk, pgFill, e2, apiRow, apiRow, List.flatMap_append]
  simp [pageRow]
end Go.Proofs.YtkkpeboejgkmaaaDoor
