/- Load: the document's pages as lists. -/
import Derived.Test.YtkkpeboejgkmaaaDoorLoadEntry
import Derived.Test.YtkkpeboejgkmaaaDoorStackZero2
namespace Go.Proofs.YtkkpeboejgkmaaaDoor
open Go.RowKit
set_option linter.unusedVariables false
set_option linter.unusedSimpArgs false

/-- Byte t of page p lies in what the segment has in the file. -/
abbrev inSeg (s : Seg) (p t : Nat) : Prop := s.addr.toNat ≤ p * 256 + t ∧ p * 256 + t - s.addr.toNat < s.inFile.toNat
/-- Page p as one segment fills it over L, up to byte j. -/
def mixTo (B : List Int) (s : Seg) (p : Nat) (L : List Int) (j : Nat) : List Int :=
  (List.range 256).map fun t => if t < j ∧ inSeg s p t then B.getD (s.offs.toNat + (p * 256 + t - s.addr.toNat)) 0 else L.getD t 0
theorem mixTo_length (B : List Int) (s : Seg) (p : Nat) (L : List Int) (j : Nat) : (mixTo B s p L j).length = 256 := by simp [mixTo]
theorem mixTo_zero (B : List Int) (s : Seg) (p : Nat) (L : List Int) (h : L.length = 256) : mixTo B s p L 0 = L := by
  apply List.ext_getElem?
  intro j
  by_cases hj : j < 256
  · rw [mixTo, List.getElem?_map, List.getElem?_range hj]
    simp [List.getD, List.getElem?_eq_getElem (show j < L.length by omega)]
  · rw [List.getElem?_eq_none (by rw [mixTo_length]; omega), List.getElem?_eq_none (by omega)]
theorem mixTo_full (B : List Int) (s : Seg) (p : Nat) : mixTo B s p zero256 256 = segPage B s p := by
  apply List.ext_getElem?
  intro j
  by_cases hj : j < 256
  · rw [mixTo, segPage, List.getElem?_map, List.getElem?_map, List.getElem?_range hj]
    have hz : zero256.getD j 0 = 0 := by rw [List.getD, zero256_get, if_pos hj]; rfl
    simp only [Option.map_some]
    rw [hz]
    unfold segByte inSeg
    by_cases h : s.addr.toNat ≤ p * 256 + j ∧ p * 256 + j - s.addr.toNat < s.inFile.toNat
    · rw [if_pos ⟨hj, h⟩, if_pos h]
    · rw [if_neg (fun x => h x.2), if_neg h]
  · rw [List.getElem?_eq_none (by rw [mixTo_length]; omega), List.getElem?_eq_none (by rw [segPage_length]; omega)]
theorem mixTo_in {B : List Int} {s : Seg} {p : Nat} {L : List Int} {j : Nat} (h : inSeg s p j) (hj : j < 256) : (mixTo B s p L j).set j (B.getD (s.offs.toNat + (p * 256 + j - s.addr.toNat)) 0) = mixTo B s p L (j + 1) := by
  apply List.ext_getElem?
  intro t
  rw [List.getElem?_set, mixTo_length]
  by_cases ht : t < 256
  · by_cases e : j = t
    · subst e
      rw [if_pos rfl, if_pos hj, mixTo, List.getElem?_map, List.getElem?_range hj, Option.map_some, if_pos ⟨by omega, h⟩]
    · rw [if_neg e, mixTo, mixTo, List.getElem?_map, List.getElem?_map, List.getElem?_range ht, Option.map_some, Option.map_some]
      congr 1
      by_cases h2 : t < j ∧ inSeg s p t
      · rw [if_pos h2, if_pos ⟨by omega, h2.2⟩]
      · rw [if_neg h2, if_neg (fun x => h2 ⟨by omega, x.2⟩)]
  · rw [if_neg (by omega), List.getElem?_eq_none (by rw [mixTo_length]; omega), List.getElem?_eq_none (by rw [mixTo_length]; omega)]
theorem mixTo_out {B : List Int} {s : Seg} {p : Nat} {L : List Int} {j : Nat} (h : ¬ inSeg s p j) : mixTo B s p L j = mixTo B s p L (j + 1) := by
  unfold mixTo
  refine List.map_congr_left ?_
  intro t _
  by_cases h2 : t < j ∧ inSeg s p t
  · rw [if_pos h2, if_pos ⟨by omega, h2.2⟩]
  · rw [if_neg h2, if_neg]
    rintro ⟨x, y⟩
    rcases Nat.lt_succ_iff_lt_or_eq.1 x with x | x
    · exact h2 ⟨x, y⟩
    · subst x; exact h y

/-- The pages of the document's answer up to number n. -/
def refPgs (B : List Int) (ss : List Seg) (n : Nat) : List Pg := (List.range n).flatMap fun p => (ss.filter (fun s => cov s p)).map (fun s => (⟨(p : Nat), s.perm, segPage B s p⟩ : Pg))
def refRow (PS : List Pg) : List Value := PS.flatMap fun p => refPage p.num p.perm p.bytes
theorem refPgs_succ (B : List Int) (ss : List Seg) (n : Nat) : refPgs B ss (n + 1) = refPgs B ss n ++ (ss.filter (fun s => cov s n)).map (fun s => (⟨(n : Nat), s.perm, segPage B s n⟩ : Pg)) := by
  unfold refPgs
  rw [List.range_succ, List.flatMap_append]; simp
theorem refPgs_bytes (B : List Int) (ss : List Seg) (n : Nat) : ∀ q ∈ refPgs B ss n, q.bytes.length = 256 := by
  intro q hq
  obtain ⟨p, _, hq⟩ := List.mem_flatMap.1 hq
  obtain ⟨s, _, rfl⟩ := List.mem_map.1 hq
  exact segPage_length _ _ _
theorem refRow_append (a b : List Pg) : refRow (a ++ b) = refRow a ++ refRow b := by simp [refRow]
theorem refRow_one (q : Pg) : refRow [q] = refPage q.num q.perm q.bytes := by simp [refRow]
/-- What the page at hand is, when the segments before it were gone through. -/
def PgState (B : List Int) (ss : List Seg) (p : Nat) (perm : Int) (L : List Int) : Prop :=
  L.length = 256 ∧ (ss.filter (fun s => cov s p) = [] → perm = 0 ∧ L = zero256) ∧ (∀ s, ss.filter (fun s => cov s p) = [s] → perm = s.perm ∧ L = segPage B s p)
theorem pgState_nil (B : List Int) (p : Nat) : PgState B [] p 0 zero256 := ⟨zero256_length, fun _ => ⟨rfl, rfl⟩, fun s h => by simp at h⟩
theorem pgState_out {B : List Int} {ss : List Seg} {p : Nat} {perm : Int} {L : List Int} {s : Seg} (h : PgState B ss p perm L) (hc : cov s p = false) : PgState B (ss ++ [s]) p perm L := by
  have e : (ss ++ [s]).filter (fun s => cov s p) = ss.filter (fun s => cov s p) := by simp [List.filter_append, hc]
  unfold PgState
  rw [e]; exact h
theorem pgState_in {B : List Int} {ss : List Seg} {p : Nat} {perm : Int} {L : List Int} {s : Seg} (h : PgState B ss p perm L) (hc : cov s p = true) : PgState B (ss ++ [s]) p s.perm (mixTo B s p L 256) := by
  have e : (ss ++ [s]).filter (fun s => cov s p) = ss.filter (fun s => cov s p) ++ [s] := by simp [List.filter_append, hc]
  refine ⟨mixTo_length _ _ _ _ _, fun h2 => by rw [e] at h2; simp at h2, fun t ht => ?_⟩
  rw [e] at ht
  have e2 : ss.filter (fun s => cov s p) = [] := by
    cases hx : ss.filter (fun s => cov s p) with
    | nil => rfl
    | cons a r => rw [hx] at ht; simp at ht
  rw [e2] at ht
  have : s = t := by simpa using ht
  subst this
  rw [(h.2.1 e2).2]
  exact ⟨rfl, mixTo_full _ _ _⟩
theorem countP_snoc (ss : List Seg) (s : Seg) (p : Nat) : (ss ++ [s]).countP (fun s => cov s p) = ss.countP (fun s => cov s p) + (if cov s p = true then 1 else 0) := by simp [List.countP_append, List.countP_cons]
theorem filter_none {ss : List Seg} {p : Nat} (h : ss.countP (fun s => cov s p) = 0) : ss.filter (fun s => cov s p) = [] := by
  rw [List.countP_eq_length_filter] at h
  exact List.eq_nil_of_length_eq_zero h
theorem filter_one {ss : List Seg} {p : Nat} (h : ss.countP (fun s => cov s p) = 1) : ∃ s, ss.filter (fun s => cov s p) = [s] := by
  rw [List.countP_eq_length_filter] at h
  exact List.length_eq_one_iff.1 h
/-- The document's pages are the program's. -/
theorem refPgs_all {B : List Int} {ss fs : List Seg} (hp : ss.Perm fs) (hf : ∀ s ∈ ss, SegFit B s) (hno : ∀ i, i + 1 < ss.length → ¬ ovAt ss i) : refPgs B fs 256 = allPgs B ss := by
  have hst := strict_pairwise (noOv_strict hf hno)
  rw [← pages_order B ss 0 hf hst (fun s hs => by have := fit_pages (hf s hs); omega) (by omega)]
  unfold refPgs
  rw [List.range_eq_range']
  refine flat_congr ?_
  intro p _
  have h1 := noOv_one hf hst p
  have h2 : (ss.filter (fun s => cov s p)).Perm (fs.filter (fun s => cov s p)) := hp.filter _
  rw [List.countP_eq_length_filter] at h1
  have h3 : fs.filter (fun s => cov s p) = ss.filter (fun s => cov s p) := by
    cases hx : ss.filter (fun s => cov s p) with
    | nil => rw [hx] at h2; exact h2.nil_eq.symm
    | cons a r =>
      rw [hx] at h1 h2
      have hr : r = [] := by simpa using h1
      subst hr
      exact List.perm_singleton.1 h2.symm
  rw [h3]
/-- An overlap in the one answer is one in the other. -/
theorem ov_same {B : List Int} {ss fs : List Seg} (hp : ss.Perm fs) (hf : ∀ s ∈ ss, SegFit B s) (hs : Sorted ss) :
    (∃ i, i + 1 < ss.length ∧ ovAt ss i) ↔ ∃ p, p < 256 ∧ 1 < fs.countP (fun s => cov s p) := by
  constructor
  · rintro ⟨i, hi, ho⟩
    obtain ⟨p, h1, h2⟩ := ov_two hf hs hi ho
    exact ⟨p, h1, by rw [← hp.countP_eq]; exact h2⟩
  · rintro ⟨p, h1, h2⟩
    apply Classical.byContradiction
    intro hn
    have hno : ∀ i, i + 1 < ss.length → ¬ ovAt ss i := fun i hi ho => hn ⟨i, hi, ho⟩
    have := noOv_one hf (strict_pairwise (noOv_strict hf hno)) p
    rw [hp.countP_eq] at this
    omega
end Go.Proofs.YtkkpeboejgkmaaaDoor
