import Derived.Test.YtjkpeelijbeekaaGreatDoorBootsProofG14
import Derived.Test.YtjkpeelijbeekaaGreatDoorBootsProofG12
import Derived.Test.YtjkpeelijbeekaaGreatDoorBootsProofG07
/- Load: the mathematics between the two answers. -/
namespace Go.Proofs.YtjkpeelijbeekaaGreatDoor
open Go.RowKit
set_option linter.unusedVariables false
set_option linter.unusedSimpArgs false

/-- Page p lies in the segment. -/
def cov (s : Seg) (p : Nat) : Bool := decide (s.first ≤ (p : Int) ∧ (p : Int) ≤ s.last)
theorem cov_true {s : Seg} {p : Nat} : cov s p = true ↔ s.first ≤ (p : Int) ∧ (p : Int) ≤ s.last := by simp [cov]
theorem cov_false {s : Seg} {p : Nat} : cov s p = false ↔ ¬ (s.first ≤ (p : Int) ∧ (p : Int) ≤ s.last) := by simp [cov]
theorem fit_pages {B : List Int} {s : Seg} (h : SegFit B s) : s.first = ((s.addr.toNat / 256 : Nat) : Int) ∧ s.last = ((s.addr.toNat / 256 + s.count : Nat) : Int) - 1 ∧ s.addr.toNat / 256 + s.count ≤ 254 ∧ 1 ≤ s.count := by
  have hc := count_pos h
  obtain ⟨a0, o0, i0, m1, hfm, hfit, htop⟩ := h
  unfold Seg.count Seg.last Seg.first at *
  omega
/-- No neighbours overlap: then no two do. -/
theorem noOv_strict {B : List Int} {ss : List Seg} (hf : ∀ s ∈ ss, SegFit B s) (hno : ∀ i, i + 1 < ss.length → ¬ ovAt ss i) : ∀ j i, i < j → j < ss.length → (ss.getD i seg0).last < (ss.getD j seg0).first
  | 0, i, h, _ => by omega
  | j + 1, i, h, hj => by
    have h1 : (ss.getD j seg0).last < (ss.getD (j + 1) seg0).first := by have := hno j hj; unfold ovAt at this; omega
    rcases Nat.lt_succ_iff_lt_or_eq.1 h with h2 | h2
    · have h3 := noOv_strict hf hno j i h2 (by omega)
      have hm : ss.getD j seg0 ∈ ss := by rw [List.getD, List.getElem?_eq_getElem (by omega)]; exact List.getElem_mem _
      have h4 := fit_pages (hf _ hm)
      omega
    · rw [h2]; exact h1
theorem strict_pairwise {ss : List Seg} (h : ∀ j i, i < j → j < ss.length → (ss.getD i seg0).last < (ss.getD j seg0).first) : ss.Pairwise (fun s t => s.last < t.first) := by
  rw [List.pairwise_iff_getElem]
  intro i j hi hj hij
  have := h j i hij hj
  simpa [List.getD, List.getElem?_eq_getElem hi, List.getElem?_eq_getElem hj] using this
theorem flat_congr {α β : Type} {l : List α} {f g : α → List β} (h : ∀ a ∈ l, f a = g a) : l.flatMap f = l.flatMap g := by
  induction l with
  | nil => rfl
  | cons a r ih => rw [List.flatMap_cons, List.flatMap_cons, h a List.mem_cons_self, ih (fun x hx => h x (List.mem_cons_of_mem _ hx))]
theorem flat_one {α β : Type} (l : List α) (f : α → β) : (l.flatMap fun a => [f a]) = l.map f := by
  induction l with
  | nil => rfl
  | cons a r ih => rw [List.flatMap_cons, ih]; rfl
/-- The pages in the order of their numbers are the pages of the segments in their order. -/
theorem pages_order (B : List Int) : ∀ (ss : List Seg) (lo : Nat), (∀ s ∈ ss, SegFit B s) → ss.Pairwise (fun s t => s.last < t.first) → (∀ s ∈ ss, (lo : Int) ≤ s.first) → lo ≤ 256 →
    (List.range' lo (256 - lo)).flatMap (fun p => (ss.filter (fun s => cov s p)).map (fun s => (⟨(p : Nat), s.perm, segPage B s p⟩ : Pg))) = allPgs B ss
  | [], lo, _, _, _, _ => by simp [allPgs]
  | s :: r, lo, hf, hp, hlo, h256 => by
    obtain ⟨e1, e2, e3, e4⟩ := fit_pages (hf s List.mem_cons_self)
    have hlo1 := hlo s List.mem_cons_self
    rw [List.pairwise_cons] at hp
    have ih := pages_order B r (s.addr.toNat / 256 + s.count) (fun t ht => hf t (List.mem_cons_of_mem _ ht)) hp.2 (fun t ht => by have := hp.1 t ht; omega) (by omega)
    have eall : allPgs B (s :: r) = segPgs B s s.count ++ allPgs B r := by simp [allPgs]
    unfold segPgs at eall
    generalize s.addr.toNat / 256 = f at *
    generalize s.count = n at *
    have hs1 : List.range' lo (256 - lo) = List.range' lo (f - lo) ++ (List.range' f n ++ List.range' (f + n) (256 - (f + n))) := by
      have a := List.range'_append_1 (s := f) (m := n) (n := 256 - (f + n))
      have b := List.range'_append_1 (s := lo) (m := f - lo) (n := n + (256 - (f + n)))
      rw [show lo + (f - lo) = f from by omega] at b
      rw [a, b]
      congr 1; omega
    rw [hs1, List.flatMap_append, List.flatMap_append, eall]
    have p1 : (List.range' lo (f - lo)).flatMap (fun p => ((s :: r).filter (fun s => cov s p)).map (fun s => (⟨(p : Nat), s.perm, segPage B s p⟩ : Pg))) = [] := by
      rw [List.flatMap_eq_nil_iff]
      intro p hp2
      rw [List.mem_range'_1] at hp2
      rw [List.map_eq_nil_iff, List.filter_eq_nil_iff]
      intro t ht
      rw [cov_true]
      rcases List.mem_cons.1 ht with rfl | ht
      · omega
      · have := hp.1 t ht; omega
    have p2 : (List.range' f n).flatMap (fun p => ((s :: r).filter (fun s => cov s p)).map (fun s => (⟨(p : Nat), s.perm, segPage B s p⟩ : Pg))) = (List.range n).map fun i => ⟨(f + i : Nat), s.perm, segPage B s (f + i)⟩ := by
      rw [List.range'_eq_map_range, List.flatMap_map]
      have : ∀ i ∈ List.range n, (((s :: r).filter (fun s => cov s (f + i))).map (fun s => (⟨((f + i : Nat) : Int), s.perm, segPage B s (f + i)⟩ : Pg))) = [⟨((f + i : Nat) : Int), s.perm, segPage B s (f + i)⟩] := by
        intro i hi
        rw [List.mem_range] at hi
        have c1 : cov s (f + i) = true := by rw [cov_true]; omega
        have c2 : r.filter (fun s => cov s (f + i)) = [] := by
          rw [List.filter_eq_nil_iff]
          intro t ht
          rw [cov_true]
          have := hp.1 t ht; omega
        rw [List.filter_cons, if_pos c1, c2]; rfl
      rw [flat_congr this, flat_one]
    have p3 : (List.range' (f + n) (256 - (f + n))).flatMap (fun p => ((s :: r).filter (fun s => cov s p)).map (fun s => (⟨(p : Nat), s.perm, segPage B s p⟩ : Pg))) = allPgs B r := by
      rw [← ih]
      refine flat_congr ?_
      intro p hp2
      rw [List.mem_range'_1] at hp2
      have c1 : cov s p = false := by rw [cov_false]; omega
      rw [List.filter_cons, if_neg (by rw [c1]; simp)]
    rw [p1, p2, p3, List.nil_append]
/-- Neighbours that overlap: some page lies in two segments. -/
theorem ov_two {B : List Int} {ss : List Seg} (hf : ∀ s ∈ ss, SegFit B s) (hs : Sorted ss) {i : Nat} (hi : i + 1 < ss.length) (ho : ovAt ss i) : ∃ p, p < 256 ∧ 1 < ss.countP (fun s => cov s p) := by
  have m0 : ss[i]? = some (ss.getD i seg0) := by rw [List.getD, List.getElem?_eq_getElem (by omega)]; rfl
  have m1 : ss[i + 1]? = some (ss.getD (i + 1) seg0) := by rw [List.getD, List.getElem?_eq_getElem hi]; rfl
  have f0 := fit_pages (hf _ (List.mem_of_getElem? m0))
  have f1 := fit_pages (hf _ (List.mem_of_getElem? m1))
  have h2 := hs i (i + 1) (by omega) hi
  have h3 : (ss.getD i seg0).first ≤ (ss.getD (i + 1) seg0).first := by unfold Seg.first; omega
  unfold ovAt at ho
  generalize ss.getD i seg0 = a at *
  generalize ss.getD (i + 1) seg0 = b at *
  have c0 : cov a (b.addr.toNat / 256) = true := by rw [cov_true]; omega
  have c1 : cov b (b.addr.toNat / 256) = true := by rw [cov_true]; omega
  refine ⟨b.addr.toNat / 256, by omega, ?_⟩
  have e : ss = ss.take i ++ (a :: b :: ss.drop (i + 2)) := by
    have h4 : ss.drop i = a :: ss.drop (i + 1) := by rw [List.drop_eq_getElem_cons (by omega)]; congr 1; rw [List.getElem?_eq_getElem (by omega)] at m0; exact Option.some.inj m0
    have h5 : ss.drop (i + 1) = b :: ss.drop (i + 2) := by rw [List.drop_eq_getElem_cons hi]; congr 1; rw [List.getElem?_eq_getElem hi] at m1; exact Option.some.inj m1
    rw [← h5, ← h4, List.take_append_drop]
  rw [e, List.countP_append, List.countP_cons, List.countP_cons, if_pos c0, if_pos c1]
  omega
/-- No neighbours overlap: no page lies in two. -/
theorem noOv_one {B : List Int} : ∀ {ss : List Seg}, (∀ s ∈ ss, SegFit B s) → ss.Pairwise (fun s t => s.last < t.first) → ∀ p, ss.countP (fun s => cov s p) ≤ 1
  | [], _, _, p => by simp
  | s :: r, hf, hp, p => by
    rw [List.pairwise_cons] at hp
    have ih := noOv_one (fun t ht => hf t (List.mem_cons_of_mem _ ht)) hp.2 p
    rw [List.countP_cons]
    by_cases c : cov s p = true
    · have h0 : r.countP (fun s => cov s p) = 0 := by
        rw [List.countP_eq_zero]
        intro t ht
        rw [cov_true] at c ⊢
        have := hp.1 t ht
        omega
      rw [h0]; split <;> omega
    · rw [if_neg c]; omega
end Go.Proofs.YtjkpeelijbeekaaGreatDoor

/- Load: the entry, in both answers' words. -/
namespace Go.Proofs.YtjkpeelijbeekaaGreatDoor
open Go.RowKit
set_option linter.unusedVariables false
set_option linter.unusedSimpArgs false

theorem and_one (P : Int) (h1 : 1 ≤ P) (h7 : P ≤ 7) : bits BinOp.and IntKind.u8 P 1 ≠ 0 ↔ bits BinOp.and IntKind.i64 P 1 = 1 := by
  have h : P = 1 ∨ P = 2 ∨ P = 3 ∨ P = 4 ∨ P = 5 ∨ P = 6 ∨ P = 7 := by omega
  rcases h with rfl | rfl | rfl | rfl | rfl | rfl | rfl <;> decide
theorem mem_allPgs {B : List Int} {ss : List Seg} {q : Pg} : q ∈ allPgs B ss ↔ ∃ s ∈ ss, ∃ i, i < s.count ∧ q = ⟨((s.addr.toNat / 256 + i : Nat) : Int), s.perm, segPage B s (s.addr.toNat / 256 + i)⟩ := by
  unfold allPgs segPgs
  constructor
  · intro h
    obtain ⟨s, hs, h⟩ := List.mem_flatMap.1 h
    obtain ⟨i, hi, rfl⟩ := List.mem_map.1 h
    exact ⟨s, hs, i, List.mem_range.1 hi, rfl⟩
  · rintro ⟨s, hs, i, hi, rfl⟩
    exact List.mem_flatMap.2 ⟨s, hs, List.mem_map.2 ⟨i, List.mem_range.2 hi, rfl⟩⟩
theorem entry_same {B : List Int} {ss : List Seg} (hf : ∀ s ∈ ss, SegFit B s) (hp : ∀ s ∈ ss, 1 ≤ s.perm ∧ s.perm ≤ 7) (E : Int) (h0 : 0 ≤ E) :
    entOk E ss ↔ E % 4 = 0 ∧ E < 65536 ∧ ∃ q ∈ allPgs B ss, q.num = E / 256 ∧ bits BinOp.and IntKind.i64 q.perm 1 = 1 := by
  constructor
  · rintro ⟨h1, h2, i, hi, h3, h4, h5⟩
    have hm : ss.getD i seg0 ∈ ss := by rw [List.getD, List.getElem?_eq_getElem hi]; exact List.getElem_mem _
    generalize ss.getD i seg0 = s at *
    obtain ⟨e1, e2, e3, e4⟩ := fit_pages (hf s hm)
    refine ⟨h1, by omega, _, mem_allPgs.2 ⟨s, hm, (E / 256).toNat - s.addr.toNat / 256, by omega, rfl⟩, ?_, (and_one _ (hp s hm).1 (hp s hm).2).1 h3⟩
    show ((s.addr.toNat / 256 + ((E / 256).toNat - s.addr.toNat / 256) : Nat) : Int) = E / 256
    omega
  · rintro ⟨h1, h2, q, hq, h3, h4⟩
    obtain ⟨s, hs, i, hi, rfl⟩ := mem_allPgs.1 hq
    obtain ⟨e1, e2, e3, e4⟩ := fit_pages (hf s hs)
    simp only at h3 h4
    obtain ⟨j, hj, rfl⟩ := List.mem_iff_getElem.1 hs
    refine ⟨h1, by omega, j, hj, ?_⟩
    have e : ss.getD j seg0 = ss[j] := by rw [List.getD, List.getElem?_eq_getElem hj]; rfl
    rw [e]
    exact ⟨(and_one _ (hp _ hs).1 (hp _ hs).2).2 h4, by omega, by omega⟩
theorem perms_all {B : List Int} {n : Nat} (h : ∀ i, i < n → SegOk B (64 + 56 * i)) {ss : List Seg} (hp : ss.Perm (segsUpTo B n)) : ∀ s ∈ ss, 1 ≤ s.perm ∧ s.perm ≤ 7 := by
  intro s hs
  have := hp.mem_iff.1 hs
  obtain ⟨i, hi, rfl⟩ := List.mem_map.1 this
  have hk := h i (by simpa using hi)
  exact ⟨hk.2.1.1, hk.2.1.2.1⟩
end Go.Proofs.YtjkpeelijbeekaaGreatDoor

/- Load: the document's pages as lists. -/
namespace Go.Proofs.YtjkpeelijbeekaaGreatDoor
open Go.RowKit
set_option linter.unusedVariables false
set_option linter.unusedSimpArgs false

/-- Byte t of page p lies in what the segment has in the file. -/
abbrev inSeg (s : Seg) (p t : Nat) : Prop := s.addr.toNat ≤ p * 256 + t ∧ p * 256 + t - s.addr.toNat < s.inFile.toNat
/-- Page p as one segment fills it over L, up to byte j. -/
def mixTo (B : List Int) (s : Seg) (p : Nat) (L : List Int) (j : Nat) : List Int :=
  (List.range 256).map fun t => if t < j ∧ inSeg s p t then B.getD (s.offs.toNat + (p * 256 + t - s.addr.toNat)) 0 else L.getD t 0
theorem mixTo_length (B : List Int) (s : Seg) (p : Nat) (L : List Int) (j : Nat) : (mixTo B s p L j).length = 256 := by simp [mixTo]
theorem mixTo_zero (B : List Int) (s : Seg) (p : Nat) (L : List Int) (h : L.length = 256) : mixTo B s p L 0 = L := by
  apply List.ext_getElem?
  intro j
  by_cases hj : j < 256
  · rw [mixTo, List.getElem?_map, List.getElem?_range hj]
    simp [List.getD, List.getElem?_eq_getElem (show j < L.length by omega)]
  · rw [List.getElem?_eq_none (by rw [mixTo_length]; omega), List.getElem?_eq_none (by omega)]
theorem mixTo_full (B : List Int) (s : Seg) (p : Nat) : mixTo B s p zero256 256 = segPage B s p := by
  apply List.ext_getElem?
  intro j
  by_cases hj : j < 256
  · rw [mixTo, segPage, List.getElem?_map, List.getElem?_map, List.getElem?_range hj]
    have hz : zero256.getD j 0 = 0 := by rw [List.getD, zero256_get, if_pos hj]; rfl
    simp only [Option.map_some]
    rw [hz]
    unfold segByte inSeg
    by_cases h : s.addr.toNat ≤ p * 256 + j ∧ p * 256 + j - s.addr.toNat < s.inFile.toNat
    · rw [if_pos ⟨hj, h⟩, if_pos h]
    · rw [if_neg (fun x => h x.2), if_neg h]
  · rw [List.getElem?_eq_none (by rw [mixTo_length]; omega), List.getElem?_eq_none (by rw [segPage_length]; omega)]
theorem mixTo_in {B : List Int} {s : Seg} {p : Nat} {L : List Int} {j : Nat} (h : inSeg s p j) (hj : j < 256) : (mixTo B s p L j).set j (B.getD (s.offs.toNat + (p * 256 + j - s.addr.toNat)) 0) = mixTo B s p L (j + 1) := by
  apply List.ext_getElem?
  intro t
  rw [List.getElem?_set, mixTo_length]
  by_cases ht : t < 256
  · by_cases e : j = t
    · subst e
      rw [if_pos rfl, if_pos hj, mixTo, List.getElem?_map, List.getElem?_range hj, Option.map_some, if_pos ⟨by omega, h⟩]
    · rw [if_neg e, mixTo, mixTo, List.getElem?_map, List.getElem?_map, List.getElem?_range ht, Option.map_some, Option.map_some]
      congr 1
      by_cases h2 : t < j ∧ inSeg s p t
      · rw [if_pos h2, if_pos ⟨by omega, h2.2⟩]
      · rw [if_neg h2, if_neg (fun x => h2 ⟨by omega, x.2⟩)]
  · rw [if_neg (by omega), List.getElem?_eq_none (by rw [mixTo_length]; omega), List.getElem?_eq_none (by rw [mixTo_length]; omega)]
theorem mixTo_out {B : List Int} {s : Seg} {p : Nat} {L : List Int} {j : Nat} (h : ¬ inSeg s p j) : mixTo B s p L j = mixTo B s p L (j + 1) := by
  unfold mixTo
  refine List.map_congr_left ?_
  intro t _
  by_cases h2 : t < j ∧ inSeg s p t
  · rw [if_pos h2, if_pos ⟨by omega, h2.2⟩]
  · rw [if_neg h2, if_neg]
    rintro ⟨x, y⟩
    rcases Nat.lt_succ_iff_lt_or_eq.1 x with x | x
    · exact h2 ⟨x, y⟩
    · subst x; exact h y

/-- The pages of the document's answer up to number n. -/
def refPgs (B : List Int) (ss : List Seg) (n : Nat) : List Pg := (List.range n).flatMap fun p => (ss.filter (fun s => cov s p)).map (fun s => (⟨(p : Nat), s.perm, segPage B s p⟩ : Pg))
def refRow (PS : List Pg) : List Value := PS.flatMap fun p => refPage p.num p.perm p.bytes
theorem refPgs_succ (B : List Int) (ss : List Seg) (n : Nat) : refPgs B ss (n + 1) = refPgs B ss n ++ (ss.filter (fun s => cov s n)).map (fun s => (⟨(n : Nat), s.perm, segPage B s n⟩ : Pg)) := by
  unfold refPgs
  rw [List.range_succ, List.flatMap_append]; simp
theorem refPgs_bytes (B : List Int) (ss : List Seg) (n : Nat) : ∀ q ∈ refPgs B ss n, q.bytes.length = 256 := by
  intro q hq
  obtain ⟨p, _, hq⟩ := List.mem_flatMap.1 hq
  obtain ⟨s, _, rfl⟩ := List.mem_map.1 hq
  exact segPage_length _ _ _
theorem refRow_append (a b : List Pg) : refRow (a ++ b) = refRow a ++ refRow b := by simp [refRow]
theorem refRow_one (q : Pg) : refRow [q] = refPage q.num q.perm q.bytes := by simp [refRow]
/-- What the page at hand is, when the segments before it were gone through. -/
def PgState (B : List Int) (ss : List Seg) (p : Nat) (perm : Int) (L : List Int) : Prop :=
  L.length = 256 ∧ (ss.filter (fun s => cov s p) = [] → perm = 0 ∧ L = zero256) ∧ (∀ s, ss.filter (fun s => cov s p) = [s] → perm = s.perm ∧ L = segPage B s p)
theorem pgState_nil (B : List Int) (p : Nat) : PgState B [] p 0 zero256 := ⟨zero256_length, fun _ => ⟨rfl, rfl⟩, fun s h => by simp at h⟩
theorem pgState_out {B : List Int} {ss : List Seg} {p : Nat} {perm : Int} {L : List Int} {s : Seg} (h : PgState B ss p perm L) (hc : cov s p = false) : PgState B (ss ++ [s]) p perm L := by
  have e : (ss ++ [s]).filter (fun s => cov s p) = ss.filter (fun s => cov s p) := by simp [List.filter_append, hc]
  unfold PgState
  rw [e]; exact h
theorem pgState_in {B : List Int} {ss : List Seg} {p : Nat} {perm : Int} {L : List Int} {s : Seg} (h : PgState B ss p perm L) (hc : cov s p = true) : PgState B (ss ++ [s]) p s.perm (mixTo B s p L 256) := by
  have e : (ss ++ [s]).filter (fun s => cov s p) = ss.filter (fun s => cov s p) ++ [s] := by simp [List.filter_append, hc]
  refine ⟨mixTo_length _ _ _ _ _, fun h2 => by rw [e] at h2; simp at h2, fun t ht => ?_⟩
  rw [e] at ht
  have e2 : ss.filter (fun s => cov s p) = [] := by
    cases hx : ss.filter (fun s => cov s p) with
    | nil => rfl
    | cons a r => rw [hx] at ht; simp at ht
  rw [e2] at ht
  have : s = t := by simpa using ht
  subst this
  rw [(h.2.1 e2).2]
  exact ⟨rfl, mixTo_full _ _ _⟩
theorem countP_snoc (ss : List Seg) (s : Seg) (p : Nat) : (ss ++ [s]).countP (fun s => cov s p) = ss.countP (fun s => cov s p) + (if cov s p = true then 1 else 0) := by simp [List.countP_append, List.countP_cons]
theorem filter_none {ss : List Seg} {p : Nat} (h : ss.countP (fun s => cov s p) = 0) : ss.filter (fun s => cov s p) = [] := by
  rw [List.countP_eq_length_filter] at h
  exact List.eq_nil_of_length_eq_zero h
theorem filter_one {ss : List Seg} {p : Nat} (h : ss.countP (fun s => cov s p) = 1) : ∃ s, ss.filter (fun s => cov s p) = [s] := by
  rw [List.countP_eq_length_filter] at h
  exact List.length_eq_one_iff.1 h
/-- The document's pages are the program's. -/
theorem refPgs_all {B : List Int} {ss fs : List Seg} (hp : ss.Perm fs) (hf : ∀ s ∈ ss, SegFit B s) (hno : ∀ i, i + 1 < ss.length → ¬ ovAt ss i) : refPgs B fs 256 = allPgs B ss := by
  have hst := strict_pairwise (noOv_strict hf hno)
  rw [← pages_order B ss 0 hf hst (fun s hs => by have := fit_pages (hf s hs); omega) (by omega)]
  unfold refPgs
  rw [List.range_eq_range']
  refine flat_congr ?_
  intro p _
  have h1 := noOv_one hf hst p
  have h2 : (ss.filter (fun s => cov s p)).Perm (fs.filter (fun s => cov s p)) := hp.filter _
  rw [List.countP_eq_length_filter] at h1
  have h3 : fs.filter (fun s => cov s p) = ss.filter (fun s => cov s p) := by
    cases hx : ss.filter (fun s => cov s p) with
    | nil => rw [hx] at h2; exact h2.nil_eq.symm
    | cons a r =>
      rw [hx] at h1 h2
      have hr : r = [] := by simpa using h1
      subst hr
      exact List.perm_singleton.1 h2.symm
  rw [h3]
/-- An overlap in the one answer is one in the other. -/
theorem ov_same {B : List Int} {ss fs : List Seg} (hp : ss.Perm fs) (hf : ∀ s ∈ ss, SegFit B s) (hs : Sorted ss) :
    (∃ i, i + 1 < ss.length ∧ ovAt ss i) ↔ ∃ p, p < 256 ∧ 1 < fs.countP (fun s => cov s p) := by
  constructor
  · rintro ⟨i, hi, ho⟩
    obtain ⟨p, h1, h2⟩ := ov_two hf hs hi ho
    exact ⟨p, h1, by rw [← hp.countP_eq]; exact h2⟩
  · rintro ⟨p, h1, h2⟩
    apply Classical.byContradiction
    intro hn
    have hno : ∀ i, i + 1 < ss.length → ¬ ovAt ss i := fun i hi ho => hn ⟨i, hi, ho⟩
    have := noOv_one hf (strict_pairwise (noOv_strict hf hno)) p
    rw [hp.countP_eq] at this
    omega
end Go.Proofs.YtjkpeelijbeekaaGreatDoor

/- Stack: more on what the pages hold. -/
namespace Go.Proofs.YtjkpeelijbeekaaGreatDoor
open Go.RowKit
def intsRow (L : List Int) : List Value := L.map (Value.int .i64)
theorem intsRow_length (L : List Int) : (intsRow L).length = L.length := by simp [intsRow]
theorem room_low : ∀ ss, total ss ≤ 512 → ∀ j, j < 512 - total ss → (room ss)[j]? = some 0
  | [], _, j, hj => by
    unfold room zeroRoom
    rw [List.getElem?_replicate]
    simp [total] at hj
    simp [hj]
  | s :: r, h, j, hj => by
    have hr : total r ≤ 512 := by unfold total at h; omega
    unfold room
    have hl : 512 - total (s :: r) + (strInts s).length ≤ (room r).length := by rw [room_length r hr, strInts_length]; unfold total at h ⊢; omega
    rw [splice_get _ _ _ hl, if_pos hj]
    exact room_low r hr j (by unfold total at hj; omega)
theorem splice_zero_ext (L : List Int) (off : Nat) (xs : List Int) (m : Nat) (hl : off + xs.length + m ≤ L.length) (h : ∀ j, off + xs.length ≤ j → j < off + xs.length + m → L[j]? = some 0) :
    splice L off (xs ++ List.replicate m 0) = splice L off xs := by
  apply List.ext_getElem?
  intro j
  rw [splice_get _ _ _ (by simp; omega), splice_get _ _ _ (by omega)]
  simp only [List.length_append, List.length_replicate]
  by_cases a : j < off
  · simp [a]
  · by_cases c : j < off + xs.length
    · rw [if_neg a, if_pos (by omega), if_neg a, if_pos c, List.getElem?_append_left (by omega)]
    · by_cases d : j < off + xs.length + m
      · rw [if_neg a, if_pos (by omega), if_neg a, if_neg c, List.getElem?_append_right (by omega), List.getElem?_replicate, if_pos (by omega), h j (by omega) d]
      · rw [if_neg a, if_neg (by omega), if_neg a, if_neg c]
theorem words8_append (xs ys : List Int) : words8 (xs ++ ys) = words8 xs ++ words8 ys := by simp [words8]
theorem words8_one (x : Int) : words8 [x] = bytes8 x := by simp [words8]
theorem bytes8_zero : bytes8 0 = List.replicate 8 0 := by decide
theorem heads_take_last (ss : List ByteArray) : (heads ss).take (ss.length + 1) = ((ss.length : Nat) : Int) :: addrs ss := by
  unfold heads
  rw [List.take_succ_cons, List.take_append_of_le_length (by rw [addrs_length]; omega), List.take_of_length_le (by rw [addrs_length]; omega)]
theorem heads_eq (ss : List ByteArray) : heads ss = (heads ss).take (ss.length + 1) ++ [0] := by
  rw [heads_take_last]; simp [heads]
theorem heads_get (ss : List ByteArray) (k : Nat) (h : k < ss.length) : (heads ss)[k + 1]? = some ((addrs ss).getD k 0) := by
  unfold heads
  rw [List.getElem?_cons_succ, List.getElem?_append_left (by rw [addrs_length]; exact h)]
  simp [List.getD, List.getElem?_eq_getElem (show k < (addrs ss).length by rw [addrs_length]; exact h)]
theorem words8_take_succ (ws : List Int) (k : Nat) (x : Int) (h : ws[k]? = some x) : words8 (ws.take (k + 1)) = words8 (ws.take k) ++ bytes8 x := by
  obtain ⟨hk, e⟩ := List.getElem?_eq_some_iff.1 h
  rw [List.take_succ_eq_append_getElem hk, words8_append, e, words8_one]
theorem put_step (ss : List ByteArray) (X k : Nat) (h : k < ss.length) (hl : (room ss).length = 512) (hX : X + 8 * (ss.length + 2) ≤ 512) :
    splice (splice (room ss) X (words8 ((heads ss).take (k + 1)))) (0 + (X + 8 + 8 * k)) (bytes8 ((addrs ss).getD k 0)) = splice (room ss) X (words8 ((heads ss).take (k + 1 + 1))) := by
  have hw : (words8 ((heads ss).take (k + 1))).length = 8 * (k + 1) := by rw [words8_length, List.length_take, heads_length]; omega
  rw [words8_take_succ (heads ss) (k + 1) _ (heads_get ss k h), ← splice_splice _ _ _ _ (by rw [hw, bytes8_length, hl]; omega), hw]
  congr 1; omega
theorem put_last (ss : List ByteArray) (X : Nat) (hok : okArgs ss = true) (hX : X = spOff ss) : splice (room ss) X (words8 ((heads ss).take (ss.length + 1))) = stackRoom ss := by
  have ht : total ss ≤ 248 := by have := total_drop_le hok 0; simpa using this
  have h8 := (ok_all hok).1
  have hl := room_length ss (by omega)
  have hw : (words8 ((heads ss).take (ss.length + 1))).length = 8 * (ss.length + 1) := by rw [words8_length, List.length_take, heads_length]; omega
  have hs : X + 8 * (ss.length + 2) ≤ 512 - total ss := by rw [hX, spOff]; omega
  rw [stackRoom, ← hX]
  conv => rhs; rw [heads_eq ss, words8_append, words8_one, bytes8_zero]
  rw [splice_zero_ext _ _ _ _ (by rw [hw, hl]; omega) (fun j h1 h2 => room_low ss (by omega) j (by rw [hw] at h2; omega))]
theorem rev_get (ss : List ByteArray) (k : Nat) (h : k < ss.length) : (intsRow (addrs ss).reverse)[ss.length - 1 - k]? = some (.int .i64 ((addrs ss).getD k 0)) := by
  have hl := addrs_length ss
  unfold intsRow
  rw [List.getElem?_map, List.getElem?_reverse (by omega), hl, show ss.length - 1 - (ss.length - 1 - k) = k from by omega, List.getD, List.getElem?_eq_getElem (by omega)]
  rfl
theorem addrs_bd : ∀ (ss : List ByteArray) (k : Nat), k < ss.length → 0 ≤ (addrs ss).getD k 0 ∧ (addrs ss).getD k 0 ≤ 65536
  | [], k, h => by simp at h
  | s :: r, 0, h => by simp [addrs]; omega
  | s :: r, k + 1, h => by
    have := addrs_bd r k (by simpa using h)
    simpa [addrs] using this
end Go.Proofs.YtjkpeelijbeekaaGreatDoor

/- The program's Count of an address space. -/
namespace Go.Proofs.YtjkpeelijbeekaaGreatDoor
open Go Go.RowKit
set_option linter.unusedVariables false
set_option linter.unusedSimpArgs false

theorem permAt_found {PS : List Pg} (h : PgsOk PS) (j : Nat) : permAt PS j = 0 ∧ PS.find? (fun p => p.num == (j : Int)) = none ∨ 1 ≤ permAt PS j ∧ ∃ p, p ∈ PS ∧ PS.find? (fun p => p.num == (j : Int)) = some p ∧ permAt PS j = p.perm := by
  unfold permAt
  cases hf : PS.find? (fun p => p.num == (j : Int)) with
  | none => exact .inl ⟨rfl, rfl⟩
  | some p => exact .inr ⟨(h.each p (List.mem_of_find?_eq_some hf)).2.2.1, p, List.mem_of_find?_eq_some hf, rfl, rfl⟩
set_option maxRecDepth 100000 in
set_option maxHeartbeats 1000000 in
theorem count_any (pb so : Nat) (PS : List Pg) (w : World) (hok : PgsOk PS) (hc : ∀ j : Nat, j < 256 → w.cell? ⟨pb, so + j * 257, none⟩ = some (.int .u8 (permAt PS j))) :
    Calls Tryz.prog 71 #[.pointer (some ⟨pb, so, none⟩)] w fun e w' => e = .returned (.int .i64 (PS.length : Nat)) ∧ w' = w := by
  have HC := hide hc
  have HOK := hide hok
  clear hc hok
  go_enter Tryz.func71, Tryz.ntmps71
  go_wp2
  go_loopw [3, 5] (fun c i wr => ∃ j : Nat, j ≤ 256 ∧ i = .int .i64 j ∧ c = .int .i64 ((pgsTo PS j).length : Nat) ∧ wr = w) (fun _ i _ => 256 - (intOf i).toNat)
  case atStart => exact ⟨0, by omega, rfl, rfl, rfl⟩
  case round =>
    obtain ⟨j, hj, rfl, rfl, rfl⟩ := hrel
    by_cases hlt : j < 256
    · have hcell := unhide HC j hlt
      have hj0 : (0 : Int) ≤ (j : Int) := by omega
      have hj1 : (j : Int) < 256 := by omega
      have hl := pgsTo_len PS j
      have hs := pgsTo_succ PS j
      obtain ⟨n, hn⟩ : ∃ n, n = (pgsTo PS j).length := ⟨_, rfl⟩
      obtain ⟨v, hv⟩ : ∃ v, v = permAt PS j := ⟨_, rfl⟩
      rw [← hn] at hl ⊢
      rw [← hv] at hcell
      have hn2 : (n : Int) ≤ 256 := by omega
      rcases permAt_found (unhide HOK) j with ⟨h1, h2⟩ | ⟨h1, p, _, h2, _⟩
      · have HE := hide (show (pgsTo PS (j + 1)).length = n by rw [hs, h2, hn]; simp)
        have k0 : v = 0 := by omega
        subst k0
        clear hs hn hv h1 h2 hl
        go_wp2
        exact ⟨⟨j + 1, by omega, by simp, by rw [unhide HE], trivial⟩, by simp only [intOf]; omega⟩
      · have HE := hide (show (pgsTo PS (j + 1)).length = n + 1 by rw [hs, h2, hn]; simp)
        have k0 : (v == 0) = false := by simp; omega
        clear hs hn h1 h2 hl
        clear hv
        go_wp2
        exact ⟨⟨j + 1, by omega, by simp, by rw [unhide HE]; simp, trivial⟩, by simp only [intOf]; omega⟩
    · have : j = 256 := by omega
      subst this
      rw [pgsTo_all (unhide HOK)]
      go_wp2
      go_ret
      exact ⟨rfl, rfl⟩
end Go.Proofs.YtjkpeelijbeekaaGreatDoor

/- Great structs of the program: what is built, laid, loaded. -/
namespace Go.Proofs.YtjkpeelijbeekaaGreatDoor
open Go Go.RowKit
set_option linter.unusedVariables false
set_option linter.unusedSimpArgs false

theorem splice_cons {α : Type} (L : List α) (o : Nat) (v : α) (r : List α) (h : o + (r.length + 1) ≤ L.length) : splice (L.set o v) (o + 1) r = splice L o (v :: r) := by
  have a := splice_set L o [v] 0 v rfl (by simp; omega)
  simp only [List.take_zero, splice_nil, Nat.add_zero, Nat.zero_add] at a
  rw [a, show (List.take 1 [v]) = [v] from rfl]
  exact splice_splice L o [v] r (by simp; omega)
theorem fold_splice (off : Nat) : ∀ (vs : List Value) (k : Nat) (L : List Value), off + k + vs.length ≤ L.length → (vs.zipIdx k).foldl (fun cs (x : Value × Nat) => cs.setIfInBounds (off + x.2) x.1) L.toArray = (splice L (off + k) vs).toArray
  | [], k, L, _ => by rw [splice_nil]; rfl
  | v :: r, k, L, h => by
    have h' : off + k + (r.length + 1) ≤ L.length := h
    rw [List.zipIdx_cons, List.foldl_cons]
    show (r.zipIdx (k + 1)).foldl _ (L.toArray.setIfInBounds (off + k) v) = _
    rw [List.setIfInBounds_toArray, fold_splice off r (k + 1) (L.set (off + k) v) (by rw [List.length_set]; omega), ← Nat.add_assoc, splice_cons L (off + k) v r h']
/-- One part more of a struct that is built. -/
theorem fill_part (place : Nat → Option (Nat × Nat)) (L : List Value) (i off size : Nat) (v : Value) (rest : List (Nat × Value)) (hp : place i = some (off, size)) (hs : v.cells.size = size) (hle : off + size ≤ L.length) :
    Instr.fill place L.toArray ((i, v) :: rest) = Instr.fill place (splice L off v.cells.toList).toArray rest := by
  rw [Instr.fill]
  simp only [hp]
  rw [if_neg (by simp [hs]; omega)]
  congr 1
  have h := fold_splice off v.cells.toList 0 L (by rw [Array.length_toList, hs]; omega)
  rw [Nat.add_zero] at h
  rw [← h, ← Array.foldl_toList, Array.toList_zipIdx]
theorem page_fields (w : World) : ((#[{ name := "perm", type := 84, offset := 0, embedded := false, tag := "", pkgPath := "tinyos/mem", byteOffset := 0 }, { name := "bytes", type := 85, offset := 1, embedded := false, tag := "", pkgPath := "tinyos/mem", byteOffset := 1 }] : Array Field).mapM fun f => (do pure (f.offset, ← sizeOf f.type) : Sem (Nat × Nat))).run Tryz.prog w = .ok #[(0, 1), (1, 256)] w := by kernel_rfl
theorem page_built (perm : Int) (bytes : List Int) (hb : bytes.length = 256) (w : World) : (Instr.build 173 #[(0, .int .u8 perm), (1, .agg (bytesRow bytes).toArray)]).run Tryz.prog w = .ok (.agg (pageCells ⟨0, perm, bytes⟩).toArray) w := by
  have hzv := Tryz.zeroValue173 w
  have hl : Tryz.zeroCells173.toList.length = 257 := by rw [Array.length_toList]; exact Tryz.zeroCells173_size
  generalize Tryz.zeroCells173 = ZA at hzv hl
  obtain ⟨Z⟩ := ZA
  have hl : Z.length = 257 := hl
  have hff : Instr.fill (fun i => (#[(0, 1), (1, 256)] : Array (Nat × Nat))[i]?) (Value.agg Z.toArray).cells [(0, Value.int .u8 perm), (1, Value.agg (bytesRow bytes).toArray)] = some (pageCells ⟨0, perm, bytes⟩).toArray := by
    show Instr.fill _ Z.toArray _ = _
    rw [fill_part _ _ 0 0 1 _ _ rfl rfl (by rw [hl]; omega), fill_part _ _ 1 1 256 _ _ rfl (by simp [Value.cells, bytesRow_length, hb]) (by rw [splice_length _ _ _ (by simp [Value.cells, hl])]; omega)]
    refine congrArg some (congrArg List.toArray ?_)
    cases Z with
    | nil => simp at hl
    | cons z r =>
      have hr : r.length = 256 := by simpa using hl
      unfold splice pageCells
      simp [Value.cells, bytesRow_length, hb, hr]
  unfold Instr.build
  simp only [Sem.run_bind, hzv, Result.andThen_ok, run_underlying Tryz.underlying173, page_fields, hff]
  rfl
/-- What the walk makes of a page that is built. -/
theorem page_fold (p : Pg) (hb : p.bytes.length = 256) : List.foldl (fun (cs : Array Value) (x : Value × Nat) => cs.setIfInBounds (1 + x.snd) x.fst) (Tryz.zeroCells173.setIfInBounds 0 (.int .u8 p.perm)) (bytesRow p.bytes).zipIdx = (pageCells p).toArray := by
  have hl : Tryz.zeroCells173.toList.length = 257 := by rw [Array.length_toList]; exact Tryz.zeroCells173_size
  generalize Tryz.zeroCells173 = ZA at hl
  obtain ⟨Z⟩ := ZA
  have hl : Z.length = 257 := hl
  rw [List.setIfInBounds_toArray, fold_splice 1 (bytesRow p.bytes) 0 _ (by rw [List.length_set, bytesRow_length, hb, hl]; omega)]
  refine congrArg List.toArray ?_
  cases Z with
  | nil => simp at hl
  | cons z r =>
    have hr : r.length = 256 := by simpa using hl
    unfold splice pageCells
    simp [bytesRow_length, hb, hr]
end Go.Proofs.YtjkpeelijbeekaaGreatDoor
