/- Load: the entry, in both answers' words. -/
import Derived.Test.YtkkpeboejgkmaaaDoorLoadMath
namespace Go.Proofs.YtkkpeboejgkmaaaDoor
open Go.RowKit
set_option linter.unusedVariables false
set_option linter.unusedSimpArgs false

theorem and_one (P : Int) (h1 : 1 ≤ P) (h7 : P ≤ 7) : bits BinOp.and IntKind.u8 P 1 ≠ 0 ↔ bits BinOp.and IntKind.i64 P 1 = 1 := by
  have h : P = 1 ∨ P = 2 ∨ P = 3 ∨ P = 4 ∨ P = 5 ∨ P = 6 ∨ P = 7 := by omega
  rcases h with rfl | rfl | rfl | rfl | rfl | rfl | rfl <;> decide
theorem mem_allPgs {B : List Int} {ss : List Seg} {q : Pg} : q ∈ allPgs B ss ↔ ∃ s ∈ ss, ∃ i, i < s.count ∧ q = ⟨((s.addr.toNat / 256 + i : Nat) : Int), s.perm, segPage B s (s.addr.toNat / 256 + i)⟩ := by
  unfold allPgs segPgs
  constructor
  · intro h
    obtain ⟨s, hs, h⟩ := List.mem_flatMap.1 h
    obtain ⟨i, hi, rfl⟩ := List.mem_map.1 h
    exact ⟨s, hs, i, List.mem_range.1 hi, rfl⟩
  · rintro ⟨s, hs, i, hi, rfl⟩
    exact List.mem_flatMap.2 ⟨s, hs, List.mem_map.2 ⟨i, List.mem_range.2 hi, rfl⟩⟩
theorem entry_same {B : List Int} {ss : List Seg} (hf : ∀ s ∈ ss, SegFit B s) (hp : ∀ s ∈ ss, 1 ≤ s.perm ∧ s.perm ≤ 7) (E : Int) (h0 : 0 ≤ E) :
    entOk E ss ↔ E % 4 = 0 ∧ E < 65536 ∧ ∃ q ∈ allPgs B ss, q.num = E / 256 ∧ bits BinOp.and IntKind.i64 q.perm 1 = 1 := by
  constructor
  · rintro ⟨h1, h2, i, hi, h3, h4, h5⟩
    have hm : ss.getD i seg0 ∈ ss := by rw [List.getD, List.getElem?_eq_getElem hi]; exact List.getElem_mem _
    generalize ss.getD i seg0 = s at *
    obtain ⟨e1, e2, e3, e4⟩ := fit_pages (hf s hm)
    refine ⟨h1, by omega, _, mem_allPgs.2 ⟨s, hm, (E / 256).toNat - s.addr.toNat / 256, by omega, rfl⟩, ?_, (and_one _ (hp s hm).1 (hp s hm).2).1 h3⟩
    show ((s.addr.toNat / 256 + ((E / 256).toNat - s.addr.toNat / 256) : Nat) : Int) = E / 256
    omega
  · rintro ⟨h1, h2, q, hq, h3, h4⟩
    obtain ⟨s, hs, i, hi, rfl⟩ := mem_allPgs.1 hq
    obtain ⟨e1, e2, e3, e4⟩ := fit_pages (hf s hs)
    simp only at h3 h4
    obtain ⟨j, hj, rfl⟩ := List.mem_iff_getElem.1 hs
    refine ⟨h1, by omega, j, hj, ?_⟩
    have e : ss.getD j seg0 = ss[j] := by rw [List.getD, List.getElem?_eq_getElem hj]; rfl
    rw [e]
    exact ⟨(and_one _ (hp _ hs).1 (hp _ hs).2).2 h4, by omega, by omega⟩
theorem perms_all {B : List Int} {n : Nat} (h : ∀ i, i < n → SegOk B (64 + 56 * i)) {ss : List Seg} (hp : ss.Perm (segsUpTo B n)) : ∀ s ∈ ss, 1 ≤ s.perm ∧ s.perm ≤ 7 := by
  intro s hs
  have := hp.mem_iff.1 hs
  obtain ⟨i, hi, rfl⟩ := List.mem_map.1 this
  have hk := h i (by simpa using hi)
  exact ⟨hk.2.1.1, hk.2.1.2.1⟩
end Go.Proofs.YtkkpeboejgkmaaaDoor
