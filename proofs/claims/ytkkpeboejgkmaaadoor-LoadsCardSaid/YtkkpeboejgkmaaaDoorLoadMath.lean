/- Load: the mathematics between the two answers. -/
import Derived.Test.YtkkpeboejgkmaaaDoorLoadExe
namespace Go.Proofs.YtkkpeboejgkmaaaDoor
open Go.RowKit
set_option linter.unusedVariables false
set_option linter.unusedSimpArgs false

/-- Page p lies in the segment. -/
def cov (s : Seg) (p : Nat) : Bool := decide (s.first ≤ (p : Int) ∧ (p : Int) ≤ s.last)
theorem cov_true {s : Seg} {p : Nat} : cov s p = true ↔ s.first ≤ (p : Int) ∧ (p : Int) ≤ s.last := by simp [cov]
theorem cov_false {s : Seg} {p : Nat} : cov s p = false ↔ ¬ (s.first ≤ (p : Int) ∧ (p : Int) ≤ s.last) := by simp [cov]
theorem fit_pages {B : List Int} {s : Seg} (h : SegFit B s) : s.first = ((s.addr.toNat / 256 : Nat) : Int) ∧ s.last = ((s.addr.toNat / 256 + s.count : Nat) : Int) - 1 ∧ s.addr.toNat / 256 + s.count ≤ 254 ∧ 1 ≤ s.count := by
  have hc := count_pos h
  obtain ⟨a0, o0, i0, m1, hfm, hfit, htop⟩ := h
  unfold Seg.count Seg.last Seg.first at *
  omega
/-- No neighbours overlap: then no two do. -/
theorem noOv_strict {B : List Int} {ss : List Seg} (hf : ∀ s ∈ ss, SegFit B s) (hno : ∀ i, i + 1 < ss.length → ¬ ovAt ss i) : ∀ j i, i < j → j < ss.length → (ss.getD i seg0).last < (ss.getD j seg0).first
  | 0, i, h, _ => by omega
  | j + 1, i, h, hj => by
    have h1 : (ss.getD j seg0).last < (ss.getD (j + 1) seg0).first := by have := hno j hj; unfold ovAt at this; omega
    rcases Nat.lt_succ_iff_lt_or_eq.1 h with h2 | h2
    · have h3 := noOv_strict hf hno j i h2 (by omega)
      have hm : ss.getD j seg0 ∈ ss := by rw [List.getD, List.getElem?_eq_getElem (by omega)]; exact List.getElem_mem _
      have h4 := fit_pages (hf _ hm)
      omega
    · rw [h2]; exact h1
theorem strict_pairwise {ss : List Seg} (h : ∀ j i, i < j → j < ss.length → (ss.getD i seg0).last < (ss.getD j seg0).first) : ss.Pairwise (fun s t => s.last < t.first) := by
  rw [List.pairwise_iff_getElem]
  intro i j hi hj hij
  have := h j i hij hj
  simpa [List.getD, List.getElem?_eq_getElem hi, List.getElem?_eq_getElem hj] using this
theorem flat_congr {α β : Type} {l : List α} {f g : α → List β} (h : ∀ a ∈ l, f a = g a) : l.flatMap f = l.flatMap g := by
  induction l with
  | nil => rfl
  | cons a r ih => rw [List.flatMap_cons, List.flatMap_cons, h a List.mem_cons_self, ih (fun x hx => h x (List.mem_cons_of_mem _ hx))]
theorem flat_one {α β : Type} (l : List α) (f : α → β) : (l.flatMap fun a => [f a]) = l.map f := by
  induction l with
  | nil => rfl
  | cons a r ih => rw [List.flatMap_cons, ih]; rfl
/-- The pages in the order of their numbers are the pages of the segments in their order. -/
theorem pages_order (B : List Int) : ∀ (ss : List Seg) (lo : Nat), (∀ s ∈ ss, SegFit B s) → ss.Pairwise (fun s t => s.last < t.first) → (∀ s ∈ ss, (lo : Int) ≤ s.first) → lo ≤ 256 →
    (List.range' lo (256 - lo)).flatMap (fun p => (ss.filter (fun s => cov s p)).map (fun s => (⟨(p : Nat), s.perm, segPage B s p⟩ : Pg))) = allPgs B ss
  | [], lo, _, _, _, _ => by simp [allPgs]
  | s :: r, lo, hf, hp, hlo, h256 => by
    obtain ⟨e1, e2, e3, e4⟩ := fit_pages (hf s List.mem_cons_self)
    have hlo1 := hlo s List.mem_cons_self
    rw [List.pairwise_cons] at hp
    have ih := pages_order B r (s.addr.toNat / 256 + s.count) (fun t ht => hf t (List.mem_cons_of_mem _ ht)) hp.2 (fun t ht => by have := hp.1 t ht; omega) (by omega)
    have eall : allPgs B (s :: r) = segPgs B s s.count ++ allPgs B r := by simp [allPgs]
    unfold segPgs at eall
    generalize s.addr.toNat / 256 = f at *
    generalize s.count = n at *
    have hs1 : List.range' lo (256 - lo) = List.range' lo (f - lo) ++ (List.range' f n ++ List.range' (f + n) (256 - (f + n))) := by
      have a := List.range'_append_1 (s := f) (m := n) (n := 256 - (f + n))
      have b := List.range'_append_1 (s := lo) (m := f - lo) (n := n + (256 - (f + n)))
      rw [show lo + (f - lo) = f from by omega] at b
      rw [a, b]
      congr 1; omega
    rw [hs1, List.flatMap_append, List.flatMap_append, eall]
    have p1 : (List.range' lo (f - lo)).flatMap (fun p => ((s :: r).filter (fun s => cov s p)).map (fun s => (⟨(p : Nat), s.perm, segPage B s p⟩ : Pg))) = [] := by
      rw [List.flatMap_eq_nil_iff]
      intro p hp2
      rw [List.mem_range'_1] at hp2
      rw [List.map_eq_nil_iff, List.filter_eq_nil_iff]
      intro t ht
      rw [cov_true]
      rcases List.mem_cons.1 ht with rfl | ht
      · omega
      · have := hp.1 t ht; omega
    have p2 : (List.range' f n).flatMap (fun p => ((s :: r).filter (fun s => cov s p)).map (fun s => (⟨(p : Nat), s.perm, segPage B s p⟩ : Pg))) = (List.range n).map fun i => ⟨(f + i : Nat), s.perm, segPage B s (f + i)⟩ := by
      rw [List.range'_eq_map_range, List.flatMap_map]
      have : ∀ i ∈ List.range n, (((s :: r).filter (fun s => cov s (f + i))).map (fun s => (⟨((f + i : Nat) : Int), s.perm, segPage B s (f + i)⟩ : Pg))) = [⟨((f + i : Nat) : Int), s.perm, segPage B s (f + i)⟩] := by
        intro i hi
        rw [List.mem_range] at hi
        have c1 : cov s (f + i) = true := by rw [cov_true]; omega
        have c2 : r.filter (fun s => cov s (f + i)) = [] := by
          rw [List.filter_eq_nil_iff]
          intro t ht
          rw [cov_true]
          have := hp.1 t ht; omega
        rw [List.filter_cons, if_pos c1, c2]; rfl
      rw [flat_congr this, flat_one]
    have p3 : (List.range' (f + n) (256 - (f + n))).flatMap (fun p => ((s :: r).filter (fun s => cov s p)).map (fun s => (⟨(p : Nat), s.perm, segPage B s p⟩ : Pg))) = allPgs B r := by
      rw [← ih]
      refine flat_congr ?_
      intro p hp2
      rw [List.mem_range'_1] at hp2
      have c1 : cov s p = false := by rw [cov_false]; omega
      rw [List.filter_cons, if_neg (by rw [c1]; simp)]
    rw [p1, p2, p3, List.nil_append]
/-- Neighbours that overlap: some page lies in two segments. -/
theorem ov_two {B : List Int} {ss : List Seg} (hf : ∀ s ∈ ss, SegFit B s) (hs : Sorted ss) {i : Nat} (hi : i + 1 < ss.length) (ho : ovAt ss i) : ∃ p, p < 256 ∧ 1 < ss.countP (fun s => cov s p) := by
  have m0 : ss[i]? = some (ss.getD i seg0) := by rw [List.getD, List.getElem?_eq_getElem (by omega)]; rfl
  have m1 : ss[i + 1]? = some (ss.getD (i + 1) seg0) := by rw [List.getD, List.getElem?_eq_getElem hi]; rfl
  have f0 := fit_pages (hf _ (List.mem_of_getElem? m0))
  have f1 := fit_pages (hf _ (List.mem_of_getElem? m1))
  have h2 := hs i (i + 1) (by omega) hi
  have h3 : (ss.getD i seg0).first ≤ (ss.getD (i + 1) seg0).first := by unfold Seg.first; omega
  unfold ovAt at ho
  generalize ss.getD i seg0 = a at *
  generalize ss.getD (i + 1) seg0 = b at *
  have c0 : cov a (b.addr.toNat / 256) = true := by rw [cov_true]; omega
  have c1 : cov b (b.addr.toNat / 256) = true := by rw [cov_true]; omega
  refine ⟨b.addr.toNat / 256, by omega, ?_⟩
  have e : ss = ss.take i ++ (a :: b :: ss.drop (i + 2)) := by
    have h4 : ss.drop i = a :: ss.drop (i + 1) := by rw [List.drop_eq_getElem_cons (by omega)]; congr 1; rw [List.getElem?_eq_getElem (by omega)] at m0; exact Option.some.inj m0
    have h5 : ss.drop (i + 1) = b :: ss.drop (i + 2) := by rw [List.drop_eq_getElem_cons hi]; congr 1; rw [List.getElem?_eq_getElem hi] at m1; exact Option.some.inj m1
    rw [← h5, ← h4, List.take_append_drop]
  rw [e, List.countP_append, List.countP_cons, List.countP_cons, if_pos c0, if_pos c1]
  omega
/-- No neighbours overlap: no page lies in two. -/
theorem noOv_one {B : List Int} : ∀ {ss : List Seg}, (∀ s ∈ ss, SegFit B s) → ss.Pairwise (fun s t => s.last < t.first) → ∀ p, ss.countP (fun s => cov s p) ≤ 1
  | [], _, _, p => by simp
  | s :: r, hf, hp, p => by
    rw [List.pairwise_cons] at hp
    have ih := noOv_one (fun t ht => hf t (List.mem_cons_of_mem _ ht)) hp.2 p
    rw [List.countP_cons]
    by_cases c : cov s p = true
    · have h0 : r.countP (fun s => cov s p) = 0 := by
        rw [List.countP_eq_zero]
        intro t ht
        rw [cov_true] at c ⊢
        have := hp.1 t ht
        omega
      rw [h0]; split <;> omega
    · rw [if_neg c]; omega
end Go.Proofs.YtkkpeboejgkmaaaDoor
