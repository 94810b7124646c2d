import Derived.Test.YtkmbleboceedbaaGreatDoorBootsProofG13
import Derived.WalkKit
import Derived.Great.BuildSlice
import Derived.Deep.MidRow
import Derived.Test.YtkmbleboceedbaaGreatDoorBootsProofG01
import Derived.Test.YtkmbleboceedbaaGreatDoorBootsProofG09
/- Load: the mathematics between the two answers. -/
namespace Go.Proofs.YtkmbleboceedbaaGreatDoor
open Go.RowKit
set_option linter.unusedVariables false
set_option linter.unusedSimpArgs false

/-- Page p lies in the segment. -/
def cov (s : Seg) (p : Nat) : Bool := decide (s.first ≤ (p : Int) ∧ (p : Int) ≤ s.last)
theorem cov_true {s : Seg} {p : Nat} : cov s p = true ↔ s.first ≤ (p : Int) ∧ (p : Int) ≤ s.last := by simp [cov]
theorem cov_false {s : Seg} {p : Nat} : cov s p = false ↔ ¬ (s.first ≤ (p : Int) ∧ (p : Int) ≤ s.last) := by simp [cov]
theorem fit_pages {B : List Int} {s : Seg} (h : SegFit B s) : s.first = ((s.addr.toNat / 256 : Nat) : Int) ∧ s.last = ((s.addr.toNat / 256 + s.count : Nat) : Int) - 1 ∧ s.addr.toNat / 256 + s.count ≤ 254 ∧ 1 ≤ s.count := by
  have hc := count_pos h
  obtain ⟨a0, o0, i0, m1, hfm, hfit, htop⟩ := h
  unfold Seg.count Seg.last Seg.first at *
  omega
/-- No neighbours overlap: then no two do. -/
theorem noOv_strict {B : List Int} {ss : List Seg} (hf : ∀ s ∈ ss, SegFit B s) (hno : ∀ i, i + 1 < ss.length → ¬ ovAt ss i) : ∀ j i, i < j → j < ss.length → (ss.getD i default).last < (ss.getD j default).first
  | 0, i, h, _ => by omega
  | j + 1, i, h, hj => by
    have h1 : (ss.getD j default).last < (ss.getD (j + 1) default).first := by have := hno j hj; unfold ovAt at this; omega
    rcases Nat.lt_succ_iff_lt_or_eq.1 h with h2 | h2
    · have h3 := noOv_strict hf hno j i h2 (by omega)
      have hm : ss.getD j default ∈ ss := by rw [List.getD, List.getElem?_eq_getElem (by omega)]; exact List.getElem_mem _
      have h4 := fit_pages (hf _ hm)
      omega
    · rw [h2]; exact h1
theorem strict_pairwise {ss : List Seg} (h : ∀ j i, i < j → j < ss.length → (ss.getD i default).last < (ss.getD j default).first) : ss.Pairwise (fun s t => s.last < t.first) := by
  rw [List.pairwise_iff_getElem]
  intro i j hi hj hij
  have := h j i hij hj
  simpa [List.getD, List.getElem?_eq_getElem hi, List.getElem?_eq_getElem hj] using this
theorem flat_congr {α β : Type} {l : List α} {f g : α → List β} (h : ∀ a ∈ l, f a = g a) : l.flatMap f = l.flatMap g := by
  induction l with
  | nil => rfl
  | cons a r ih => rw [List.flatMap_cons, List.flatMap_cons, h a List.mem_cons_self, ih (fun x hx => h x (List.mem_cons_of_mem _ hx))]
theorem flat_one {α β : Type} (l : List α) (f : α → β) : (l.flatMap fun a => [f a]) = l.map f := by
  induction l with
  | nil => rfl
  | cons a r ih => rw [List.flatMap_cons, ih]; rfl
/-- The pages in the order of their numbers are the pages of the segments in their order. -/
theorem pages_order (B : List Int) : ∀ (ss : List Seg) (lo : Nat), (∀ s ∈ ss, SegFit B s) → ss.Pairwise (fun s t => s.last < t.first) → (∀ s ∈ ss, (lo : Int) ≤ s.first) → lo ≤ 256 →
    (List.range' lo (256 - lo)).flatMap (fun p => (ss.filter (fun s => cov s p)).map (fun s => (⟨(p : Nat), s.perm, segPage B s p⟩ : Pg))) = allPgs B ss
  | [], lo, _, _, _, _ => by simp [allPgs]
  | s :: r, lo, hf, hp, hlo, h256 => by
    obtain ⟨e1, e2, e3, e4⟩ := fit_pages (hf s List.mem_cons_self)
    have hlo1 := hlo s List.mem_cons_self
    rw [List.pairwise_cons] at hp
    have ih := pages_order B r (s.addr.toNat / 256 + s.count) (fun t ht => hf t (List.mem_cons_of_mem _ ht)) hp.2 (fun t ht => by have := hp.1 t ht; omega) (by omega)
    have eall : allPgs B (s :: r) = segPgs B s s.count ++ allPgs B r := by simp [allPgs]
    unfold segPgs at eall
    generalize s.addr.toNat / 256 = f at *
    generalize s.count = n at *
    have hs1 : List.range' lo (256 - lo) = List.range' lo (f - lo) ++ (List.range' f n ++ List.range' (f + n) (256 - (f + n))) := by
      have a := List.range'_append_1 (s := f) (m := n) (n := 256 - (f + n))
      have b := List.range'_append_1 (s := lo) (m := f - lo) (n := n + (256 - (f + n)))
      rw [show lo + (f - lo) = f from by omega] at b
      rw [a, b]
      congr 1; omega
    rw [hs1, List.flatMap_append, List.flatMap_append, eall]
    have p1 : (List.range' lo (f - lo)).flatMap (fun p => ((s :: r).filter (fun s => cov s p)).map (fun s => (⟨(p : Nat), s.perm, segPage B s p⟩ : Pg))) = [] := by
      rw [List.flatMap_eq_nil_iff]
      intro p hp2
      rw [List.mem_range'_1] at hp2
      rw [List.map_eq_nil_iff, List.filter_eq_nil_iff]
      intro t ht
      rw [cov_true]
      rcases List.mem_cons.1 ht with rfl | ht
      · omega
      · have := hp.1 t ht; omega
    have p2 : (List.range' f n).flatMap (fun p => ((s :: r).filter (fun s => cov s p)).map (fun s => (⟨(p : Nat), s.perm, segPage B s p⟩ : Pg))) = (List.range n).map fun i => ⟨(f + i : Nat), s.perm, segPage B s (f + i)⟩ := by
      rw [List.range'_eq_map_range, List.flatMap_map]
      have : ∀ i ∈ List.range n, (((s :: r).filter (fun s => cov s (f + i))).map (fun s => (⟨((f + i : Nat) : Int), s.perm, segPage B s (f + i)⟩ : Pg))) = [⟨((f + i : Nat) : Int), s.perm, segPage B s (f + i)⟩] := by
        intro i hi
        rw [List.mem_range] at hi
        have c1 : cov s (f + i) = true := by rw [cov_true]; omega
        have c2 : r.filter (fun s => cov s (f + i)) = [] := by
          rw [List.filter_eq_nil_iff]
          intro t ht
          rw [cov_true]
          have := hp.1 t ht; omega
        rw [List.filter_cons, if_pos c1, c2]; rfl
      rw [flat_congr this, flat_one]
    have p3 : (List.range' (f + n) (256 - (f + n))).flatMap (fun p => ((s :: r).filter (fun s => cov s p)).map (fun s => (⟨(p : Nat), s.perm, segPage B s p⟩ : Pg))) = allPgs B r := by
      rw [← ih]
      refine flat_congr ?_
      intro p hp2
      rw [List.mem_range'_1] at hp2
      have c1 : cov s p = false := by rw [cov_false]; omega
      rw [List.filter_cons, if_neg (by rw [c1]; simp)]
    rw [p1, p2, p3, List.nil_append]
/-- Neighbours that overlap: some page lies in two segments. -/
theorem ov_two {B : List Int} {ss : List Seg} (hf : ∀ s ∈ ss, SegFit B s) (hs : Sorted ss) {i : Nat} (hi : i + 1 < ss.length) (ho : ovAt ss i) : ∃ p, p < 256 ∧ 1 < ss.countP (fun s => cov s p) := by
  have m0 : ss[i]? = some (ss.getD i default) := by rw [List.getD, List.getElem?_eq_getElem (by omega)]; rfl
  have m1 : ss[i + 1]? = some (ss.getD (i + 1) default) := by rw [List.getD, List.getElem?_eq_getElem hi]; rfl
  have f0 := fit_pages (hf _ (List.mem_of_getElem? m0))
  have f1 := fit_pages (hf _ (List.mem_of_getElem? m1))
  have h2 := hs i (i + 1) (by omega) hi
  have h3 : (ss.getD i default).first ≤ (ss.getD (i + 1) default).first := by unfold Seg.first; omega
  unfold ovAt at ho
  generalize ss.getD i default = a at *
  generalize ss.getD (i + 1) default = b at *
  have c0 : cov a (b.addr.toNat / 256) = true := by rw [cov_true]; omega
  have c1 : cov b (b.addr.toNat / 256) = true := by rw [cov_true]; omega
  refine ⟨b.addr.toNat / 256, by omega, ?_⟩
  have e : ss = ss.take i ++ (a :: b :: ss.drop (i + 2)) := by
    have h4 : ss.drop i = a :: ss.drop (i + 1) := by rw [List.drop_eq_getElem_cons (by omega)]; congr 1; rw [List.getElem?_eq_getElem (by omega)] at m0; exact Option.some.inj m0
    have h5 : ss.drop (i + 1) = b :: ss.drop (i + 2) := by rw [List.drop_eq_getElem_cons hi]; congr 1; rw [List.getElem?_eq_getElem hi] at m1; exact Option.some.inj m1
    rw [← h5, ← h4, List.take_append_drop]
  rw [e, List.countP_append, List.countP_cons, List.countP_cons, if_pos c0, if_pos c1]
  omega
/-- No neighbours overlap: no page lies in two. -/
theorem noOv_one {B : List Int} : ∀ {ss : List Seg}, (∀ s ∈ ss, SegFit B s) → ss.Pairwise (fun s t => s.last < t.first) → ∀ p, ss.countP (fun s => cov s p) ≤ 1
  | [], _, _, p => by simp
  | s :: r, hf, hp, p => by
    rw [List.pairwise_cons] at hp
    have ih := noOv_one (fun t ht => hf t (List.mem_cons_of_mem _ ht)) hp.2 p
    rw [List.countP_cons]
    by_cases c : cov s p = true
    · have h0 : r.countP (fun s => cov s p) = 0 := by
        rw [List.countP_eq_zero]
        intro t ht
        rw [cov_true] at c ⊢
        have := hp.1 t ht
        omega
      rw [h0]; split <;> omega
    · rw [if_neg c]; omega
end Go.Proofs.YtkmbleboceedbaaGreatDoor

/- Load: the entry, in both answers' words. -/
namespace Go.Proofs.YtkmbleboceedbaaGreatDoor
open Go.RowKit
set_option linter.unusedVariables false
set_option linter.unusedSimpArgs false

theorem and_one (P : Int) (h1 : 1 ≤ P) (h7 : P ≤ 7) : bits BinOp.and IntKind.u8 P 1 ≠ 0 ↔ bits BinOp.and IntKind.i64 P 1 = 1 := by
  have h : P = 1 ∨ P = 2 ∨ P = 3 ∨ P = 4 ∨ P = 5 ∨ P = 6 ∨ P = 7 := by omega
  rcases h with rfl | rfl | rfl | rfl | rfl | rfl | rfl <;> decide
theorem mem_allPgs {B : List Int} {ss : List Seg} {q : Pg} : q ∈ allPgs B ss ↔ ∃ s ∈ ss, ∃ i, i < s.count ∧ q = ⟨((s.addr.toNat / 256 + i : Nat) : Int), s.perm, segPage B s (s.addr.toNat / 256 + i)⟩ := by
  unfold allPgs segPgs
  constructor
  · intro h
    obtain ⟨s, hs, h⟩ := List.mem_flatMap.1 h
    obtain ⟨i, hi, rfl⟩ := List.mem_map.1 h
    exact ⟨s, hs, i, List.mem_range.1 hi, rfl⟩
  · rintro ⟨s, hs, i, hi, rfl⟩
    exact List.mem_flatMap.2 ⟨s, hs, List.mem_map.2 ⟨i, List.mem_range.2 hi, rfl⟩⟩
theorem entry_same {B : List Int} {ss : List Seg} (hf : ∀ s ∈ ss, SegFit B s) (hp : ∀ s ∈ ss, 1 ≤ s.perm ∧ s.perm ≤ 7) (E : Int) (h0 : 0 ≤ E) :
    entOk E ss ↔ E % 4 = 0 ∧ E < 65536 ∧ ∃ q ∈ allPgs B ss, q.num = E / 256 ∧ bits BinOp.and IntKind.i64 q.perm 1 = 1 := by
  constructor
  · rintro ⟨h1, h2, i, hi, h3, h4, h5⟩
    have hm : ss.getD i default ∈ ss := by rw [List.getD, List.getElem?_eq_getElem hi]; exact List.getElem_mem _
    generalize ss.getD i default = s at *
    obtain ⟨e1, e2, e3, e4⟩ := fit_pages (hf s hm)
    refine ⟨h1, by omega, _, mem_allPgs.2 ⟨s, hm, (E / 256).toNat - s.addr.toNat / 256, by omega, rfl⟩, ?_, (and_one _ (hp s hm).1 (hp s hm).2).1 h3⟩
    show ((s.addr.toNat / 256 + ((E / 256).toNat - s.addr.toNat / 256) : Nat) : Int) = E / 256
    omega
  · rintro ⟨h1, h2, q, hq, h3, h4⟩
    obtain ⟨s, hs, i, hi, rfl⟩ := mem_allPgs.1 hq
    obtain ⟨e1, e2, e3, e4⟩ := fit_pages (hf s hs)
    simp only at h3 h4
    obtain ⟨j, hj, rfl⟩ := List.mem_iff_getElem.1 hs
    refine ⟨h1, by omega, j, hj, ?_⟩
    have e : ss.getD j default = ss[j] := by rw [List.getD, List.getElem?_eq_getElem hj]; rfl
    rw [e]
    exact ⟨(and_one _ (hp _ hs).1 (hp _ hs).2).2 h4, by omega, by omega⟩
theorem perms_all {B : List Int} {n : Nat} (h : ∀ i, i < n → SegOk B (64 + 56 * i)) {ss : List Seg} (hp : ss.Perm (segsUpTo B n)) : ∀ s ∈ ss, 1 ≤ s.perm ∧ s.perm ≤ 7 := by
  intro s hs
  have := hp.mem_iff.1 hs
  obtain ⟨i, hi, rfl⟩ := List.mem_map.1 this
  have hk := h i (by simpa using hi)
  exact ⟨hk.2.1.1, hk.2.1.2.1⟩
end Go.Proofs.YtkmbleboceedbaaGreatDoor

/- A great struct built, and a slice of one great element: the cells behind a name. -/
namespace Go.Proofs.YtkmbleboceedbaaGreatDoor
open Go Go.RowKit
theorem wpList_build_big {P : Program} {ops : Array Oper} {rest : List Oper} {op : Oper} {a : Act} {w : World} {Q : Exit → Act → World → Prop} (hgd : op.guard = none) (ty : TypeId) (parts : Array (Nat × Operand)) (ho : op.op = .build ty parts)
    (vals : Array (Nat × Value)) (hv : (parts.map fun (i, x) => (i, a.eval x)) = vals) (v : Value) (hrun : ∀ w, (Instr.build ty vals).run P w = .ok v w)
    (h : wpList P ops Q rest (a.put op.dst v) w) : wpList P ops Q (op :: rest) a w :=
  wpList_plain hgd fun _ hK => by
    unfold Oper.wp execOp
    simp only [ho]
    rw [hv]
    simp [hrun, Result.andThen]
    exact hK _ _ h
theorem wpList_slice1 {P : Program} {ops : Array Oper} {rest : List Oper} {op : Oper} {a : Act} {w : World} {Q : Exit → Act → World → Prop} (hgd : op.guard = none) (t e : TypeId) (x : Operand) (ho : op.op = .buildSlice t 1 #[(0, x)])
    (cs : List Value) (hx : a.eval x = .agg cs.toArray) (ie : TypeInfo) (z : Value) (hu : P.underlying t = some (.slice e)) (hie : P.info? e = some ie) (hz : ie.zero = some z) (hs : ie.size = cs.length) (h0 : 0 < cs.length) (h24 : cs.length ≤ 2 ^ 24)
    (h : wpList P ops Q rest (a.put op.dst (.slice (some ⟨w.heap.size, 0, none⟩) 1 1)) (w.alloc (.cells cs.toArray e))) : wpList P ops Q (op :: rest) a w := by
  refine wpList_buildSlice hgd t e 1 #[(0, x)] ho cs.toArray ie z hu hie hz (by rw [hs]; omega) (by rw [hs]; omega) ?_ h
  have := Great.fill_whole (s := ie.size) (by rw [hs]; exact h0) [.agg cs.toArray] ((Array.range (1 * ie.size)).map (z.cells[· % z.cells.size]!)) (by simp [Value.cells, hs]) (by simp)
  simpa [hx, Value.cells] using this
theorem Holds.range {W : World} {b : Nat} {t : TypeId} {vs : List Value} (h : Holds W b t vs) : W.rangeAt b 0 vs := fun j v hv => by rw [Nat.zero_add]; exact h.cell hv
theorem Holds.there {W : World} {b : Nat} {t : TypeId} {vs : List Value} (h : Holds W b t vs) (n : Nat) (hn : n ≤ vs.length) : W.there b 0 n := fun j hj => by
  rw [Nat.zero_add]
  exact ⟨by rw [h.cell (List.getElem?_eq_getElem (show j < vs.length by omega))]; rfl, h.frozen j⟩
theorem splice_all {α : Type} (L cs : List α) (h : cs.length = L.length) : splice L 0 cs = cs := by simp [splice, h]
theorem holds_setRow {W : World} {g : Nat} {t : TypeId} {vs : List Value} (h : Holds W g t vs) (cs : List Value) : Holds (W.setRow g cs.toArray) g t cs := by
  unfold Holds at h ⊢
  exact setRow_heap W g _ _ t _ h
end Go.Proofs.YtkmbleboceedbaaGreatDoor

/- Stack: closed facts on the document's pages. -/
namespace Go.Proofs.YtkmbleboceedbaaGreatDoor
open Go.RowKit
/-- A page of the document's answer as cells. -/
def refPage (num perm : Int) (bytes : List Int) : List Value := .int .i64 num :: .int .i64 perm :: bytesRow bytes
theorem refPage_length (a b : Int) (L : List Int) : (refPage a b L).length = L.length + 2 := by simp [refPage, bytesRow_length]
set_option maxRecDepth 100000 in
theorem buildPage (n : Int) (w : World) : (Instr.build 155 #[(0, .int .i64 n), (1, .int .i64 6)]).run Tryz.prog w = .ok (.agg (refPage n 6 zero256).toArray) w := by kernel_rfl
set_option maxRecDepth 100000 in
theorem allocPage (old : Value) (w : World) : (Instr.alloc 155 true old).run Tryz.prog w = .ok (.pointer (some ⟨w.heap.size, 0, none⟩)) (w.alloc (.cells (refPage 0 0 zero256).toArray 155)) := by kernel_rfl
set_option maxRecDepth 100000 in
theorem pageInfo : (Tryz.prog.info? 155).map (fun i => (i.zero, i.size, i.bytes)) = some (some (.agg (refPage 0 0 zero256).toArray), 258, 272) := by kernel_rfl
theorem pageSize : (Tryz.prog.info? 155).map (·.size) = some 258 := by kernel_rfl
theorem refPage_one (a b : Int) (L : List Int) : ∀ v ∈ refPage a b L, v.oneCell' = true := by
  intro v hv
  simp only [refPage, List.mem_cons] at hv
  rcases hv with rfl | rfl | hv
  · rfl
  · rfl
  · obtain ⟨x, _, rfl⟩ := List.mem_map.1 hv
    rfl
theorem refPage_splice (n : Int) (Z xs : List Int) (h : Z.length = xs.length) : splice (refPage n 6 Z) 2 (bytesRow xs) = refPage n 6 xs := by
  unfold splice refPage
  have e : (bytesRow Z).drop (bytesRow xs).length = [] := List.drop_eq_nil_of_le (by rw [bytesRow_length, bytesRow_length]; omega)
  simp only [List.take_succ_cons, List.take_zero, Nat.add_comm 2, List.drop_succ_cons, e, List.append_nil]
  rfl
/-- The document's pages while they are filled out of R. -/
def refPagesTo (R : List Int) : Nat → List Value
  | 0 => []
  | 1 => refPage 254 6 (R.take 256)
  | _ => refPage 254 6 (R.take 256) ++ refPage 255 6 (R.drop 256)
theorem grown_row {w : World} {g : Nat} (cs : Array Value) : w.grownBy (w.setRow g cs) (some g) :=
  ⟨rfl, rfl, rfl, by simp [World.setRow], fun k hk hne => setRow_other w g k cs (fun e => hne (by simp [e]))⟩
/-- A whole row stored: the world behind it by a name. -/
theorem wpList_store_hold {P : Program} {ops : Array Oper} {rest : List Oper} {o : Oper} {a : Act} {w : World} {Q : Exit → Act → World → Prop} (hgd : o.guard = none) (ty : TypeId) (x y : Operand) (ho : o.op = .store ty x y)
    (g : Nat) (cs : List Value) (hx : a.eval x = .pointer (some ⟨g, 0, none⟩)) (hy : a.eval y = .agg cs.toArray)
    (t : TypeId) (old : List Value) (hg : Holds w g t old) (hi : (P.info? ty).map (·.size) = some cs.length) (hold : old.length = cs.length) (h1 : ∀ v ∈ cs, v.oneCell' = true)
    (h : ∀ w', Hid (Holds w' g t cs) → w.grownBy w' (some g) → wpList P ops Q rest (a.put o.dst undef) w') : wpList P ops Q (o :: rest) a w := by
  refine wpList_store_row hgd ty x y ho g cs.toArray hx hy t old.toArray hg (by simpa using hi) (by simpa using hold) (all_oneCell_toArray h1) ?_
  exact h _ (holds_setRow hg cs) (grown_row _)
end Go.Proofs.YtkmbleboceedbaaGreatDoor

/- Load: the document's pages as lists. -/
namespace Go.Proofs.YtkmbleboceedbaaGreatDoor
open Go.RowKit
set_option linter.unusedVariables false
set_option linter.unusedSimpArgs false

/-- Byte t of page p lies in what the segment has in the file. -/
def inSeg (s : Seg) (p t : Nat) : Prop := s.addr.toNat ≤ p * 256 + t ∧ p * 256 + t - s.addr.toNat < s.inFile.toNat
instance (s : Seg) (p t : Nat) : Decidable (inSeg s p t) := by unfold inSeg; exact inferInstance
/-- Page p as one segment fills it over L, up to byte j. -/
def mixTo (B : List Int) (s : Seg) (p : Nat) (L : List Int) (j : Nat) : List Int :=
  (List.range 256).map fun t => if t < j ∧ inSeg s p t then B.getD (s.offs.toNat + (p * 256 + t - s.addr.toNat)) 0 else L.getD t 0
theorem mixTo_length (B : List Int) (s : Seg) (p : Nat) (L : List Int) (j : Nat) : (mixTo B s p L j).length = 256 := by simp [mixTo]
theorem mixTo_zero (B : List Int) (s : Seg) (p : Nat) (L : List Int) (h : L.length = 256) : mixTo B s p L 0 = L := by
  apply List.ext_getElem?
  intro j
  by_cases hj : j < 256
  · rw [mixTo, List.getElem?_map, List.getElem?_range hj]
    simp [List.getD, List.getElem?_eq_getElem (show j < L.length by omega)]
  · rw [List.getElem?_eq_none (by rw [mixTo_length]; omega), List.getElem?_eq_none (by omega)]
theorem mixTo_full (B : List Int) (s : Seg) (p : Nat) : mixTo B s p zero256 256 = segPage B s p := by
  apply List.ext_getElem?
  intro j
  by_cases hj : j < 256
  · rw [mixTo, segPage, List.getElem?_map, List.getElem?_map, List.getElem?_range hj]
    have hz : zero256.getD j 0 = 0 := by rw [List.getD, zero256_get, if_pos hj]; rfl
    simp only [Option.map_some]
    rw [hz]
    unfold segByte inSeg
    by_cases h : s.addr.toNat ≤ p * 256 + j ∧ p * 256 + j - s.addr.toNat < s.inFile.toNat
    · rw [if_pos ⟨hj, h⟩, if_pos h]
    · rw [if_neg (fun x => h x.2), if_neg h]
  · rw [List.getElem?_eq_none (by rw [mixTo_length]; omega), List.getElem?_eq_none (by rw [segPage_length]; omega)]
theorem mixTo_in {B : List Int} {s : Seg} {p : Nat} {L : List Int} {j : Nat} (h : inSeg s p j) (hj : j < 256) : (mixTo B s p L j).set j (B.getD (s.offs.toNat + (p * 256 + j - s.addr.toNat)) 0) = mixTo B s p L (j + 1) := by
  apply List.ext_getElem?
  intro t
  rw [List.getElem?_set, mixTo_length]
  by_cases ht : t < 256
  · by_cases e : j = t
    · subst e
      rw [if_pos rfl, if_pos hj, mixTo, List.getElem?_map, List.getElem?_range hj, Option.map_some, if_pos ⟨by omega, h⟩]
    · rw [if_neg e, mixTo, mixTo, List.getElem?_map, List.getElem?_map, List.getElem?_range ht, Option.map_some, Option.map_some]
      congr 1
      by_cases h2 : t < j ∧ inSeg s p t
      · rw [if_pos h2, if_pos ⟨by omega, h2.2⟩]
      · rw [if_neg h2, if_neg (fun x => h2 ⟨by omega, x.2⟩)]
  · rw [if_neg (by omega), List.getElem?_eq_none (by rw [mixTo_length]; omega), List.getElem?_eq_none (by rw [mixTo_length]; omega)]
theorem mixTo_out {B : List Int} {s : Seg} {p : Nat} {L : List Int} {j : Nat} (h : ¬ inSeg s p j) : mixTo B s p L j = mixTo B s p L (j + 1) := by
  unfold mixTo
  refine List.map_congr_left ?_
  intro t _
  by_cases h2 : t < j ∧ inSeg s p t
  · rw [if_pos h2, if_pos ⟨by omega, h2.2⟩]
  · rw [if_neg h2, if_neg]
    rintro ⟨x, y⟩
    rcases Nat.lt_succ_iff_lt_or_eq.1 x with x | x
    · exact h2 ⟨x, y⟩
    · subst x; exact h y

/-- The pages of the document's answer up to number n. -/
def refPgs (B : List Int) (ss : List Seg) (n : Nat) : List Pg := (List.range n).flatMap fun p => (ss.filter (fun s => cov s p)).map (fun s => (⟨(p : Nat), s.perm, segPage B s p⟩ : Pg))
def refRow (PS : List Pg) : List Value := PS.flatMap fun p => refPage p.num p.perm p.bytes
theorem refPgs_succ (B : List Int) (ss : List Seg) (n : Nat) : refPgs B ss (n + 1) = refPgs B ss n ++ (ss.filter (fun s => cov s n)).map (fun s => (⟨(n : Nat), s.perm, segPage B s n⟩ : Pg)) := by
  unfold refPgs
  rw [List.range_succ, List.flatMap_append]; simp
theorem refPgs_bytes (B : List Int) (ss : List Seg) (n : Nat) : ∀ q ∈ refPgs B ss n, q.bytes.length = 256 := by
  intro q hq
  obtain ⟨p, _, hq⟩ := List.mem_flatMap.1 hq
  obtain ⟨s, _, rfl⟩ := List.mem_map.1 hq
  exact segPage_length _ _ _
theorem refRow_append (a b : List Pg) : refRow (a ++ b) = refRow a ++ refRow b := by simp [refRow]
theorem refRow_one (q : Pg) : refRow [q] = refPage q.num q.perm q.bytes := by simp [refRow]
/-- What the page at hand is, when the segments before it were gone through. -/
def PgState (B : List Int) (ss : List Seg) (p : Nat) (perm : Int) (L : List Int) : Prop :=
  L.length = 256 ∧ (ss.filter (fun s => cov s p) = [] → perm = 0 ∧ L = zero256) ∧ (∀ s, ss.filter (fun s => cov s p) = [s] → perm = s.perm ∧ L = segPage B s p)
theorem pgState_nil (B : List Int) (p : Nat) : PgState B [] p 0 zero256 := ⟨zero256_length, fun _ => ⟨rfl, rfl⟩, fun s h => by simp at h⟩
theorem pgState_out {B : List Int} {ss : List Seg} {p : Nat} {perm : Int} {L : List Int} {s : Seg} (h : PgState B ss p perm L) (hc : cov s p = false) : PgState B (ss ++ [s]) p perm L := by
  have e : (ss ++ [s]).filter (fun s => cov s p) = ss.filter (fun s => cov s p) := by simp [List.filter_append, hc]
  unfold PgState
  rw [e]; exact h
theorem pgState_in {B : List Int} {ss : List Seg} {p : Nat} {perm : Int} {L : List Int} {s : Seg} (h : PgState B ss p perm L) (hc : cov s p = true) : PgState B (ss ++ [s]) p s.perm (mixTo B s p L 256) := by
  have e : (ss ++ [s]).filter (fun s => cov s p) = ss.filter (fun s => cov s p) ++ [s] := by simp [List.filter_append, hc]
  refine ⟨mixTo_length _ _ _ _ _, fun h2 => by rw [e] at h2; simp at h2, fun t ht => ?_⟩
  rw [e] at ht
  have e2 : ss.filter (fun s => cov s p) = [] := by
    cases hx : ss.filter (fun s => cov s p) with
    | nil => rfl
    | cons a r => rw [hx] at ht; simp at ht
  rw [e2] at ht
  have : s = t := by simpa using ht
  subst this
  rw [(h.2.1 e2).2]
  exact ⟨rfl, mixTo_full _ _ _⟩
theorem countP_snoc (ss : List Seg) (s : Seg) (p : Nat) : (ss ++ [s]).countP (fun s => cov s p) = ss.countP (fun s => cov s p) + (if cov s p = true then 1 else 0) := by simp [List.countP_append, List.countP_cons]
theorem filter_none {ss : List Seg} {p : Nat} (h : ss.countP (fun s => cov s p) = 0) : ss.filter (fun s => cov s p) = [] := by
  rw [List.countP_eq_length_filter] at h
  exact List.eq_nil_of_length_eq_zero h
theorem filter_one {ss : List Seg} {p : Nat} (h : ss.countP (fun s => cov s p) = 1) : ∃ s, ss.filter (fun s => cov s p) = [s] := by
  rw [List.countP_eq_length_filter] at h
  exact List.length_eq_one_iff.1 h
/-- The document's pages are the program's. -/
theorem refPgs_all {B : List Int} {ss fs : List Seg} (hp : ss.Perm fs) (hf : ∀ s ∈ ss, SegFit B s) (hno : ∀ i, i + 1 < ss.length → ¬ ovAt ss i) : refPgs B fs 256 = allPgs B ss := by
  have hst := strict_pairwise (noOv_strict hf hno)
  rw [← pages_order B ss 0 hf hst (fun s hs => by have := fit_pages (hf s hs); omega) (by omega)]
  unfold refPgs
  rw [List.range_eq_range']
  refine flat_congr ?_
  intro p _
  have h1 := noOv_one hf hst p
  have h2 : (ss.filter (fun s => cov s p)).Perm (fs.filter (fun s => cov s p)) := hp.filter _
  rw [List.countP_eq_length_filter] at h1
  have h3 : fs.filter (fun s => cov s p) = ss.filter (fun s => cov s p) := by
    cases hx : ss.filter (fun s => cov s p) with
    | nil => rw [hx] at h2; exact h2.nil_eq.symm
    | cons a r =>
      rw [hx] at h1 h2
      have hr : r = [] := by simpa using h1
      subst hr
      exact List.perm_singleton.1 h2.symm
  rw [h3]
/-- An overlap in the one answer is one in the other. -/
theorem ov_same {B : List Int} {ss fs : List Seg} (hp : ss.Perm fs) (hf : ∀ s ∈ ss, SegFit B s) (hs : Sorted ss) :
    (∃ i, i + 1 < ss.length ∧ ovAt ss i) ↔ ∃ p, p < 256 ∧ 1 < fs.countP (fun s => cov s p) := by
  constructor
  · rintro ⟨i, hi, ho⟩
    obtain ⟨p, h1, h2⟩ := ov_two hf hs hi ho
    exact ⟨p, h1, by rw [← hp.countP_eq]; exact h2⟩
  · rintro ⟨p, h1, h2⟩
    apply Classical.byContradiction
    intro hn
    have hno : ∀ i, i + 1 < ss.length → ¬ ovAt ss i := fun i hi ho => hn ⟨i, hi, ho⟩
    have := noOv_one hf (strict_pairwise (noOv_strict hf hno)) p
    rw [hp.countP_eq] at this
    omega
end Go.Proofs.YtkmbleboceedbaaGreatDoor
