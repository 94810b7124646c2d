/- A great struct built, and a slice of one great element: the cells behind a name. -/
import Derived.WalkKit
import Derived.Great.BuildSlice
import Derived.Deep.MidRow
import Derived.Test.YtkkpeboejgkmaaaDoorMem
namespace Go.Proofs.YtkkpeboejgkmaaaDoor
open Go Go.RowKit
theorem wpList_build_big {P : Program} {ops : Array Oper} {rest : List Oper} {op : Oper} {a : Act} {w : World} {Q : Exit → Act → World → Prop} (hgd : op.guard = none) (ty : TypeId) (parts : Array (Nat × Operand)) (ho : op.op = .build ty parts)
    (vals : Array (Nat × Value)) (hv : (parts.map fun (i, x) => (i, a.eval x)) = vals) (v : Value) (hrun : ∀ w, (Instr.build ty vals).run P w = .ok v w)
    (h : wpList P ops Q rest (a.put op.dst v) w) : wpList P ops Q (op :: rest) a w :=
  wpList_plain hgd fun _ hK => by
    unfold Oper.wp execOp
    simp only [ho]
    rw [hv]
    simp [hrun, Result.andThen]
    exact hK _ _ h
theorem wpList_slice1 {P : Program} {ops : Array Oper} {rest : List Oper} {op : Oper} {a : Act} {w : World} {Q : Exit → Act → World → Prop} (hgd : op.guard = none) (t e : TypeId) (x : Operand) (ho : op.op = .buildSlice t 1 #[(0, x)])
    (cs : List Value) (hx : a.eval x = .agg cs.toArray) (ie : TypeInfo) (z : Value) (hu : P.underlying t = some (.slice e)) (hie : P.info? e = some ie) (hz : ie.zero = some z) (hs : ie.size = cs.length) (h0 : 0 < cs.length) (h24 : cs.length ≤ 2 ^ 24)
    (h : wpList P ops Q rest (a.put op.dst (.slice (some ⟨w.heap.size, 0, none⟩) 1 1)) (w.alloc (.cells cs.toArray e))) : wpList P ops Q (op :: rest) a w := by
  refine wpList_buildSlice hgd t e 1 #[(0, x)] ho cs.toArray ie z hu hie hz (by rw [hs]; omega) (by rw [hs]; omega) ?_ h
  have := Great.fill_whole (s := ie.size) (by rw [hs]; exact h0) [.agg cs.toArray] ((Array.range (1 * ie.size)).map (z.cells[· % z.cells.size]!)) (by simp [Value.cells, hs]) (by simp)
  simpa [hx, Value.cells] using this
theorem Holds.range {W : World} {b : Nat} {t : TypeId} {vs : List Value} (h : Holds W b t vs) : W.rangeAt b 0 vs := fun j v hv => by rw [Nat.zero_add]; exact h.cell hv
theorem Holds.there {W : World} {b : Nat} {t : TypeId} {vs : List Value} (h : Holds W b t vs) (n : Nat) (hn : n ≤ vs.length) : W.there b 0 n := fun j hj => by
  rw [Nat.zero_add]
  exact ⟨by rw [h.cell (List.getElem?_eq_getElem (show j < vs.length by omega))]; rfl, h.frozen j⟩
theorem splice_all {α : Type} (L cs : List α) (h : cs.length = L.length) : splice L 0 cs = cs := by simp [splice, h]
theorem holds_setRow {W : World} {g : Nat} {t : TypeId} {vs : List Value} (h : Holds W g t vs) (cs : List Value) : Holds (W.setRow g cs.toArray) g t cs := by
  unfold Holds at h ⊢
  exact setRow_heap W g _ _ t _ h
end Go.Proofs.YtkkpeboejgkmaaaDoor
