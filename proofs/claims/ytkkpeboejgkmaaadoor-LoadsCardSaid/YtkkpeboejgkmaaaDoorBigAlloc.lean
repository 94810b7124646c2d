/- A great array's zero value laid in a new block: the block behind a name. -/
import Derived.WalkKit
namespace Go.Proofs.YtkkpeboejgkmaaaDoor
open Go Go.RowKit
theorem wpList_alloc_big {P : Program} {ops : Array Oper} {rest : List Oper} {op : Oper} {a : Act} {w : World} {Q : Exit → Act → World → Prop} (hgd : op.guard = none) (ty : TypeId) (ho : op.op = .alloc ty)
    (vs : Array Value) (hrun : ∀ old w, (Instr.alloc ty true old).run P w = .ok (.pointer (some ⟨w.heap.size, 0, none⟩)) (w.alloc (.cells vs ty)))
    (h : wpList P ops Q rest (a.put op.dst (.pointer (some ⟨w.heap.size, 0, none⟩))) (w.alloc (.cells vs ty))) : wpList P ops Q (op :: rest) a w :=
  wpList_plain hgd fun _ hK => by
    unfold Oper.wp execOp
    simp only [ho]
    simp [hrun, Result.andThen]
    exact hK _ _ h
end Go.Proofs.YtkkpeboejgkmaaaDoor
