import Derived.WalkKit
import Derived.Test.YtkokiefclmbgaaaGreatDoorBootsProofG09
/- A great array's zero value laid in a new block: the block behind a name. -/
namespace Go.Proofs.YtkokiefclmbgaaaGreatDoor
open Go Go.RowKit
theorem wpList_alloc_big {P : Program} {ops : Array Oper} {rest : List Oper} {op : Oper} {a : Act} {w : World} {Q : Exit → Act → World → Prop} (hgd : op.guard = none) (ty : TypeId) (ho : op.op = .alloc ty)
    (vs : Array Value) (hrun : ∀ old w, (Instr.alloc ty true old).run P w = .ok (.pointer (some ⟨w.heap.size, 0, none⟩)) (w.alloc (.cells vs ty)))
    (h : wpList P ops Q rest (a.put op.dst (.pointer (some ⟨w.heap.size, 0, none⟩))) (w.alloc (.cells vs ty))) : wpList P ops Q (op :: rest) a w :=
  wpList_plain hgd fun _ hK => by
    unfold Oper.wp execOp
    simp only [ho]
    simp [hrun, Result.andThen]
    exact hK _ _ h
end Go.Proofs.YtkokiefclmbgaaaGreatDoor

/- Stack: closed facts on great zero values. -/
namespace Go.Proofs.YtkokiefclmbgaaaGreatDoor
open Go.RowKit
def zeros512 : Array Value := (bytesRow zeroRoom).toArray
set_option maxRecDepth 100000 in
theorem alloc512 (old : Value) (w : World) : (Instr.alloc 218 true old).run Tryz.prog w = .ok (.pointer (some ⟨w.heap.size, 0, none⟩)) (w.alloc (.cells zeros512 218)) := by kernel_rfl
/-- A page of package api as cells. -/
def pageRow (num perm : Int) (bytes : List Int) : List Value := .int .i64 num :: .int .u8 perm :: bytesRow bytes
def zero256 : List Int := List.replicate 256 0
theorem zero256_length : zero256.length = 256 := List.length_replicate
def zeroPages : Array Value := (pageRow 0 0 zero256 ++ pageRow 0 0 zero256).toArray
set_option maxRecDepth 100000 in
theorem makePages (w : World) : (Instr.makeSlice 76 (.int .i64 2) (.int .i64 2)).run Tryz.prog w = .ok (.slice (some ⟨w.heap.size, 0, none⟩) 2 2) (w.alloc (.cells zeroPages 87)) := by kernel_rfl
end Go.Proofs.YtkokiefclmbgaaaGreatDoor
