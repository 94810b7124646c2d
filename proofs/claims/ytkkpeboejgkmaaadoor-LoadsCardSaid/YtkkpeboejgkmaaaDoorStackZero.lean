/- Stack: closed facts on great zero values. -/
import Derived.Test.YtkkpeboejgkmaaaDoorStackPure
import Derived.Test.YtkkpeboejgkmaaaDoorBigAlloc
namespace Go.Proofs.YtkkpeboejgkmaaaDoor
open Go.RowKit
def zeros512 : Array Value := (bytesRow zeroRoom).toArray
set_option maxRecDepth 100000 in
theorem alloc512 (old : Value) (w : World) : (Instr.alloc 81 true old).run Tryd.prog w = .ok (.pointer (some ⟨w.heap.size, 0, none⟩)) (w.alloc (.cells zeros512 81)) := by kernel_rfl
/-- A page of package api as cells. -/
def pageRow (num perm : Int) (bytes : List Int) : List Value := .int .i64 num :: .int .u8 perm :: bytesRow bytes
def zero256 : List Int := List.replicate 256 0
theorem zero256_length : zero256.length = 256 := List.length_replicate
def zeroPages : Array Value := (pageRow 0 0 zero256 ++ pageRow 0 0 zero256).toArray
set_option maxRecDepth 100000 in
theorem makePages (w : World) : (Instr.makeSlice 43 (.int .i64 2) (.int .i64 2)).run Tryd.prog w = .ok (.slice (some ⟨w.heap.size, 0, none⟩) 2 2) (w.alloc (.cells zeroPages 80)) := by kernel_rfl
end Go.Proofs.YtkkpeboejgkmaaaDoor
