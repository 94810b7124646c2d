import Derived.Test.YtjkpeelijbeekaaGreatDoorBootsProofG10
import Derived.Test.YtjkpeelijbeekaaGreatDoorBootsProofG07
/- Stack: closed facts on great zero values. -/
namespace Go.Proofs.YtjkpeelijbeekaaGreatDoor
open Go.RowKit
def zeros512 : Array Value := (bytesRow zeroRoom).toArray
set_option maxRecDepth 100000 in
theorem alloc512 (old : Value) (w : World) : (Instr.alloc 218 true old).run Tryz.prog w = .ok (.pointer (some ⟨w.heap.size, 0, none⟩)) (w.alloc (.cells zeros512 218)) := by kernel_rfl
/-- A page of package api as cells. -/
def pageRow (num perm : Int) (bytes : List Int) : List Value := .int .i64 num :: .int .u8 perm :: bytesRow bytes
def zero256 : List Int := List.replicate 256 0
theorem zero256_length : zero256.length = 256 := List.length_replicate
def zeroPages : Array Value := (pageRow 0 0 zero256 ++ pageRow 0 0 zero256).toArray
set_option maxRecDepth 100000 in
theorem makePages (w : World) : (Instr.makeSlice 76 (.int .i64 2) (.int .i64 2)).run Tryz.prog w = .ok (.slice (some ⟨w.heap.size, 0, none⟩) 2 2) (w.alloc (.cells zeroPages 87)) := by kernel_rfl
end Go.Proofs.YtjkpeelijbeekaaGreatDoor
