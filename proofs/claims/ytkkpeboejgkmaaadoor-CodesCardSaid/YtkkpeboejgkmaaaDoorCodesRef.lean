/- tinyosref.Decode. -/
import Derived.Test.YtkkpeboejgkmaaaDoorAs
import Derived.Test.YtkkpeboejgkmaaaDoorCodesNum
import Derived.Test.YtkkpeboejgkmaaaDoorMem
namespace Go.Proofs.YtkkpeboejgkmaaaDoor
open Go.RowKit

set_option maxHeartbeats 1000000 in
theorem rdec_good (c0 c1 c2 c3 : Int) (w : World) (h1 : 1 ≤ c0) (h2 : c0 ≤ 24) (a1 : 0 ≤ c1) (a2 : c1 ≤ 255) (b1 : 0 ≤ c2) (b2 : c2 ≤ 255) (m1 : 0 ≤ c3) (m2 : c3 ≤ 255) :
    Calls Tryd.prog 22 #[.agg #[.int .u8 c0, .int .u8 c1, .int .u8 c2, .int .u8 c3]] w fun e w' => e = .returned (.tuple #[.agg #[.int .i64 c0, .int .i64 (c1 / 16), .int .i64 (c1 % 16), .int .i64 (IntKind.i16.wrap (c2 + c3 * 256))], .bool true]) ∧ Below w.heap.size w w' := by
  rw [← w64i16 (c2 + c3 * 256)]
  go_enter Tryd.func22, Tryd.ntmps22
  go_wp2
  exact bodyPost_ret (v := .tuple #[.agg #[.int .i64 c0, .int .i64 (c1 / 16), .int .i64 (c1 % 16), .int .i64 (wrap64 (IntKind.i16.wrap (c2 + c3 * 256)))], .bool true]) (by simp [results, Tryd.results22, go_sem]) rfl ⟨rfl, ((Below.refl _ _).alloc (Nat.le_refl _) _).alloc (by simp) _⟩

set_option maxHeartbeats 1000000 in
theorem rdec_bad (c0 c1 c2 c3 : Int) (w : World) (h : c0 < 1 ∨ 24 < c0) :
    Calls Tryd.prog 22 #[.agg #[.int .u8 c0, .int .u8 c1, .int .u8 c2, .int .u8 c3]] w fun e w' => e = .returned (.tuple #[.agg #[.int .i64 0, .int .i64 0, .int .i64 0, .int .i64 0], .bool false]) ∧ Below w.heap.size w w' := by
  by_cases o1 : 1 ≤ c0 <;> by_cases o2 : c0 ≤ 24
  all_goals first
    | (exfalso; omega)
    | (clear h
       go_enter Tryd.func22, Tryd.ntmps22
       go_wp2
       all_goals exact bodyPost_ret (v := .tuple #[.agg #[.int .i64 0, .int .i64 0, .int .i64 0, .int .i64 0], .bool false]) (by simp [results, Tryd.results22, go_sem]) rfl ⟨rfl, ((Below.refl _ _).alloc (Nat.le_refl _) _).alloc (by simp) _⟩)
end Go.Proofs.YtkkpeboejgkmaaaDoor
