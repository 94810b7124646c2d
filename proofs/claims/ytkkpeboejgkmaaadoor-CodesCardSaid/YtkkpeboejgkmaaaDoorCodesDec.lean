/- The program's Decode. -/
import Derived.Test.YtkkpeboejgkmaaaDoorAs
import Derived.Test.YtkkpeboejgkmaaaDoorCodesNum
import Derived.Test.YtkkpeboejgkmaaaDoorMem
namespace Go.Proofs.YtkkpeboejgkmaaaDoor
open Go.RowKit

set_option maxHeartbeats 1000000 in
theorem dec_good (c0 c1 c2 c3 : Int) (w : World) (h1 : 1 ≤ c0) (h2 : c0 ≤ 24) (a1 : 0 ≤ c1) (a2 : c1 ≤ 255) (b1 : 0 ≤ c2) (b2 : c2 ≤ 255) (m1 : 0 ≤ c3) (m2 : c3 ≤ 255) :
    Calls Tryd.prog 37 #[.agg #[.int .u8 c0, .int .u8 c1, .int .u8 c2, .int .u8 c3]] w fun e w' => e = .returned (.tuple #[.agg #[.int .u8 c0, .int .i64 (c1 / 16), .int .i64 (c1 % 16), .int .i16 (IntKind.i16.wrap (c2 + c3 * 256))], .nilIface]) ∧ Below w.heap.size w w' := by
  rw [← oru16 c2 c3 b1 b2 m1 m2]
  go_enter Tryd.func37, Tryd.ntmps37
  go_wp2
  exact bodyPost_ret (v := .tuple #[.agg #[.int .u8 c0, .int .i64 (c1 / 16), .int .i64 (c1 % 16), .int .i16 (IntKind.i16.wrap (bits BinOp.or IntKind.u16 c2 (c3 * 256)))], .nilIface]) (by simp [results, Tryd.results37, go_sem]) rfl ⟨rfl, ((Below.refl _ _).alloc (Nat.le_refl _) _).alloc (by simp) _⟩

set_option maxHeartbeats 1000000 in
theorem dec_bad (c0 c1 c2 c3 : Int) (w : World) (h : c0 < 1 ∨ 24 < c0) :
    Calls Tryd.prog 37 #[.agg #[.int .u8 c0, .int .u8 c1, .int .u8 c2, .int .u8 c3]] w fun e w' => e = .returned (.tuple #[.agg #[.int .u8 0, .int .i64 0, .int .i64 0, .int .i16 0], .iface 31 (.int .i64 1)]) ∧ Below w.heap.size w w' := by
  by_cases o1 : 1 ≤ c0 <;> by_cases o2 : c0 ≤ 24
  all_goals first
    | (exfalso; omega)
    | (clear h
       go_enter Tryd.func37, Tryd.ntmps37
       go_wp2
       exact bodyPost_ret (v := .tuple #[.agg #[.int .u8 0, .int .i64 0, .int .i64 0, .int .i16 0], .iface 31 (.int .i64 1)]) (by simp [results, Tryd.results37, go_sem]) rfl ⟨rfl, ((Below.refl _ _).alloc (Nat.le_refl _) _).alloc (by simp) _⟩)
end Go.Proofs.YtkkpeboejgkmaaaDoor
