/- Codes: the callees by their contracts. -/
import Derived.Test.YtkkpeboejgkmaaaDoorAs
import Derived.Test.YtkkpeboejgkmaaaDoorCodesRef
import Derived.Test.YtkkpeboejgkmaaaDoorCodesDec
import Derived.Test.YtkkpeboejgkmaaaDoorCodesNum
import Derived.Test.YtkkpeboejgkmaaaDoorMem
namespace Go.Proofs.YtkkpeboejgkmaaaDoor
open Go.RowKit

set_option maxHeartbeats 1000000 in
theorem enc_good (op a b im : Int) (w : World) (h1 : 1 ≤ op) (h2 : op ≤ 24) (a1 : 0 ≤ a) (a2 : a < 16) (b1 : 0 ≤ b) (b2 : b < 16) :
    Calls Tryd.prog 19 #[.agg #[.int .u8 op, .int .i64 a, .int .i64 b, .int .i16 im]] w fun e w' => e = .returned (.tuple #[.agg #[.int .u8 op, .int .u8 (a * 16 + b), .int .u8 (im % 256), .int .u8 (im / 256 % 256)], .nilIface]) ∧ Below w.heap.size w w' := by
  rw [← byte2 im, ← byte3 im, ← byte1 a b a1 a2 b1 b2]
  go_enter Tryd.func19, Tryd.ntmps19
  go_wp2
  exact bodyPost_ret (v := .tuple #[.agg #[.int .u8 op, .int .u8 (bits BinOp.or IntKind.i64 (a * 16) b % 256), .int .u8 (IntKind.u16.wrap im % 256), .int .u8 (IntKind.u16.wrap im / 256 % 256)], .nilIface]) (by simp [results, Tryd.results19, go_sem]) rfl ⟨rfl, ((Below.refl _ _).alloc (Nat.le_refl _) _).alloc (by simp) _⟩

set_option maxHeartbeats 1000000 in
theorem enc_bad (op a b im : Int) (w : World) (h : ¬ (1 ≤ op ∧ op ≤ 24 ∧ 0 ≤ a ∧ a < 16 ∧ 0 ≤ b ∧ b < 16)) :
    Calls Tryd.prog 19 #[.agg #[.int .u8 op, .int .i64 a, .int .i64 b, .int .i16 im]] w fun e w' => e = .returned (.tuple #[.agg #[.int .u8 0, .int .u8 0, .int .u8 0, .int .u8 0], .iface 31 (.int .i64 1)]) ∧ Below w.heap.size w w' := by
  by_cases o1 : 1 ≤ op <;> by_cases o2 : op ≤ 24 <;> by_cases a1 : 0 ≤ a <;> by_cases a2 : a < 16 <;> by_cases b1 : 0 ≤ b <;> by_cases b2 : b < 16
  all_goals first
    | (exfalso; exact h ⟨o1, o2, a1, a2, b1, b2⟩)
    | (exfalso; omega)
    | (clear h
       go_enter Tryd.func19, Tryd.ntmps19
       go_wp2
       exact bodyPost_ret (v := .tuple #[.agg #[.int .u8 0, .int .u8 0, .int .u8 0, .int .u8 0], .iface 31 (.int .i64 1)]) (by simp [results, Tryd.results19, go_sem]) rfl ⟨rfl, ((Below.refl _ _).alloc (Nat.le_refl _) _).alloc (by simp) _⟩)

set_option maxHeartbeats 1000000 in
theorem renc_good (op a b im : Int) (w : World) (h1 : 1 ≤ op) (h2 : op ≤ 24) (a1 : 0 ≤ a) (a2 : a < 16) (b1 : 0 ≤ b) (b2 : b < 16) :
    Calls Tryd.prog 8 #[.agg #[.int .i64 op, .int .i64 a, .int .i64 b, .int .i64 im]] w fun e w' => e = .returned (.tuple #[.agg #[.int .u8 op, .int .u8 (a * 16 + b), .int .u8 (im % 256), .int .u8 (im / 256 % 256)], .int .i64 0]) ∧ Below w.heap.size w w' := by
  go_enter Tryd.func8, Tryd.ntmps8
  go_wp2
  exact bodyPost_ret (v := .tuple #[.agg #[.int .u8 op, .int .u8 (a * 16 + b), .int .u8 (im % 256), .int .u8 (im / 256 % 256)], .int .i64 0]) (by simp [results, Tryd.results8, go_sem]) rfl ⟨rfl, (((Below.refl _ _).alloc (Nat.le_refl _) _).alloc (by simp) _).alloc (by simp; omega) _⟩

set_option maxHeartbeats 1000000 in
theorem renc_bad (op a b im : Int) (w : World) (h : op < 1 ∨ 24 < op ∨ a < 0 ∨ 15 < a ∨ b < 0 ∨ 15 < b) :
    Calls Tryd.prog 8 #[.agg #[.int .i64 op, .int .i64 a, .int .i64 b, .int .i64 im]] w fun e w' => e = .returned (.tuple #[.agg #[.int .u8 0, .int .u8 0, .int .u8 0, .int .u8 0], .int .i64 1]) ∧ Below w.heap.size w w' := by
  go_enter Tryd.func8, Tryd.ntmps8
  go_wp2
  all_goals exact bodyPost_ret (v := .tuple #[.agg #[.int .u8 0, .int .u8 0, .int .u8 0, .int .u8 0], .int .i64 1]) (by simp [results, Tryd.results8, go_sem]) rfl ⟨rfl, (((Below.refl _ _).alloc (Nat.le_refl _) _).alloc (by simp) _).alloc (by simp; omega) _⟩
end Go.Proofs.YtkkpeboejgkmaaaDoor
