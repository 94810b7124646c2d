/- Stack: the law's own word. -/
import Derived.Test.YtkkpeboejgkmaaaDoorStackPure2
namespace Go.Proofs.YtkkpeboejgkmaaaDoor
open Go.RowKit
set_option linter.unusedVariables false
set_option linter.unusedSimpArgs false

set_option maxHeartbeats 1000000 in
theorem word_any (g len cap p : Nat) (x : Int) (w : World) (hp : p + 8 ≤ len) (hl : len ≤ 100000) (x0 : 0 ≤ x) (x1 : x < 18446744073709551616)
    (hc : ∀ k, k < 8 → w.cell? ⟨g, p + k, none⟩ = some (.int .u8 (x / 2 ^ (8 * k) % 256))) :
    Calls Tryd.prog 30 #[.slice (some ⟨g, 0, none⟩) len cap, .int .i64 p] w fun e w' => e = .returned (.int .u64 x) ∧ w' = w := by
  have HC := hide hc
  have HX := hide x1
  clear hc x1
  go_enter Tryd.func30, Tryd.ntmps30
  go_wp2
  go_loop [5, 6] (fun n k => ∃ j : Nat, j ≤ 8 ∧ k = .int .i64 ((j : Int) - 1) ∧ n = .int .u64 (x / 2 ^ (8 * j))) (fun _ k => (intOf k + 1).toNat)
  case atStart =>
    refine ⟨8, by omega, rfl, ?_⟩
    have : x / 2 ^ (8 * 8) = 0 := Int.ediv_eq_zero_of_lt x0 (by have := unhide HX; exact this)
    rw [this]
  case round =>
    obtain ⟨j, hj, rfl, rfl⟩ := hrel
    rcases j with _ | i
    · go_wp2
      go_ret
      exact ⟨rfl, rfl⟩
    · have hci := (unhide HC) i (by omega)
      have b1 := word_bd x (i + 1) x0 (unhide HX)
      have st := word_step x i
      have b0 := word_bd x i x0 (unhide HX)
      generalize x / 2 ^ (8 * (i + 1)) = y at *
      generalize hz : x / 2 ^ (8 * i) = z at *
      have HZ := hide hz
      have HS := hide (word_wrap y z st b1.1 b0.1 b0.2)
      have e1 : (((i + 1 : Nat) : Int) - 1) = (i : Int) := by omega
      rw [e1]
      clear st e1 hz b1 b0
      go_wp2
      go_round
      case rel => exact ⟨i, by omega, rfl, by rw [unhide HS, unhide HZ]⟩
      case measure => simp [intOf]
end Go.Proofs.YtkkpeboejgkmaaaDoor
