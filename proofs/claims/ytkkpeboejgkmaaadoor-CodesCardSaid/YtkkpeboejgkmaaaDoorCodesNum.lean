/- Plain numbers for Codes: bits and bytes. -/
import Derived.WalkKit
import Derived.Laws.BitsAllLaws
namespace Go.Proofs.YtkkpeboejgkmaaaDoor
open Go.RowKit
theorem or_fin : ∀ a b : Fin 16, bits BinOp.or IntKind.i64 (((a.val : Nat) : Int) * 16) ((b.val : Nat) : Int) = (((a.val * 16 + b.val : Nat)) : Int) := by decide
theorem or16 (a b : Int) (a1 : 0 ≤ a) (a2 : a < 16) (b1 : 0 ≤ b) (b2 : b < 16) : bits BinOp.or IntKind.i64 (a * 16) b = a * 16 + b := by
  have h := or_fin ⟨a.toNat, by omega⟩ ⟨b.toNat, by omega⟩
  have ea : ((a.toNat : Nat) : Int) = a := Int.toNat_of_nonneg a1
  have eb : ((b.toNat : Nat) : Int) = b := Int.toNat_of_nonneg b1
  have e : (((a.toNat * 16 + b.toNat : Nat)) : Int) = a * 16 + b := by omega
  simp only [ea, eb, e] at h
  exact h
theorem oru16 (c d : Int) (c1 : 0 ≤ c) (c2 : c ≤ 255) (d1 : 0 ≤ d) (d2 : d ≤ 255) : bits BinOp.or IntKind.u16 c (d * 256) = c + d * 256 := by
  rw [u16_or c (d * 256) c1 (by omega) (by omega) (by omega)]
  have e : (d * 256).toNat = 2 ^ 8 * d.toNat := by omega
  rw [e, Nat.or_comm, ← Nat.two_pow_add_eq_or_of_lt (by omega)]
  omega
theorem wrapu16 (n : Int) : IntKind.u16.wrap n = n % 65536 := by simp [IntKind.wrap, IntKind.bits, IntKind.signed]
theorem wrapi16 (n : Int) : IntKind.i16.wrap n = (n + 32768) % 65536 - 32768 := by simp [IntKind.wrap, IntKind.bits, IntKind.signed]; split <;> omega
theorem w64i16 (n : Int) : wrap64 (IntKind.i16.wrap n) = IntKind.i16.wrap n := by rw [wrapi16]; unfold wrap64; omega
theorem byte2 (im : Int) : IntKind.u16.wrap im % 256 = im % 256 := by rw [wrapu16]; omega
theorem byte3 (im : Int) : IntKind.u16.wrap im / 256 % 256 = im / 256 % 256 := by rw [wrapu16]; omega
theorem byte1 (a b : Int) (a1 : 0 ≤ a) (a2 : a < 16) (b1 : 0 ≤ b) (b2 : b < 16) : bits BinOp.or IntKind.i64 (a * 16) b % 256 = a * 16 + b := by rw [or16 a b a1 a2 b1 b2]; omega
end Go.Proofs.YtkkpeboejgkmaaaDoor
