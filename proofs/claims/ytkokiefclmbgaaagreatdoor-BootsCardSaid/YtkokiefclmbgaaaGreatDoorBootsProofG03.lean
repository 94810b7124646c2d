import Derived.Test.YtkokiefclmbgaaaGreatDoorBootsProofG01
import Derived.Test.YtkokiefclmbgaaaGreatDoorBootsProofG02
import Derived.Laws.Bits64
import Derived.Laws.BitsAllLaws
/- Load: numbers out of bytes. -/
namespace Go.Proofs.YtkokiefclmbgaaaGreatDoor
open Go.RowKit
set_option linter.unusedVariables false
set_option linter.unusedSimpArgs false

/-- The number that k bytes from p on make, the lowest first. -/
def numAt (B : List Int) (p : Nat) : Nat → Int
  | 0 => 0
  | k + 1 => B.getD p 0 + 256 * numAt B (p + 1) k
/-- Bytes. -/
def IsBytes (B : List Int) : Prop := ∀ j, 0 ≤ B.getD j 0 ∧ B.getD j 0 ≤ 255
theorem numAt_bd {B : List Int} (hB : IsBytes B) : ∀ (k p : Nat), 0 ≤ numAt B p k ∧ numAt B p k < 256 ^ k
  | 0, p => by simp [numAt]
  | k + 1, p => by
    have h1 := numAt_bd hB k (p + 1)
    have h2 := hB p
    rw [numAt, Int.pow_succ]
    omega
theorem pow_le8 : ∀ k : Fin 9, (256 : Int) ^ k.val ≤ 18446744073709551616 := by decide
theorem pow_le7 : ∀ k : Fin 8, (256 : Int) ^ k.val ≤ 72057594037927936 := by decide
theorem numAt_8 {B : List Int} (hB : IsBytes B) (p k : Nat) (hk : k ≤ 8) : 0 ≤ numAt B p k ∧ numAt B p k < 18446744073709551616 := by
  have h := numAt_bd hB k p
  have := pow_le8 ⟨k, by omega⟩
  simp only at this
  omega
theorem numAt_7 {B : List Int} (hB : IsBytes B) (p k : Nat) (hk : k ≤ 7) : 0 ≤ numAt B p k ∧ numAt B p k < 72057594037927936 := by
  have h := numAt_bd hB k p
  have := pow_le7 ⟨k, by omega⟩
  simp only at this
  omega
theorem shl_or (n c : Int) (h0 : 0 ≤ n) (h1 : n < 72057594037927936) (c0 : 0 ≤ c) (c1 : c ≤ 255) : IntKind.u64.wrap (n * 256) = n * 256 ∧ bits BinOp.or IntKind.u64 (n * 256) c = c + 256 * n ∧ IntKind.u64.wrap (n * 256 + c) = c + 256 * n := by
  refine ⟨by rw [IntKind.wrap_u64]; omega, ?_, by rw [IntKind.wrap_u64]; omega⟩
  rw [u64_or (n * 256) c (by omega) (by omega) c0 (by omega)]
  have e : (n * 256).toNat = 2 ^ 8 * n.toNat := by omega
  rw [e, ← Nat.two_pow_add_eq_or_of_lt (by omega)]
  omega
/-- The bytes B lie from off on in block b. -/
def BView (w : World) (b off : Nat) (B : List Int) : Prop := ∀ j, j < B.length → w.cell? ⟨b, off + j, none⟩ = some (.int .u8 (B.getD j 0))
theorem BView.below {w w' : World} {b off : Nat} {B : List Int} (h : BView w b off B) (hb : Below w.heap.size w w') (hlt : b < w.heap.size) : BView w' b off B :=
  fun j hj => by rw [hb.cell (p := ⟨b, off + j, none⟩) hlt]; exact h j hj

set_option maxHeartbeats 1000000 in
theorem memNumber_any (b off k cap : Nat) (B : List Int) (p : Nat) (w : World) (hB : IsBytes B) (hk : k ≤ 8) (hc : ∀ j, j < k → w.cell? ⟨b, off + j, none⟩ = some (.int .u8 (B.getD (p + j) 0))) :
    Calls Tryz.prog 123 #[.slice (some ⟨b, off, none⟩) k cap] w fun e w' => e = .returned (.int .u64 (numAt B p k)) ∧ w' = w := by
  have HB := hide hB
  have HC := hide hc
  clear hB hc
  go_enter Tryz.func123, Tryz.ntmps123
  go_wp2
  go_loop [3, 4] (fun n i => ∃ j : Nat, j ≤ k ∧ i = .int .i64 ((j : Int) - 1) ∧ n = .int .u64 (numAt B (p + j) (k - j))) (fun _ i => (intOf i + 1).toNat)
  case atStart => exact ⟨k, Nat.le_refl _, rfl, by rw [Nat.sub_self]; rfl⟩
  case round =>
    obtain ⟨j, hj, rfl, rfl⟩ := hrel
    rcases j with _ | i
    · go_wp2
      go_ret
      exact ⟨rfl, rfl⟩
    · have hci := (unhide HC) i (by omega)
      have hcb := (unhide HB) (p + i)
      have hn := numAt_7 (unhide HB) (p + (i + 1)) (k - (i + 1)) (by omega)
      have st : numAt B (p + i) (k - i) = B.getD (p + i) 0 + 256 * numAt B (p + (i + 1)) (k - (i + 1)) := by
        rw [show k - i = k - (i + 1) + 1 from by omega, numAt]; rfl
      generalize numAt B (p + (i + 1)) (k - (i + 1)) = n at *
      generalize B.getD (p + i) 0 = c at *
      have e1 : (((i + 1 : Nat) : Int) - 1) = (i : Int) := by omega
      rw [e1]
      obtain ⟨y1, y2, y3⟩ := shl_or n c hn.1 hn.2 hcb.1 hcb.2
      have y0 : IntKind.u64.wrap c = c := by rw [IntKind.wrap_u64]; omega
      have HS := hide st
      clear st e1 hn hcb
      go_wp2
      go_round
      case rel => exact ⟨i, by omega, rfl, by rw [unhide HS]⟩
      case measure => simp [intOf]

set_option maxHeartbeats 1000000 in
theorem refNumber_any (b off k cap : Nat) (B : List Int) (p : Nat) (w : World) (hB : IsBytes B) (hk : k ≤ 8) (hc : ∀ j, j < k → w.cell? ⟨b, off + j, none⟩ = some (.int .u8 (B.getD (p + j) 0))) :
    Calls Tryz.prog 80 #[.slice (some ⟨b, off, none⟩) k cap] w fun e w' => e = .returned (.int .u64 (numAt B p k)) ∧ w' = w := by
  have HB := hide hB
  have HC := hide hc
  clear hB hc
  go_enter Tryz.func80, Tryz.ntmps80
  go_wp2
  go_loop [3, 4] (fun n i => ∃ j : Nat, j ≤ k ∧ i = .int .i64 ((j : Int) - 1) ∧ n = .int .u64 (numAt B (p + j) (k - j))) (fun _ i => (intOf i + 1).toNat)
  case atStart => exact ⟨k, Nat.le_refl _, rfl, by rw [Nat.sub_self]; rfl⟩
  case round =>
    obtain ⟨j, hj, rfl, rfl⟩ := hrel
    rcases j with _ | i
    · go_wp2
      go_ret
      exact ⟨rfl, rfl⟩
    · have hci := (unhide HC) i (by omega)
      have hcb := (unhide HB) (p + i)
      have hn := numAt_7 (unhide HB) (p + (i + 1)) (k - (i + 1)) (by omega)
      have st : numAt B (p + i) (k - i) = B.getD (p + i) 0 + 256 * numAt B (p + (i + 1)) (k - (i + 1)) := by
        rw [show k - i = k - (i + 1) + 1 from by omega, numAt]; rfl
      generalize numAt B (p + (i + 1)) (k - (i + 1)) = n at *
      generalize B.getD (p + i) 0 = c at *
      have e1 : (((i + 1 : Nat) : Int) - 1) = (i : Int) := by omega
      rw [e1]
      obtain ⟨y1, y2, y3⟩ := shl_or n c hn.1 hn.2 hcb.1 hcb.2
      have y0 : IntKind.u64.wrap c = c := by rw [IntKind.wrap_u64]; omega
      have HS := hide st
      clear st e1 hn hcb y2
      go_wp2
      go_round
      case rel => exact ⟨i, by omega, rfl, by rw [unhide HS]⟩
      case measure => simp [intOf]

set_option maxHeartbeats 1000000 in
theorem number_any (b off cap : Nat) (B : List Int) (p k : Nat) (w : World) (hB : IsBytes B) (hk : k ≤ 8) (hk0 : 0 < k) (hp : p + k ≤ B.length) (hcap : B.length ≤ cap) (hlen : B.length ≤ 1000000) (hv : BView w b off B) :
    Calls Tryz.prog 103 #[.slice (some ⟨b, off, none⟩) B.length cap, .int .i64 p, .int .i64 k] w fun e w' => e = .returned (.int .u64 (numAt B p k)) ∧ w' = w := by
  have H := hide (memNumber_any b (off + p) k (cap - p) B p w hB hk (fun j hj => by rw [Nat.add_assoc]; exact hv (p + j) (by omega)))
  obtain ⟨q, hq⟩ : ∃ q, q = p + k := ⟨_, rfl⟩
  have e1 : (p : Int) + (k : Int) = (q : Int) := by omega
  have e2 : ¬ cap = p := by omega
  have e3 : q - p = k := by omega
  have e4 : (p : Int) ≤ (q : Int) := by omega
  have e5 : (q : Int) ≤ (cap : Int) := by omega
  have e6 : p ≤ q := by omega
  have e7 : q ≤ cap := by omega
  have e8 : (q : Int) ≤ 1000000 := by omega
  clear hB hv hq
  go_enter Tryz.func103, Tryz.ntmps103
  go_wp2_with fail
  refine (unhide H).mono ?_
  rintro e w1 ⟨rfl, hw1⟩
  subst hw1
  go_wp2
  go_ret
  exact ⟨rfl, rfl⟩
end Go.Proofs.YtkokiefclmbgaaaGreatDoor
