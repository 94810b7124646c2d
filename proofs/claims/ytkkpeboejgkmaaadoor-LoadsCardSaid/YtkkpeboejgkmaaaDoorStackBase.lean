/- Stack: the small callees: put, PutWords, word. -/
import Derived.Test.YtkkpeboejgkmaaaDoorAs
import Derived.Test.YtkkpeboejgkmaaaDoorMem
import Derived.Laws.Bits64
namespace Go.Proofs.YtkkpeboejgkmaaaDoor
open Go.RowKit
set_option linter.unusedVariables false

set_option maxHeartbeats 1000000 in
theorem put_any (b off len cap : Nat) (t : TypeId) (L : List Int) (p : Nat) (n : Int) (w : World) (hrow : Holds w b t (bytesRow L)) (hp : p + 8 ≤ len) (hL : off + len ≤ L.length) (hl : L.length ≤ 100000) (n0 : 0 ≤ n) :
    Calls Tryd.prog 29 #[.slice (some ⟨b, off, none⟩) len cap, .int .i64 p, .int .u64 n] w fun e w' => e = .returned (.tuple #[]) ∧ Holds w' b t (bytesRow (splice L (off + p) (bytes8 n))) ∧ w.grownBy w' (some b) := by
  have h8 := bytes8_length n
  have H8 := hide h8
  have HW := hide hrow
  clear h8 hrow
  go_enter Tryd.func29, Tryd.ntmps29
  go_wp2
  go_loopw [6] (fun i wr => ∃ k : Nat, k ≤ 8 ∧ i = .int .i64 k ∧ Holds wr b t (bytesRow (splice L (off + p) ((bytes8 n).take k))) ∧ w.grownBy wr (some b)) (fun i _ => 8 - (intOf i).toNat)
  case atStart => exact ⟨0, by omega, rfl, by rw [List.take_zero, splice_nil]; exact unhide HW, World.grownBy.refl _ _⟩
  case round =>
    obtain ⟨k, hk, rfl, hr, hg⟩ := hrel
    by_cases hlt : k < 8
    · have ht : off + p + ((bytes8 n).take k).length ≤ L.length := by rw [List.length_take, unhide H8]; omega
      have hc : ∀ j, j < L.length → wr.cell? ⟨b, j, none⟩ = some (.int .u8 ((splice L (off + p) ((bytes8 n).take k)).getD j 0)) := fun j hj => hr.bytes j (by rw [splice_length _ _ _ ht]; exact hj)
      have hf : ∀ j, wr.frozen? ⟨b, j, none⟩ = false := fun j => hr.frozen j
      have hin : off + (p + k) < L.length := by omega
      have R := hr.set (off + (p + k)) (.int .u8 (n / 2 ^ (8 * k) % 256))
      rw [bytesRow_set, ← Nat.add_assoc, splice_set L (off + p) (bytes8 n) k _ (bytes8_get n k hlt) (by rw [unhide H8]; omega), Nat.add_assoc] at R
      have G := grown_set hg (off + (p + k)) (.int .u8 (n / 2 ^ (8 * k) % 256))
      have HR := hide R
      have HGG := hide G
      clear hr hg ht R G
      go_wp2
      go_roundw
      case rel => exact ⟨k + 1, by omega, by go_num, unhide HR, unhide HGG⟩
      case measure => simp [intOf]; omega
    · have e : k = 8 := by omega
      subst e
      have HR := hide hr
      clear hr
      go_wp2
      go_end0
      refine ⟨rfl, ?_, hg⟩
      have := unhide HR
      rwa [List.take_of_length_le (by rw [unhide H8]; omega)] at this

set_option maxHeartbeats 1000000 in
theorem putWords_any (b off len cap : Nat) (t : TypeId) (L : List Int) (q wcap : Nat) (tq : TypeId) (ws : List Int) (w : World) (hrow : Holds w b t (bytesRow L)) (hws : Holds w q tq (wordsRow ws)) (hqb : q ≠ b)
    (hp : 8 * ws.length ≤ len) (hL : off + len ≤ L.length) (hl : L.length ≤ 100000) :
    Calls Tryd.prog 48 #[.slice (some ⟨b, off, none⟩) len cap, .slice (some ⟨q, 0, none⟩) ws.length wcap] w fun e w' => e = .returned (.tuple #[]) ∧ Holds w' b t (bytesRow (splice L off (words8 ws))) ∧ w.grownBy w' (some b) := by
  have h8 := words8_length ws
  have H8 := hide h8
  have HW := hide hrow
  have HQ := hide hws
  clear h8 hrow hws
  go_enter Tryd.func48, Tryd.ntmps48
  go_wp2
  go_loopw [9] (fun i wr => ∃ k : Nat, k ≤ ws.length ∧ i = .int .i64 k ∧ Holds wr b t (bytesRow (splice L off ((words8 ws).take (8 * k)))) ∧ w.grownBy wr (some b)) (fun i _ => ws.length - (intOf i).toNat)
  case atStart => exact ⟨0, by omega, rfl, by rw [Nat.mul_zero, List.take_zero, splice_nil]; exact unhide HW, World.grownBy.refl _ _⟩
  case round =>
    obtain ⟨k, hk, rfl, hr, hg⟩ := hrel
    by_cases hlt : k < ws.length
    · obtain ⟨x, hx⟩ : ∃ x, x = ws.getD k 0 := ⟨_, rfl⟩
      have hq : wr.cell? ⟨q, k, none⟩ = some (.int .u64 x) := by rw [hx]; exact ((unhide HQ).grown hg (by simp; omega)).cell (wordsRow_get ws k hlt)
      have HX := hide hx
      clear hx
      have HR := hide hr
      have HGG := hide hg
      clear hr hg
      go_wp2
      go_loopw [14] (fun i wr => ∃ m : Nat, m ≤ 8 ∧ i = .int .i64 m ∧ Holds wr b t (bytesRow (splice L off ((words8 ws).take (8 * k + m)))) ∧ w.grownBy wr (some b)) (fun i _ => 8 - (intOf i).toNat)
      case atStart => exact ⟨0, by omega, rfl, unhide HR, unhide HGG⟩
      case round =>
        obtain ⟨m, hm, rfl, hr, hg⟩ := hrel
        by_cases hl8 : m < 8
        · have ht : off + ((words8 ws).take (8 * k + m)).length ≤ L.length := by rw [List.length_take, unhide H8]; omega
          have hc : ∀ j, j < L.length → wr.cell? ⟨b, j, none⟩ = some (.int .u8 ((splice L off ((words8 ws).take (8 * k + m))).getD j 0)) := fun j hj => hr.bytes j (by rw [splice_length _ _ _ ht]; exact hj)
          have hf : ∀ j, wr.frozen? ⟨b, j, none⟩ = false := fun j => hr.frozen j
          have hin : off + (k * 8 + m) < L.length := by omega
          have R := hr.set (off + (k * 8 + m)) (.int .u8 (x / 2 ^ (8 * m) % 256))
          rw [bytesRow_set, show k * 8 + m = 8 * k + m from by omega, splice_set L off (words8 ws) (8 * k + m) _ (by rw [unhide HX]; exact words8_get ws k m hl8 hlt) (by rw [unhide H8]; omega), show 8 * k + m = k * 8 + m from by omega] at R
          have G := grown_set hg (off + (k * 8 + m)) (.int .u8 (x / 2 ^ (8 * m) % 256))
          have HR2 := hide R
          have HG2 := hide G
          clear hr hg ht R G
          go_wp2
          go_roundw
          case rel => exact ⟨m + 1, by omega, by go_num, by have := unhide HR2; rwa [show k * 8 + m + 1 = 8 * k + (m + 1) from by omega] at this, unhide HG2⟩
          case measure => simp [intOf]; omega
        · have e : m = 8 := by omega
          subst e
          have HR2 := hide hr
          have HG2 := hide hg
          clear hr hg
          go_wp2
          go_roundw
          case rel => exact ⟨k + 1, by omega, by go_num, by have := unhide HR2; rwa [show 8 * k + 8 = 8 * (k + 1) from by omega] at this, unhide HG2⟩
          case measure => simp [intOf]; omega
    · have e : k = ws.length := by omega
      subst e
      have HR := hide hr
      clear hr
      go_wp2
      go_end0
      refine ⟨rfl, ?_, hg⟩
      have := unhide HR
      rwa [List.take_of_length_le (by rw [unhide H8]; omega)] at this

theorem word_step (x : Int) (i : Nat) : x / 2 ^ (8 * (i + 1)) * 256 + x / 2 ^ (8 * i) % 256 = x / 2 ^ (8 * i) := by
  have e : (2 : Int) ^ (8 * (i + 1)) = 2 ^ (8 * i) * 256 := by rw [show 8 * (i + 1) = 8 * i + 8 from by omega, Int.pow_add]; rfl
  have hp : (0 : Int) ≤ 2 ^ (8 * i) := Int.pow_nonneg (by decide)
  rw [e, ← Int.ediv_ediv_of_nonneg hp]
  omega
theorem word_wrap (y z : Int) (h : y * 256 + z % 256 = z) (h0 : 0 ≤ y) (h1 : 0 ≤ z) (h2 : z < 18446744073709551616) : IntKind.u64.wrap (IntKind.u64.wrap (y * 256) + z % 256) = z := by
  rw [IntKind.wrap_u64, IntKind.wrap_u64]; omega
theorem word_bd (x : Int) (i : Nat) (h0 : 0 ≤ x) (h1 : x < 18446744073709551616) : 0 ≤ x / 2 ^ (8 * i) ∧ x / 2 ^ (8 * i) < 18446744073709551616 := by
  have hp : (0 : Int) < 2 ^ (8 * i) := Int.pow_pos (by decide)
  refine ⟨Int.ediv_nonneg h0 (by omega), ?_⟩
  have : x / 2 ^ (8 * i) ≤ x := Int.ediv_le_self _ h0
  omega

end Go.Proofs.YtkkpeboejgkmaaaDoor
