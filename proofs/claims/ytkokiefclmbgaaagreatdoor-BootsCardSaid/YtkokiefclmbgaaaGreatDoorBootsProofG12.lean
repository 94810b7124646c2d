import Derived.Test.YtkokiefclmbgaaaGreatDoorBootsProofG03
import Derived.Laws.BytesArg
/- tinyosref.header. -/
namespace Go.Proofs.YtkokiefclmbgaaaGreatDoor
open Go.RowKit
set_option linter.unusedVariables false
set_option linter.unusedSimpArgs false

theorem no_iff {p : Prop} (h : ¬ p) : (false = true ↔ p) := ⟨fun e => (Bool.false_ne_true e).elim, fun q => (h q).elim⟩
def magicOk (B : List Int) : Prop := ((strOfNums (B.take 7)).toList == [127, 69, 76, 70, 2, 1, 1]) = true
/-- The header is right. -/
def HdrOk (B : List Int) : Prop := 64 ≤ B.length ∧ magicOk B ∧ numAt B 16 2 = 2 ∧ numAt B 18 2 = 243 ∧ numAt B 20 4 = 1 ∧ numAt B 32 8 = 64 ∧ numAt B 52 2 = 64 ∧ numAt B 54 2 = 56 ∧ 1 ≤ numAt B 56 2 ∧ numAt B 56 2 ≤ 8 ∧ 64 + 56 * numAt B 56 2 ≤ (B.length : Int)

theorem conv7 (b off cap : Nat) (B : List Int) (w : World) (hv : BView w b off B) (h : 7 ≤ B.length) : (convert 32 9 (.slice (some ⟨b, off, none⟩) 7 cap)).run Tryz.prog w = .ok (.string (strOfNums (B.take 7))) w :=
  run_convert_bytes_arg w 32 5 Tryz.underlying32 Tryz.underlying5 b off 7 cap (B.take 7) (by simp; omega) (fun i hi => by
    rw [hv i (by omega)]
    simp [List.getD, List.getElem?_take, hi]) 9 Tryz.underlying9

set_option maxRecDepth 100000 in
set_option maxHeartbeats 400000 in
theorem refHeader_any (b off cap : Nat) (B : List Int) (w : World) (hB : IsBytes B) (hcap : B.length ≤ cap) (hlen : B.length ≤ 1000000) (hv : BView w b off B) :
    Calls Tryz.prog 78 #[.slice (some ⟨b, off, none⟩) B.length cap] w fun e w' => ∃ n : Int, ∃ ok : Bool, e = .returned (.tuple #[.int .i64 n, .bool ok]) ∧ w' = w ∧ (ok = true ↔ HdrOk B) ∧ (HdrOk B → n = numAt B 56 2) := by
  by_cases h64 : 64 ≤ B.length
  case neg =>
    have hno : ¬ HdrOk B := fun h => h64 h.1
    have HN := hide hno
    clear hv hB hno
    go_enter Tryz.func78, Tryz.ntmps78
    go_wp2
    go_ret2
    exact ⟨0, false, rfl, rfl, no_iff (unhide HN), fun h => absurd h (unhide HN)⟩
  have hcv := conv7 b off cap B w hv (by omega)
  obtain ⟨s7, hs7⟩ : ∃ s7, s7 = strOfNums (B.take 7) := ⟨_, rfl⟩
  rw [← hs7] at hcv
  have hl7 : s7.size = 7 := by rw [hs7, strOfNums_size]; simp; omega
  have h7 : (7 : Int) ≤ (cap : Int) := by omega
  have h70 : ¬ cap = 0 := by omega
  by_cases hm : (s7.toList == [127, 69, 76, 70, 2, 1, 1]) = true
  case neg =>
    have hm' : (s7.toList == [127, 69, 76, 70, 2, 1, 1]) = false := by simpa using hm
    have hno : ¬ HdrOk B := fun h => hm (by rw [hs7]; exact h.2.1)
    have HN := hide hno
    have HM := hide hm
    clear hv hB hno hm hs7 hl7
    go_enter Tryz.func78, Tryz.ntmps78
    go_wp2
    go_ret2
    exact ⟨0, false, rfl, rfl, no_iff (unhide HN), fun h => absurd h (unhide HN)⟩
  have HM := hide hm
  have HS7 := hide hs7
  have HV := hide hv
  have HBB := hide hB
  have hm2 : (!s7.toList == [127, 69, 76, 70, 2, 1, 1]) = false := by rw [hm]; rfl
  have ne16 : ¬ cap = 16 := by omega
  have ne18 : ¬ cap = 18 := by omega
  have ne20 : ¬ cap = 20 := by omega
  have ne32 : ¬ cap = 32 := by omega
  have ne52 : ¬ cap = 52 := by omega
  have ne54 : ¬ cap = 54 := by omega
  have ne56 : ¬ cap = 56 := by omega
  have h64c : (64 : Int) ≤ (cap : Int) := by omega
  clear hm hs7 hv hB hl7
  go_enter Tryz.func78, Tryz.ntmps78
  go_wp2_with fail
  refine (refNumber_any b (off + 16) 2 (cap - 16) B 16 _ (unhide HBB) (by omega) (fun j hj => by rw [Nat.add_assoc]; exact (unhide HV) (16 + j) (by omega))).mono ?_
  rintro e w1 ⟨rfl, hw1⟩
  subst hw1
  go_wp2_with fail
  refine (refNumber_any b (off + 18) 2 (cap - 18) B 18 _ (unhide HBB) (by omega) (fun j hj => by rw [Nat.add_assoc]; exact (unhide HV) (18 + j) (by omega))).mono ?_
  rintro e w1 ⟨rfl, hw1⟩
  subst hw1
  go_wp2_with fail
  refine (refNumber_any b (off + 20) 4 (cap - 20) B 20 _ (unhide HBB) (by omega) (fun j hj => by rw [Nat.add_assoc]; exact (unhide HV) (20 + j) (by omega))).mono ?_
  rintro e w1 ⟨rfl, hw1⟩
  subst hw1
  go_wp2_with fail
  refine (refNumber_any b (off + 32) 8 (cap - 32) B 32 _ (unhide HBB) (by omega) (fun j hj => by rw [Nat.add_assoc]; exact (unhide HV) (32 + j) (by omega))).mono ?_
  rintro e w1 ⟨rfl, hw1⟩
  subst hw1
  go_wp2_with fail
  refine (refNumber_any b (off + 52) 2 (cap - 52) B 52 _ (unhide HBB) (by omega) (fun j hj => by rw [Nat.add_assoc]; exact (unhide HV) (52 + j) (by omega))).mono ?_
  rintro e w1 ⟨rfl, hw1⟩
  subst hw1
  go_wp2_with fail
  refine (refNumber_any b (off + 54) 2 (cap - 54) B 54 _ (unhide HBB) (by omega) (fun j hj => by rw [Nat.add_assoc]; exact (unhide HV) (54 + j) (by omega))).mono ?_
  rintro e w1 ⟨rfl, hw1⟩
  subst hw1
  go_wp2_with fail
  refine (refNumber_any b (off + 56) 2 (cap - 56) B 56 _ (unhide HBB) (by omega) (fun j hj => by rw [Nat.add_assoc]; exact (unhide HV) (56 + j) (by omega))).mono ?_
  rintro e w1 ⟨rfl, hw1⟩
  subst hw1
  have b0 := numAt_8 (unhide HBB) 16 2 (by omega)
  have b1 := numAt_8 (unhide HBB) 18 2 (by omega)
  have b2 := numAt_8 (unhide HBB) 20 4 (by omega)
  have b3 := numAt_8 (unhide HBB) 32 8 (by omega)
  have b4 := numAt_8 (unhide HBB) 52 2 (by omega)
  have b5 := numAt_8 (unhide HBB) 54 2 (by omega)
  have b6 := numAt_8 (unhide HBB) 56 2 (by omega)
  generalize hx0 : numAt B 16 2 = x0 at b0 ⊢
  generalize hx1 : numAt B 18 2 = x1 at b1 ⊢
  generalize hx2 : numAt B 20 4 = x2 at b2 ⊢
  generalize hx3 : numAt B 32 8 = x3 at b3 ⊢
  generalize hx4 : numAt B 52 2 = x4 at b4 ⊢
  generalize hx5 : numAt B 54 2 = x5 at b5 ⊢
  generalize hx6 : numAt B 56 2 = x6 at b6 ⊢
  have HX := hide (And.intro hx0 (And.intro hx1 (And.intro hx2 (And.intro hx3 (And.intro hx4 (And.intro hx5 hx6))))))
  clear hx0 hx1 hx2 hx3 hx4 hx5 hx6
  have HH : Hid (HdrOk B ↔ (x0 = 2 ∧ x1 = 243 ∧ x2 = 1 ∧ x3 = 64 ∧ x4 = 64 ∧ x5 = 56 ∧ 1 ≤ x6 ∧ x6 ≤ 8 ∧ 64 + 56 * x6 ≤ (B.length : Int))) := hide (by
    obtain ⟨r0, r1, r2, r3, r4, r5, r6⟩ := unhide HX
    unfold HdrOk
    rw [r0, r1, r2, r3, r4, r5, r6]
    have hmg : magicOk B := by unfold magicOk; rw [← unhide HS7]; exact unhide HM
    constructor
    · rintro ⟨_, _, h⟩; exact h
    · intro h; exact ⟨h64, hmg, h⟩)
  have H6 : Hid (numAt B 56 2 = x6) := hide (unhide HX).2.2.2.2.2.2
  obtain ⟨b60, _⟩ := b6
  clear b0 b1 b2 b3 b4 b5 HX HM HS7 HBB hcv HV hm2
  by_cases t0 : x0 = 2
  case neg =>
    have f0 : (x0 != 2) = true := by simpa using t0
    have HN := hide (fun h : HdrOk B => t0 ((unhide HH).1 h).1)
    clear t0
    go_wp2
    go_ret2
    exact ⟨0, false, rfl, rfl, no_iff (unhide HN), fun h => absurd h (unhide HN)⟩
  have f0 : (x0 != 2) = false := by simpa using t0
  have T0 := hide t0
  clear t0
  by_cases t1 : x1 = 243
  case neg =>
    have f1 : (x1 != 243) = true := by simpa using t1
    have HN := hide (fun h : HdrOk B => t1 ((unhide HH).1 h).2.1)
    clear t1
    go_wp2
    go_ret2
    exact ⟨0, false, rfl, rfl, no_iff (unhide HN), fun h => absurd h (unhide HN)⟩
  have f1 : (x1 != 243) = false := by simpa using t1
  have T1 := hide t1
  clear t1
  by_cases t2 : x2 = 1
  case neg =>
    have f2 : (x2 != 1) = true := by simpa using t2
    have HN := hide (fun h : HdrOk B => t2 ((unhide HH).1 h).2.2.1)
    clear t2
    go_wp2
    go_ret2
    exact ⟨0, false, rfl, rfl, no_iff (unhide HN), fun h => absurd h (unhide HN)⟩
  have f2 : (x2 != 1) = false := by simpa using t2
  have T2 := hide t2
  clear t2
  by_cases t3 : x3 = 64
  case neg =>
    have f3 : (x3 != 64) = true := by simpa using t3
    have HN := hide (fun h : HdrOk B => t3 ((unhide HH).1 h).2.2.2.1)
    clear t3
    go_wp2
    go_ret2
    exact ⟨0, false, rfl, rfl, no_iff (unhide HN), fun h => absurd h (unhide HN)⟩
  have f3 : (x3 != 64) = false := by simpa using t3
  have T3 := hide t3
  clear t3
  by_cases t4 : x4 = 64
  case neg =>
    have f4 : (x4 != 64) = true := by simpa using t4
    have HN := hide (fun h : HdrOk B => t4 ((unhide HH).1 h).2.2.2.2.1)
    clear t4
    go_wp2
    go_ret2
    exact ⟨0, false, rfl, rfl, no_iff (unhide HN), fun h => absurd h (unhide HN)⟩
  have f4 : (x4 != 64) = false := by simpa using t4
  have T4 := hide t4
  clear t4
  by_cases t5 : x5 = 56
  case neg =>
    have f5 : (x5 != 56) = true := by simpa using t5
    have HN := hide (fun h : HdrOk B => t5 ((unhide HH).1 h).2.2.2.2.2.1)
    clear t5
    go_wp2
    go_ret2
    exact ⟨0, false, rfl, rfl, no_iff (unhide HN), fun h => absurd h (unhide HN)⟩
  have f5 : (x5 != 56) = false := by simpa using t5
  have T5 := hide t5
  clear t5
  by_cases t6 : 1 ≤ x6
  case neg =>
    have HN := hide (fun h : HdrOk B => t6 ((unhide HH).1 h).2.2.2.2.2.2.1)
    go_wp2
    go_ret2
    exact ⟨0, false, rfl, rfl, no_iff (unhide HN), fun h => absurd h (unhide HN)⟩
  by_cases t7 : x6 ≤ 8
  case neg =>
    have HN := hide (fun h : HdrOk B => t7 ((unhide HH).1 h).2.2.2.2.2.2.2.1)
    go_wp2
    go_ret2
    exact ⟨0, false, rfl, rfl, no_iff (unhide HN), fun h => absurd h (unhide HN)⟩
  go_wp2
  go_ret2
  refine ⟨x6, decide (64 + 56 * x6 ≤ (B.length : Int)), rfl, rfl, ?_, fun _ => (unhide H6).symm⟩
  rw [decide_eq_true_iff, unhide HH]
  exact ⟨fun h => ⟨unhide T0, unhide T1, unhide T2, unhide T3, unhide T4, unhide T5, t6, t7, h⟩, fun h => h.2.2.2.2.2.2.2.2⟩
end Go.Proofs.YtkokiefclmbgaaaGreatDoor
