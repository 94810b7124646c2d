import Derived.Test.YtkokiefclmbgaaaGreatDoorBootsProofG29
/- The program's process as cells; newProcess. -/
namespace Go.Proofs.YtkokiefclmbgaaaGreatDoor
open Go Go.RowKit
set_option linter.unusedVariables false
set_option linter.unusedSimpArgs false

def cpuRow (E : Int) (R : List Int) (S : List Value) : List Value := (Value.int .u64 E :: R.map (Value.int .u64)) ++ S
def procRow (E : Int) (R : List Int) (S : List Value) (pid par st su wk : Int) (fds : List Value) : List Value :=
  cpuRow E R S ++ ([.int .i64 pid, .int .i64 par, .int .i64 st, .int .i64 su, .int .i64 wk] ++ fds)
set_option maxRecDepth 1000000 in
theorem proc_z1 : Tryz.zeroCells183.toList.take 17 = List.replicate 17 (.int .u64 0) := by kernel_rfl
set_option maxRecDepth 1000000 in
theorem proc_z2 : allZ ((Tryz.zeroCells183.toList.drop 17).take 65792) = true := by kernel_rfl
set_option maxRecDepth 1000000 in
theorem proc_z3 : (Tryz.zeroCells183.toList.drop 17).drop 65792 = [.int .i64 0, .int .i64 0, .int .i64 0, .int .i64 0, .int .i64 0] ++ List.replicate 8 .nilIface := by kernel_rfl
set_option maxRecDepth 1000000 in
theorem cpu_z1 : Tryz.zeroCells178.toList.take 17 = List.replicate 17 (.int .u64 0) := by kernel_rfl
def zero16 : List Int := List.replicate 16 0
def nil8 : List Value := List.replicate 8 .nilIface
theorem cpuRow_length {E : Int} {R : List Int} {S : List Value} (hR : R.length = 16) (hS : S.length = 65792) : (cpuRow E R S).length = 65809 := by unfold cpuRow; simp [hR, hS]
theorem proc_zero : Tryz.zeroCells183.toList = procRow 0 zero16 zeroSpace 0 0 0 0 0 nil8 := by
  have h2 := allZ_rep _ proc_z2
  have hl : Tryz.zeroCells183.toList.length = 65822 := by rw [Array.length_toList]; exact Tryz.zeroCells183_size
  have h1 := proc_z1
  have h3 := proc_z3
  generalize Tryz.zeroCells183.toList = Z at h1 h2 h3 hl
  have hm : ((Z.drop 17).take 65792).length = 65792 := by rw [List.length_take, List.length_drop, hl]; rfl
  rw [hm] at h2
  have e1 : Z = Z.take 17 ++ ((Z.drop 17).take 65792 ++ (Z.drop 17).drop 65792) := by rw [List.take_append_drop, List.take_append_drop]
  rw [e1, h1, h2, h3]
  unfold procRow cpuRow zeroSpace nil8
  rw [← List.append_assoc]
  rfl
theorem set_at {α : Type} {A B : List α} {n j : Nat} (h : A.length = n) (v : α) : (A ++ B).set (n + j) v = A ++ B.set j v := by
  rw [List.set_append_right _ _ (by omega), h, Nat.add_sub_cancel_left]
theorem proc_new (pid par : Int) : (Tryz.zeroCells183.setIfInBounds 65809 (.int .i64 pid)).setIfInBounds 65810 (.int .i64 par) = (procRow 0 zero16 zeroSpace pid par 0 0 0 nil8).toArray := by
  have h := proc_zero
  generalize Tryz.zeroCells183 = ZA at h
  obtain ⟨Z⟩ := ZA
  have h : Z = _ := h
  rw [h, List.setIfInBounds_toArray, List.setIfInBounds_toArray]
  refine congrArg List.toArray ?_
  have hc : (cpuRow 0 zero16 zeroSpace).length = 65809 := cpuRow_length (by unfold zero16; exact List.length_replicate) zeroSpace_length
  unfold procRow
  rw [show (65810 : Nat) = 65809 + 1 from rfl, show (cpuRow 0 zero16 zeroSpace ++ ([Value.int .i64 0, .int .i64 0, .int .i64 0, .int .i64 0, .int .i64 0] ++ nil8)).set 65809 (.int .i64 pid) = _ from set_at (j := 0) hc _, set_at hc]
  rfl
end Go.Proofs.YtkokiefclmbgaaaGreatDoor
