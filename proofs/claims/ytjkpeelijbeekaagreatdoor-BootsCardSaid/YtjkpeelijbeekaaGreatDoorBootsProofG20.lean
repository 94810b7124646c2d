import Derived.Test.YtjkpeelijbeekaaGreatDoorBootsProofG08
import Derived.Test.YtjkpeelijbeekaaGreatDoorBootsProofG19
import Derived.Deep.RegionHeld3
/- tinyosref: Boot. -/
namespace Go.Proofs.YtjkpeelijbeekaaGreatDoor
open Go.RowKit
set_option linter.unusedVariables false
set_option linter.unusedSimpArgs false

structure PFile where
  path : ByteArray
  dir : Bool
  bytes : List Int
def PK.put (p : PK) (f : PFile) : Int × PK := if f.dir = true then p.mkdir f.path else (p.fileCode f.path f.bytes, p.fileOut f.path f.bytes)
def PK.puts : PK → List PFile → Int × PK
  | p, [] => (0, p)
  | p, f :: r => if (p.put f).1 ≠ 0 then ((p.put f).1, p) else (p.put f).2.puts r
/-- The files of Boot as they lie: paths, whether they are directories, bytes. -/
structure FilesAt (w : World) (pb poff db doff bb boff : Nat) (FZ : List PFile) : Prop where
  path : ∀ (i : Nat) (f : PFile), FZ[i]? = some f → w.cell? ⟨pb, poff + i, none⟩ = some (.string f.path)
  dir : ∀ (i : Nat) (f : PFile), FZ[i]? = some f → w.cell? ⟨db, doff + i, none⟩ = some (.bool f.dir)
  bytes : ∀ (i : Nat) (f : PFile), FZ[i]? = some f → ∃ a q o c, w.cell? ⟨bb, boff + i, none⟩ = some (.slice a f.bytes.length c) ∧ (0 < f.bytes.length → a = some ⟨q, o, none⟩ ∧ q < w.heap.size) ∧ BView w q o f.bytes
def limsOk (lp lf lo li lb : Int) : Prop := 1 ≤ lp ∧ lp ≤ 16 ∧ 1 ≤ lf ∧ lf ≤ 1000 ∧ 0 ≤ lo ∧ lo ≤ 100000 ∧ 0 ≤ li ∧ li ≤ 100000 ∧ 0 ≤ lb ∧ lb ≤ 100000
def noKernel (c : Int) : Ending := .returned (.tuple #[.pointer none, .int .i64 c])
def root : Ino := ⟨1, 0, ByteArray.empty, true, .slice none 0 0⟩
def boot0 (lp lf lo li lb : Int) : PK := ⟨lp, lf, lo, li, lb, 1, [root], [[]]⟩

set_option maxRecDepth 100000 in
set_option maxHeartbeats 4000000 in
theorem refBoot_lims (lp lf lo li lb : Int) (v1 v2 v3 : Value) (w : World) (h : ¬ limsOk lp lf lo li lb) :
    Calls Tryz.prog 16 #[.agg #[.int .i64 lp, .int .i64 lf, .int .i64 lo, .int .i64 li, .int .i64 lb], v1, v2, v3] w fun e w' => e = noKernel 6 ∧ Below w.heap.size w w' := by
  have fin : ∀ (o1 o2 : Obj), Below w.heap.size w ((w.alloc o1).alloc o2) := fun o1 o2 => ((Below.refl _ _).alloc (Nat.le_refl _) _).alloc (by simp) _
  have HF := hide fin
  clear fin
  by_cases a1 : 1 ≤ lp
  case neg =>
    clear h
    go_enter Tryz.func16, Tryz.ntmps16
    go_wp2
    go_ret2
    exact ⟨rfl, unhide HF _ _⟩
  by_cases a2 : lp ≤ 16
  case neg =>
    clear h
    go_enter Tryz.func16, Tryz.ntmps16
    go_wp2
    go_ret2
    exact ⟨rfl, unhide HF _ _⟩
  by_cases a3 : 1 ≤ lf
  case neg =>
    clear h
    go_enter Tryz.func16, Tryz.ntmps16
    go_wp2
    go_ret2
    exact ⟨rfl, unhide HF _ _⟩
  by_cases a4 : lf ≤ 1000
  case neg =>
    clear h
    go_enter Tryz.func16, Tryz.ntmps16
    go_wp2
    go_ret2
    exact ⟨rfl, unhide HF _ _⟩
  by_cases a5 : 0 ≤ lo
  case neg =>
    clear h
    go_enter Tryz.func16, Tryz.ntmps16
    go_wp2
    go_ret2
    exact ⟨rfl, unhide HF _ _⟩
  by_cases a6 : lo ≤ 100000
  case neg =>
    clear h
    go_enter Tryz.func16, Tryz.ntmps16
    go_wp2
    go_ret2
    exact ⟨rfl, unhide HF _ _⟩
  by_cases a7 : 0 ≤ li
  case neg =>
    clear h
    go_enter Tryz.func16, Tryz.ntmps16
    go_wp2
    go_ret2
    exact ⟨rfl, unhide HF _ _⟩
  by_cases a8 : li ≤ 100000
  case neg =>
    clear h
    go_enter Tryz.func16, Tryz.ntmps16
    go_wp2
    go_ret2
    exact ⟨rfl, unhide HF _ _⟩
  by_cases a9 : 0 ≤ lb
  case neg =>
    clear h
    go_enter Tryz.func16, Tryz.ntmps16
    go_wp2
    go_ret2
    exact ⟨rfl, unhide HF _ _⟩
  by_cases a10 : lb ≤ 100000
  case neg =>
    clear h
    go_enter Tryz.func16, Tryz.ntmps16
    go_wp2
    go_ret2
    exact ⟨rfl, unhide HF _ _⟩
  exact absurd ⟨a1, a2, a3, a4, a5, a6, a7, a8, a9, a10⟩ h
end Go.Proofs.YtjkpeelijbeekaaGreatDoor
