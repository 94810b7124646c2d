/- Stack: closed facts on the document's pages. -/
import Derived.Test.YtkkpeboejgkmaaaDoorStackZero
import Derived.Test.YtkkpeboejgkmaaaDoorBigBuild
namespace Go.Proofs.YtkkpeboejgkmaaaDoor
open Go.RowKit
/-- A page of the document's answer as cells. -/
def refPage (num perm : Int) (bytes : List Int) : List Value := .int .i64 num :: .int .i64 perm :: bytesRow bytes
theorem refPage_length (a b : Int) (L : List Int) : (refPage a b L).length = L.length + 2 := by simp [refPage, bytesRow_length]
set_option maxRecDepth 100000 in
theorem buildPage (n : Int) (w : World) : (Instr.build 76 #[(0, .int .i64 n), (1, .int .i64 6)]).run Tryd.prog w = .ok (.agg (refPage n 6 zero256).toArray) w := by kernel_rfl
set_option maxRecDepth 100000 in
theorem allocPage (old : Value) (w : World) : (Instr.alloc 76 true old).run Tryd.prog w = .ok (.pointer (some ⟨w.heap.size, 0, none⟩)) (w.alloc (.cells (refPage 0 0 zero256).toArray 76)) := by kernel_rfl
set_option maxRecDepth 100000 in
theorem pageInfo : (Tryd.prog.info? 76).map (fun i => (i.zero, i.size, i.bytes)) = some (some (.agg (refPage 0 0 zero256).toArray), 258, 272) := by kernel_rfl
theorem pageSize : (Tryd.prog.info? 76).map (·.size) = some 258 := by kernel_rfl
theorem refPage_one (a b : Int) (L : List Int) : ∀ v ∈ refPage a b L, v.oneCell' = true := by
  intro v hv
  simp only [refPage, List.mem_cons] at hv
  rcases hv with rfl | rfl | hv
  · rfl
  · rfl
  · obtain ⟨x, _, rfl⟩ := List.mem_map.1 hv
    rfl
theorem refPage_splice (n : Int) (Z xs : List Int) (h : Z.length = xs.length) : splice (refPage n 6 Z) 2 (bytesRow xs) = refPage n 6 xs := by
  unfold splice refPage
  have e : (bytesRow Z).drop (bytesRow xs).length = [] := List.drop_eq_nil_of_le (by rw [bytesRow_length, bytesRow_length]; omega)
  simp only [List.take_succ_cons, List.take_zero, Nat.add_comm 2, List.drop_succ_cons, e, List.append_nil]
  rfl
/-- The document's pages while they are filled out of R. -/
def refPagesTo (R : List Int) : Nat → List Value
  | 0 => []
  | 1 => refPage 254 6 (R.take 256)
  | _ => refPage 254 6 (R.take 256) ++ refPage 255 6 (R.drop 256)
theorem grown_row {w : World} {g : Nat} (cs : Array Value) : w.grownBy (w.setRow g cs) (some g) :=
  ⟨rfl, rfl, rfl, by simp [World.setRow], fun k hk hne => setRow_other w g k cs (fun e => hne (by simp [e]))⟩
/-- A whole row stored: the world behind it by a name. -/
theorem wpList_store_hold {P : Program} {ops : Array Oper} {rest : List Oper} {o : Oper} {a : Act} {w : World} {Q : Exit → Act → World → Prop} (hgd : o.guard = none) (ty : TypeId) (x y : Operand) (ho : o.op = .store ty x y)
    (g : Nat) (cs : List Value) (hx : a.eval x = .pointer (some ⟨g, 0, none⟩)) (hy : a.eval y = .agg cs.toArray)
    (t : TypeId) (old : List Value) (hg : Holds w g t old) (hi : (P.info? ty).map (·.size) = some cs.length) (hold : old.length = cs.length) (h1 : ∀ v ∈ cs, v.oneCell' = true)
    (h : ∀ w', Hid (Holds w' g t cs) → w.grownBy w' (some g) → wpList P ops Q rest (a.put o.dst undef) w') : wpList P ops Q (o :: rest) a w := by
  refine wpList_store_row hgd ty x y ho g cs.toArray hx hy t old.toArray hg (by simpa using hi) (by simpa using hold) (all_oneCell_toArray h1) ?_
  exact h _ (holds_setRow hg cs) (grown_row _)
end Go.Proofs.YtkkpeboejgkmaaaDoor
