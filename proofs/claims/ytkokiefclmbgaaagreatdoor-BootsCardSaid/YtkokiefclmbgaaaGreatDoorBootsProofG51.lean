import Derived.Test.YtkokiefclmbgaaaGreatDoorBootsProofG41
import Derived.Lay
import Derived.LaidLaws
/- Boots: what the row lists: the handle, the table; a world in which they lie. -/
namespace Go.Proofs.YtkokiefclmbgaaaGreatDoor
open Go Go.ChangeShapes Go.WideShapes Go.ChangeAt Go.RowKit
set_option linter.unusedVariables false
set_option linter.unusedSimpArgs false

theorem cells_field : Tryz.prog.cellsOf 268 = 3 := by kernel_rfl
theorem cells_u64 : Tryz.prog.cellsOf 74 = 1 := by kernel_rfl
theorem Tryz.hf : Tryz.prog.globalNamed "tinyos/exe.headerFields" = some 1 := by kernel_rfl
theorem Tryz.hfType : (Tryz.prog.globals[1]?).map (·.type) = some 269 := by kernel_rfl
/-- A field of three numbers: its cells. -/
theorem field_cells {W : World} {fuel : Nat} {cs : List Value} {a b c : Int} {p : List MemPlace}
    (h : DataW.trod (fun _ => ()) Tryz.prog W 0 (fun _ => true) false fuel 268 cs = some (.agg [.lit (.int .i64 a), .lit (.int .i64 b), .lit (.int .u64 c)], p)) : cs = [.int .i64 a, .int .i64 b, .int .u64 c] := by
  obtain ⟨xs, n, rfl, hx, hl, hxl, hel⟩ := DataW.trod_struct Tryz.underlying268 h
  have hl3 : cs.length = 3 := hl.trans cells_field
  have hx3 : xs.length = 3 := hxl
  clear hl hxl
  obtain ⟨v0, v1, v2, rfl⟩ := list3' hl3
  obtain ⟨x0, x1, x2, rfl⟩ := list3' hx3
  have h0 := hel 0 _ rfl
  have h1 := hel 1 _ rfl
  have h2 := hel 2 _ rfl
  simp only [Prod.mk.injEq, DataW.agg.injEq] at hx
  obtain ⟨hx, _⟩ := hx
  simp only [List.map_cons, List.map_nil, List.cons.injEq, and_true] at hx
  obtain ⟨e0, e1, e2⟩ := hx
  change DataW.trod _ Tryz.prog W 0 _ false n 3 (List.take (Tryz.prog.cellsOf 3) (List.drop 0 [v0, v1, v2])) = some x0 at h0
  change DataW.trod _ Tryz.prog W 0 _ false n 3 (List.take (Tryz.prog.cellsOf 3) (List.drop 1 [v0, v1, v2])) = some x1 at h1
  change DataW.trod _ Tryz.prog W 0 _ false n 74 (List.take (Tryz.prog.cellsOf 74) (List.drop 2 [v0, v1, v2])) = some x2 at h2
  rw [cells_int] at h0 h1
  rw [cells_u64] at h2
  obtain ⟨n0, f0, g0, _⟩ := DataW.trod_int Tryz.underlying3 (show DataW.trod _ _ _ _ _ _ n 3 [v0] = some x0 from h0)
  obtain ⟨n1, f1, g1, _⟩ := DataW.trod_int Tryz.underlying3 (show DataW.trod _ _ _ _ _ _ n 3 [v1] = some x1 from h1)
  obtain ⟨n2, f2, g2, _⟩ := DataW.trod_int Tryz.underlying74 (show DataW.trod _ _ _ _ _ _ n 74 [v2] = some x2 from h2)
  subst g0 g1 g2
  simp only [DataW.lit.injEq, Lit.int.injEq, true_and, List.cons.injEq, and_true] at e0 e1 e2 f0 f1 f2
  rw [f0, f1, f2, e0, e1, e2]
theorem chunk_get {cs : List Value} {k : Nat} {a b c : Value} (h : (cs.drop k).take 3 = [a, b, c]) : cs[k]? = some a ∧ cs[k + 1]? = some b ∧ cs[k + 2]? = some c := by
  have g : ∀ r, r < 3 → cs[k + r]? = [a, b, c][r]? := fun r hr => by
    rw [← h, List.getElem?_take, if_pos hr, List.getElem?_drop]
  exact ⟨g 0 (by omega), g 1 (by omega), g 2 (by omega)⟩

def bootsLaid : List (String × DataW Unit) := [("unicode/utf8.acceptRanges", Rows.laid_unicode_utf8_acceptRanges), ("errors.errorType", Rows.laid_errors_errorType), ("tinyos/exe.headerFields", Rows.laid_tinyos_exe_headerFields), ("unicode/utf8.first", Rows.laid_unicode_utf8_first)]
def bootsData : List (String × DataW Unit) := [("unicode/utf8.acceptRanges", Rows.laid_unicode_utf8_acceptRanges), ("tinyos/exe.headerFields", Rows.laid_tinyos_exe_headerFields), ("unicode/utf8.first", Rows.laid_unicode_utf8_first)]
theorem bootsLaid_data : (bootsLaid.filter fun x => x.2.handleName?.isNone) = bootsData := by kernel_rfl
theorem bootsLaid_hand : (bootsLaid.filter fun x => x.2.handleName?.isSome) = [("errors.errorType", Rows.laid_errors_errorType)] := by kernel_rfl
theorem boots_parts {W : World} (h : laidMetH Tryz.prog bootsLaid W) : laidMet Tryz.prog bootsData W ∧ handlesMet Tryz.prog [("errors.errorType", Rows.laid_errors_errorType)] W := by
  unfold laidMetH at h
  rw [bootsLaid_hand, bootsLaid_data] at h
  exact h
theorem boots_handle {W : World} (h : laidMetH Tryz.prog bootsLaid W) : W.cell? ⟨0, 0, none⟩ = some (.iface 194 (.agg #[.pointer (some ⟨5, 40, none⟩)])) :=
  handle_of (boots_parts h).2 (List.mem_singleton.2 rfl)
theorem boots_table {W : World} (h : laidMetH Tryz.prog bootsLaid W) : W.rangeAt 1 0 tblRow := by
  obtain ⟨ps, hl0, _⟩ := (boots_parts h).1
  obtain ⟨_, _, _, _, _, _, _, _, _, _, hl, _⟩ := hl0
  obtain ⟨g, t, cs, fuel, p, q, hg, ht, hv, htr, _⟩ := hl
  obtain rfl := Option.some.inj (Tryz.hf.symm.trans hg)
  obtain rfl := Option.some.inj (Tryz.hfType.symm.trans ht)
  have hc := World.var?_cell Tryz.hf hv
  obtain ⟨xs, m, rfl, hx, hlen, hxl, hel⟩ := DataW.trod_array Tryz.underlying269 htr
  unfold Rows.laid_tinyos_exe_headerFields at hx
  simp only [Prod.mk.injEq, DataW.agg.injEq] at hx
  obtain ⟨hx, _⟩ := hx
  match xs, hxl, hx, hel with
  | [x0, x1, x2, x3, x4, x5], _, hx, hel =>
    simp only [List.map_cons, List.map_nil, List.cons.injEq, and_true] at hx
    obtain ⟨e0, e1, e2, e3, e4, e5⟩ := hx
    rw [cells_field] at hel
    have k0 := hel 0 (by omega)
    have k1 := hel 1 (by omega)
    have k2 := hel 2 (by omega)
    have k3 := hel 3 (by omega)
    have k4 := hel 4 (by omega)
    have k5 := hel 5 (by omega)
    have d0 := chunk_get (field_cells (p := x0.2) (k0.trans (by show some x0 = _; rw [e0])))
    have d1 := chunk_get (field_cells (p := x1.2) (k1.trans (by show some x1 = _; rw [e1])))
    have d2 := chunk_get (field_cells (p := x2.2) (k2.trans (by show some x2 = _; rw [e2])))
    have d3 := chunk_get (field_cells (p := x3.2) (k3.trans (by show some x3 = _; rw [e3])))
    have d4 := chunk_get (field_cells (p := x4.2) (k4.trans (by show some x4 = _; rw [e4])))
    have d5 := chunk_get (field_cells (p := x5.2) (k5.trans (by show some x5 = _; rw [e5])))
    intro j v hj
    rw [Nat.zero_add, hc]
    have hl : cs[j]? = cs.toList[j]? := by simp
    rw [hl]
    match j, hj with
    | 0, hj => exact d0.1.trans hj
    | 1, hj => exact d0.2.1.trans hj
    | 2, hj => exact d0.2.2.trans hj
    | 3, hj => exact d1.1.trans hj
    | 4, hj => exact d1.2.1.trans hj
    | 5, hj => exact d1.2.2.trans hj
    | 6, hj => exact d2.1.trans hj
    | 7, hj => exact d2.2.1.trans hj
    | 8, hj => exact d2.2.2.trans hj
    | 9, hj => exact d3.1.trans hj
    | 10, hj => exact d3.2.1.trans hj
    | 11, hj => exact d3.2.2.trans hj
    | 12, hj => exact d4.1.trans hj
    | 13, hj => exact d4.2.1.trans hj
    | 14, hj => exact d4.2.2.trans hj
    | 15, hj => exact d5.1.trans hj
    | 16, hj => exact d5.2.1.trans hj
    | 17, hj => exact d5.2.2.trans hj
    | (k + 18), hj => simp [tblRow] at hj

theorem boots_data (os : Os) : laidMet Tryz.prog bootsData ((World.doorLaid Tryz.prog 400 os).layVars Tryz.prog bootsData) := by
  have e1 : (bootsData.filter fun x => (bootsData.map (·.1)).contains x.1) = bootsData := List.filter_eq_self.2 fun x hx => List.contains_iff_mem.2 (List.mem_map.2 ⟨x, hx, rfl⟩)
  have e2 : (bootsData.filter fun x => !(bootsData.map (·.1)).contains x.1) = [] := List.filter_eq_nil_iff.2 fun x hx => by rw [List.contains_iff_mem.2 (List.mem_map.2 ⟨x, hx, rfl⟩)]; simp
  exact laidMet_layVars (w0 := World.doorLaid Tryz.prog 400 os) (bootsData.map (·.1)) [] (by rw [e1]) (by rw [e1]; kernel_rfl) (by rw [e1]; kernel_rfl) (by rw [e2]; exact LaidIn.none)
theorem boots_door (os : Os) (args : Array Value) : laidMetH Tryz.prog bootsLaid (((World.doorLaid Tryz.prog 400 os).layVars Tryz.prog bootsData).forCall (fun _ _ => 0) ⟨#[], args, []⟩).memory :=
  laidMetH_of_parts3 (fuel := 8) (by rw [bootsLaid_data]; exact (boots_data os).of_heap (by simp [World.memory, World.forCall, Input.heap])) (by kernel_rfl) (by kernel_rfl)
end Go.Proofs.YtkokiefclmbgaaaGreatDoor
