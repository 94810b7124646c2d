/- Loads: the row and the tied card. -/
import Derived.Test.YtkkpeboejgkmaaaDoorLoadsLaw
import Derived.Test.YtkkpeboejgkmaaaDoorRows
import Derived.Test.YtkkpeboejgkmaaaDoorCards
import Derived.Test.YtkkpeboejgkmaaaDoorTie
import Derived.Test.YtkkpeboejgkmaaaDoorRowBase
import Derived.ChangeSlices
import Derived.SevenTiedAt
namespace Go.Proofs.YtkkpeboejgkmaaaDoor
open Go.ChangeShapes Go.WideShapes Go.ChangeAt Go.RowKit
set_option linter.unusedVariables false
set_option linter.unusedSimpArgs false

set_option maxHeartbeats 1000000 in
theorem loads_long (a : Option Addr) (n cap : Nat) (w : World) (h : 200000 < n) (hm : n ≤ maxLen) :
    Calls Tryd.prog 4 #[.slice a n cap] w fun e w' => e = .returned (.bool true) ∧ Below w.heap.size w w' := by
  unfold maxLen at hm
  go_enter Tryd.func4, Tryd.ntmps4
  go_wp2
  go_ret
  exact ⟨rfl, Below.refl _ _⟩

theorem cells_byte : Tryd.prog.cellsOf 5 = 1 := by kernel_rfl
theorem cells_field : Tryd.prog.cellsOf 130 = 3 := by kernel_rfl
theorem cells_int : Tryd.prog.cellsOf 3 = 1 := by kernel_rfl
theorem cells_u64 : Tryd.prog.cellsOf 42 = 1 := by kernel_rfl
theorem Tryd.hf : Tryd.prog.globalNamed "tinyos/exe.headerFields" = some 1 := by kernel_rfl
theorem Tryd.hfType : (Tryd.prog.globals[1]?).map (·.type) = some 131 := by kernel_rfl

theorem list3 {α : Type} {cs : List α} (h : cs.length = 3) : ∃ a b c, cs = [a, b, c] := by
  match cs, h with
  | [a, b, c], _ => exact ⟨a, b, c, rfl⟩
/-- A field of three numbers: its cells. -/
theorem field_cells {W : World} {fuel : Nat} {cs : List Value} {a b c : Int} {p : List MemPlace}
    (h : DataW.trod (fun _ => ()) Tryd.prog W 0 (fun _ => true) false fuel 130 cs = some (.agg [.lit (.int .i64 a), .lit (.int .i64 b), .lit (.int .u64 c)], p)) : cs = [.int .i64 a, .int .i64 b, .int .u64 c] := by
  obtain ⟨xs, n, rfl, hx, hl, hxl, hel⟩ := DataW.trod_struct Tryd.underlying130 h
  have hl3 : cs.length = 3 := hl.trans cells_field
  have hx3 : xs.length = 3 := hxl
  clear hl hxl
  obtain ⟨v0, v1, v2, rfl⟩ := list3 hl3
  obtain ⟨x0, x1, x2, rfl⟩ := list3 hx3
  have h0 := hel 0 _ rfl
  have h1 := hel 1 _ rfl
  have h2 := hel 2 _ rfl
  simp only [Prod.mk.injEq, DataW.agg.injEq] at hx
  obtain ⟨hx, _⟩ := hx
  simp only [List.map_cons, List.map_nil, List.cons.injEq, and_true] at hx
  obtain ⟨e0, e1, e2⟩ := hx
  change DataW.trod _ Tryd.prog W 0 _ false n 3 (List.take (Tryd.prog.cellsOf 3) (List.drop 0 [v0, v1, v2])) = some x0 at h0
  change DataW.trod _ Tryd.prog W 0 _ false n 3 (List.take (Tryd.prog.cellsOf 3) (List.drop 1 [v0, v1, v2])) = some x1 at h1
  change DataW.trod _ Tryd.prog W 0 _ false n 42 (List.take (Tryd.prog.cellsOf 42) (List.drop 2 [v0, v1, v2])) = some x2 at h2
  rw [cells_int] at h0 h1
  rw [cells_u64] at h2
  obtain ⟨n0, f0, g0, _⟩ := DataW.trod_int Tryd.underlying3 (show DataW.trod _ _ _ _ _ _ n 3 [v0] = some x0 from h0)
  obtain ⟨n1, f1, g1, _⟩ := DataW.trod_int Tryd.underlying3 (show DataW.trod _ _ _ _ _ _ n 3 [v1] = some x1 from h1)
  obtain ⟨n2, f2, g2, _⟩ := DataW.trod_int Tryd.underlying42 (show DataW.trod _ _ _ _ _ _ n 42 [v2] = some x2 from h2)
  subst g0 g1 g2
  simp only [DataW.lit.injEq, Lit.int.injEq, true_and, List.cons.injEq, and_true] at e0 e1 e2 f0 f1 f2
  rw [f0, f1, f2, e0, e1, e2]
theorem chunk_get {cs : List Value} {k : Nat} {a b c : Value} (h : (cs.drop k).take 3 = [a, b, c]) : cs[k]? = some a ∧ cs[k + 1]? = some b ∧ cs[k + 2]? = some c := by
  have g : ∀ r, r < 3 → cs[k + r]? = [a, b, c][r]? := fun r hr => by
    rw [← h, List.getElem?_take, if_pos hr, List.getElem?_drop]
  exact ⟨g 0 (by omega), g 1 (by omega), g 2 (by omega)⟩

def loadsLaid : List (String × DataW Unit) := [("errors.errorType", Rows.laid_errors_errorType), ("tinyos/exe.headerFields", Rows.laid_tinyos_exe_headerFields)]
theorem loads_handle {W : World} (h : laidMetH Tryd.prog loadsLaid W) : W.cell? ⟨0, 0, none⟩ = some (.iface 116 (.agg #[.pointer (some ⟨3, 28, none⟩)])) := by
  have h' : laidMet Tryd.prog [("tinyos/exe.headerFields", Rows.laid_tinyos_exe_headerFields)] W ∧ handlesMet Tryd.prog [("errors.errorType", Rows.laid_errors_errorType)] W := h
  exact handle_of h'.2 (List.mem_singleton.2 rfl)
theorem loads_table {W : World} (h : laidMetH Tryd.prog loadsLaid W) : W.rangeAt 1 0 tblRow := by
  have h' : laidMet Tryd.prog [("tinyos/exe.headerFields", Rows.laid_tinyos_exe_headerFields)] W ∧ handlesMet Tryd.prog [("errors.errorType", Rows.laid_errors_errorType)] W := h
  obtain ⟨ps, hl, _⟩ := h'.1
  obtain ⟨g, t, cs, fuel, p, q, hg, ht, hv, htr, _⟩ := hl
  obtain rfl := Option.some.inj (Tryd.hf.symm.trans hg)
  obtain rfl := Option.some.inj (Tryd.hfType.symm.trans ht)
  have hc := World.var?_cell Tryd.hf hv
  obtain ⟨xs, m, rfl, hx, hlen, hxl, hel⟩ := DataW.trod_array Tryd.underlying131 htr
  unfold Rows.laid_tinyos_exe_headerFields at hx
  simp only [Prod.mk.injEq, DataW.agg.injEq] at hx
  obtain ⟨hx, _⟩ := hx
  match xs, hxl, hx, hel with
  | [x0, x1, x2, x3, x4, x5], _, hx, hel =>
    simp only [List.map_cons, List.map_nil, List.cons.injEq, and_true] at hx
    obtain ⟨e0, e1, e2, e3, e4, e5⟩ := hx
    rw [cells_field] at hel
    have k0 := hel 0 (by omega)
    have k1 := hel 1 (by omega)
    have k2 := hel 2 (by omega)
    have k3 := hel 3 (by omega)
    have k4 := hel 4 (by omega)
    have k5 := hel 5 (by omega)
    have d0 := chunk_get (field_cells (p := x0.2) (k0.trans (by show some x0 = _; rw [e0])))
    have d1 := chunk_get (field_cells (p := x1.2) (k1.trans (by show some x1 = _; rw [e1])))
    have d2 := chunk_get (field_cells (p := x2.2) (k2.trans (by show some x2 = _; rw [e2])))
    have d3 := chunk_get (field_cells (p := x3.2) (k3.trans (by show some x3 = _; rw [e3])))
    have d4 := chunk_get (field_cells (p := x4.2) (k4.trans (by show some x4 = _; rw [e4])))
    have d5 := chunk_get (field_cells (p := x5.2) (k5.trans (by show some x5 = _; rw [e5])))
    intro j v hj
    rw [Nat.zero_add, hc]
    have hl : cs[j]? = cs.toList[j]? := by simp
    rw [hl]
    match j, hj with
    | 0, hj => exact d0.1.trans hj
    | 1, hj => exact d0.2.1.trans hj
    | 2, hj => exact d0.2.2.trans hj
    | 3, hj => exact d1.1.trans hj
    | 4, hj => exact d1.2.1.trans hj
    | 5, hj => exact d1.2.2.trans hj
    | 6, hj => exact d2.1.trans hj
    | 7, hj => exact d2.2.1.trans hj
    | 8, hj => exact d2.2.2.trans hj
    | 9, hj => exact d3.1.trans hj
    | 10, hj => exact d3.2.1.trans hj
    | 11, hj => exact d3.2.2.trans hj
    | 12, hj => exact d4.1.trans hj
    | 13, hj => exact d4.2.1.trans hj
    | 14, hj => exact d4.2.2.trans hj
    | 15, hj => exact d5.1.trans hj
    | 16, hj => exact d5.2.1.trans hj
    | 17, hj => exact d5.2.2.trans hj
    | (k + 18), hj => simp [tblRow] at hj
theorem loads_door (os : Os) (args : Array Value) : laidMetH Tryd.prog loadsLaid ((World.doorLaid Tryd.prog 400 os).forCall (fun _ _ => 0) ⟨#[], args, []⟩).memory :=
  laidMetH_of_parts3 (fuel := 8) (laidMet_of_run' 8 (by kernel_rfl) (by kernel_rfl)) (by kernel_rfl) (by kernel_rfl)

set_option maxRecDepth 100000 in
theorem loads_lifted (os : Os) (started : os.Started) (H : Type) (enc : TypeId × Value → H) :
    ReturnsInHanded {} Tryd.checked os 4 .any (fun w args => (Rows.loadsSpec.pre enc Tryd.prog Tryd.f4 [] false w args ∧ laidMetH Tryd.prog loadsLaid w) ∧ sizedMet enc Tryd.prog Tryd.f4 (OpenSpec.ofChange Rows.loadsSpec) false w args)
      (Rows.loadsSpec.post enc Tryd.prog Tryd.f4 false true false false) := by
  refine returnsInHanded_of_change_and (C := Tryd.checked) (X := fun w _ => laidMetH Tryd.prog loadsLaid w) (fun _ _ _ hh h => h.of_heap hh) own started (by kernel_rfl) Tryd.func4
    (ChangeSpec.witness_shaped (enc := enc) (C := Tryd.checked) (os := os) (X := fun w _ => laidMetH Tryd.prog loadsLaid w) false (World.doorLaid Tryd.prog 400 os) #[.slice none 0 0] 8 rfl (World.shaped_of_RefB (by kernel_rfl) (by kernel_rfl)) (by kernel_rfl) (by kernel_rfl) (by kernel_rfl) (loads_door os _)) ?_
  intro W base args ds gs before hval0 hW _ _ hL _
  have hval : ∀ (j : Nat) t v, Tryd.f4.params[j]? = some t → args[j]? = some v → Value.okWide Tryd.prog W .any base t v := hval0
  have hW' := hW
  obtain ⟨p, q, hA0, hV, rfl, hfz, hnd⟩ := hW
  have hA : DataW.TrodAll enc Tryd.prog W 0 (fun _ => true) true Tryd.f4.params.toList args.toList ds p := hA0
  rw [Tryd.params4] at hA hval
  obtain ⟨v0, d0, rfl, rfl, h0⟩ := trodAll_one hA
  obtain ⟨rfl, rfl⟩ := trodVars_none hV
  have hg := loads_handle hL
  have hT := loads_table hL
  have hge : 0 < W.heap.size := World.block_lt_of_cell? W _ hg
  have hgt : 1 < W.heap.size := World.block_lt_of_cell? W _ (hT 0 _ rfl)
  obtain ⟨a, len, cap, rfl⟩ := okWide_slice Tryd.underlying40 (hval 0 40 v0 rfl rfl)
  have k0 := h0
  have lt0 : ∀ x ∈ p, x.block < W.heap.size := by obtain ⟨m, hm⟩ := k0; exact DataW.trod_lt m _ _ _ hm
  have fin : ∀ (e : Ending) (W' : World), e = .returned (.bool true) ∧ Below W.heap.size W W' → ∃ v, e = .returned v ∧ Rows.loadsSpec.post enc Tryd.prog Tryd.f4 false true false false W #[.slice a len cap] v W' := by
    rintro e W' ⟨rfl, bel⟩
    exact ⟨_, rfl, _, _, _, [], _, [], hW', trodAll_mk1 (shut_bool Tryd.underlying4 _), trodAll_mk1 (Below.trod laidOut (by kernel_rfl) (of_decide_eq_true (by kernel_rfl)) k0 bel lt0), rfl, bel.frame _, fun h => by cases h⟩
  obtain ⟨fuel, hf⟩ := h0
  clear hA0 hval0
  rcases open_ints Tryd.underlying40 Tryd.underlying5 cells_byte hf with ⟨hcs, hx⟩ | ⟨x, l, c, zs, hcs, hbase, hl, hm, hz, hx, hcell, hws⟩
  · simp [Value.cells] at hcs
    obtain ⟨rfl, rfl, rfl⟩ := hcs
    exact (loads_all none 0 0 0 [] W (fun j => by simp) (by simp) (by simp) (by simp) (fun j hj => by simp at hj) (by simp) hT hgt hg hge).mono fin
  · simp only [Value.cells, List.cons.injEq, Value.slice.injEq, and_true] at hcs
    obtain ⟨rfl, rfl, rfl⟩ := hcs
    simp only [if_true] at hz
    by_cases hlong : 200000 < len
    · exact (loads_long (some x) len cap W hlong (by omega)).mono fin
    by_cases hzero : len = 0
    · subst hzero
      exact (loads_all (some x) 0 0 cap [] W (fun j => by simp) (by simp) (by simp) (by simp) (fun j hj => by simp at hj) (by simp) hT hgt hg hge).mono fin
    obtain ⟨b, off, spot⟩ := x
    have hc0 := hcell 0 (by omega)
    have hspot : spot = none := by simpa [Addr.add] using World.cell?_spot hc0
    subst hspot
    have hbw : b < W.heap.size := by have := World.block_lt_of_cell? W _ hc0; rwa [addr_add] at this
    have htl : (zs.take len).length = len := by rw [List.length_take]; omega
    have hcell' : BView W b off (zs.take len) := by
      intro i hi
      rw [htl] at hi
      have := hcell i (by omega)
      rw [addr_add] at this
      rw [this]
      simp [List.getD, hi]
    have hby : IsBytes (zs.take len) := by
      intro j
      by_cases hj : j < len
      · have hz2 : (zs.take len).getD j 0 ∈ zs := by
          have : (zs.take len).getD j 0 = zs[j]'(by omega) := by simp [List.getD, hj, List.getElem?_eq_getElem (show j < zs.length by omega)]
          rw [this]; exact List.getElem_mem _
        exact bounds_u8 (hws _ hz2)
      · rw [List.getD, List.getElem?_eq_none (by omega)]
        exact ⟨Int.le_refl 0, by decide⟩
    have main := loads_all (some ⟨b, off, none⟩) b off cap (zs.take len) W hby (by omega) (by omega) (fun _ => rfl) hcell' (fun _ => hbw) hT hgt hg hge
    rw [htl] at main
    exact main.mono fin

theorem loads_holds : Rows.LoadsSaid :=
  OpenClaim.holds_of_wide 4 Tryd.f4 rfl rfl rfl rfl rfl rfl rfl ⟨rfl, rfl, rfl, rfl, rfl⟩ rfl rfl rfl rfl rfl (by kernel_rfl) Tryd.func4 (by kernel_rfl)
    (of_decide_eq_true (by kernel_rfl)) (by unfold Func.isWrapper; rw [if_neg (of_decide_eq_false (by kernel_rfl))]; exact ⟨rfl, rfl⟩)
    (fun os started H enc _ => loads_lifted os started H enc)

theorem loads_card_holds : Rows.LoadsCardSaid :=
  Claim7.holds_tied_plain_at .later [] [.handle, .data] true (true, "1d1b8fb451e5aecfbd1b6ebbb2e2987caf0b111bdd890cce69b11fabe2b118df") true
    loads_holds (fun _ h => by cases h) (by kernel_rfl) (fun _ h => by cases h) loads_row_tie rfl ⟨rfl, rfl⟩ (by kernel_rfl) rfl
    (fun f fn hf hfn => by
      obtain rfl : f = 4 := Option.some.inj ((show Tryd.prog.funcNamed "tinyos/tinyoslaw.Loads" = some 4 by kernel_rfl).symm.trans hf) |>.symm
      obtain rfl : fn = Tryd.f4 := (Option.some.inj (Tryd.func4.symm.trans hfn)).symm
      exact ⟨by kernel_rfl, fun j t ht => by
        rw [Tryd.params4] at ht
        match j, ht with
        | 0, ht => obtain rfl : t = 40 := by simpa using ht.symm
                   exact (show Tryd.prog.wantsStandIn 40 = false by kernel_rfl)
        | (k + 1), ht => simp at ht⟩)
    (by kernel_rfl)
#print axioms loads_card_holds
end Go.Proofs.YtkkpeboejgkmaaaDoor
