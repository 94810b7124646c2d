/- Stacks: the row and the tied card. -/
import Derived.Test.YtkkpeboejgkmaaaDoorStacksLaw
import Derived.Test.YtkkpeboejgkmaaaDoorRows
import Derived.Test.YtkkpeboejgkmaaaDoorCards
import Derived.Test.YtkkpeboejgkmaaaDoorTie
import Derived.Test.YtkkpeboejgkmaaaDoorRowBase
import Derived.SliceStrings
import Derived.SevenTiedAt
namespace Go.Proofs.YtkkpeboejgkmaaaDoor
open Go.ChangeShapes Go.WideShapes Go.ChangeAt Go.RowKit

set_option maxHeartbeats 1000000 in
theorem stacks_long (a : Option Addr) (n cap : Nat) (w : World) (h : 1000 < n) (hm : n ≤ maxLen) :
    Calls Tryd.prog 5 #[.slice a n cap] w fun e w' => e = .returned (.bool true) ∧ Below w.heap.size w w' := by
  unfold maxLen at hm
  go_enter Tryd.func5, Tryd.ntmps5
  go_wp2
  go_ret
  exact ⟨rfl, Below.refl _ _⟩

theorem cells_str : Tryd.prog.cellsOf 9 = 1 := by kernel_rfl

set_option maxRecDepth 100000 in
theorem stacks_lifted (os : Os) (started : os.Started) (H : Type) (enc : TypeId × Value → H) :
    ReturnsInHanded {} Tryd.checked os 5 .any (fun w args => (Rows.stacksSpec.pre enc Tryd.prog Tryd.f5 [] false w args ∧ laidMetH Tryd.prog codesLaid w) ∧ sizedMet enc Tryd.prog Tryd.f5 (OpenSpec.ofChange Rows.stacksSpec) false w args)
      (Rows.stacksSpec.post enc Tryd.prog Tryd.f5 false true false false) := by
  refine returnsInHanded_of_change_and (C := Tryd.checked) (X := fun w _ => laidMetH Tryd.prog codesLaid w) (fun _ _ _ hh h => h.of_heap hh) own started (by kernel_rfl) Tryd.func5
    (ChangeSpec.witness_shaped (enc := enc) (C := Tryd.checked) (os := os) (X := fun w _ => laidMetH Tryd.prog codesLaid w) false (World.doorLaid Tryd.prog 400 os) #[.slice none 0 0] 8 rfl (World.shaped_of_RefB (by kernel_rfl) (by kernel_rfl)) (by kernel_rfl) (by kernel_rfl) (by kernel_rfl) (codes_door os _)) ?_
  intro W base args ds gs before hval0 hW _ _ hL _
  have hval : ∀ (j : Nat) t v, Tryd.f5.params[j]? = some t → args[j]? = some v → Value.okWide Tryd.prog W .any base t v := hval0
  have hW' := hW
  obtain ⟨p, q, hA0, hV, rfl, hfz, hnd⟩ := hW
  have hA : DataW.TrodAll enc Tryd.prog W 0 (fun _ => true) true Tryd.f5.params.toList args.toList ds p := hA0
  rw [Tryd.params5] at hA hval
  obtain ⟨v0, d0, rfl, rfl, h0⟩ := trodAll_one hA
  obtain ⟨rfl, rfl⟩ := trodVars_none hV
  have hg := codes_handle hL
  have hlt0 : 0 < W.heap.size := by
    rcases Nat.eq_zero_or_pos W.heap.size with h0 | h
    · simp [World.cell?, h0] at hg
    · exact h
  obtain ⟨a, len, cap, rfl⟩ := okWide_slice Tryd.underlying54 (hval 0 54 v0 rfl rfl)
  have k0 := h0
  have lt0 : ∀ x ∈ p, x.block < W.heap.size := by obtain ⟨m, hm⟩ := k0; exact DataW.trod_lt m _ _ _ hm
  have fin : ∀ (e : Ending) (W' : World), e = .returned (.bool true) ∧ Below W.heap.size W W' → ∃ v, e = .returned v ∧ Rows.stacksSpec.post enc Tryd.prog Tryd.f5 false true false false W #[.slice a len cap] v W' := by
    rintro e W' ⟨rfl, bel⟩
    exact ⟨_, rfl, _, _, _, [], _, [], hW', trodAll_mk1 (shut_bool Tryd.underlying4 _), trodAll_mk1 (Below.trod laidOut (by kernel_rfl) (of_decide_eq_true (by kernel_rfl)) k0 bel lt0), rfl, bel.frame _, fun h => by cases h⟩
  obtain ⟨fuel, hf⟩ := h0
  clear hA0 hval0
  rcases open_strings Tryd.underlying54 Tryd.underlying9 cells_str hf with ⟨hcs, hx⟩ | ⟨x, l, c, ss, hcs, hbase, hl, hm, hz, hx, hcell, hws⟩
  · simp [Value.cells] at hcs
    obtain ⟨rfl, rfl, rfl⟩ := hcs
    exact (stacks_good none 0 0 0 [] W (by simp) (by simp) hlt0 (by simp) rfl).mono fin
  · simp only [Value.cells, List.cons.injEq, Value.slice.injEq, and_true] at hcs
    obtain ⟨rfl, rfl, rfl⟩ := hcs
    simp only [if_true] at hz
    by_cases hlong : 1000 < len
    · exact (stacks_long (some x) len cap W hlong (by omega)).mono fin
    by_cases hzero : len = 0
    · subst hzero
      exact (stacks_good (some x) 0 0 cap [] W (by simp) (by simp) hlt0 (by simp) rfl).mono fin
    obtain ⟨b, off, spot⟩ := x
    have hc0 := hcell 0 (by omega)
    have hspot : spot = none := by simpa [Addr.add] using World.cell?_spot hc0
    subst hspot
    have hbw : b < W.heap.size := by have := World.block_lt_of_cell? W _ hc0; rwa [addr_add] at this
    have htl : (ss.take len).length = len := by rw [List.length_take]; omega
    have hcell' : ∀ i, i < (ss.take len).length → W.cell? ⟨b, off + i, none⟩ = some (.string ((ss.take len).getD i ByteArray.empty)) := by
      intro i hi
      rw [htl] at hi
      have := hcell i (by omega)
      rw [addr_add] at this
      rw [this]
      simp [List.getD, hi]
    have hws' : ∀ s ∈ ss.take len, s.size ≤ maxLen := fun s hs => hws s (List.mem_of_mem_take hs)
    have main : Calls Tryd.prog 5 #[.slice (some ⟨b, off, none⟩) (ss.take len).length cap] W fun e w' => e = .returned (.bool true) ∧ Below W.heap.size W w' := by
      cases hok : okArgs (ss.take len) with
      | true => exact stacks_good _ b off cap (ss.take len) W (by omega) (fun _ => rfl) hbw hcell' hok
      | false => exact stacks_bad _ b off cap (ss.take len) W (by omega) (fun _ => rfl) hbw hcell' hws' hok hg
    rw [htl] at main
    exact main.mono fin

theorem stacks_holds : Rows.StacksSaid :=
  OpenClaim.holds_of_wide 5 Tryd.f5 rfl rfl rfl rfl rfl rfl rfl ⟨rfl, rfl, rfl, rfl, rfl⟩ rfl rfl rfl rfl rfl (by kernel_rfl) Tryd.func5 (by kernel_rfl)
    (of_decide_eq_true (by kernel_rfl)) (by unfold Func.isWrapper; rw [if_neg (of_decide_eq_false (by kernel_rfl))]; exact ⟨rfl, rfl⟩)
    (fun os started H enc _ => stacks_lifted os started H enc)

theorem stacks_card_holds : Rows.StacksCardSaid :=
  Claim7.holds_tied_plain_at .later [] [.handle] true (true, "1d1b8fb451e5aecfbd1b6ebbb2e2987caf0b111bdd890cce69b11fabe2b118df") true
    stacks_holds (fun _ h => by cases h) (by kernel_rfl) (fun _ h => by cases h) stacks_row_tie rfl ⟨rfl, rfl⟩ (by kernel_rfl) rfl
    (fun f fn hf hfn => by
      obtain rfl : f = 5 := Option.some.inj ((show Tryd.prog.funcNamed "tinyos/tinyoslaw.Stacks" = some 5 by kernel_rfl).symm.trans hf) |>.symm
      obtain rfl : fn = Tryd.f5 := (Option.some.inj (Tryd.func5.symm.trans hfn)).symm
      exact ⟨by kernel_rfl, fun j t ht => by
        rw [Tryd.params5] at ht
        match j, ht with
        | 0, ht => obtain rfl : t = 54 := by simpa using ht.symm
                   exact (show Tryd.prog.wantsStandIn 54 = false by kernel_rfl)
        | (k + 1), ht => simp at ht⟩)
    (by kernel_rfl)
#print axioms stacks_card_holds
end Go.Proofs.YtkkpeboejgkmaaaDoor
