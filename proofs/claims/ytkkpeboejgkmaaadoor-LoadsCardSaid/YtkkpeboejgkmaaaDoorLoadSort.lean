/- slices.SortFunc at segments, by their addresses. -/
import Derived.Test.YtkkpeboejgkmaaaDoorLoadSegs
import Derived.Test.YtkkpeboejgkmaaaDoorLoadLay
namespace Go.Proofs.YtkkpeboejgkmaaaDoor
open Go.RowKit
set_option linter.unusedVariables false
set_option linter.unusedSimpArgs false

abbrev seg0 : Seg := ⟨0, 0, 0, 0, 0⟩
def addrCmp (x y : Seg) : Int := if x.addr < y.addr then -1 else if y.addr < x.addr then 1 else 0
theorem addrCmp_neg (x y : Seg) : addrCmp x y < 0 ↔ x.addr < y.addr := by
  unfold addrCmp
  split
  · simp [*]
  · split <;> simp [*]

set_option maxHeartbeats 400000 in
theorem isNaN_no (x : Int) (w : World) : Calls Tryd.prog 55 #[.int .u64 x] w fun e w' => e = .returned (.bool false) ∧ w' = w := by
  have h : (x != x) = false := by simp
  go_enter Tryd.func55, Tryd.ntmps55
  go_wp2
  go_ret
  exact ⟨rfl, rfl⟩
set_option maxHeartbeats 400000 in
theorem cmpU64 (x y r : Int) (w : World) (hr : r = if x < y then -1 else if y < x then 1 else 0) : Calls Tryd.prog 42 #[.int .u64 x, .int .u64 y] w fun e w' => e = .returned (.int .i64 r) ∧ w' = w := by
  have H := hide isNaN_no
  by_cases h1 : x < y
  · rw [if_pos h1] at hr
    subst hr
    go_enter Tryd.func42, Tryd.ntmps42
    go_wp2_with (go_at_call 55; refine (unhide H _ _).mono ?_; rintro e w' ⟨rfl, rfl⟩)
    go_ret
    exact ⟨rfl, rfl⟩
  · rw [if_neg h1] at hr
    by_cases h2 : y < x
    · rw [if_pos h2] at hr
      subst hr
      go_enter Tryd.func42, Tryd.ntmps42
      go_wp2_with (go_at_call 55; refine (unhide H _ _).mono ?_; rintro e w' ⟨rfl, rfl⟩)
      go_ret
      exact ⟨rfl, rfl⟩
    · rw [if_neg h2] at hr
      subst hr
      go_enter Tryd.func42, Tryd.ntmps42
      go_wp2_with (go_at_call 55; refine (unhide H _ _).mono ?_; rintro e w' ⟨rfl, rfl⟩)
      go_ret
      exact ⟨rfl, rfl⟩
set_option maxHeartbeats 1000000 in
theorem closure_any (b off cap : Nat) (x y : Seg) (W : World) : Calls Tryd.prog 41 #[.agg (segCells b off cap x).toArray, .agg (segCells b off cap y).toArray] W fun e w' => e = .returned (.int .i64 (addrCmp x y)) ∧ ∃ q os', w' = Go.Sort.grow (W.drewN q) os' := by
  have H := hide (fun w => cmpU64 x.addr y.addr (addrCmp x y) w rfl)
  generalize addrCmp x y = r at H ⊢
  unfold segCells
  go_enter Tryd.func41, Tryd.ntmps41
  go_wp2_with (go_at_call 42; refine (unhide H _).mono ?_; rintro e w' ⟨rfl, rfl⟩)
  go_ret
  exact ⟨rfl, 0, _, by rw [Go.Sort.alloc_eq_grow, Go.Sort.alloc_eq_grow, Go.Sort.grow_grow]; rfl⟩

theorem segsRow_get (b off cap : Nat) : ∀ (ss : List Seg) (i j : Nat) (s : Seg), j < 5 → ss[i]? = some s → (segsRow b off cap ss)[i * 5 + j]? = (segCells b off cap s)[j]?
  | [], i, j, s, _, h => by simp at h
  | x :: r, 0, j, s, hj, h => by
    obtain rfl : x = s := by simpa using h
    rw [segsRow, List.flatMap_cons, Nat.zero_mul, Nat.zero_add, List.getElem?_append_left (show j < (segCells b off cap x).length from hj)]
  | x :: r, i + 1, j, s, hj, h => by
    have ih := segsRow_get b off cap r i j s hj (by simpa using h)
    rw [segsRow, List.flatMap_cons, List.getElem?_append_right (show (segCells b off cap x).length ≤ (i + 1) * 5 + j from by show 5 ≤ _; omega)]
    rw [show (i + 1) * 5 + j - (segCells b off cap x).length = i * 5 + j from by show (i + 1) * 5 + j - 5 = _; omega]
    exact ih
section
variable [Inhabited Seg]
theorem flat_row (b off cap : Nat) (ss : List Seg) : Go.Sort.flatK (segCells b off cap) 5 ss.toArray = (segsRow b off cap ss).toArray := by
  apply Go.Sort.ext_get!
  · simp [segsRow_length]
  · intro t ht
    have ht' : t < ss.length * 5 := by simpa using ht
    rw [Go.Sort.get_flatK _ _ _ _ (by simpa using ht')]
    have hi : t / 5 < ss.length := by omega
    have h := segsRow_get b off cap ss (t / 5) (t % 5) ss[t / 5] (Nat.mod_lt _ (by omega)) (List.getElem?_eq_getElem hi)
    rw [show t / 5 * 5 + t % 5 = t from by omega] at h
    have e : ss.toArray[t / 5]! = ss[t / 5] := by simp [getElem!_pos, hi]
    rw [e]
    simp only [List.getElem!_toArray, List.getElem!_eq_getElem?_getD, h]
theorem holdsK_of {w : World} {g : Nat} {t : TypeId} {b off cap : Nat} {ss : List Seg} (h : Holds w g t (segsRow b off cap ss)) : Go.Sort.HoldsK (segCells b off cap) 5 w g 0 ss.toArray := by
  unfold Go.Sort.HoldsK
  rw [flat_row]
  intro j hj
  rw [Nat.zero_add]
  refine ⟨?_, h.frozen j⟩
  have hj' : j < (segsRow b off cap ss).length := by simpa using hj
  rw [h.cell (List.getElem?_eq_getElem hj')]
  simp [getElem!_pos, hj']
theorem holds_sorted {w : World} {g : Nat} {t : TypeId} {b off cap : Nat} {ss ss' : List Seg} (h : Holds w g t (segsRow b off cap ss)) (hl : ss'.length = ss.length) (m : Nat) (os : Array Obj) :
    Holds (sortWorldK (segCells b off cap) 5 w g 0 m ss'.toArray os) g t (segsRow b off cap ss') ∧ w.grownBy (sortWorldK (segCells b off cap) 5 w g 0 m ss'.toArray os) (some g) := by
  have hlt := h.lt
  have hl2 : (segsRow b off cap ss').length = (segsRow b off cap ss).length := by rw [segsRow_length, segsRow_length, hl]
  unfold sortWorldK Go.Sort.grow Go.Sort.putRowK Go.Sort.putRow Go.Sort.mapBlock Go.Sort.ahead
  rw [flat_row]
  constructor
  · unfold Holds at h ⊢
    simp only
    rw [Array.getElem?_append_left (by simpa using hlt), Array.getElem?_modify, if_pos rfl, h]
    simp only [Option.map_some, Go.Sort.onCells, Option.some.injEq, Obj.cells.injEq, and_true]
    unfold Go.Sort.putCells
    apply Array.ext
    · simp [hl2]
    · intro i h1 h2
      have h2' : i < (segsRow b off cap ss').length := by simpa using h2
      simp [h2', getElem!_pos]
  · refine ⟨rfl, rfl, rfl, by simp, fun k hk hne => ?_⟩
    simp only
    rw [Array.getElem?_append_left (by simpa using hk), Array.getElem?_modify, if_neg (fun e => hne (by rw [e]))]
end
theorem addr_swo : Go.Sort.SWO (ltOf addrCmp) where
  irrefl x := by simp only [ltOf, addrCmp_neg]; simp
  trans x y z h1 h2 := by simp only [ltOf, addrCmp_neg, decide_eq_true_eq] at *; omega
  ntrans x y z h1 h2 := by simp only [ltOf, addrCmp_neg, decide_eq_false_iff_not] at *; omega
theorem bitsLen_some (n : Nat) (W : World) (h : n ≤ 12) : Calls Tryd.prog 54 #[.int .u64 n] W fun e w' => (∃ l : Int, e = .returned (.int .i64 l)) ∧ w' = W :=
  (Any.bits_Len bitsLen n W (by omega) (by omega)).mono fun _ _ ⟨he, hw⟩ => ⟨⟨_, he⟩, hw⟩
theorem sort_any (b off cap g c : Nat) (ss : List Seg) (w : World) (h : Holds w g 106 (segsRow b off cap ss)) (h8 : ss.length ≤ 8) :
    Calls Tryd.prog 40 #[.slice (some ⟨g, 0, none⟩) ss.length c, .func (.func 41) #[] #[]] w fun e w' =>
      e = .returned (.tuple #[]) ∧ ∃ ss' : List Seg, ss'.Perm ss ∧ (∀ i j, i < j → j < ss'.length → (ss'.getD i seg0).addr ≤ (ss'.getD j seg0).addr) ∧ Holds w' g 106 (segsRow b off cap ss') ∧ w.grownBy w' (some g) := by
  haveI hinh : Inhabited Seg := ⟨seg0⟩
  have eg : ∀ args w, (callFunc 41 args).run Tryd.prog w = .ok (.enter 41 args) w := enters_of Tryd.func41 (by kernel_rfl) rfl
  have hcon := AnyQ.slices_SortFunc_small_sorted sortSeg 5 Tryd.isAgg106 Tryd.sizeOf106 (segCells b off cap) (fun _ => rfl) (segCells_one b off cap) addrCmp 41 #[] addr_swo g 0 c ss.toArray w eg (fun _ _ _ _ x y => closure_any b off cap x y _) (holdsK_of h) h.lt (by simp; omega) (fun n W hn => bitsLen_some n W hn)
  change Calls Tryd.prog 40 #[.slice (some ⟨g, 0, none⟩) ss.length c, .func (.func 41) #[] #[]] w _ at hcon
  refine hcon.mono ?_
  rintro e w' ⟨he, d', n, os, hp, hs, rfl⟩
  refine ⟨he, d'.toList, ?_, ?_, ?_⟩
  · have := hp.2.2
    have hsz := hp.1
    simp only [List.size_toArray] at this hsz
    rw [show d'.extract 0 ss.length = d' from by rw [← hsz]; simp] at this
    simpa using this
  · intro i j hij hj
    have hsz := hp.1
    simp only [List.size_toArray] at hsz
    have := hs i j (Nat.zero_le _) hij (by simp only [List.size_toArray]; simpa [hsz] using hj)
    simp only [ltOf, addrCmp_neg, decide_eq_false_iff_not] at this
    have hj' : j < d'.size := by simpa using hj
    have hi' : i < d'.size := by omega
    rw [getElem!_pos d' j hj', getElem!_pos d' i hi'] at this
    simp only [List.getD, Array.getElem?_toList, Array.getElem?_eq_getElem hj', Array.getElem?_eq_getElem hi', Option.getD_some]
    omega
  · have hsz := hp.1
    have := holds_sorted (ss' := d'.toList) h (by simpa using hsz) n os
    simpa using this
end Go.Proofs.YtkkpeboejgkmaaaDoor
