/- Stacks: the law out of the contracts. -/
import Derived.Test.YtkkpeboejgkmaaaDoorStackExe
import Derived.Test.YtkkpeboejgkmaaaDoorStackRef
import Derived.Test.YtkkpeboejgkmaaaDoorStackBad
import Derived.Test.YtkkpeboejgkmaaaDoorSame
import Derived.Test.YtkkpeboejgkmaaaDoorFound
namespace Go.Proofs.YtkkpeboejgkmaaaDoor
open Go.RowKit
set_option linter.unusedVariables false
set_option linter.unusedSimpArgs false

set_option maxHeartbeats 1000000 in
theorem stack_top (a : Option Addr) (b off cap : Nat) (ss : List ByteArray) (w : World) (hn : ss.length ≤ 1000) (ha : 0 < ss.length → a = some ⟨b, off, none⟩) (hbw : b < w.heap.size)
    (hcell : ∀ i, i < ss.length → w.cell? ⟨b, off + i, none⟩ = some (.string (ss.getD i ByteArray.empty))) (hok : okArgs ss = true) :
    Calls Tryd.prog 16 #[.slice a ss.length cap] w fun e w' => ∃ g, e = .returned (.tuple #[.slice (some ⟨g, 0, none⟩) 2 2, .int .u64 (65024 + (spOff ss : Int)), .nilIface]) ∧ Holds w' g 80 (pagesTo (stackRoom ss) 2) ∧ w.heap.size ≤ g ∧ Below w.heap.size w w' := by
  have H := hide (stack_exe a b off cap ss w hn ha hbw hcell hok)
  clear ha hcell hok
  go_enter Tryd.func16, Tryd.ntmps16
  go_wp2_with fail
  refine (unhide H).mono ?_
  rintro e w1 ⟨g, rfl, h1, h2, h3⟩
  have H1 := hide h1
  have H3 := hide h3
  clear h1 h3
  go_wp2
  go_ret3
  exact ⟨g, rfl, unhide H1, h2, unhide H3⟩

set_option maxHeartbeats 1000000 in
theorem stack_top_bad (a : Option Addr) (b off cap : Nat) (ss : List ByteArray) (w : World) (hn : ss.length ≤ 1000) (ha : 0 < ss.length → a = some ⟨b, off, none⟩)
    (hcell : ∀ i, i < ss.length → w.cell? ⟨b, off + i, none⟩ = some (.string (ss.getD i ByteArray.empty))) (hok : okArgs ss = false) :
    Calls Tryd.prog 16 #[.slice a ss.length cap] w fun e w' => e = .returned (.tuple #[.slice none 0 0, .int .u64 0, .iface 31 (.int .i64 6)]) ∧ w' = w := by
  have H := hide (stack_exe_bad a b off cap ss w hn ha hcell hok)
  clear ha hcell hok
  go_enter Tryd.func16, Tryd.ntmps16
  go_wp2_with fail
  refine (unhide H).mono ?_
  rintro e w1 ⟨rfl, rfl⟩
  go_wp2
  go_ret3
  exact ⟨rfl, rfl⟩

theorem num_any' (n : Int) (w : World) : Calls Tryd.prog 9 #[.int .i64 n] w fun e w' => e = .returned (.int .i64 n) ∧ w' = w := by
  go_enter Tryd.func9, Tryd.ntmps9
  go_wp2
  go_ret
  exact ⟨rfl, rfl⟩

/-- The two pages as pages. -/
def twoPages (R : List Int) : List Pg := [⟨254, 6, R.take 256⟩, ⟨255, 6, R.drop 256⟩]
theorem twoPages_ok (R : List Int) (h : R.length = 512) : ∀ p ∈ twoPages R, 0 ≤ p.perm ∧ p.perm ≤ 255 ∧ p.bytes.length = 256 := by
  intro p hp
  simp only [twoPages, List.mem_cons, List.mem_nil_iff, or_false] at hp
  rcases hp with rfl | rfl
  · refine ⟨by show (0 : Int) ≤ 6; decide, by show (6 : Int) ≤ 255; decide, ?_⟩
    simp [h]
  · refine ⟨by show (0 : Int) ≤ 6; decide, by show (6 : Int) ≤ 255; decide, ?_⟩
    simp [h]
theorem pair_get {A B : List Value} (hA : A.length = 258) (j : Nat) : (A ++ B)[258 + j]? = B[j]? := by
  rw [List.getElem?_append_right (by omega), hA, Nat.add_sub_cancel_left]
theorem two_api {W : World} {g : Nat} {R : List Int} (hR : R.length = 512) (h : Holds W g 80 (pagesTo R 2)) : ApiAt W g (twoPages R) := by
  have hl : (pageRow 254 6 (R.take 256)).length = 258 := by rw [pageRow_length]; simp [hR]
  have c0 : ∀ j v, (pageRow 254 6 (R.take 256))[j]? = some v → W.cell? ⟨g, j, none⟩ = some v := fun j v hv => h.cell (by
    show (pageRow 254 6 (R.take 256) ++ pageRow 255 6 (R.drop 256))[j]? = some v
    rw [List.getElem?_append_left (List.getElem?_eq_some_iff.1 hv).1]; exact hv)
  have c1 : ∀ j v, (pageRow 255 6 (R.drop 256))[j]? = some v → W.cell? ⟨g, 258 + j, none⟩ = some v := fun j v hv => h.cell (by
    show (pageRow 254 6 (R.take 256) ++ pageRow 255 6 (R.drop 256))[258 + j]? = some v
    rw [pair_get hl]; exact hv)
  intro i p hp
  match i, hp with
  | 0, hp =>
    obtain rfl : (⟨254, 6, R.take 256⟩ : Pg) = p := by simpa [twoPages] using hp
    exact ⟨c0 0 _ rfl, c0 1 _ rfl, fun j v hv => by have := c0 (j + 2) v hv; rw [show 0 * 258 + 2 + j = j + 2 from by omega]; exact this⟩
  | 1, hp =>
    obtain rfl : (⟨255, 6, R.drop 256⟩ : Pg) = p := by simpa [twoPages] using hp
    exact ⟨c1 0 _ rfl, c1 1 _ rfl, fun j v hv => by have := c1 (j + 2) v hv; rw [show 1 * 258 + 2 + j = 258 + (j + 2) from by omega]; exact this⟩
  | (k + 2), hp => simp [twoPages] at hp
theorem two_ref {W : World} {g gc base : Nat} {R : List Int} (hR : R.length = 512) (h : W.ownsRow base 76 258 (.slice (some ⟨g, 0, none⟩) 2 gc) 2 (refPagesTo R 2)) : RefAt W g (twoPages R) := by
  have hl : (refPage 254 6 (R.take 256)).length = 258 := by rw [refPage_length]; simp [hR]
  have hl2 : (refPage 255 6 (R.drop 256)).length = 258 := by rw [refPage_length]; simp [hR]
  have c0 : ∀ j v, (refPage 254 6 (R.take 256))[j]? = some v → W.cell? ⟨g, j, none⟩ = some v := fun j v hv => by
    have hj := (List.getElem?_eq_some_iff.1 hv).1
    rw [h.cellAt j (by omega)]
    show (refPage 254 6 (R.take 256) ++ refPage 255 6 (R.drop 256))[j]? = some v
    rw [List.getElem?_append_left hj]; exact hv
  have c1 : ∀ j v, (refPage 255 6 (R.drop 256))[j]? = some v → W.cell? ⟨g, 258 + j, none⟩ = some v := fun j v hv => by
    have hj := (List.getElem?_eq_some_iff.1 hv).1
    rw [h.cellAt (258 + j) (by omega)]
    show (refPage 254 6 (R.take 256) ++ refPage 255 6 (R.drop 256))[258 + j]? = some v
    rw [pair_get hl]; exact hv
  intro i p hp
  match i, hp with
  | 0, hp =>
    obtain rfl : (⟨254, 6, R.take 256⟩ : Pg) = p := by simpa [twoPages] using hp
    exact ⟨c0 0 _ rfl, c0 1 _ rfl, fun j v hv => by have := c0 (j + 2) v hv; rw [show 0 * 258 + 2 + j = j + 2 from by omega]; exact this⟩
  | 1, hp =>
    obtain rfl : (⟨255, 6, R.drop 256⟩ : Pg) = p := by simpa [twoPages] using hp
    exact ⟨c1 0 _ rfl, c1 1 _ rfl, fun j v hv => by have := c1 (j + 2) v hv; rw [show 1 * 258 + 2 + j = 258 + (j + 2) from by omega]; exact this⟩
  | (k + 2), hp => simp [twoPages] at hp
theorem nilPages (w : World) : (binOp .eql 43 (.slice none 0 0) (.slice none 0 0)).run Tryd.prog w = .ok (.bool true) w := by kernel_rfl

set_option maxRecDepth 100000 in
set_option maxHeartbeats 2000000 in
theorem stacks_good (a : Option Addr) (b off cap : Nat) (ss : List ByteArray) (w : World) (hn : ss.length ≤ 1000) (ha : 0 < ss.length → a = some ⟨b, off, none⟩) (hbw : b < w.heap.size)
    (hcell : ∀ i, i < ss.length → w.cell? ⟨b, off + i, none⟩ = some (.string (ss.getD i ByteArray.empty))) (hok : okArgs ss = true) :
    Calls Tryd.prog 5 #[.slice a ss.length cap] w fun e w' => e = .returned (.bool true) ∧ Below w.heap.size w w' := by
  have hR := stackRoom_length hok
  have HR := hide hR
  have HT := hide (stack_top a b off cap ss w hn ha hbw hcell hok)
  have HC := hide hcell
  have HA := hide ha
  have HO := hide hok
  clear hcell ha hok hR
  go_enter Tryd.func5, Tryd.ntmps5
  go_wp2_with fail
  refine (unhide HT).mono ?_
  rintro e w1 ⟨g, rfl, hp1, hg1, hb1⟩
  have P1 := hide hp1
  have B1 := hide hb1
  have hgl := hp1.lt
  clear hp1 hb1 HT
  go_wp2_with fail
  refine (tell_nil _).mono ?_
  rintro e w2 ⟨rfl, hb2⟩
  have P2 := hide ((unhide P1).below hb2 hgl)
  have B2 := hide ((unhide B1).trans (hb2.mono (unhide B1).size))
  have hgl2 : g < w2.heap.size := (unhide P2).lt
  clear hb2 P1 B1
  have HRf := hide (stack_ref a b off cap ss w2 hn (unhide HA) (by have := (unhide B2).size; omega) (fun i hi => by rw [(unhide B2).cell (p := ⟨b, off + i, none⟩) hbw]; exact (unhide HC) i hi) (unhide HO))
  go_wp2_with fail
  refine (unhide HRf).mono ?_
  rintro e w3 ⟨g3, gc3, rfl, hown3, hb3⟩
  have P3 := hide ((unhide P2).below hb3 hgl2)
  have B3 := hide ((unhide B2).trans (hb3.mono (unhide B2).size))
  have O3 := hide hown3
  clear hb3 hown3 P2 B2 HRf
  have HSM := hide (samePages_any (some ⟨g, 0, none⟩) (some ⟨g3, 0, none⟩) g g3 2 gc3 (twoPages (stackRoom ss)) w3 (fun _ => rfl) (fun _ => rfl) (two_api (unhide HR) (unhide P3)) (two_ref (unhide HR) (unhide O3)) (twoPages_ok _ (unhide HR)) (by simp [twoPages]))
  go_wp2_with fail
  refine (unhide HSM).mono ?_
  rintro e w4 ⟨rfl, hh4, hb4⟩
  have P4 := hide ((unhide P3).heap hh4)
  have B4 := hide ((unhide B3).trans (hb4.mono (unhide B3).size))
  clear hh4 hb4 P3 B3 O3 HSM
  have HF := hide (found_any a b off cap g 2 ss w4 hn (unhide HA) (by have := (unhide B4).size; omega) (fun i hi => by rw [(unhide B4).cell (p := ⟨b, off + i, none⟩) hbw]; exact (unhide HC) i hi) (unhide HO) (unhide P4))
  go_wp2_with (go_at_call 9; refine (num_any' _ _).mono ?_; rintro e w' ⟨rfl, rfl⟩)
  refine (unhide HF).mono ?_
  rintro e w5 ⟨rfl, hb5⟩
  have B5 := hide ((unhide B4).trans (hb5.mono (unhide B4).size))
  clear hb5
  go_wp2
  go_ret
  exact ⟨rfl, unhide B5⟩

set_option maxRecDepth 100000 in
set_option maxHeartbeats 2000000 in
theorem stacks_bad (a : Option Addr) (b off cap : Nat) (ss : List ByteArray) (w : World) (hn : ss.length ≤ 1000) (ha : 0 < ss.length → a = some ⟨b, off, none⟩) (hbw : b < w.heap.size)
    (hcell : ∀ i, i < ss.length → w.cell? ⟨b, off + i, none⟩ = some (.string (ss.getD i ByteArray.empty))) (hs : ∀ s ∈ ss, s.size ≤ maxLen) (hok : okArgs ss = false)
    (hg : w.cell? ⟨0, 0, none⟩ = some (.iface 116 (.agg #[.pointer (some ⟨3, 28, none⟩)]))) :
    Calls Tryd.prog 5 #[.slice a ss.length cap] w fun e w' => e = .returned (.bool true) ∧ Below w.heap.size w w' := by
  have HT := hide (stack_top_bad a b off cap ss w hn ha hcell hok)
  have HC := hide hcell
  have HA := hide ha
  have HO := hide hok
  have HG := hide hg
  have HSZ := hide hs
  have hnp := nilPages
  clear hcell ha hok hg hs
  go_enter Tryd.func5, Tryd.ntmps5
  go_wp2_with fail
  refine (unhide HT).mono ?_
  rintro e w1 ⟨rfl, hw1⟩
  subst hw1
  go_wp2_with fail
  refine (tell_some 6 _ (unhide HG)).mono ?_
  rintro e w2 ⟨rfl, hb2⟩
  have B2 := hide hb2
  clear hb2
  have HRf := hide (stack_ref_bad a b off cap ss w2 hn (unhide HA) (fun i hi => by rw [(unhide B2).cell (p := ⟨b, off + i, none⟩) hbw]; exact (unhide HC) i hi) (unhide HSZ) (unhide HO))
  go_wp2_with fail
  refine (unhide HRf).mono ?_
  rintro e w3 ⟨rfl, hw3⟩
  subst hw3
  have HSM := hide (samePages_any none none 0 0 0 0 [] w3 (fun h => by simp at h) (fun h => by simp at h) (fun i p hp => by simp at hp) (fun i p hp => by simp at hp) (fun p hp => by simp at hp) (by simp))
  go_wp2_with fail
  refine (unhide HSM).mono ?_
  rintro e w4 ⟨rfl, hh4, hb4⟩
  have B4 := hide ((unhide B2).trans (hb4.mono (unhide B2).size))
  clear hh4 hb4 HSM HRf
  go_wp2_with (go_at_call 9; refine (num_any' _ _).mono ?_; rintro e w' ⟨rfl, rfl⟩)
  go_ret
  exact ⟨rfl, unhide B4⟩
end Go.Proofs.YtkkpeboejgkmaaaDoor
