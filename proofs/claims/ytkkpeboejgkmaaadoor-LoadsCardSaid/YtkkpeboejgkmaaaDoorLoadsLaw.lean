/- Loads: the law. -/
import Derived.Test.YtkkpeboejgkmaaaDoorLoadSplit
import Derived.Test.YtkkpeboejgkmaaaDoorLoadTop
import Derived.Test.YtkkpeboejgkmaaaDoorStacksLaw
namespace Go.Proofs.YtkkpeboejgkmaaaDoor
open Go.RowKit
set_option linter.unusedVariables false
set_option linter.unusedSimpArgs false

set_option maxRecDepth 100000 in
set_option maxHeartbeats 2000000 in
theorem loads_bad (a : Option Addr) (b off cap : Nat) (B : List Int) (w : World) (hB : IsBytes B) (hn : B.length ≤ 200000) (ha : 0 < B.length → a = some ⟨b, off, none⟩) (hv : BView w b off B) (hbw : 0 < B.length → b < w.heap.size)
    (ht : w.rangeAt 1 0 tblRow) (hgw : 1 < w.heap.size) (hg : w.cell? ⟨0, 0, none⟩ = some (.iface 116 (.agg #[.pointer (some ⟨3, 28, none⟩)]))) (hge : 0 < w.heap.size)
    (href : ∀ w', Below w.heap.size w w' → Calls Tryd.prog 14 #[.slice a B.length cap] w' fun e w'' => RefLoadPost B w' e w'') (c : Int) (hc : Bad B c) :
    Calls Tryd.prog 4 #[.slice a B.length cap] w fun e w' => e = .returned (.bool true) ∧ Below w.heap.size w w' := by
  have HRM := hide (roomy_any a b off cap B w ha hv hbw (by omega))
  have HB := hide hB
  have HA := hide ha
  have HV := hide hv
  have HBW := hide hbw
  have HT := hide ht
  have HG := hide hg
  have HRF := hide href
  have HC := hide hc
  have hnp := nilPages
  obtain ⟨c2, c5⟩ := hc.code
  have hc0 : (c == 0) = false := by simp; omega
  clear hB ha hv hbw ht hg href hc
  go_enter Tryd.func4, Tryd.ntmps4
  go_wp2_with fail
  refine (unhide HRM).mono ?_
  rintro e w1 ⟨rfl, hh1, hb1⟩
  have hs1 := hh1.lt
  have H1 := hide hh1
  have B1 := hide hb1
  have HLT := hide (load_top w.heap.size 0 (B.length + 2) B w1 (unhide HB) (by omega) (by omega) (roomy_view hh1) hs1 (fun j v hj => by rw [hb1.cell (p := ⟨1, 0 + j, none⟩) hgw]; exact unhide HT j v hj) (by omega))
  clear hh1 hb1 HRM
  go_wp2_with fail
  refine (unhide HLT).mono ?_
  intro e w2 hp
  have hb2 := hp.2
  rcases exe_split (unhide HB) hp with ⟨c', hc', rfl⟩ | ⟨hgood, _⟩
  case inr => exact (Bad.notGood (unhide HC) hgood).elim
  have hcc := Bad.uniq hc' (unhide HC)
  subst hcc
  unfold errPlan noPlan
  have hs2 := hb2.size
  obtain ⟨W, hW⟩ : ∃ W, W = w2.alloc (.cells #[.int .u64 0, .slice none 0 0] 45) := ⟨_, rfl⟩
  have hal : Below w2.heap.size w2 W := by rw [hW]; exact (Below.refl _ _).alloc (Nat.le_refl _) _
  have hbx : Holds W w2.heap.size 45 [.int .u64 0, .slice none 0 0] := by rw [hW]; exact Holds.new _ _ _
  have hbW : Below w.heap.size w W := ((unhide B1).trans (hb2.mono (by omega))).trans (hal.mono (by omega))
  have hhW : Holds W w.heap.size 5 (bytesRow (B ++ [71, 72])) := ((unhide H1).below hb2 hs1).below hal (by omega)
  have hsW := hal.size
  have HW := hide hW
  have HBX := hide hbx
  have HBWW := hide hbW
  have HHW := hide hhW
  have hxl := hbx.lt
  have HTS := hide (tell_some c' W (by rw [hbW.cell (p := ⟨0, 0, none⟩) hge]; exact unhide HG))
  clear hp hb2 hal hbx hbW hhW hW HLT hc' B1 H1
  go_wp2_with fail
  rw [← unhide HW]
  refine (unhide HTS).mono ?_
  rintro e w3 ⟨rfl, hb3⟩
  have hs3 := hb3.size
  have HBX3 := hide ((unhide HBX).below hb3 hxl)
  have HH3 := hide ((unhide HHW).below hb3 (by omega))
  have HB3 := hide ((unhide HBWW).trans (hb3.mono (by omega)))
  have HSTI := hide (still_any w.heap.size a b off cap B w3 (unhide HH3) (unhide HA) (by
    intro j hj
    rw [(unhide HB3).cell (p := ⟨b, off + j, none⟩) (unhide HBW (by omega))]; exact unhide HV j hj) (by omega))
  clear hb3 HBX HHW HBWW HTS
  go_wp2_with fail
  refine (unhide HSTI).mono ?_
  rintro e w4 ⟨rfl, hg4⟩
  have hs4 := hg4.size
  have HBX4 := hide ((unhide HBX3).grown hg4 (by simp; omega))
  have HB4 := hide ((unhide HB3).trans (below_grown hg4 (Nat.le_refl _) (by omega)))
  have HRL := hide (unhide HRF w4 (unhide HB4))
  clear hg4 HSTI HBX3 HB3 HH3
  go_wp2_with fail
  refine (unhide HRL).mono ?_
  intro e w5 hp5
  have hb5 := hp5.2
  rcases ref_split hp5 with ⟨c5', hc5', rfl⟩ | ⟨hgood, _⟩
  case inr => exact (Bad.notGood (unhide HC) hgood).elim
  have hcc := Bad.uniq hc5' (unhide HC)
  subst hcc
  unfold refErr
  have HBX5 := hide ((unhide HBX4).below hb5 (by omega))
  have HB5 := hide ((unhide HB4).trans (hb5.mono (by have := (unhide HB4).size; omega)))
  have x0 : w5.cell? ⟨w2.heap.size, 0, none⟩ = some (.int .u64 0) := (unhide HBX5).cell rfl
  have x1 : w5.cell? ⟨w2.heap.size, 1, none⟩ = some (.slice none 0 0) := (unhide HBX5).cell rfl
  have HSM := hide (samePages_any none none 0 0 0 0 [] w5 (fun h => by simp at h) (fun h => by simp at h) (fun i p hp => by simp at hp) (fun i p hp => by simp at hp) (fun p hp => by simp at hp) (by simp))
  clear hp5 hb5 hc5' HRL HBX4 HB4
  go_wp2_with fail
  refine (unhide HSM).mono ?_
  rintro e w6 ⟨rfl, hh6, hb6⟩
  have HBX6 := hide ((unhide HBX5).heap hh6)
  have z0 : w6.cell? ⟨w2.heap.size, 0, none⟩ = some (.int .u64 0) := (unhide HBX6).cell rfl
  have z1 : w6.cell? ⟨w2.heap.size, 1, none⟩ = some (.slice none 0 0) := (unhide HBX6).cell rfl
  have HB6 := hide ((unhide HB5).trans (hb6.mono (unhide HB5).size))
  clear hh6 hb6 HSM HBX5 HB5 x0 x1
  go_wp2_with (go_at_call 9; refine (num_any' _ _).mono ?_; rintro e w' ⟨rfl, rfl⟩)
  go_ret
  exact ⟨rfl, unhide HB6⟩
set_option maxRecDepth 100000 in
set_option maxHeartbeats 2000000 in
theorem loads_good (a : Option Addr) (b off cap : Nat) (B : List Int) (w : World) (hB : IsBytes B) (hn : B.length ≤ 200000) (ha : 0 < B.length → a = some ⟨b, off, none⟩) (hv : BView w b off B) (hbw : 0 < B.length → b < w.heap.size)
    (ht : w.rangeAt 1 0 tblRow) (hgw : 1 < w.heap.size) (hg : w.cell? ⟨0, 0, none⟩ = some (.iface 116 (.agg #[.pointer (some ⟨3, 28, none⟩)]))) (hge : 0 < w.heap.size)
    (href : ∀ w', Below w.heap.size w w' → Calls Tryd.prog 14 #[.slice a B.length cap] w' fun e w'' => RefLoadPost B w' e w'') (hgd : Good B) :
    Calls Tryd.prog 4 #[.slice a B.length cap] w fun e w' => e = .returned (.bool true) ∧ Below w.heap.size w w' := by
  have HRM := hide (roomy_any a b off cap B w ha hv hbw (by omega))
  have HB := hide hB
  have HA := hide ha
  have HV := hide hv
  have HBW := hide hbw
  have HT := hide ht
  have HG := hide hg
  have HRF := hide href
  have HC := hide hgd
  have HOK := hide (outPgs_ok hgd)
  have hlo : (outPgs B).length ≤ 256 := refPgs_len hgd.2.2.1
  obtain ⟨PS, hPS⟩ : ∃ PS, PS = outPgs B := ⟨_, rfl⟩
  obtain ⟨E, hE⟩ : ∃ E, E = numAt B 24 8 := ⟨_, rfl⟩
  rw [← hPS] at HOK hlo
  have HPS := hide hPS
  have HE := hide hE
  clear hB ha hv hbw ht hg href hgd hPS hE
  go_enter Tryd.func4, Tryd.ntmps4
  go_wp2_with fail
  refine (unhide HRM).mono ?_
  rintro e w1 ⟨rfl, hh1, hb1⟩
  have hs1 := hh1.lt
  have H1 := hide hh1
  have B1 := hide hb1
  have HLT := hide (load_top w.heap.size 0 (B.length + 2) B w1 (unhide HB) (by omega) (by omega) (roomy_view hh1) hs1 (fun j v hj => by rw [hb1.cell (p := ⟨1, 0 + j, none⟩) hgw]; exact unhide HT j v hj) (by omega))
  clear hh1 hb1 HRM
  go_wp2_with fail
  refine (unhide HLT).mono ?_
  intro e w2 hp
  have hb2 := hp.2
  rcases exe_split (unhide HB) hp with ⟨c', hc', _⟩ | ⟨_, g, gc, hr, how2⟩
  case inl => exact (Bad.notGood hc' (unhide HC)).elim
  rw [← unhide HPS, ← unhide HE] at hr
  rw [← unhide HPS] at how2
  subst hr
  have hs2 := hb2.size
  obtain ⟨W, hW⟩ : ∃ W, W = w2.alloc (.cells #[.int .u64 E, .slice (some ⟨g, 0, none⟩) PS.length gc] 45) := ⟨_, rfl⟩
  have hal : Below w2.heap.size w2 W := by rw [hW]; exact (Below.refl _ _).alloc (Nat.le_refl _) _
  have hbx : Holds W w2.heap.size 45 [.int .u64 E, .slice (some ⟨g, 0, none⟩) PS.length gc] := by rw [hW]; exact Holds.new _ _ _
  have hbW : Below w.heap.size w W := ((unhide B1).trans (hb2.mono (by omega))).trans (hal.mono (by omega))
  have hhW : Holds W w.heap.size 5 (bytesRow (B ++ [71, 72])) := ((unhide H1).below hb2 hs1).below hal (by omega)
  have hsW := hal.size
  have HW := hide hW
  have HBX := hide hbx
  have HBWW := hide hbW
  have HHW := hide hhW
  have hxl := hbx.lt
  have hgb := how2.lt g rfl
  have HOW := hide (own_below how2 (hide hal))
  have HTS := hide (tell_nil W)
  clear hp hb2 hal hbx hbW hhW hW HLT how2 B1 H1
  go_wp2_with fail
  rw [← unhide HW]
  refine (unhide HTS).mono ?_
  rintro e w3 ⟨rfl, hb3⟩
  have hs3 := hb3.size
  have HBX3 := hide ((unhide HBX).below hb3 hxl)
  have HH3 := hide ((unhide HHW).below hb3 (by omega))
  have HB3 := hide ((unhide HBWW).trans (hb3.mono (by omega)))
  have HSTI := hide (still_any w.heap.size a b off cap B w3 (unhide HH3) (unhide HA) (by
    intro j hj
    rw [(unhide HB3).cell (p := ⟨b, off + j, none⟩) (unhide HBW (by omega))]; exact unhide HV j hj) (by omega))
  have HOW3 := hide (own_below (unhide HOW) (hide hb3))
  clear hb3 HBX HHW HBWW HTS HOW
  go_wp2_with fail
  refine (unhide HSTI).mono ?_
  rintro e w4 ⟨rfl, hg4⟩
  have hs4 := hg4.size
  have HBX4 := hide ((unhide HBX3).grown hg4 (by simp; omega))
  have HB4 := hide ((unhide HB3).trans (below_grown hg4 (Nat.le_refl _) (by omega)))
  have HRL := hide (unhide HRF w4 (unhide HB4))
  have HOW4 := hide ((unhide HOW3).kept hg4 (.inr (by show some g ≠ some w.heap.size; simp; omega)))
  clear hg4 HSTI HBX3 HB3 HH3 HOW3
  go_wp2_with fail
  refine (unhide HRL).mono ?_
  intro e w5 hp5
  have hb5 := hp5.2
  rcases ref_split hp5 with ⟨c', hc', _⟩ | ⟨_, g5, gc5, hr5, how5⟩
  case inl => exact (Bad.notGood hc' (unhide HC)).elim
  rw [← unhide HPS, ← unhide HE] at hr5
  rw [← unhide HPS] at how5
  subst hr5
  have HOW5 := hide (own_below (unhide HOW4) (hide hb5))
  have hby : ∀ p ∈ PS, p.bytes.length = 256 := fun p hp => (unhide HOK p hp).2.2
  have HBX5 := hide ((unhide HBX4).below hb5 (by omega))
  have HB5 := hide ((unhide HB4).trans (hb5.mono (by have := (unhide HB4).size; omega)))
  have x0 : w5.cell? ⟨w2.heap.size, 0, none⟩ = some (.int .u64 E) := (unhide HBX5).cell rfl
  have x1 : w5.cell? ⟨w2.heap.size, 1, none⟩ = some (.slice (some ⟨g, 0, none⟩) PS.length gc) := (unhide HBX5).cell rfl
  have HSM := hide (samePages_any (some ⟨g, 0, none⟩) (some ⟨g5, 0, none⟩) g g5 gc gc5 PS w5 (fun _ => rfl) (fun _ => rfl) (api_at hby (unhide HOW5)) (ref_at hby how5) (unhide HOK) (by omega))
  clear hp5 hb5 how5 hby HRL HBX4 HB4 HOW4 HOW5
  go_wp2_with fail
  refine (unhide HSM).mono ?_
  rintro e w6 ⟨rfl, hh6, hb6⟩
  have HBX6 := hide ((unhide HBX5).heap hh6)
  have z0 : w6.cell? ⟨w2.heap.size, 0, none⟩ = some (.int .u64 E) := (unhide HBX6).cell rfl
  have z1 : w6.cell? ⟨w2.heap.size, 1, none⟩ = some (.slice (some ⟨g, 0, none⟩) PS.length gc) := (unhide HBX6).cell rfl
  have HB6 := hide ((unhide HB5).trans (hb6.mono (unhide HB5).size))
  clear hh6 hb6 HSM HBX5 HB5 x0 x1
  go_wp2_with (go_at_call 9; refine (num_any' _ _).mono ?_; rintro e w' ⟨rfl, rfl⟩)
  go_ret
  exact ⟨rfl, unhide HB6⟩
theorem loads_all (a : Option Addr) (b off cap : Nat) (B : List Int) (w : World) (hB : IsBytes B) (hn : B.length ≤ 200000) (hcap : B.length ≤ cap) (ha : 0 < B.length → a = some ⟨b, off, none⟩) (hv : BView w b off B) (hbw : 0 < B.length → b < w.heap.size)
    (ht : w.rangeAt 1 0 tblRow) (hgw : 1 < w.heap.size) (hg : w.cell? ⟨0, 0, none⟩ = some (.iface 116 (.agg #[.pointer (some ⟨3, 28, none⟩)]))) (hge : 0 < w.heap.size) :
    Calls Tryd.prog 4 #[.slice a B.length cap] w fun e w' => e = .returned (.bool true) ∧ Below w.heap.size w w' := by
  have href : ∀ w', Below w.heap.size w w' → Calls Tryd.prog 14 #[.slice a B.length cap] w' fun e w'' => RefLoadPost B w' e w'' := by
    intro w' hb
    rcases Nat.eq_zero_or_pos B.length with h0 | h0
    · have e : B = [] := List.eq_nil_of_length_eq_zero h0
      subst e
      exact load_ref_none a cap w'
    · rw [ha h0]
      exact load_ref b off cap B w' hB hcap (by omega) (hv.below hb (hbw h0)) (by have := hbw h0; have := hb.size; omega)
  rcases bad_or_good B with ⟨c, hc⟩ | hgd
  · exact loads_bad a b off cap B w hB hn ha hv hbw ht hgw hg hge href c hc
  · exact loads_good a b off cap B w hB hn ha hv hbw ht hgw hg hge href hgd
end Go.Proofs.YtkkpeboejgkmaaaDoor
