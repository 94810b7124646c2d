/- Codes: the law out of the contracts. -/
import Derived.Test.YtkkpeboejgkmaaaDoorCodesWalks
import Derived.Test.YtkkpeboejgkmaaaDoorArrEq
namespace Go.Proofs.YtkkpeboejgkmaaaDoor
open Go.RowKit

set_option maxHeartbeats 1000000 in
/-- tinyos.Encode hands on what code.Encode hands back. -/
theorem tenc (v er : Value) (x0 x1 x2 x3 op a b im : Int) (hv : v = .agg #[.int .u8 op, .int .i64 a, .int .i64 b, .int .i16 im]) (w : World)
    (h : ∀ w, Calls Tryd.prog 19 #[v] w fun e w' => e = .returned (.tuple #[.agg #[.int .u8 x0, .int .u8 x1, .int .u8 x2, .int .u8 x3], er]) ∧ Below w.heap.size w w') :
    Calls Tryd.prog 6 #[v] w fun e w' => e = .returned (.tuple #[.agg #[.int .u8 x0, .int .u8 x1, .int .u8 x2, .int .u8 x3], er]) ∧ Below w.heap.size w w' := by
  subst hv
  have H := hide h
  clear h
  go_enter Tryd.func6, Tryd.ntmps6
  go_wp2_with fail
  refine (unhide H _).mono ?_
  rintro e w1 ⟨rfl, hb⟩
  obtain ⟨hc, hf⟩ := bcell hb
  have hz : w.heap.size + 1 < w1.heap.size := by have := hb.size; simp at this; omega
  go_wp2
  refine bodyPost_ret (v := .tuple #[.agg #[.int .u8 x0, .int .u8 x1, .int .u8 x2, .int .u8 x3], er]) (by simp [results, Tryd.results6, go_sem, hc]) rfl ⟨rfl, ?_⟩
  exact ((((((((Below.refl _ _).alloc (Nat.le_refl _) _).alloc (by simp) _).trans (hb.mono (by simp; omega))).setCell (by simp) _).setCell (by simp) _).setCell (by simp) _).setCell (by simp) _)

set_option maxHeartbeats 1000000 in
theorem tdec (v er : Value) (x0 x1 x2 x3 c0 c1 c2 c3 : Int) (hv : v = .agg #[.int .u8 c0, .int .u8 c1, .int .u8 c2, .int .u8 c3]) (w : World)
    (h : ∀ w, Calls Tryd.prog 37 #[v] w fun e w' => e = .returned (.tuple #[.agg #[.int .u8 x0, .int .i64 x1, .int .i64 x2, .int .i16 x3], er]) ∧ Below w.heap.size w w') :
    Calls Tryd.prog 21 #[v] w fun e w' => e = .returned (.tuple #[.agg #[.int .u8 x0, .int .i64 x1, .int .i64 x2, .int .i16 x3], er]) ∧ Below w.heap.size w w' := by
  subst hv
  have H := hide h
  clear h
  go_enter Tryd.func21, Tryd.ntmps21
  go_wp2_with fail
  refine (unhide H _).mono ?_
  rintro e w1 ⟨rfl, hb⟩
  obtain ⟨hc, hf⟩ := bcell hb
  have hz : w.heap.size + 1 < w1.heap.size := by have := hb.size; simp at this; omega
  go_wp2
  refine bodyPost_ret (v := .tuple #[.agg #[.int .u8 x0, .int .i64 x1, .int .i64 x2, .int .i16 x3], er]) (by simp [results, Tryd.results21, go_sem, hc]) rfl ⟨rfl, ?_⟩
  exact ((((((((Below.refl _ _).alloc (Nat.le_refl _) _).alloc (by simp) _).trans (hb.mono (by simp; omega))).setCell (by simp) _).setCell (by simp) _).setCell (by simp) _).setCell (by simp) _)

set_option maxHeartbeats 1000000 in
theorem decodes_good (c0 c1 c2 c3 : Int) (w : World) (h1 : 1 ≤ c0) (h2 : c0 ≤ 24) (a1 : 0 ≤ c1) (a2 : c1 ≤ 255) (b1 : 0 ≤ c2) (b2 : c2 ≤ 255) (m1 : 0 ≤ c3) (m2 : c3 ≤ 255) :
    Calls Tryd.prog 10 #[.agg #[.int .u8 c0, .int .u8 c1, .int .u8 c2, .int .u8 c3]] w fun e w' => e = .returned (.bool true) ∧ Below w.heap.size w w' := by
  have hw := w64i16 (c2 + c3 * 256)
  go_enter Tryd.func10, Tryd.ntmps10
  go_wp2_with fail
  refine (tdec _ _ _ _ _ _ _ _ _ _ rfl _ (fun _ => dec_good c0 c1 c2 c3 _ h1 h2 a1 a2 b1 b2 m1 m2)).mono ?_
  rintro e wa ⟨rfl, hba⟩
  obtain ⟨hca, hfa⟩ := bcell hba
  have hza : w.heap.size < wa.heap.size := by have := hba.size; simp at this; omega
  go_wp2_with fail
  refine (tell_nil _).mono ?_
  rintro e wb ⟨rfl, hbb⟩
  obtain ⟨hcb, hfb⟩ := bcell hbb
  have hzb : wa.heap.size < wb.heap.size := by have := hbb.size; simp at this; omega
  go_wp2_with fail
  refine (rdec_good c0 c1 c2 c3 _ h1 h2 a1 a2 b1 b2 m1 m2).mono ?_
  rintro e wc ⟨rfl, hbc⟩
  obtain ⟨hcc, hfc⟩ := bcell hbc
  have hzc : wa.heap.size < wc.heap.size := by have := hbc.size; omega
  go_wp2
  go_ret
  refine ⟨rfl, ?_⟩
  exact (((((Below.refl _ _).alloc (Nat.le_refl _) _).trans (hba.mono (by simp))).alloc (by omega) _).trans (hbb.mono (by simp; omega))).trans (hbc.mono (by omega)) |>.alloc (by omega) _

set_option maxHeartbeats 1000000 in
theorem decodes_bad (c0 c1 c2 c3 : Int) (w : World) (h : c0 < 1 ∨ 24 < c0) (hg : w.cell? ⟨0, 0, none⟩ = some (.iface 116 (.agg #[.pointer (some ⟨3, 28, none⟩)]))) :
    Calls Tryd.prog 10 #[.agg #[.int .u8 c0, .int .u8 c1, .int .u8 c2, .int .u8 c3]] w fun e w' => e = .returned (.bool true) ∧ Below w.heap.size w w' := by
  have hlt : 0 < w.heap.size := by
    rcases Nat.eq_zero_or_pos w.heap.size with h0 | h
    · simp [World.cell?, h0] at hg
    · exact h
  have HG := hide hg
  have HH := hide h
  clear hg h
  go_enter Tryd.func10, Tryd.ntmps10
  go_wp2_with fail
  refine (tdec _ _ _ _ _ _ _ _ _ _ rfl _ (fun _ => dec_bad c0 c1 c2 c3 _ (unhide HH))).mono ?_
  rintro e wa ⟨rfl, hba⟩
  obtain ⟨hca, hfa⟩ := bcell hba
  have hza : w.heap.size < wa.heap.size := by have := hba.size; simp at this; omega
  go_wp2_with fail
  refine (tell_some _ _ ?_).mono ?_
  · rw [World.cell?_alloc_lt _ _ ⟨0, 0, none⟩ (by simp; omega), hba.cell (p := ⟨0, 0, none⟩) (by simp), World.cell?_alloc_lt _ _ ⟨0, 0, none⟩ hlt]
    exact unhide HG
  rintro e wb ⟨rfl, hbb⟩
  obtain ⟨hcb, hfb⟩ := bcell hbb
  have hzb : wa.heap.size < wb.heap.size := by have := hbb.size; simp at this; omega
  go_wp2_with fail
  refine (rdec_bad c0 c1 c2 c3 _ (unhide HH)).mono ?_
  rintro e wc ⟨rfl, hbc⟩
  obtain ⟨hcc, hfc⟩ := bcell hbc
  have hzc : wa.heap.size < wc.heap.size := by have := hbc.size; omega
  go_wp2
  go_ret
  refine ⟨rfl, ?_⟩
  exact (((((Below.refl _ _).alloc (Nat.le_refl _) _).trans (hba.mono (by simp))).alloc (by omega) _).trans (hbb.mono (by simp; omega))).trans (hbc.mono (by omega)) |>.alloc (by omega) _

theorem decodes_any (c0 c1 c2 c3 : Int) (w : World) (a1 : 0 ≤ c1) (a2 : c1 ≤ 255) (b1 : 0 ≤ c2) (b2 : c2 ≤ 255) (m1 : 0 ≤ c3) (m2 : c3 ≤ 255) (hg : w.cell? ⟨0, 0, none⟩ = some (.iface 116 (.agg #[.pointer (some ⟨3, 28, none⟩)]))) :
    Calls Tryd.prog 10 #[.agg #[.int .u8 c0, .int .u8 c1, .int .u8 c2, .int .u8 c3]] w fun e w' => e = .returned (.bool true) ∧ Below w.heap.size w w' := by
  by_cases h1 : 1 ≤ c0 ∧ c0 ≤ 24
  · exact decodes_good c0 c1 c2 c3 w h1.1 h1.2 a1 a2 b1 b2 m1 m2
  · exact decodes_bad c0 c1 c2 c3 w (by omega) hg

theorem eq4 (x0 x1 x2 x3 : Int) (w : World) : (Op.equalIn 10000 26 (.agg #[.int .u8 x0, .int .u8 x1, .int .u8 x2, .int .u8 x3]) (.agg #[.int .u8 x0, .int .u8 x1, .int .u8 x2, .int .u8 x3])).run Tryd.prog w = .ok true w := by
  have h := run_equalIn_ints (P := Tryd.prog) w 9998 26 5 4 .u8 Tryd.underlying26 Tryd.underlying5 (fun _ => by kernel_rfl) [x0, x1, x2, x3] [x0, x1, x2, x3] rfl rfl
  simpa using h

theorem num_any (n : Int) (w : World) : Calls Tryd.prog 9 #[.int .i64 n] w fun e w' => e = .returned (.int .i64 n) ∧ w' = w := by
  go_enter Tryd.func9, Tryd.ntmps9
  go_wp2
  go_ret
  exact ⟨rfl, rfl⟩

set_option maxHeartbeats 2000000 in
theorem codes_good (op a b im c0 c1 c2 c3 : Int) (w : World) (h1 : 1 ≤ op) (h2 : op ≤ 24) (a1 : 0 ≤ a) (a2 : a < 16) (b1 : 0 ≤ b) (b2 : b < 16) (m1 : -32768 ≤ im) (m2 : im ≤ 32767)
    (d1 : 0 ≤ c1) (d2 : c1 ≤ 255) (e1 : 0 ≤ c2) (e2 : c2 ≤ 255) (f1 : 0 ≤ c3) (f2 : c3 ≤ 255) (hg : w.cell? ⟨0, 0, none⟩ = some (.iface 116 (.agg #[.pointer (some ⟨3, 28, none⟩)]))) :
    Calls Tryd.prog 3 #[.agg #[.int .u8 op, .int .i64 a, .int .i64 b, .int .i16 im], .agg #[.int .u8 c0, .int .u8 c1, .int .u8 c2, .int .u8 c3]] w fun e w' => e = .returned (.bool true) ∧ Below w.heap.size w w' := by
  have hlt : 0 < w.heap.size := by
    rcases Nat.eq_zero_or_pos w.heap.size with h0 | h
    · simp [World.cell?, h0] at hg
    · exact h
  have HG := hide hg
  clear hg
  have q4 := eq4 op (a * 16 + b) (im % 256) (im / 256 % 256)
  go_enter Tryd.func3, Tryd.ntmps3
  go_wp2_with fail
  refine (tenc _ _ _ _ _ _ _ _ _ _ rfl _ (fun _ => enc_good op a b im _ h1 h2 a1 a2 b1 b2)).mono ?_
  rintro e wa ⟨rfl, hba⟩
  obtain ⟨hca, hfa⟩ := bcell hba
  have ka : w.heap.size + 1 < wa.heap.size := by have := hba.size; simp at this; omega
  have ka' : w.heap.size < wa.heap.size := by omega
  have ga : wa.cell? ⟨0, 0, none⟩ = some (.iface 116 (.agg #[.pointer (some ⟨3, 28, none⟩)])) := by
    rw [hba.cell (p := ⟨0, 0, none⟩) (by simp), World.cell?_alloc_lt _ _ ⟨0, 0, none⟩ (by simp), World.cell?_alloc_lt _ _ ⟨0, 0, none⟩ hlt]
    exact unhide HG
  have GA := hide ga
  clear ga
  go_wp2_with fail
  refine (tell_nil _).mono ?_
  rintro e wb ⟨rfl, hbb⟩
  obtain ⟨hcb, hfb⟩ := bcell hbb
  have kb : wa.heap.size < wb.heap.size := by have := hbb.size; simp at this; omega
  have kb1 : w.heap.size + 1 < wb.heap.size := by omega
  have kb0 : w.heap.size < wb.heap.size := by omega
  go_wp2_with fail
  refine (renc_good op a b im _ h1 h2 a1 a2 b1 b2).mono ?_
  rintro e wc ⟨rfl, hbc⟩
  obtain ⟨hcc, hfc⟩ := bcell hbc
  have kc : wb.heap.size < wc.heap.size := by have := hbc.size; simp at this; omega
  have kca : wa.heap.size < wc.heap.size := by omega
  have kc1 : w.heap.size + 1 < wc.heap.size := by omega
  have kc0 : w.heap.size < wc.heap.size := by omega
  have gb : wb.cell? ⟨0, 0, none⟩ = some (.iface 116 (.agg #[.pointer (some ⟨3, 28, none⟩)])) := by
    rw [hbb.cell (p := ⟨0, 0, none⟩) (by simp), World.cell?_alloc_lt _ _ ⟨0, 0, none⟩ (by show 0 < _; omega)]
    exact unhide GA
  have gc : wc.cell? ⟨0, 0, none⟩ = some (.iface 116 (.agg #[.pointer (some ⟨3, 28, none⟩)])) := by
    rw [hbc.cell (p := ⟨0, 0, none⟩) (by simp), World.cell?_alloc_lt _ _ ⟨0, 0, none⟩ (by show 0 < _; omega)]
    exact gb
  have GC := hide gc
  clear gb gc
  go_wp2_with (go_at_call 9; refine (num_any _ _).mono ?_; rintro e w' ⟨rfl, rfl⟩)
  refine (decodes_any c0 c1 c2 c3 _ d1 d2 e1 e2 f1 f2 ?_).mono ?_
  · rw [World.cell?_alloc_lt _ _ ⟨0, 0, none⟩ (by show 0 < _; omega)]
    exact unhide GC
  rintro e wd ⟨rfl, hbd⟩
  obtain ⟨hcd, hfd⟩ := bcell hbd
  have kd : wc.heap.size < wd.heap.size := by have := hbd.size; simp at this; omega
  have kda : wa.heap.size < wd.heap.size := by omega
  go_wp2_with fail
  refine (decodes_any _ _ _ _ _ ?_ ?_ ?_ ?_ ?_ ?_ ?_).mono ?_
  · omega
  · omega
  · omega
  · omega
  · omega
  · omega
  · rw [hbd.cell (p := ⟨0, 0, none⟩) (by simp), World.cell?_alloc_lt _ _ ⟨0, 0, none⟩ (by show 0 < _; omega)]
    exact unhide GC
  rintro e we ⟨rfl, hbe⟩
  go_wp2
  go_ret
  refine ⟨rfl, ?_⟩
  have s1 := ((Below.refl w.heap.size w).alloc (Nat.le_refl _) (.cells #[.int .u8 op, .int .i64 a, .int .i64 b, .int .i16 im] 25)).alloc (by simp) (.cells #[.int .u8 c0, .int .u8 c1, .int .u8 c2, .int .u8 c3] 26)
  have s2 := (s1.trans (hba.mono (by simp; omega))).alloc (by omega) (.cells #[.int .u8 op, .int .u8 (a * 16 + b), .int .u8 (im % 256), .int .u8 (im / 256 % 256)] 26)
  have s3 := (s2.trans (hbb.mono (by simp; omega))).alloc (by omega) (.cells #[.int .i64 op, .int .i64 a, .int .i64 b, .int .i64 im] 34)
  have s4 := (s3.trans (hbc.mono (by simp; omega))).alloc (by omega) (.cells #[.int .u8 op, .int .u8 (a * 16 + b), .int .u8 (im % 256), .int .u8 (im / 256 % 256)] 26)
  exact (s4.trans (hbd.mono (by simp; omega))).trans (hbe.mono (by omega))

set_option maxHeartbeats 2000000 in
theorem codes_bad (op a b im c0 c1 c2 c3 : Int) (w : World) (h : ¬ (1 ≤ op ∧ op ≤ 24 ∧ 0 ≤ a ∧ a < 16 ∧ 0 ≤ b ∧ b < 16)) (o1 : 0 ≤ op) (o2 : op ≤ 255) (m1 : -32768 ≤ im) (m2 : im ≤ 32767)
    (d1 : 0 ≤ c1) (d2 : c1 ≤ 255) (e1 : 0 ≤ c2) (e2 : c2 ≤ 255) (f1 : 0 ≤ c3) (f2 : c3 ≤ 255) (hg : w.cell? ⟨0, 0, none⟩ = some (.iface 116 (.agg #[.pointer (some ⟨3, 28, none⟩)]))) :
    Calls Tryd.prog 3 #[.agg #[.int .u8 op, .int .i64 a, .int .i64 b, .int .i16 im], .agg #[.int .u8 c0, .int .u8 c1, .int .u8 c2, .int .u8 c3]] w fun e w' => e = .returned (.bool true) ∧ Below w.heap.size w w' := by
  have hlt : 0 < w.heap.size := by
    rcases Nat.eq_zero_or_pos w.heap.size with h0 | h
    · simp [World.cell?, h0] at hg
    · exact h
  have HG := hide hg
  clear hg
  have q4 := eq4 0 0 0 0
  have HH := hide h
  clear h
  go_enter Tryd.func3, Tryd.ntmps3
  go_wp2_with fail
  refine (tenc _ _ _ _ _ _ _ _ _ _ rfl _ (fun _ => enc_bad op a b im _ (unhide HH))).mono ?_
  rintro e wa ⟨rfl, hba⟩
  obtain ⟨hca, hfa⟩ := bcell hba
  have ka : w.heap.size + 1 < wa.heap.size := by have := hba.size; simp at this; omega
  have ka' : w.heap.size < wa.heap.size := by omega
  have ga : wa.cell? ⟨0, 0, none⟩ = some (.iface 116 (.agg #[.pointer (some ⟨3, 28, none⟩)])) := by
    rw [hba.cell (p := ⟨0, 0, none⟩) (by simp), World.cell?_alloc_lt _ _ ⟨0, 0, none⟩ (by simp), World.cell?_alloc_lt _ _ ⟨0, 0, none⟩ hlt]
    exact unhide HG
  have GA := hide ga
  clear ga
  go_wp2_with fail
  refine (tell_some _ _ ?_).mono ?_
  · rw [World.cell?_alloc_lt _ _ ⟨0, 0, none⟩ (by show 0 < _; omega)]
    exact unhide GA
  rintro e wb ⟨rfl, hbb⟩
  obtain ⟨hcb, hfb⟩ := bcell hbb
  have kb : wa.heap.size < wb.heap.size := by have := hbb.size; simp at this; omega
  have kb1 : w.heap.size + 1 < wb.heap.size := by omega
  have kb0 : w.heap.size < wb.heap.size := by omega
  go_wp2_with fail
  refine (renc_bad op a b im _ (by have := unhide HH; omega)).mono ?_
  rintro e wc ⟨rfl, hbc⟩
  obtain ⟨hcc, hfc⟩ := bcell hbc
  have kc : wb.heap.size < wc.heap.size := by have := hbc.size; simp at this; omega
  have kca : wa.heap.size < wc.heap.size := by omega
  have kc1 : w.heap.size + 1 < wc.heap.size := by omega
  have kc0 : w.heap.size < wc.heap.size := by omega
  have gb : wb.cell? ⟨0, 0, none⟩ = some (.iface 116 (.agg #[.pointer (some ⟨3, 28, none⟩)])) := by
    rw [hbb.cell (p := ⟨0, 0, none⟩) (by simp), World.cell?_alloc_lt _ _ ⟨0, 0, none⟩ (by show 0 < _; omega)]
    exact unhide GA
  have gc : wc.cell? ⟨0, 0, none⟩ = some (.iface 116 (.agg #[.pointer (some ⟨3, 28, none⟩)])) := by
    rw [hbc.cell (p := ⟨0, 0, none⟩) (by simp), World.cell?_alloc_lt _ _ ⟨0, 0, none⟩ (by show 0 < _; omega)]
    exact gb
  have GC := hide gc
  clear gb gc
  go_wp2_with (go_at_call 9; refine (num_any _ _).mono ?_; rintro e w' ⟨rfl, rfl⟩)
  refine (decodes_any c0 c1 c2 c3 _ d1 d2 e1 e2 f1 f2 ?_).mono ?_
  · rw [World.cell?_alloc_lt _ _ ⟨0, 0, none⟩ (by show 0 < _; omega)]
    exact unhide GC
  rintro e wd ⟨rfl, hbd⟩
  obtain ⟨hcd, hfd⟩ := bcell hbd
  have kd : wc.heap.size < wd.heap.size := by have := hbd.size; simp at this; omega
  have kda : wa.heap.size < wd.heap.size := by omega
  go_wp2_with fail
  refine (decodes_any _ _ _ _ _ ?_ ?_ ?_ ?_ ?_ ?_ ?_).mono ?_
  all_goals first | omega | skip
  · rw [hbd.cell (p := ⟨0, 0, none⟩) (by simp), World.cell?_alloc_lt _ _ ⟨0, 0, none⟩ (by show 0 < _; omega)]
    exact unhide GC
  rintro e we ⟨rfl, hbe⟩
  go_wp2
  go_ret
  refine ⟨rfl, ?_⟩
  have s1 := ((Below.refl w.heap.size w).alloc (Nat.le_refl _) (.cells #[.int .u8 op, .int .i64 a, .int .i64 b, .int .i16 im] 25)).alloc (by simp) (.cells #[.int .u8 c0, .int .u8 c1, .int .u8 c2, .int .u8 c3] 26)
  have s2 := (s1.trans (hba.mono (by simp; omega))).alloc (by omega) (.cells #[.int .u8 0, .int .u8 0, .int .u8 0, .int .u8 0] 26)
  have s3 := (s2.trans (hbb.mono (by simp; omega))).alloc (by omega) (.cells #[.int .i64 op, .int .i64 a, .int .i64 b, .int .i64 im] 34)
  have s4 := (s3.trans (hbc.mono (by simp; omega))).alloc (by omega) (.cells #[.int .u8 0, .int .u8 0, .int .u8 0, .int .u8 0] 26)
  exact (s4.trans (hbd.mono (by simp; omega))).trans (hbe.mono (by omega))

theorem codes_any (op a b im c0 c1 c2 c3 : Int) (w : World) (o1 : 0 ≤ op) (o2 : op ≤ 255) (m1 : -32768 ≤ im) (m2 : im ≤ 32767)
    (d1 : 0 ≤ c1) (d2 : c1 ≤ 255) (e1 : 0 ≤ c2) (e2 : c2 ≤ 255) (f1 : 0 ≤ c3) (f2 : c3 ≤ 255) (hg : w.cell? ⟨0, 0, none⟩ = some (.iface 116 (.agg #[.pointer (some ⟨3, 28, none⟩)]))) :
    Calls Tryd.prog 3 #[.agg #[.int .u8 op, .int .i64 a, .int .i64 b, .int .i16 im], .agg #[.int .u8 c0, .int .u8 c1, .int .u8 c2, .int .u8 c3]] w fun e w' => e = .returned (.bool true) ∧ Below w.heap.size w w' := by
  by_cases h : 1 ≤ op ∧ op ≤ 24 ∧ 0 ≤ a ∧ a < 16 ∧ 0 ≤ b ∧ b < 16
  · obtain ⟨h1, h2, a1, a2, b1, b2⟩ := h
    exact codes_good op a b im c0 c1 c2 c3 w h1 h2 a1 a2 b1 b2 m1 m2 d1 d2 e1 e2 f1 f2 hg
  · exact codes_bad op a b im c0 c1 c2 c3 w h o1 o2 m1 m2 d1 d2 e1 e2 f1 f2 hg
end Go.Proofs.YtkkpeboejgkmaaaDoor
