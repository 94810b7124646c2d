import Derived.Test.YtkokiefclmbgaaaGreatDoorBootsProofG24
/- tinyoslaw: procs. -/
namespace Go.Proofs.YtkokiefclmbgaaaGreatDoor
open Go.RowKit
set_option linter.unusedVariables false
set_option linter.unusedSimpArgs false

theorem sameEnter : ∀ args w, (callFunc 19 args).run Tryz.prog w = .ok (.enter 19 args) w := enters_of Tryz.func19 (by kernel_rfl) rfl
theorem apiProcSize : (Tryz.prog.info? 79).map (·.size) = some 24 := by kernel_rfl
theorem refProcSize : (Tryz.prog.info? 83).map (·.size) = some 31 := by kernel_rfl
/-- What the program's Procs must tell. -/
def ProcsPost (w : World) (OB : List ROb) (AL : List AP) (e : Ending) (w' : World) : Prop :=
  ∃ aa ag ac LS, e = .returned (.slice aa AL.length ac) ∧ (0 < AL.length → aa = some ⟨ag, 0, none⟩ ∧ ag < w'.heap.size) ∧ Below w.heap.size w w' ∧ ProcsAt w' w.heap.size ag 0 OB AL LS

set_option maxRecDepth 100000 in
set_option maxHeartbeats 8000000 in
theorem procs_any (wb kb : Nat) (kp : Option Addr) (pa : Option Addr) (gp pc : Nat) (oa : Option Addr) (og oc : Nat) (OB : List ROb) (AL : List AP) (w : World)
    (hw0 : w.cell? ⟨wb, 0, none⟩ = some (.pointer kp)) (hw1 : w.cell? ⟨wb, 1, none⟩ = some (.pointer (some ⟨kb, 0, none⟩))) (hk5 : w.cell? ⟨kb, 5, none⟩ = some (.slice pa AL.length pc)) (hpa : 0 < AL.length → pa = some ⟨gp, 0, none⟩) (hrp : RefProcs w w.heap.size gp AL)
    (hk6 : w.cell? ⟨kb, 6, none⟩ = some (.slice oa OB.length oc)) (hoa : 0 < OB.length → oa = some ⟨og, 0, none⟩ ∧ og < w.heap.size) (hob : ObsAt w og OB) (hon : OB.length ≤ 100000) (hal : AL.length ≤ 1000) (hok : ∀ p ∈ AL, APOk p) (hwl : wb < w.heap.size) (hkl : kb < w.heap.size)
    (hP : Calls Tryz.prog 18 #[.pointer kp] w (ProcsPost w OB AL)) :
    Calls Tryz.prog 7 #[.pointer (some ⟨wb, 0, none⟩)] w fun e w' => e = .returned (.bool true) ∧ Below w.heap.size w w' := by
  have HP := hide hP
  have HRP := hide hrp
  have HPA := hide hpa
  have HOA := hide hoa
  have HOB := hide hob
  have HOK := hide hok
  clear hP hrp hpa hoa hob hok
  go_enter Tryz.func7, Tryz.ntmps7
  go_wp2_with fail
  refine (unhide HP).mono ?_
  rintro e w1 ⟨aa, ag, ac, LS, rfl, hag, hb1, hps⟩
  have HAG := hide hag
  have HB1 := hide hb1
  have HPS := hide hps
  have hs1 := hb1.size
  have d1 : w1.cell? ⟨wb, 1, none⟩ = some (.pointer (some ⟨kb, 0, none⟩)) := by rw [hb1.cell (p := ⟨wb, 1, none⟩) hwl]; exact hw1
  have d5 : w1.cell? ⟨kb, 5, none⟩ = some (.slice pa AL.length pc) := by rw [hb1.cell (p := ⟨kb, 5, none⟩) hkl]; exact hk5
  clear HP hag hb1 hps
  go_wp2
  clear d1 d5
  go_loopw [4] (fun i wr => ∃ j : Nat, j ≤ AL.length ∧ i = .int .i64 j ∧ Hid (ProcsAt wr w.heap.size ag j OB AL LS) ∧ Hid (Below w.heap.size w wr) ∧ Hid (0 < AL.length → ag < wr.heap.size)) (fun i _ => AL.length - (intOf i).toNat)
  case atStart => exact ⟨0, by omega, rfl, HPS, HB1, hide (fun h => (unhide HAG h).2)⟩
  case round =>
    obtain ⟨j, hj, rfl, HPR, HB, HAL⟩ := hrel
    by_cases hlt : j < AL.length
    · obtain ⟨p, hp⟩ : ∃ p, AL[j]? = some p := ⟨_, List.getElem?_eq_getElem hlt⟩
      obtain ⟨l, hl⟩ : ∃ l, LS[j]? = some l := ⟨_, List.getElem?_eq_getElem (by rw [(unhide HPR).len]; exact hlt)⟩
      have hpr := (unhide HPR).at_ j p l (Nat.le_refl _) hp hl
      obtain ⟨ab, gb, cb, hrow, hgb, hrpg⟩ := (unhide HRP).at_ j p hp
      have hgp := (unhide HRP).lt (by omega)
      have hagl := unhide HAL (by omega)
      obtain rfl := unhide HPA (by omega)
      obtain rfl := (unhide HAG (by omega)).1
      have hpk := unhide HOK p (List.mem_of_getElem? hp)
      have hbr := (unhide HB).size
      have hj0 : (0 : Int) ≤ (j : Int) := by omega
      have hj1 : (j : Int) < (AL.length : Int) := by omega
      -- what is read, in every world that has kept all that was there
      have R1 := hide (show ∀ w', Below wr.heap.size wr w' → w'.rangeAt ag (j * 24) (apiOf OB p l) from fun w' h k v hv => by rw [h.cell (p := ⟨ag, j * 24 + k, none⟩) hagl]; exact hpr.row k v hv)
      have R2 := hide (show ∀ w', Below wr.heap.size wr w' → w'.rangeAt gp (j * 31) (refProc p.pid p.par p.st p.su p.le p.pc p.R (.slice ab p.PS.length cb) p.F) from fun w' h k v hv => by rw [h.cell (p := ⟨gp, j * 31 + k, none⟩) (by show gp < wr.heap.size; omega), (unhide HB).cell (p := ⟨gp, j * 31 + k, none⟩) hgp]; exact hrow k v hv)
      have R3 := hide (show ∀ w', Below wr.heap.size wr w' → (Instr.loadAt 34 (.pointer (some ⟨wb, 1, none⟩))).run Tryz.prog w' = .ok (.pointer (some ⟨kb, 0, none⟩)) w' from fun w' h => by
        have c : w'.cell? ⟨wb, 1, none⟩ = some (.pointer (some ⟨kb, 0, none⟩)) := by rw [h.cell (p := ⟨wb, 1, none⟩) (by show wb < wr.heap.size; omega), (unhide HB).cell (p := ⟨wb, 1, none⟩) hwl]; exact hw1
        go_simp)
      have R4 := hide (show ∀ w', Below wr.heap.size wr w' → (Instr.loadAt 65 (.pointer (some ⟨kb, 5, none⟩))).run Tryz.prog w' = .ok (.slice (some ⟨gp, 0, none⟩) AL.length pc) w' from fun w' h => by
        have c : w'.cell? ⟨kb, 5, none⟩ = some (.slice (some ⟨gp, 0, none⟩) AL.length pc) := by rw [h.cell (p := ⟨kb, 5, none⟩) (by show kb < wr.heap.size; omega), (unhide HB).cell (p := ⟨kb, 5, none⟩) hkl]; exact hk5
        go_simp)
      have HS0 : Below wr.heap.size wr wr.drew := ⟨rfl, rfl, rfl, Nat.le_refl _, fun _ _ => rfl⟩
      have HSAME := hide (show ∀ w', Below wr.heap.size wr w' → Calls Tryz.prog 19 #[.pointer (some ⟨wb, 0, none⟩), .agg (apiOf OB p l).toArray, .agg (refProc p.pid p.par p.st p.su p.le p.pc p.R (.slice ab p.PS.length cb) p.F).toArray] w' fun e w2 => e = .returned (.bool true) ∧ Below w'.heap.size w' w2 from fun w' h => by
        have hs := h.size
        have hw' : ∀ b o, b < w.heap.size → w'.cell? ⟨b, o, none⟩ = w.cell? ⟨b, o, none⟩ := fun b o hb => by rw [h.cell (p := ⟨b, o, none⟩) (by show b < wr.heap.size; omega), (unhide HB).cell (p := ⟨b, o, none⟩) hb]
        have hp' := hpr.below h
        exact sameProc_any wb kb (.bool true) oa og oc OB p.pid p.par p.st p.su p.le p.pc p.R p.F l.aa ab l.ga gb l.ca cb p.PS l.fa l.fg l.fo l.fc w' (by rw [hw' _ _ hwl]; exact hw1) (by rw [hw' _ _ hkl]; exact hk6) (fun h0 => (unhide HOA h0).1) (fun k v hv => by
            have h0 : 0 < OB.length := by
              cases OB with
              | nil => simp [obRow] at hv
              | cons a r => simp
            rw [hw' _ _ (unhide HOA h0).2]; exact (unhide HOB) k v hv) hon hpk.regs (fun h0 => (hp'.aa h0).1) (fun h0 => (hgb h0).1) hp'.pages (fun k q hq => by
            have h0 : 0 < p.PS.length := by have := (List.getElem?_eq_some_iff.1 hq).1; omega
            obtain ⟨x1, x2, x3⟩ := hrpg k q hq
            exact ⟨by rw [hw' _ _ (hgb h0).2]; exact x1, by rw [hw' _ _ (hgb h0).2]; exact x2, fun m v hv => by rw [hw' _ _ (hgb h0).2]; exact x3 m v hv⟩) hpk.pages (by have := hpk.count; omega) (fun h0 => (hp'.fa h0).1) hp'.fds ⟨by omega, by omega, fun h0 => by have := (unhide HOA h0).2; omega, fun h0 => ⟨(hp'.aa h0).2.2.1, by have := (hgb h0).2; omega⟩, fun h0 => (hp'.fa h0).2⟩)
      have HPP := hide hpr
      have HPL := hide (And.intro hp hl)
      have hpk' := hpk
      clear hpr hrow hrpg hpk
      go_upto_region 7 with fail
      refine act_gen ?_
      intro A hA
      have e0 : A.eval (.tmp 0) = .pointer (some ⟨wb, 0, none⟩) := by rw [hA]; rfl
      have e3 : A.eval (.tmp 3) = .slice (some ⟨ag, 0, none⟩) AL.length ac := by rw [hA]; rfl
      have e4 : A.eval (.tmp 4) = .int .i64 j := by rw [hA]; rfl
      have esz : A.tmps.size = 85 := by rw [hA]; rfl
      have HA := hide hA
      clear hA
      refine wp_region_held_drew (S := fun w' => Below wr.heap.size wr w') (by kernel_rfl) HS0 (fun hS => ?_)
      refine takeH (i := 0) (some 29) rfl rfl (by kernel_rfl) (by kernel_rfl) (by kernel_rfl) (fun _ _ _ h => h) (yields_move rfl _ rfl (.pointer (some ⟨wb, 0, none⟩)) (by simp [put_eval, put_size, esz, e0, e3, e4])) hS ?_
      refine takeH (i := 1) (some 30) rfl rfl (by kernel_rfl) (by kernel_rfl) (by kernel_rfl) (fun _ _ _ h => h) (yields_move rfl _ rfl (.slice (some ⟨ag, 0, none⟩) AL.length ac) (by simp [put_eval, put_size, esz, e0, e3, e4])) hS ?_
      refine takeH (i := 2) (some 31) rfl rfl (by kernel_rfl) (by kernel_rfl) (by kernel_rfl) (fun _ _ _ h => h) (yields_move rfl _ rfl (.int .i64 j) (by simp [put_eval, put_size, esz, e0, e3, e4])) hS ?_
      refine takeH (i := 3) (some 32) rfl rfl (by kernel_rfl) (by kernel_rfl) (by kernel_rfl) (fun _ _ _ h => h) (yields_index rfl _ _ _ rfl (.slice (some ⟨ag, 0, none⟩) AL.length ac) (.int .i64 j) (by simp [put_eval, put_size, esz, e0, e3, e4]) (by simp [put_eval, put_size, esz, e0, e3, e4]) (.pointer (some ⟨ag, j * 24, none⟩)) (fun w' => by go_simp)) hS ?_
      refine takeH (i := 4) (some 33) rfl rfl (by kernel_rfl) (by kernel_rfl) (by kernel_rfl) (fun _ _ _ h => h) (yieldsIf_load_mid (by simp [Region.wanted]) _ _ rfl ag (j * 24) (by simp [put_eval, put_size, esz, e0, e3, e4]) (apiOf OB p l) _ (unhide R1) Tryz.underlying79 rfl apiProcSize) hS ?_
      refine takeH (i := 5) (some 34) rfl rfl (by kernel_rfl) (by kernel_rfl) (by kernel_rfl) (fun _ _ _ h => h) (yields_move rfl _ rfl (.pointer (some ⟨wb, 0, none⟩)) (by simp [put_eval, put_size, esz, e0, e3, e4])) hS ?_
      refine takeH (i := 6) (some 35) rfl rfl (by kernel_rfl) (by kernel_rfl) (by kernel_rfl) (fun _ _ _ h => h) (yields_nil rfl _ rfl ⟨wb, 0, none⟩ (by simp [put_eval, put_size, esz, e0, e3, e4])) hS ?_
      refine takeH (i := 7) (some 36) rfl rfl (by kernel_rfl) (by kernel_rfl) (by kernel_rfl) (fun _ _ _ h => h) (yields_field rfl _ _ _ rfl (.pointer (some ⟨wb, 0, none⟩)) (by simp [put_eval, put_size, esz, e0, e3, e4]) (.pointer (some ⟨wb, 1, none⟩)) (fun w' => by go_simp)) hS ?_
      refine takeH (i := 8) (some 37) rfl rfl (by kernel_rfl) (by kernel_rfl) (by kernel_rfl) (fun _ _ _ h => h) (yields_load1 rfl _ _ rfl ⟨wb, 1, none⟩ (by simp [put_eval, put_size, esz, e0, e3, e4]) (.pointer (some ⟨kb, 0, none⟩)) (unhide R3)) hS ?_
      refine takeH (i := 9) (some 38) rfl rfl (by kernel_rfl) (by kernel_rfl) (by kernel_rfl) (fun _ _ _ h => h) (yields_nil rfl _ rfl ⟨kb, 0, none⟩ (by simp [put_eval, put_size, esz, e0, e3, e4])) hS ?_
      refine takeH (i := 10) (some 39) rfl rfl (by kernel_rfl) (by kernel_rfl) (by kernel_rfl) (fun _ _ _ h => h) (yields_field rfl _ _ _ rfl (.pointer (some ⟨kb, 0, none⟩)) (by simp [put_eval, put_size, esz, e0, e3, e4]) (.pointer (some ⟨kb, 5, none⟩)) (fun w' => by go_simp)) hS ?_
      refine takeH (i := 11) (some 40) rfl rfl (by kernel_rfl) (by kernel_rfl) (by kernel_rfl) (fun _ _ _ h => h) (yields_load1 rfl _ _ rfl ⟨kb, 5, none⟩ (by simp [put_eval, put_size, esz, e0, e3, e4]) (.slice (some ⟨gp, 0, none⟩) AL.length pc) (unhide R4)) hS ?_
      refine takeH (i := 12) (some 41) rfl rfl (by kernel_rfl) (by kernel_rfl) (by kernel_rfl) (fun _ _ _ h => h) (yields_move rfl _ rfl (.int .i64 j) (by simp [put_eval, put_size, esz, e0, e3, e4])) hS ?_
      refine takeH (i := 13) (some 42) rfl rfl (by kernel_rfl) (by kernel_rfl) (by kernel_rfl) (fun _ _ _ h => h) (yields_index rfl _ _ _ rfl (.slice (some ⟨gp, 0, none⟩) AL.length pc) (.int .i64 j) (by simp [put_eval, put_size, esz, e0, e3, e4]) (by simp [put_eval, put_size, esz, e0, e3, e4]) (.pointer (some ⟨gp, j * 31, none⟩)) (fun w' => by go_simp)) hS ?_
      refine takeH (i := 14) (some 43) rfl rfl (by kernel_rfl) (by kernel_rfl) (by kernel_rfl) (fun _ _ _ h => h) (yieldsIf_load_mid (by simp [Region.wanted]) _ _ rfl gp (j * 31) (by simp [put_eval, put_size, esz, e0, e3, e4]) (refProc p.pid p.par p.st p.su p.le p.pc p.R (.slice ab p.PS.length cb) p.F) _ (unhide R2) Tryz.underlying83 rfl refProcSize) hS ?_
      refine wpAnyH_ready (rs := [15]) (by kernel_rfl) (by simp) (AllReadyH.cons rfl (fun K hK => ?_) AllReadyH.nil)
      refine step_call3 rfl 19 29 33 43 _ _ _ rfl (.pointer (some ⟨wb, 0, none⟩)) (.agg (apiOf OB p l).toArray) (.agg (refProc p.pid p.par p.st p.su p.le p.pc p.R (.slice ab p.PS.length cb) p.F).toArray) (by simp [put_eval, put_size, esz, e0, e3, e4]) (by simp [put_eval, put_size, esz, e0, e3, e4]) (by simp [put_eval, put_size, esz, e0, e3, e4]) sameEnter _ (.bool true) (fun e w' h => h.1) (unhide HSAME wr.drew HS0) (some 44) rfl ?_
      rintro w2 ⟨_, hb2⟩
      have hS2 : Below wr.heap.size wr w2 := HS0.trans hb2
      refine hK.out _ _ hS2 (fun _ => ?_)
      clear hK K
      refine takeH (i := 16) (some 5) rfl rfl (by kernel_rfl) (by kernel_rfl) (by kernel_rfl) (fun _ _ _ h => h) (yields_run rfl (v := .bool true) (fun w' _ => by simp only [execOp]; simp [put_eval, put_size, esz])) hS2 ?_
      refine wpAnyH_done (by kernel_rfl) ?_ _
      rw [unhide HA]
      simp only [Act.put, List.setIfInBounds_toArray, List.set_cons_zero, List.set_cons_succ]
      have hp2 := (unhide HPP).below hS2
      have c22 : w2.cell? ⟨ag, j * 24 + 22, none⟩ = some (.slice l.aa p.PS.length l.ca) := hp2.row 22 _ rfl
      have HP2 := hide hp2
      have HR2 := hide ((unhide HPR).below hS2)
      have HB2 := hide ((unhide HB).trans (hS2.mono (by omega)))
      have hs2 := hS2.size
      have hpc := hpk'.count
      clear hp2 hb2 HSAME R1 R2 R3 R4 HA e0 e3 e4 esz hS hS2 HS0
      go_wp2
      obtain ⟨ρ, hρ1, hρ0⟩ : ∃ ρ : Option Nat, (0 < p.PS.length → ρ = some l.ga) ∧ (¬ 0 < p.PS.length → ρ = none) := by
        by_cases h0 : 0 < p.PS.length
        · exact ⟨some l.ga, fun _ => rfl, fun h => absurd h0 h⟩
        · exact ⟨none, fun h => absurd h h0, fun _ => rfl⟩
      have HRO := hide (And.intro hρ1 hρ0)
      clear hρ1 hρ0
      go_loopw [6] (fun i wq => ∃ m : Nat, m ≤ p.PS.length ∧ i = .int .i64 m ∧ Hid (PgCells wq l.ga p.PS.length) ∧ Hid (w2.grownBy wq ρ) ∧ Hid (wq.cell? ⟨ag, j * 24 + 22, none⟩ = some (.slice l.aa p.PS.length l.ca))) (fun i _ => p.PS.length - (intOf i).toNat)
      case atStart => exact ⟨0, by omega, rfl, hide (unhide HP2).pgc, hide (World.grownBy.refl _ _), hide c22⟩
      case round =>
        obtain ⟨m, hm, rfl, HPC, HG, HC⟩ := hrel
        have x22 := unhide HC
        by_cases hml : m < p.PS.length
        · obtain ⟨haa, hBg, hgl, hga⟩ := (unhide HP2).aa (by omega)
          rw [haa] at x22
          obtain ⟨q1, q2, ⟨X, q3⟩, q4⟩ := unhide HPC m hml
          obtain ⟨V, q1⟩ := Option.isSome_iff_exists.1 q1
          have hm0 : (0 : Int) ≤ (m : Int) := by omega
          have hm1 : (m : Int) < (p.PS.length : Int) := by omega
          have hro := (unhide HRO).1 (by omega)
          rw [hro] at HG
          obtain ⟨G, hG⟩ : ∃ G, G = l.ga := ⟨_, rfl⟩
          rw [← hG] at x22 q1 q2 q3 q4 hga HPC HG
          obtain ⟨W3, hW3⟩ : ∃ W3, W3 = wr.setCell ⟨G, m * 258, none⟩ (.int .i64 999) := ⟨_, rfl⟩
          have hg3 : wr.grownBy W3 (some G) := by rw [hW3]; exact grown_set (World.grownBy.refl wr (some G)) _ _
          have y22 : W3.cell? ⟨ag, j * 24 + 22, none⟩ = some (.slice (some ⟨G, 0, none⟩) p.PS.length l.ca) := hg3.cell x22 (by simp; exact fun e => hga e.symm)
          have y2 : W3.cell? ⟨G, m * 258 + 2, none⟩ = some (.int .u8 X) := by rw [hW3, World.cell?_setCell_other _ _ _ _ (by simp)]; exact q3
          have yf : W3.frozen? ⟨G, m * 258 + 2, none⟩ = false := by rw [hW3]; simpa using q4
          have HPC3 := hide (show PgCells W3 G p.PS.length from by rw [hW3]; exact (unhide HPC).set _ _ (fun k hk e => by omega))
          have HG3 := hide ((unhide HG).trans hg3)
          have HW3 := hide hW3
          have HGG := hide hG
          clear hW3 hg3 hG hro q3 q4 hgl hBg
          go_upto_region 14 with fail
          rw [← unhide HW3]
          clear x22 q1 q2
          go_region
          have HPC4 := hide (show PgCells (W3.setCell ⟨G, m * 258 + 2, none⟩ (.int .u8 ((X + 1) % 256))).drew l.ga p.PS.length from by
            rw [← unhide HGG]
            exact (unhide HPC3).set (m * 258 + 2) (.int .u8 ((X + 1) % 256)) (fun k hk e => ⟨_, rfl⟩))
          have HG4 := hide (show w2.grownBy (W3.setCell ⟨G, m * 258 + 2, none⟩ (.int .u8 ((X + 1) % 256))).drew ρ from by
            rw [(unhide HRO).1 (by omega), ← unhide HGG]
            have h := grown_set (unhide HG3) (m * 258 + 2) (.int .u8 ((X + 1) % 256))
            exact ⟨h.os, h.tape, h.output, h.size, h.block⟩)
          have HC4 := hide (show (W3.setCell ⟨G, m * 258 + 2, none⟩ (.int .u8 ((X + 1) % 256))).drew.cell? ⟨ag, j * 24 + 22, none⟩ = some (.slice l.aa p.PS.length l.ca) from by
            rw [haa, ← unhide HGG]
            exact (grown_set (World.grownBy.refl W3 (some G)) (m * 258 + 2) (.int .u8 ((X + 1) % 256))).cell y22 (by simp; exact fun e => hga e.symm))
          clear y22 y2 yf
          go_wp2
          go_roundw
          case rel => exact ⟨m + 1, by omega, by go_num, HPC4, HG4, HC4⟩
          case measure => simp [intOf]; omega
        · obtain ⟨hp, hl⟩ := unhide HPL
          have HNX := hide (show ProcsAt wr w.heap.size ag (j + 1) OB AL LS ∧ Below w.heap.size w wr from by
            by_cases h0 : 0 < p.PS.length
            · have hg := unhide HG
              rw [(unhide HRO).1 h0] at hg
              have hBg := ((unhide HP2).aa h0).2.1
              have hb2s := (unhide HB2).size
              exact ⟨(unhide HR2).rest hp hl h0 hg, (unhide HB2).trans ⟨hg.os, hg.tape, hg.output, hg.size, fun k hk => hg.block k (by omega) (by simp; omega)⟩⟩
            · have hg := unhide HG
              rw [(unhide HRO).2 h0] at hg
              have hb2s := (unhide HB2).size
              have hbb : Below w2.heap.size w2 wr := ⟨hg.os, hg.tape, hg.output, hg.size, fun k hk => hg.block k hk (by simp)⟩
              exact ⟨((unhide HR2).below hbb).next, (unhide HB2).trans (hbb.mono hb2s)⟩)
          have HSZ := hide (show 0 < AL.length → ag < wr.heap.size from fun _ => by have := (unhide HG).size; omega)
          go_wp2
          go_roundw
          case rel => exact ⟨j + 1, by omega, by go_num, hide (unhide HNX).1, hide (unhide HNX).2, HSZ⟩
          case measure => simp [intOf]; omega
    · go_wp2
      go_ret
      exact ⟨rfl, unhide HB⟩
end Go.Proofs.YtkokiefclmbgaaaGreatDoor
