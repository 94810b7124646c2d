import Derived.Test.YtkmbleboceedbaaGreatDoorBootsProofG40
import Derived.Test.YtkmbleboceedbaaGreatDoorBootsProofG46
import Derived.Test.YtkmbleboceedbaaGreatDoorBootsProofG43
import Derived.Test.YtkmbleboceedbaaGreatDoorBootsProofG44
import Derived.Test.YtkmbleboceedbaaGreatDoorBootsProofG38
/- The program's Procs, where there is process 1 alone. -/
namespace Go.Proofs.YtkmbleboceedbaaGreatDoor
open Go Go.RowKit
set_option linter.unusedVariables false
set_option linter.unusedSimpArgs false

theorem apiProcInfo : (Tryz.prog.info? 79).map (fun i => (i.zero, i.size, i.bytes)) = some (some (.agg noProc.toArray), 24, 224) := by kernel_rfl
theorem makeProc (w : World) : ∃ cur : Array Value, cur.size = 1 * 24 ∧ (Instr.makeSlice 63 (.int .i64 0) (.int .i64 1)).run Tryz.prog w = .ok (.slice (some ⟨w.heap.size, 0, none⟩) 0 1) (w.alloc (.cells cur 79)) := by
  obtain ⟨i, hi, hz, hs, hb⟩ := info_parts apiProcInfo
  have hr := run_make (P := Tryz.prog) w 63 79 i _ Tryz.underlying63 hi hz .i64 .i64 0 1 (by omega) (by omega) (by rw [hb]; omega) (by omega)
  rw [hs] at hr
  exact ⟨_, by simp [madeCells], hr⟩
/-- What Procs answers where there is one process. -/
def OnePost (pid par st su E : Int) (R : List Int) (PS : List Pg) (w : World) (e : Ending) (w' : World) : Prop :=
  ∃ ag ac ga ca fg fc, e = .returned (.slice (some ⟨ag, 0, none⟩) 1 ac) ∧ Below w.heap.size w w' ∧ w.heap.size ≤ ag ∧ ag < w'.heap.size ∧ w'.rangeAt ag 0 (apiProc pid par st su 0 E R (.slice (some ⟨ga, 0, none⟩) PS.length ca) (.slice (some ⟨fg, 0, none⟩) 3 fc)) ∧
    w'.ownsRow w.heap.size 87 258 (.slice (some ⟨ga, 0, none⟩) PS.length ca) PS.length (apiRow PS) ∧ w'.ownsRow w.heap.size 109 3 (.slice (some ⟨fg, 0, none⟩) 3 fc) 3 (fdsUpTo 3) ∧ ga ≠ fg ∧ ga ≠ ag ∧ fg ≠ ag

set_option maxRecDepth 100000 in
set_option maxHeartbeats 4000000 in
theorem kProcs_one (kb pm pb cb : Nat) (E : Int) (R : List Int) (PS : List Pg) (pid par st su wk : Int) (w : World) (hk : w.cell? ⟨kb, 9, none⟩ = some (.map (some pm))) (hkl : kb < w.heap.size) (hm : OneProc w pm pb) (hp : Holds w pb 183 (procRow E R (spaceRow PS) pid par st su wk (kfdsTo cb 3))) (hR : R.length = 16) (hok : PgsOk PS) (h0 : 0 < PS.length) (hst : st ≠ 1) :
    Calls Tryz.prog 31 #[.pointer (some ⟨kb, 0, none⟩)] w (OnePost pid par st su E R PS w) := by
  obtain ⟨cur, hcur, hmk⟩ := makeProc w
  have hln := one_len hm
  obtain ⟨W1, hW1⟩ : ∃ W1, W1 = w.alloc (.cells cur 79) := ⟨_, rfl⟩
  have hb1 : Below w.heap.size w W1 := by rw [hW1]; exact (Below.refl _ _).alloc (Nat.le_refl _) _
  have hs1 : w.heap.size < W1.heap.size := by rw [hW1]; simp
  have ho1 : W1.ownsRow w.heap.size 79 24 (.slice (some ⟨w.heap.size, 0, none⟩) 0 1) 0 [] := by rw [hW1]; exact World.ownsRow_made w cur 1 (Nat.le_refl _) (by unfold maxLen; omega) hcur
  have HAL := hide (all_one kb pm pb W1 (by rw [hb1.cell (p := ⟨kb, 9, none⟩) hkl]; exact hk) (by omega) (hm.kept (grown_below hb1) (by simp)))
  have HTL := hide (show ∀ w', Below w.heap.size w w' → Calls Tryz.prog 52 #[.pointer (some ⟨kb, 0, none⟩), .pointer (some ⟨pb, 0, none⟩)] w' (TellPost pid par st su E R PS w') from fun w' h => tell_one kb pb cb E R PS pid par st su wk w' (hp.below h hp.lt) hR hok h0 hst)
  have HB1 := hide hb1
  have HO1 := hide ho1
  have HW1 := hide hW1
  obtain ⟨ip, hip, hpz0, hpz1, hpz2⟩ := info_parts apiProcInfo
  have HIP := hide (And.intro hip (And.intro hpz0 (And.intro hpz1 hpz2)))
  clear hm hb1 ho1 hW1 hcur hip hpz0 hpz1 hpz2 hp hok
  go_enter Tryz.func31, Tryz.ntmps31
  go_upto_region 2 with fail
  rw [← unhide HW1]
  clear hmk hln hk
  go_wp2_with fail
  refine (unhide HAL).mono ?_
  rintro e w2 ⟨v2, rfl, ho2, hb2⟩
  obtain ⟨g2, c2, rfl, hg2, hgl2⟩ := ho2.form (by omega)
  have s0 : w2.cell? ⟨g2, 0, none⟩ = some (.pointer (some ⟨pb, 0, none⟩)) := ho2.cellAt 0 (by omega)
  have hb2w := (unhide HB1).trans (hb2.mono (unhide HB1).size)
  have HO2 := hide (own_below (unhide HO1) (hide hb2))
  have HB2 := hide hb2w
  have HT2 := hide (unhide HTL w2 hb2w)
  have HL := hide (show w.heap.size < w2.heap.size from by have := hb2.size; omega)
  clear ho2 hb2 hb2w hg2 hgl2 HAL HO1 HTL
  go_wp2
  go_loopw [3, 15] (fun v i wr => ∃ k : Nat, k ≤ 1 ∧ i = .int .i64 k ∧ (k = 0 → v = .slice (some ⟨w.heap.size, 0, none⟩) 0 1 ∧ wr = w2) ∧ (k = 1 → Hid (OnePost pid par st su E R PS w (.returned v) wr))) (fun _ i _ => 1 - (intOf i).toNat)
  case atStart => exact ⟨0, by omega, rfl, fun _ => ⟨rfl, rfl⟩, fun h => by omega⟩
  case round =>
    obtain ⟨k, hk, rfl, h1, h2⟩ := hrel
    have h3 : k = 0 ∨ k = 1 := by omega
    rcases h3 with rfl | rfl
    · obtain ⟨rfl, rfl⟩ := h1 rfl
      clear h1 h2
      go_wp2_with fail
      refine (unhide HT2).mono ?_
      rintro e w3 ⟨ga, ca, fg, fc, rfl, hb3, hop, hof, hgf⟩
      have hgl := hop.lt ga rfl
      have hfl := hof.lt fg rfl
      obtain ⟨AR, hAR⟩ : ∃ AR, AR = apiProc pid par st su 0 E R (.slice (some ⟨ga, 0, none⟩) PS.length ca) (.slice (some ⟨fg, 0, none⟩) 3 fc) := ⟨_, rfl⟩
      have hARl : AR.length = 24 := by rw [hAR]; rfl
      have hAR1 : ∀ v ∈ AR, v.oneCell' = true := by rw [hAR]; exact apiProc_one _ _ _ _ _ _ _ _ _ _ _ _ _
      rw [← hAR]
      have hs3 := hb3.size
      obtain ⟨W4, hW4⟩ : ∃ W4, W4 = w3.alloc (.cells AR.toArray 79) := ⟨_, rfl⟩
      have hb4 : Below w3.heap.size w3 W4 := by rw [hW4]; exact (Below.refl _ _).alloc (Nat.le_refl _) _
      have hh4 : Holds W4 w3.heap.size 79 AR := by rw [hW4]; exact Holds.new w3 79 AR
      have hb34 := hb3.trans (hb4.mono hs3)
      have HA := hide (own_below (unhide HO2) (hide hb34))
      have HB4 := hide ((unhide HB2).trans (hb34.mono (unhide HB2).size))
      have HNW := hide (holds_news (hide hh4))
      have HW4 := hide hW4
      have HAR := hide (And.intro hAR (And.intro hARl hAR1))
      have hl := unhide HL
      have HOP := hide (own_base (base' := w.heap.size) (own_below hop (hide hb4)) (by omega))
      have HOF := hide (own_base (base' := w.heap.size) (own_below hof (hide hb4)) (by omega))
      have HD := hide (show wr.heap.size ≤ ga ∧ ga < w3.heap.size ∧ wr.heap.size ≤ fg ∧ fg < w3.heap.size ∧ ga ≠ fg ∧ w3.heap.size < W4.heap.size from ⟨hgl.1, hgl.2, hfl.1, hfl.2, hgf, hh4.lt⟩)
      clear hb3 hop hof hgl hfl hgf hAR hARl hAR1 hs3 hb4 hh4 hb34 hW4 HT2
      go_wp2_with (first
        | (refine wpList_slice1 rfl _ 79 _ rfl AR (by rfl) ip _ Tryz.underlying63 (unhide HIP).1 (unhide HIP).2.1 (by rw [(unhide HIP).2.2.1, (unhide HAR).2.1]) (by rw [(unhide HAR).2.1]; decide) (by rw [(unhide HAR).2.1]; decide) ?_; rw [← unhide HW4])
        | (at_builtin; refine wpList_append_lies _ (by rfl) _ _ 63 (by rfl) w.heap.size 79 ip _ 24 224 Tryz.underlying63 (unhide HIP).1 (unhide HIP).2.1 (unhide HIP).2.2.1 (unhide HIP).2.2.2 rfl (by decide) _ 0 [] (by rfl) (unhide HA) ⟨w3.heap.size, 0, none⟩ 1 1 AR (by rfl) (by rw [(unhide HAR).2.1]) (unhide HNW) (unhide HAR).2.2 (by omega) (by unfold maxLen; omega) (by omega) (by have := (unhide HB4).size; omega) W4.heap.size (by rfl) ?_; intro g8 c8 w8 hown8 hgrow8 hat8 hlt8))
      have hgrow8 : W4.grownBy w8 (some w.heap.size) := hgrow8
      obtain ⟨d1, d2, d3, d4, d5, d6⟩ := unhide HD
      have hg8 : g8 = w.heap.size ∨ g8 = W4.heap.size := by
        rcases hat8 with h | h
        · left
          have : some w.heap.size = some g8 := h
          simpa using this.symm
        · exact .inr h
      refine ⟨⟨1, by omega, by simp, fun h => by omega, fun _ => hide ⟨g8, c8, ga, ca, fg, fc, rfl, (unhide HB4).trans (below_grown hgrow8 (Nat.le_refl _) (unhide HB4).size), by omega, hlt8, fun j v hv => ?_, (unhide HOP).kept hgrow8 (.inr (by show some ga ≠ some w.heap.size; simp; omega)), (unhide HOF).kept hgrow8 (.inr (by show some fg ≠ some w.heap.size; simp; omega)), d5, by omega, by omega⟩⟩, by simp [intOf]⟩
      rw [Nat.zero_add]
      rw [← (unhide HAR).1] at hv
      have hj := (List.getElem?_eq_some_iff.1 hv).1
      rw [(unhide HAR).2.1] at hj
      rw [hown8.cellAt j (by omega)]
      exact hv
    · have HF := h2 rfl
      clear h1 h2
      go_wp2
      go_ret
      exact unhide HF
end Go.Proofs.YtkmbleboceedbaaGreatDoor

/- The program's Procs: what the law asks. -/
namespace Go.Proofs.YtkmbleboceedbaaGreatDoor
open Go Go.RowKit
set_option linter.unusedVariables false
set_option linter.unusedSimpArgs false

theorem fds_con : fdsOf [] [-1, -1, -1, 0, 0, 0, 0, 0] = [⟨0, 4, 0⟩, ⟨1, 4, 0⟩, ⟨2, 4, 0⟩] := by kernel_rfl
theorem one_procs {p : PK} {w w' : World} {e : Ending} (hex : p.ExecOk [0] 0 initPath [initArg]) (h : OnePost (initProc p).pid (initProc p).par (initProc p).st (initProc p).su (initProc p).pc (initProc p).R (initProc p).PS w e w') : ProcsPost w [] [initProc p] e w' := by
  obtain ⟨ag, ac, ga, ca, fg, fc, rfl, hb, hag, hal, hrow, hop, hof, h1, h2, h3⟩ := h
  have hok := initProc_ok hex (outPgs_len hex.2.2.2.1)
  have hgl := hop.lt ga rfl
  have hfl := hof.lt fg rfl
  have hF : fdsOf [] (initProc p).F = [⟨0, 4, 0⟩, ⟨1, 4, 0⟩, ⟨2, 4, 0⟩] := fds_con
  have hapi : ApiAt w' ga (initProc p).PS := api_at (fun q hq => (hok.pages q hq).2.2) hop
  refine ⟨some ⟨ag, 0, none⟩, ag, ac, [⟨some ⟨ga, 0, none⟩, ga, ca, some ⟨fg, 0, none⟩, fg, 0, fc⟩], rfl, fun _ => ⟨rfl, hal⟩, hb, rfl, fun i q l _ hq hl => ?_, fun i j q l m hq hl hm hne _ => ?_⟩
  · have hi := (List.getElem?_eq_some_iff.1 hq).1
    have hi0 : i = 0 := by simp at hi; omega
    subst hi0
    have e1 : initProc p = q := by simpa using hq
    have e2 : (⟨some ⟨ga, 0, none⟩, ga, ca, some ⟨fg, 0, none⟩, fg, 0, fc⟩ : ALoc) = l := by simpa using hl
    subst e1 e2
    refine ⟨?_, fun _ => ⟨rfl, hgl.1, hgl.2, h2⟩, hapi, fun j hj => ?_, fun _ => ⟨rfl, hfl.2⟩, ?_⟩
    · rw [Nat.zero_mul]
      unfold apiOf
      rw [hF]
      exact hrow
    · obtain ⟨v, c1, f1⟩ := row_there hop (j * 258) (by omega)
      obtain ⟨v2, c2, f2⟩ := row_there hop (j * 258 + 2) (by omega)
      obtain ⟨q, hq⟩ : ∃ q, (initProc p).PS[j]? = some q := ⟨_, List.getElem?_eq_getElem hj⟩
      refine ⟨by rw [c1]; rfl, f1, ?_, f2⟩
      have h256 := (hok.pages q (List.mem_of_getElem? hq)).2.2
      have := (hapi j q hq).2.2 0 (.int .u8 (q.bytes.getD 0 0)) (bytesRow_get _ _ (by omega))
      exact ⟨_, this⟩
    · rw [hF]
      intro i x hx
      have hi := (List.getElem?_eq_some_iff.1 hx).1
      have hi3 : i < 3 := by simpa using hi
      have c0 := hof.cellAt (i * 3) (by omega)
      have c1 := hof.cellAt (i * 3 + 1) (by omega)
      have c2 := hof.cellAt (i * 3 + 2) (by omega)
      rw [Nat.zero_add, c0, c1, c2]
      have h9 : i = 0 ∨ i = 1 ∨ i = 2 := by omega
      rcases h9 with rfl | rfl | rfl
      · have : (⟨0, 4, 0⟩ : AFd) = x := by simpa using hx
        subst this; exact ⟨rfl, rfl, rfl⟩
      · have : (⟨1, 4, 0⟩ : AFd) = x := by simpa using hx
        subst this; exact ⟨rfl, rfl, rfl⟩
      · have : (⟨2, 4, 0⟩ : AFd) = x := by simpa using hx
        subst this; exact ⟨rfl, rfl, rfl⟩
  · have hi := (List.getElem?_eq_some_iff.1 hq).1
    have hj := (List.getElem?_eq_some_iff.1 hm).1
    simp at hi hj
    omega
set_option maxRecDepth 100000 in
set_option maxHeartbeats 1000000 in
theorem procs_top (tk kb pm pb cb : Nat) (p : PK) (w : World) (ht : w.cell? ⟨tk, 0, none⟩ = some (.pointer (some ⟨kb, 0, none⟩))) (hk : w.cell? ⟨kb, 9, none⟩ = some (.map (some pm))) (hkl : kb < w.heap.size) (hm : OneProc w pm pb) (hp : Holds w pb 183 (procRow (initProc p).pc (initProc p).R (spaceRow (initProc p).PS) 1 0 0 0 0 (kfdsTo cb 3))) (hex : p.ExecOk [0] 0 initPath [initArg]) :
    Calls Tryz.prog 18 #[.pointer (some ⟨tk, 0, none⟩)] w (ProcsPost w [] [initProc p]) := by
  have HT := hide (kProcs_one kb pm pb cb _ _ _ 1 0 0 0 0 w hk hkl hm hp (initProc_ok hex (outPgs_len hex.2.2.2.1)).regs (all_pok hex.2.2.2.1 _ (stackRoom_length hex.2.2.2.2.1)) (by simp [initProc, twoPgs]) (by decide))
  have HX := hide hex
  clear hk hm hp hex
  go_enter Tryz.func18, Tryz.ntmps18
  go_wp2_with fail
  refine (unhide HT).mono ?_
  intro e w1 h1
  obtain ⟨ag, ac, ga, ca, fg, fc, he, hr⟩ := h1
  have HP := hide (one_procs (unhide HX) ⟨ag, ac, ga, ca, fg, fc, he, hr⟩)
  subst he
  clear hr ht HT HX
  go_wp2
  go_ret
  exact unhide HP
end Go.Proofs.YtkmbleboceedbaaGreatDoor

/- The program's objects, where there is process 1 alone, with the console: none. -/
namespace Go.Proofs.YtkmbleboceedbaaGreatDoor
open Go Go.RowKit Go.Maps
set_option linter.unusedVariables false
set_option linter.unusedSimpArgs false

/-- A map that holds nothing. -/
def NoMap (w : World) (m : Nat) : Prop := ∃ clock, w.heap[m]? = some (.map #[] clock)
theorem NoMap.below {w w' : World} {m : Nat} (h : NoMap w m) (hl : m < w.heap.size) (hb : Below w.heap.size w w') : NoMap w' m := by
  obtain ⟨c, hc⟩ := h
  exact ⟨c, by rw [hb.block m hl]; exact hc⟩
theorem conComparable : (Tryz.prog.info? 114).map (·.comparable) = some true := by kernel_rfl
theorem con_eq (cb : Nat) (w : World) : (binOp .neq 180 (.iface 114 (.pointer (some ⟨cb, 0, none⟩))) (.iface 114 (.pointer (some ⟨cb, 0, none⟩)))).run Tryz.prog w = .ok (.bool false) w := by
  have hc := conComparable
  cases hi : Tryz.prog.info? 114 with
  | none => simp [hi] at hc
  | some i =>
    have hcc : i.comparable = true := by simpa [hi] using hc
    have h : ∀ d : Nat, (Op.equalIn (d + 2) 180 (.iface 114 (.pointer (some ⟨cb, 0, none⟩))) (.iface 114 (.pointer (some ⟨cb, 0, none⟩)))).run Tryz.prog w = .ok true w := fun d => by
      simp [Op.equalIn, run_underlying Tryz.underlying180, run_underlying Tryz.underlying114, typeInfo, hi, hcc, sameAddr]
    simp only [binOp]
    simp [Op.equal, Op.maxDepth, h 9998]
set_option maxRecDepth 100000 in
set_option maxHeartbeats 2000000 in
theorem objects_none (kb pm pb cb : Nat) (w : World) (hk : w.cell? ⟨kb, 9, none⟩ = some (.map (some pm))) (hk6 : w.cell? ⟨kb, 6, none⟩ = some (.pointer (some ⟨cb, 0, none⟩))) (hkl : kb < w.heap.size) (hm : OneProc w pm pb) (hpl : pb < w.heap.size) (hf : w.rangeAt pb 65814 (kfdsTo cb 3)) :
    Calls Tryz.prog 55 #[.pointer (some ⟨kb, 0, none⟩)] w fun e w' => e = .returned (.map (some w.heap.size)) ∧ NoMap w' w.heap.size ∧ Below w.heap.size w w' := by
  obtain ⟨W1, hW1⟩ : ∃ W1, W1 = w.alloc (.map #[] 0) := ⟨_, rfl⟩
  have hb1 : Below w.heap.size w W1 := by rw [hW1]; exact (Below.refl _ _).alloc (Nat.le_refl _) _
  have hs1 : W1.heap.size = w.heap.size + 1 := by rw [hW1]; simp
  have hn1 : NoMap W1 w.heap.size := ⟨0, by rw [hW1]; exact heap_alloc_new w _⟩
  have hm1 : OneProc W1 pm pb := hm.kept (grown_below hb1) (by simp)
  have k9 : W1.cell? ⟨kb, 9, none⟩ = some (.map (some pm)) := by rw [hb1.cell (p := ⟨kb, 9, none⟩) hkl]; exact hk
  have hpm : pm < w.heap.size := World.ownsMap.lt hm
  rw [fds_8] at hf
  have HK6 := hide hk6
  have HF := hide hf
  have HM1 := hide hm1
  have HN1 := hide hn1
  have HB1 := hide hb1
  have HW1 := hide hW1
  have HS1 := hide hs1
  have hmm := @run_makeMap Tryz.prog
  clear hm hf hm1 hn1 hb1 hk hk6 hW1 hs1
  go_enter Tryz.func55, Tryz.ntmps55
  go_upto_region 2 with fail
  rw [← unhide HW1]
  clear hmm
  go_wp2_with (first | (at_range; refine wpList_range_own _ rfl _ 119 rfl 3 130 intKeyed Tryz.underlying119 ptrElem pm 1 (procD pb) rfl (unhide HM1) ?_; intro w0 hrg0 hg0 hs0) | go_in)
  have HR0 := hide hrg0
  have hb0 : Below W1.heap.size W1 w0 := ⟨hg0.os, hg0.tape, hg0.output, hg0.size, fun k hk => hg0.block k hk (by simp)⟩
  have HB0 := hide ((unhide HB1).trans (hb0.mono (unhide HB1).size))
  have HN0 := hide ((unhide HN1).below (by rw [unhide HS1]; omega) hb0)
  have HS0 := hide (show W1.heap.size < w0.heap.size from by omega)
  clear hrg0 hg0 hs0 k9 hb0
  go_frame
  go_loopw [5] (fun _ wr => ∃ (left : Lit → Bool) (cnt : Nat), Hid (wr.ranges Tryz.prog 3 ptrElem pm W1.heap.size 1 (procD pb) left cnt) ∧ Hid (∀ kl, left kl = true → kl = .int .i64 1) ∧ Hid (NoMap wr w.heap.size) ∧ Hid (Below w.heap.size w wr) ∧ Hid (W1.heap.size < wr.heap.size)) (fun _ wr => wr.rangeLeft pm W1.heap.size)
  case atStart => exact ⟨_, _, HR0, hide (fun kl h => procD_has h), HN0, HB0, HS0⟩
  case round =>
    obtain ⟨left, cnt, HRG, HLF, HNM, HB, HSZ⟩ := hrel
    go_wp2_with (first
      | (at_next; refine wpList_next_ranges _ rfl _ rfl 3 intKeyed ptrElem (Value.int .i64) nodePtr invInt invPtr pm W1.heap.size 1 (procD pb) left cnt rfl (unhide HRG) ?_ ?_)
      | go_in)
    · intro hc0 hl0
      go_wp2
      go_ret
      exact ⟨rfl, unhide HNM, unhide HB⟩
    · intro x c kl y1 y2 w1 cnt1 hkey hlk hv hat hrg1 hlt hg1 hs1 hen
      have hkl' := unhide HLF kl hlk
      subst hkl'
      obtain rfl := one_key hkey rfl
      obtain rfl := one_elem hv (show y1 = _ by rw [← hat .nil]; exact procD_at pb .nil)
      have hsw := unhide HS1
      have hszz := unhide HSZ
      have hb1 : Below w.heap.size w w1 := (unhide HB).trans ⟨hg1.os, hg1.tape, hg1.output, hg1.size, fun k hk => hg1.block k (by have := (unhide HB).size; omega) (by simp; omega)⟩
      have hn1 : NoMap w1 w.heap.size := by
        obtain ⟨ck, hck⟩ := unhide HNM
        exact ⟨ck, by rw [hg1.block w.heap.size (by omega) (by simp; omega)]; exact hck⟩
      have hf1 : w1.rangeAt pb 65814 _ := fun j v hv => by rw [hb1.cell (p := ⟨pb, 65814 + j, none⟩) hpl]; exact unhide HF j v hv
      have k6 : w1.cell? ⟨kb, 6, none⟩ = some (.pointer (some ⟨cb, 0, none⟩)) := by rw [hb1.cell (p := ⟨kb, 6, none⟩) hkl]; exact unhide HK6
      have HF1 := hide hf1
      have HRG1 := hide hrg1
      have HFN := hide (And.intro hn1 hb1)
      have HSZ1 := hide (show W1.heap.size < w1.heap.size from by have := hg1.size; omega)
      have HLT := hide hlt
      clear hkey hlk hv hat hrg1 hlt hg1 hs1 hb1 hn1 hf1 hsw hszz
      unfold nodePtr at hen ⊢
      go_wp2_with (refine wpList_load_mid rfl 181 _ rfl pb 65814 (by rfl) _ _ (unhide HF1) Tryz.underlying181 rfl (by rw [fdsSize]; rfl) ?_)
      clear hen
      have HRGO := hide ((unhide HRG).left_eq)
      go_loopw [22] (fun i wi => ∃ k : Nat, k ≤ 8 ∧ i = .int .i64 k ∧ wi = w1) (fun i _ => 8 - (intOf i).toNat)
      case atStart => exact ⟨0, by omega, rfl, rfl⟩
      case round =>
        obtain ⟨k, hk, rfl, rfl⟩ := hrel
        have ce := con_eq cb
        have h9 : k = 0 ∨ k = 1 ∨ k = 2 ∨ k = 3 ∨ k = 4 ∨ k = 5 ∨ k = 6 ∨ k = 7 ∨ k = 8 := by omega
        rcases h9 with rfl | rfl | rfl | rfl | rfl | rfl | rfl | rfl | rfl
        · have ix := fd_ix0
          unfold conFd
          go_wp2
          exact ⟨⟨1, by omega, by simp, trivial⟩, by simp [intOf]⟩
        · have ix := fd_ix1
          unfold conFd
          go_wp2
          exact ⟨⟨2, by omega, by simp, trivial⟩, by simp [intOf]⟩
        · have ix := fd_ix2
          unfold conFd
          go_wp2
          exact ⟨⟨3, by omega, by simp, trivial⟩, by simp [intOf]⟩
        · have ix := fd_ix3
          unfold conFd
          go_wp2
          exact ⟨⟨4, by omega, by simp, trivial⟩, by simp [intOf]⟩
        · have ix := fd_ix4
          unfold conFd
          go_wp2
          exact ⟨⟨5, by omega, by simp, trivial⟩, by simp [intOf]⟩
        · have ix := fd_ix5
          unfold conFd
          go_wp2
          exact ⟨⟨6, by omega, by simp, trivial⟩, by simp [intOf]⟩
        · have ix := fd_ix6
          unfold conFd
          go_wp2
          exact ⟨⟨7, by omega, by simp, trivial⟩, by simp [intOf]⟩
        · have ix := fd_ix7
          unfold conFd
          go_wp2
          exact ⟨⟨8, by omega, by simp, trivial⟩, by simp [intOf]⟩
        · go_wp2
          refine ⟨⟨_, _, HRG1, hide (fun kl h => ?_), hide (unhide HFN).1, hide (unhide HFN).2, HSZ1⟩, ?_⟩
          · have := (Bool.and_eq_true _ _ ▸ h : left kl = true ∧ (!kl.sameKey (.int .i64 1)) = true)
            exact unhide HLF kl this.1
          · rw [(unhide HRG1).left_eq, unhide HRGO]; have := unhide HLT; omega
end Go.Proofs.YtkmbleboceedbaaGreatDoor
