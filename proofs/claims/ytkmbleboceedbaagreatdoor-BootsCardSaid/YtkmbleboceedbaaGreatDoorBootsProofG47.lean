import Derived.Test.YtkmbleboceedbaaGreatDoorBootsProofG35
import Derived.Test.YtkmbleboceedbaaGreatDoorBootsProofG36
import Derived.Test.YtkmbleboceedbaaGreatDoorBootsProofG39
import Derived.Test.YtkmbleboceedbaaGreatDoorBootsProofG43
import Derived.Test.YtkmbleboceedbaaGreatDoorBootsProofG41
import Derived.Test.YtkmbleboceedbaaGreatDoorBootsProofG24
/- The program's processes by their numbers, where there is one: all. -/
namespace Go.Proofs.YtkmbleboceedbaaGreatDoor
open Go Go.RowKit Go.Maps Go.Sort Go.Shelf
set_option linter.unusedVariables false
set_option linter.unusedSimpArgs false

theorem sortsInt (m : Nat) : AnyZI.SortsIn Tryz.prog sortedL_ren Fence.wide m :=
  ⟨fun blk off cap ss W hH hblk hsz => callsIn_wide.2 (AnyM.slices_Sort_int sortIntL blk off cap ss W hH hblk hsz),
   fun p cap W => callsIn_wide.2 (AnyM.slices_Sort_int_none sortIntL p cap W)⟩
theorem keys_call (pm : Nat) (w : World) : Calls Tryz.prog 83 #[.map (some pm)] w fun e w' => e = .returned (.func (.func 109) #[] #[.pointer (some ⟨w.heap.size, 0, none⟩)]) ∧ w' = w.alloc (.cells #[.map (some pm)] 119) :=
  callsIn_wide.1 (AnyZI.keys_in keysL Fence.wide 5 trivial rfl (some pm) w)
theorem sorted_call {H : Type} (b nn : Nat) (D0 : DataW H) (R : Value → Option (DataW H × List MemPlace)) (w : World) (hown : w.ownsMap Tryz.prog 3 R b nn D0) (hmax : Maps.size D0 ≤ maxLen) (hbytes : Maps.size D0 * 8 ≤ 140737488355328) :
    Calls Tryz.prog 82 #[.func (.func 109) #[] #[.pointer (some ⟨w.heap.size, 0, none⟩)]] (w.alloc (.cells #[.map (some b)] 119)) fun e w' => ∃ (v : Value) (ss : List Int), e = .returned v ∧ ss.Perm (intKeys D0) ∧
      w'.ownsRow w.heap.size 3 1 v ss.length ((ss.mergeSort (fun x y => decide (x ≤ y))).map encZ) ∧ Below w.heap.size w w' := by
  have hbl := hown.lt
  have hseq : SeqGives Fence.wide 2 Tryz.prog 109 #[.pointer (some ⟨w.heap.size, 0, none⟩)] encZ (fun ss => ss.Perm (intKeys D0)) (Maps.size D0) (w.alloc (.cells #[.map (some b)] 119)) :=
    AnyZI.keys_gives (ρ := keysL_ren) { keysL with } Fence.wide _ trivial rfl (by omega) w.heap.size b nn D0 _ (by simp) (by simp) (by
      obtain ⟨es, clock, hb, Ft, hs, hD⟩ := hown
      exact ⟨es, clock, (Below.heap_alloc _ _ b hbl).trans hb, Ft, hs, hD⟩)
  have cS := AnyZI.sorted_in sortedL Fence.wide 5 trivial trivial trivial trivial rfl (by omega) (sortsInt _) (enters_of Tryz.func108 (by kernel_rfl) rfl) 109 #[.pointer (some ⟨w.heap.size, 0, none⟩)] trivial (enters_of Tryz.func109 (by kernel_rfl) rfl) _ _ hmax hbytes _ hseq
  refine (callsIn_wide.1 cS).mono ?_
  rintro e w' ⟨v, ss, rfl, hS, hrow, _, hb⟩
  exact ⟨v, ss, rfl, hS, ownsRow_base_a hrow (by simp), ((Below.refl _ w).alloc (Nat.le_refl _) _).trans (hb.mono (by simp))⟩
theorem one_len {w : World} {pm pb : Nat} (h : OneProc w pm pb) (ty : TypeId) : (Builtin.len_ #[119] ty #[.map (some pm)]).run Tryz.prog w = .ok (.int .i64 1) w := World.ownsMap.len h Tryz.underlying119 ty
theorem procZero (w : World) : (zeroValue 130).run Tryz.prog w = .ok (.pointer none) w := by kernel_rfl
theorem one_look {w : World} {pm pb : Nat} (h : OneProc w pm pb) : (Instr.lookup 119 (.map (some pm)) (.int .i64 1) false).run Tryz.prog w = .ok (.pointer (some ⟨pb, 0, none⟩)) w := by
  obtain ⟨v, ps, hrun, hv⟩ := World.ownsMap.lookup h intKeyed Tryz.underlying119 (procZero w) (show ptrElem (.pointer none) = some (.nil, []) from rfl) (Go.Maps.keyOf_int_mk Tryz.underlying3 (a := 1) (by decide))
  have hv : ptrElem v = some (nodeDatum (some pb), ps) := hv
  rw [ptrElem_inv hv] at hrun
  exact hrun
theorem procPtrInfo : (Tryz.prog.info? 130).map (fun i => (i.zero, i.size, i.bytes)) = some (some (.pointer none), 1, 8) := by kernel_rfl
theorem makePtr (w : World) : ∃ cur : Array Value, cur.size = 1 * 1 ∧ (Instr.makeSlice 115 (.int .i64 0) (.int .i64 1)).run Tryz.prog w = .ok (.slice (some ⟨w.heap.size, 0, none⟩) 0 1) (w.alloc (.cells cur 130)) := by
  obtain ⟨i, hi, hz, hs, hb⟩ := info_parts procPtrInfo
  have hr := run_make (P := Tryz.prog) w 115 130 i _ Tryz.underlying115 hi hz .i64 .i64 0 1 (by omega) (by omega) (by rw [hb]; omega) (by omega)
  rw [hs] at hr
  exact ⟨_, by simp [madeCells], hr⟩
theorem perm_one {ss : List Int} (h : ss.Perm [1]) : ss = [1] := List.perm_singleton.1 h
set_option maxRecDepth 100000 in
set_option maxHeartbeats 2000000 in
theorem all_one (kb pm pb : Nat) (w : World) (hk : w.cell? ⟨kb, 9, none⟩ = some (.map (some pm))) (hkl : kb < w.heap.size) (hm : OneProc w pm pb) :
    Calls Tryz.prog 51 #[.pointer (some ⟨kb, 0, none⟩)] w fun e w' => ∃ v, e = .returned v ∧ w'.ownsRow w.heap.size 130 1 v 1 [.pointer (some ⟨pb, 0, none⟩)] ∧ Below w.heap.size w w' := by
  obtain ⟨cur, hcur, hmk⟩ := makePtr w
  have hln := one_len hm
  obtain ⟨W1, hW1⟩ : ∃ W1, W1 = w.alloc (.cells cur 130) := ⟨_, rfl⟩
  have hb1 : Below w.heap.size w W1 := by rw [hW1]; exact (Below.refl _ _).alloc (Nat.le_refl _) _
  have ho1 : W1.ownsRow w.heap.size 130 1 (.slice (some ⟨w.heap.size, 0, none⟩) 0 1) 0 [] := by rw [hW1]; exact World.ownsRow_made w cur 1 (Nat.le_refl _) (by unfold maxLen; omega) hcur
  have k1 : W1.cell? ⟨kb, 9, none⟩ = some (.map (some pm)) := by rw [hb1.cell (p := ⟨kb, 9, none⟩) hkl]; exact hk
  have hm1 : OneProc W1 pm pb := hm.kept (grown_below hb1) (by simp)
  have HKY := hide (keys_call pm W1)
  have HST := hide (sorted_call pm 1 (procD pb) ptrElem W1 hm1 (by show 1 ≤ maxLen; unfold maxLen; omega) (by show 1 * 8 ≤ _; omega))
  have HM := hide hm
  have HB1 := hide hb1
  have HO1 := hide ho1
  have HW1 := hide hW1
  obtain ⟨ip, hip, hpz0, hpz1, hpz2⟩ := info_parts procPtrInfo
  have HIP := hide (And.intro hip (And.intro hpz0 (And.intro hpz1 hpz2)))
  clear hm hb1 ho1 hW1 hcur hip hpz0 hpz1 hpz2 hm1
  go_enter Tryz.func51, Tryz.ntmps51
  go_upto_region 2 with fail
  rw [← unhide HW1]
  clear hmk hln
  go_wp2_with fail
  refine (unhide HKY).mono ?_
  rintro e w2 ⟨rfl, rfl⟩
  clear HKY k1
  go_wp2_with fail
  refine (unhide HST).mono ?_
  rintro e w3 ⟨v, ss, rfl, hss, hrow, hb3⟩
  obtain rfl := perm_one (show ss.Perm [1] from hss)
  obtain ⟨gs, cs, rfl, hgs, hgl⟩ := hrow.form (show 0 < [(1 : Int)].length by decide)
  have hrow : w3.ownsRow W1.heap.size 3 1 (.slice (some ⟨gs, 0, none⟩) 1 cs) 1 [.int .i64 1] := by
    have h := hrow
    rw [List.mergeSort_singleton] at h
    exact h
  have s0 : w3.cell? ⟨gs, 0, none⟩ = some (.int .i64 1) := hrow.cellAt 0 (by omega)
  have hb3w := (unhide HB1).trans (hb3.mono (unhide HB1).size)
  have ho3 := own_below (unhide HO1) (hide hb3)
  have HB3 := hide hb3w
  have HO3 := hide ho3
  have hm3 : OneProc w3 pm pb := (unhide HM).kept (grown_below hb3w) (by simp)
  have hlk := one_look hm3
  have k3 : w3.cell? ⟨kb, 9, none⟩ = some (.map (some pm)) := by rw [hb3w.cell (p := ⟨kb, 9, none⟩) hkl]; exact hk
  have HL := hide (show w.heap.size ≤ w3.heap.size from hb3w.size)
  clear hss hrow hgs hgl hb3 hb3w ho3 hm3 HST hk
  go_wp2
  go_loopw [3, 19] (fun v i wr => ∃ k : Nat, k ≤ 1 ∧ i = .int .i64 k ∧ (k = 0 → v = .slice (some ⟨w.heap.size, 0, none⟩) 0 1 ∧ wr = w3) ∧ (k = 1 → Hid (wr.ownsRow w.heap.size 130 1 v 1 [.pointer (some ⟨pb, 0, none⟩)] ∧ Below w.heap.size w wr))) (fun _ i _ => 1 - (intOf i).toNat)
  case atStart => exact ⟨0, by omega, rfl, fun _ => ⟨rfl, rfl⟩, fun h => by omega⟩
  case round =>
    obtain ⟨k, hk, rfl, h0, h1⟩ := hrel
    have h2 : k = 0 ∨ k = 1 := by omega
    rcases h2 with rfl | rfl
    · obtain ⟨rfl, rfl⟩ := h0 rfl
      have hb4 : Below wr.heap.size wr (wr.alloc (Obj.cells #[.pointer (some ⟨pb, 0, none⟩)] 130)) := (Below.refl _ _).alloc (Nat.le_refl _) _
      have HA := hide (own_below (unhide HO3) (hide hb4))
      have HB4 := hide ((unhide HB3).trans (hb4.mono (unhide HB3).size))
      have hl := unhide HL
      clear h0 h1 hb4
      go_wp2_with (at_builtin; refine wpList_append_lies _ (by rfl) _ _ 115 (by rfl) w.heap.size 130 ip _ 1 8 Tryz.underlying115 (unhide HIP).1 (unhide HIP).2.1 (unhide HIP).2.2.1 (unhide HIP).2.2.2 rfl (by decide) _ 0 [] (by rfl) (unhide HA) ⟨wr.heap.size, 0, none⟩ 1 1 [.pointer (some ⟨pb, 0, none⟩)] (by rfl) (by rfl) (news1 wr _ _) (by intro u hu; simp only [List.mem_cons, List.not_mem_nil, or_false] at hu; subst hu; rfl) (by omega) (by unfold maxLen; omega) (by omega) (by simp; omega) (wr.heap.size + 1) (by simp) ?_; intro g8 c8 w8 hown8 hgrow8 hat8 hlt8)
      refine ⟨⟨1, by omega, by simp, fun h => by omega, fun _ => hide ⟨hown8, (unhide HB4).trans ⟨hgrow8.os, hgrow8.tape, hgrow8.output, hgrow8.size, fun q hq => hgrow8.block q (by simp; omega) (fun e => ?_)⟩⟩⟩, by simp [intOf]⟩
      have := (unhide HA).lt q e.symm
      omega
    · have HF := h1 rfl
      clear h0 h1
      go_wp2
      go_ret
      exact ⟨_, rfl, (unhide HF).1, (unhide HF).2⟩
end Go.Proofs.YtkmbleboceedbaaGreatDoor

/- The program's Procs, where there is process 1 alone. -/
namespace Go.Proofs.YtkmbleboceedbaaGreatDoor
open Go Go.RowKit
set_option linter.unusedVariables false
set_option linter.unusedSimpArgs false

theorem apiProcInfo : (Tryz.prog.info? 79).map (fun i => (i.zero, i.size, i.bytes)) = some (some (.agg noProc.toArray), 24, 224) := by kernel_rfl
theorem makeProc (w : World) : ∃ cur : Array Value, cur.size = 1 * 24 ∧ (Instr.makeSlice 63 (.int .i64 0) (.int .i64 1)).run Tryz.prog w = .ok (.slice (some ⟨w.heap.size, 0, none⟩) 0 1) (w.alloc (.cells cur 79)) := by
  obtain ⟨i, hi, hz, hs, hb⟩ := info_parts apiProcInfo
  have hr := run_make (P := Tryz.prog) w 63 79 i _ Tryz.underlying63 hi hz .i64 .i64 0 1 (by omega) (by omega) (by rw [hb]; omega) (by omega)
  rw [hs] at hr
  exact ⟨_, by simp [madeCells], hr⟩
/-- What Procs answers where there is one process. -/
def OnePost (pid par st su E : Int) (R : List Int) (PS : List Pg) (w : World) (e : Ending) (w' : World) : Prop :=
  ∃ ag ac ga ca fg fc, e = .returned (.slice (some ⟨ag, 0, none⟩) 1 ac) ∧ Below w.heap.size w w' ∧ w.heap.size ≤ ag ∧ ag < w'.heap.size ∧ w'.rangeAt ag 0 (apiProc pid par st su 0 E R (.slice (some ⟨ga, 0, none⟩) PS.length ca) (.slice (some ⟨fg, 0, none⟩) 3 fc)) ∧
    w'.ownsRow w.heap.size 87 258 (.slice (some ⟨ga, 0, none⟩) PS.length ca) PS.length (apiRow PS) ∧ w'.ownsRow w.heap.size 109 3 (.slice (some ⟨fg, 0, none⟩) 3 fc) 3 (fdsUpTo 3) ∧ ga ≠ fg ∧ ga ≠ ag ∧ fg ≠ ag

set_option maxRecDepth 100000 in
set_option maxHeartbeats 4000000 in
theorem kProcs_one (kb pm pb cb : Nat) (E : Int) (R : List Int) (PS : List Pg) (pid par st su wk : Int) (w : World) (hk : w.cell? ⟨kb, 9, none⟩ = some (.map (some pm))) (hkl : kb < w.heap.size) (hm : OneProc w pm pb) (hp : Holds w pb 183 (procRow E R (spaceRow PS) pid par st su wk (kfdsTo cb 3))) (hR : R.length = 16) (hok : PgsOk PS) (h0 : 0 < PS.length) (hst : st ≠ 1) :
    Calls Tryz.prog 31 #[.pointer (some ⟨kb, 0, none⟩)] w (OnePost pid par st su E R PS w) := by
  obtain ⟨cur, hcur, hmk⟩ := makeProc w
  have hln := one_len hm
  obtain ⟨W1, hW1⟩ : ∃ W1, W1 = w.alloc (.cells cur 79) := ⟨_, rfl⟩
  have hb1 : Below w.heap.size w W1 := by rw [hW1]; exact (Below.refl _ _).alloc (Nat.le_refl _) _
  have hs1 : w.heap.size < W1.heap.size := by rw [hW1]; simp
  have ho1 : W1.ownsRow w.heap.size 79 24 (.slice (some ⟨w.heap.size, 0, none⟩) 0 1) 0 [] := by rw [hW1]; exact World.ownsRow_made w cur 1 (Nat.le_refl _) (by unfold maxLen; omega) hcur
  have HAL := hide (all_one kb pm pb W1 (by rw [hb1.cell (p := ⟨kb, 9, none⟩) hkl]; exact hk) (by omega) (hm.kept (grown_below hb1) (by simp)))
  have HTL := hide (show ∀ w', Below w.heap.size w w' → Calls Tryz.prog 52 #[.pointer (some ⟨kb, 0, none⟩), .pointer (some ⟨pb, 0, none⟩)] w' (TellPost pid par st su E R PS w') from fun w' h => tell_one kb pb cb E R PS pid par st su wk w' (hp.below h hp.lt) hR hok h0 hst)
  have HB1 := hide hb1
  have HO1 := hide ho1
  have HW1 := hide hW1
  obtain ⟨ip, hip, hpz0, hpz1, hpz2⟩ := info_parts apiProcInfo
  have HIP := hide (And.intro hip (And.intro hpz0 (And.intro hpz1 hpz2)))
  clear hm hb1 ho1 hW1 hcur hip hpz0 hpz1 hpz2 hp hok
  go_enter Tryz.func31, Tryz.ntmps31
  go_upto_region 2 with fail
  rw [← unhide HW1]
  clear hmk hln hk
  go_wp2_with fail
  refine (unhide HAL).mono ?_
  rintro e w2 ⟨v2, rfl, ho2, hb2⟩
  obtain ⟨g2, c2, rfl, hg2, hgl2⟩ := ho2.form (by omega)
  have s0 : w2.cell? ⟨g2, 0, none⟩ = some (.pointer (some ⟨pb, 0, none⟩)) := ho2.cellAt 0 (by omega)
  have hb2w := (unhide HB1).trans (hb2.mono (unhide HB1).size)
  have HO2 := hide (own_below (unhide HO1) (hide hb2))
  have HB2 := hide hb2w
  have HT2 := hide (unhide HTL w2 hb2w)
  have HL := hide (show w.heap.size < w2.heap.size from by have := hb2.size; omega)
  clear ho2 hb2 hb2w hg2 hgl2 HAL HO1 HTL
  go_wp2
  go_loopw [3, 15] (fun v i wr => ∃ k : Nat, k ≤ 1 ∧ i = .int .i64 k ∧ (k = 0 → v = .slice (some ⟨w.heap.size, 0, none⟩) 0 1 ∧ wr = w2) ∧ (k = 1 → Hid (OnePost pid par st su E R PS w (.returned v) wr))) (fun _ i _ => 1 - (intOf i).toNat)
  case atStart => exact ⟨0, by omega, rfl, fun _ => ⟨rfl, rfl⟩, fun h => by omega⟩
  case round =>
    obtain ⟨k, hk, rfl, h1, h2⟩ := hrel
    have h3 : k = 0 ∨ k = 1 := by omega
    rcases h3 with rfl | rfl
    · obtain ⟨rfl, rfl⟩ := h1 rfl
      clear h1 h2
      go_wp2_with fail
      refine (unhide HT2).mono ?_
      rintro e w3 ⟨ga, ca, fg, fc, rfl, hb3, hop, hof, hgf⟩
      have hgl := hop.lt ga rfl
      have hfl := hof.lt fg rfl
      obtain ⟨AR, hAR⟩ : ∃ AR, AR = apiProc pid par st su 0 E R (.slice (some ⟨ga, 0, none⟩) PS.length ca) (.slice (some ⟨fg, 0, none⟩) 3 fc) := ⟨_, rfl⟩
      have hARl : AR.length = 24 := by rw [hAR]; rfl
      have hAR1 : ∀ v ∈ AR, v.oneCell' = true := by rw [hAR]; exact apiProc_one _ _ _ _ _ _ _ _ _ _ _ _ _
      rw [← hAR]
      have hs3 := hb3.size
      obtain ⟨W4, hW4⟩ : ∃ W4, W4 = w3.alloc (.cells AR.toArray 79) := ⟨_, rfl⟩
      have hb4 : Below w3.heap.size w3 W4 := by rw [hW4]; exact (Below.refl _ _).alloc (Nat.le_refl _) _
      have hh4 : Holds W4 w3.heap.size 79 AR := by rw [hW4]; exact Holds.new w3 79 AR
      have hb34 := hb3.trans (hb4.mono hs3)
      have HA := hide (own_below (unhide HO2) (hide hb34))
      have HB4 := hide ((unhide HB2).trans (hb34.mono (unhide HB2).size))
      have HNW := hide (holds_news (hide hh4))
      have HW4 := hide hW4
      have HAR := hide (And.intro hAR (And.intro hARl hAR1))
      have hl := unhide HL
      have HOP := hide (own_base (base' := w.heap.size) (own_below hop (hide hb4)) (by omega))
      have HOF := hide (own_base (base' := w.heap.size) (own_below hof (hide hb4)) (by omega))
      have HD := hide (show wr.heap.size ≤ ga ∧ ga < w3.heap.size ∧ wr.heap.size ≤ fg ∧ fg < w3.heap.size ∧ ga ≠ fg ∧ w3.heap.size < W4.heap.size from ⟨hgl.1, hgl.2, hfl.1, hfl.2, hgf, hh4.lt⟩)
      clear hb3 hop hof hgl hfl hgf hAR hARl hAR1 hs3 hb4 hh4 hb34 hW4 HT2
      go_wp2_with (first
        | (refine wpList_slice1 rfl _ 79 _ rfl AR (by rfl) ip _ Tryz.underlying63 (unhide HIP).1 (unhide HIP).2.1 (by rw [(unhide HIP).2.2.1, (unhide HAR).2.1]) (by rw [(unhide HAR).2.1]; decide) (by rw [(unhide HAR).2.1]; decide) ?_; rw [← unhide HW4])
        | (at_builtin; refine wpList_append_lies _ (by rfl) _ _ 63 (by rfl) w.heap.size 79 ip _ 24 224 Tryz.underlying63 (unhide HIP).1 (unhide HIP).2.1 (unhide HIP).2.2.1 (unhide HIP).2.2.2 rfl (by decide) _ 0 [] (by rfl) (unhide HA) ⟨w3.heap.size, 0, none⟩ 1 1 AR (by rfl) (by rw [(unhide HAR).2.1]) (unhide HNW) (unhide HAR).2.2 (by omega) (by unfold maxLen; omega) (by omega) (by have := (unhide HB4).size; omega) W4.heap.size (by rfl) ?_; intro g8 c8 w8 hown8 hgrow8 hat8 hlt8))
      have hgrow8 : W4.grownBy w8 (some w.heap.size) := hgrow8
      obtain ⟨d1, d2, d3, d4, d5, d6⟩ := unhide HD
      have hg8 : g8 = w.heap.size ∨ g8 = W4.heap.size := by
        rcases hat8 with h | h
        · left
          have : some w.heap.size = some g8 := h
          simpa using this.symm
        · exact .inr h
      refine ⟨⟨1, by omega, by simp, fun h => by omega, fun _ => hide ⟨g8, c8, ga, ca, fg, fc, rfl, (unhide HB4).trans (below_grown hgrow8 (Nat.le_refl _) (unhide HB4).size), by omega, hlt8, fun j v hv => ?_, (unhide HOP).kept hgrow8 (.inr (by show some ga ≠ some w.heap.size; simp; omega)), (unhide HOF).kept hgrow8 (.inr (by show some fg ≠ some w.heap.size; simp; omega)), d5, by omega, by omega⟩⟩, by simp [intOf]⟩
      rw [Nat.zero_add]
      rw [← (unhide HAR).1] at hv
      have hj := (List.getElem?_eq_some_iff.1 hv).1
      rw [(unhide HAR).2.1] at hj
      rw [hown8.cellAt j (by omega)]
      exact hv
    · have HF := h2 rfl
      clear h1 h2
      go_wp2
      go_ret
      exact unhide HF
end Go.Proofs.YtkmbleboceedbaaGreatDoor

/- The program's Procs: what the law asks. -/
namespace Go.Proofs.YtkmbleboceedbaaGreatDoor
open Go Go.RowKit
set_option linter.unusedVariables false
set_option linter.unusedSimpArgs false

theorem fds_con : fdsOf [] [-1, -1, -1, 0, 0, 0, 0, 0] = [⟨0, 4, 0⟩, ⟨1, 4, 0⟩, ⟨2, 4, 0⟩] := by kernel_rfl
theorem one_procs {p : PK} {w w' : World} {e : Ending} (hex : p.ExecOk [0] 0 initPath [initArg]) (h : OnePost (initProc p).pid (initProc p).par (initProc p).st (initProc p).su (initProc p).pc (initProc p).R (initProc p).PS w e w') : ProcsPost w [] [initProc p] e w' := by
  obtain ⟨ag, ac, ga, ca, fg, fc, rfl, hb, hag, hal, hrow, hop, hof, h1, h2, h3⟩ := h
  have hok := initProc_ok hex (outPgs_len hex.2.2.2.1)
  have hgl := hop.lt ga rfl
  have hfl := hof.lt fg rfl
  have hF : fdsOf [] (initProc p).F = [⟨0, 4, 0⟩, ⟨1, 4, 0⟩, ⟨2, 4, 0⟩] := fds_con
  have hapi : ApiAt w' ga (initProc p).PS := api_at (fun q hq => (hok.pages q hq).2.2) hop
  refine ⟨some ⟨ag, 0, none⟩, ag, ac, [⟨some ⟨ga, 0, none⟩, ga, ca, some ⟨fg, 0, none⟩, fg, 0, fc⟩], rfl, fun _ => ⟨rfl, hal⟩, hb, rfl, fun i q l _ hq hl => ?_, fun i j q l m hq hl hm hne _ => ?_⟩
  · have hi := (List.getElem?_eq_some_iff.1 hq).1
    have hi0 : i = 0 := by simp at hi; omega
    subst hi0
    have e1 : initProc p = q := by simpa using hq
    have e2 : (⟨some ⟨ga, 0, none⟩, ga, ca, some ⟨fg, 0, none⟩, fg, 0, fc⟩ : ALoc) = l := by simpa using hl
    subst e1 e2
    refine ⟨?_, fun _ => ⟨rfl, hgl.1, hgl.2, h2⟩, hapi, fun j hj => ?_, fun _ => ⟨rfl, hfl.2⟩, ?_⟩
    · rw [Nat.zero_mul]
      unfold apiOf
      rw [hF]
      exact hrow
    · obtain ⟨v, c1, f1⟩ := row_there hop (j * 258) (by omega)
      obtain ⟨v2, c2, f2⟩ := row_there hop (j * 258 + 2) (by omega)
      obtain ⟨q, hq⟩ : ∃ q, (initProc p).PS[j]? = some q := ⟨_, List.getElem?_eq_getElem hj⟩
      refine ⟨by rw [c1]; rfl, f1, ?_, f2⟩
      have h256 := (hok.pages q (List.mem_of_getElem? hq)).2.2
      have := (hapi j q hq).2.2 0 (.int .u8 (q.bytes.getD 0 0)) (bytesRow_get _ _ (by omega))
      exact ⟨_, this⟩
    · rw [hF]
      intro i x hx
      have hi := (List.getElem?_eq_some_iff.1 hx).1
      have hi3 : i < 3 := by simpa using hi
      have c0 := hof.cellAt (i * 3) (by omega)
      have c1 := hof.cellAt (i * 3 + 1) (by omega)
      have c2 := hof.cellAt (i * 3 + 2) (by omega)
      rw [Nat.zero_add, c0, c1, c2]
      have h9 : i = 0 ∨ i = 1 ∨ i = 2 := by omega
      rcases h9 with rfl | rfl | rfl
      · have : (⟨0, 4, 0⟩ : AFd) = x := by simpa using hx
        subst this; exact ⟨rfl, rfl, rfl⟩
      · have : (⟨1, 4, 0⟩ : AFd) = x := by simpa using hx
        subst this; exact ⟨rfl, rfl, rfl⟩
      · have : (⟨2, 4, 0⟩ : AFd) = x := by simpa using hx
        subst this; exact ⟨rfl, rfl, rfl⟩
  · have hi := (List.getElem?_eq_some_iff.1 hq).1
    have hj := (List.getElem?_eq_some_iff.1 hm).1
    simp at hi hj
    omega
set_option maxRecDepth 100000 in
set_option maxHeartbeats 1000000 in
theorem procs_top (tk kb pm pb cb : Nat) (p : PK) (w : World) (ht : w.cell? ⟨tk, 0, none⟩ = some (.pointer (some ⟨kb, 0, none⟩))) (hk : w.cell? ⟨kb, 9, none⟩ = some (.map (some pm))) (hkl : kb < w.heap.size) (hm : OneProc w pm pb) (hp : Holds w pb 183 (procRow (initProc p).pc (initProc p).R (spaceRow (initProc p).PS) 1 0 0 0 0 (kfdsTo cb 3))) (hex : p.ExecOk [0] 0 initPath [initArg]) :
    Calls Tryz.prog 18 #[.pointer (some ⟨tk, 0, none⟩)] w (ProcsPost w [] [initProc p]) := by
  have HT := hide (kProcs_one kb pm pb cb _ _ _ 1 0 0 0 0 w hk hkl hm hp (initProc_ok hex (outPgs_len hex.2.2.2.1)).regs (all_pok hex.2.2.2.1 _ (stackRoom_length hex.2.2.2.2.1)) (by simp [initProc, twoPgs]) (by decide))
  have HX := hide hex
  clear hk hm hp hex
  go_enter Tryz.func18, Tryz.ntmps18
  go_wp2_with fail
  refine (unhide HT).mono ?_
  intro e w1 h1
  obtain ⟨ag, ac, ga, ca, fg, fc, he, hr⟩ := h1
  have HP := hide (one_procs (unhide HX) ⟨ag, ac, ga, ca, fg, fc, he, hr⟩)
  subst he
  clear hr ht HT HX
  go_wp2
  go_ret
  exact unhide HP
end Go.Proofs.YtkmbleboceedbaaGreatDoor

/- tinyoslaw: lives: a kernel boots at tiny. -/
namespace Go.Proofs.YtkmbleboceedbaaGreatDoor
open Go Go.RowKit
set_option linter.unusedVariables false
set_option linter.unusedSimpArgs false

def tinyF : PFile := ⟨initPath, false, tinyB⟩
theorem init_names : namesOf initPath = some [initArg] := by kernel_rfl
theorem root_child : childOf [root] 1 initArg = 0 := by kernel_rfl
theorem tiny_walk0 : walkOf [root] initPath = ⟨1, initArg, 0, 0⟩ := by
  unfold walkOf
  rw [init_names]
  show follow [root] 1 [initArg] = _
  unfold follow
  rw [root_child]
def tinyP : PK := ⟨2, 10, 2, 3, 1000, 2, [root, newIno 2 1 initArg false], [[], tinyB]⟩
theorem tiny_len : tinyB.length = 260 := by kernel_rfl
theorem tiny_code : ((boot0 2 10 2 3 1000).put tinyF).1 = 0 := by kernel_rfl
theorem tiny_out : ((boot0 2 10 2 3 1000).put tinyF).2 = tinyP := by kernel_rfl
theorem tiny_puts : (boot0 2 10 2 3 1000).puts [tinyF] = (0, tinyP) := by
  unfold PK.puts
  rw [if_neg (by rw [tiny_code]; decide), tiny_out]
  rfl
theorem tiny_walk1 : walkOf tinyP.xs initPath = ⟨1, initArg, 2, 0⟩ := by
  unfold walkOf
  rw [init_names]
  kernel_rfl
theorem tiny_dir : dirOf tinyP.xs 2 = false := by kernel_rfl
theorem tiny_file : tinyP.fileOf initPath = tinyB := by
  unfold PK.fileOf
  rw [tiny_walk1]
  rfl
theorem tiny_magic : magicOk tinyB := by
  unfold magicOk
  kernel_rfl
theorem tiny_nums : numAt tinyB 16 2 = 2 ∧ numAt tinyB 18 2 = 243 ∧ numAt tinyB 20 4 = 1 ∧ numAt tinyB 32 8 = 64 ∧ numAt tinyB 52 2 = 64 ∧ numAt tinyB 54 2 = 56 ∧ numAt tinyB 56 2 = 1 ∧ numAt tinyB 24 8 = 256 := ⟨by kernel_rfl, by kernel_rfl, by kernel_rfl, by kernel_rfl, by kernel_rfl, by kernel_rfl, by kernel_rfl, by kernel_rfl⟩
theorem tiny_hdr : HdrOk tinyB := by
  obtain ⟨a, b, c, d, e, f, g, h⟩ := tiny_nums
  refine ⟨by rw [tiny_len]; decide, tiny_magic, a, b, c, d, e, f, ?_⟩
  rw [g, tiny_len]
  decide
theorem tiny_count : segCount tinyB = 1 := by kernel_rfl
theorem tiny_segAt : segAt tinyB 64 = ⟨5, 256, 256, 4, 4⟩ := by
  unfold segAt
  kernel_rfl
theorem tiny_seg : SegOk tinyB 64 := by
  unfold SegOk
  rw [tiny_segAt, tiny_len]
  exact ⟨by kernel_rfl, ⟨by decide, by decide, by decide⟩, by decide, by decide, by decide, by decide, by decide⟩
theorem tiny_segs : fileSegs tinyB = [⟨5, 256, 256, 4, 4⟩] := by kernel_rfl
theorem tiny_pgs : (outPgs tinyB).length = 1 := by kernel_rfl
theorem tiny_good : Good tinyB := by
  refine ⟨tiny_hdr, fun i hi => ?_, fun p hp => ?_, ?_⟩
  · rw [tiny_count] at hi
    have : i = 0 := by omega
    subst this
    exact tiny_seg
  · rw [tiny_segs]
    exact List.countP_le_length
  · rw [tiny_nums.2.2.2.2.2.2.2]
    refine ⟨by decide, by decide, ⟨1, 5, segPage tinyB ⟨5, 256, 256, 4, 4⟩ 1⟩, ?_, by decide, by decide⟩
    unfold outPgs refPgs
    rw [tiny_segs]
    exact List.mem_flatMap.2 ⟨1, List.mem_range.2 (by decide), by
      rw [show List.filter (fun s => cov s 1) [(⟨5, 256, 256, 4, 4⟩ : Seg)] = [⟨5, 256, 256, 4, 4⟩] from by kernel_rfl]
      exact List.mem_singleton.2 rfl⟩
theorem tiny_bytes : IsBytes tinyB := by
  refine isBytes_mem.2 ?_
  have h : tinyB.all (fun x => decide (0 ≤ x) && decide (x ≤ 255)) = true := by kernel_rfl
  intro x hx
  have := List.all_eq_true.1 h x hx
  simpa using this
theorem init_ok : okArgs [initArg] = true := by kernel_rfl
theorem tiny_exec : tinyP.ExecOk [0] 0 initPath [initArg] := by
  unfold PK.ExecOk
  rw [tiny_walk1, tiny_file, tiny_pgs]
  exact ⟨rfl, by decide, tiny_dir, tiny_good, init_ok, by decide⟩
theorem tiny_boots : BootGood 2 10 2 3 1000 [tinyF] := by
  refine ⟨by unfold limsOk; decide, by decide, ?_, ?_⟩
  · rw [tiny_puts]
  · rw [tiny_puts]; exact tiny_exec
set_option maxRecDepth 100000 in
set_option maxHeartbeats 4000000 in
theorem lives_law (w : World) (KR : World → Nat → Addr → PK → Prop)
    (hprog : ∀ (w' : World) (va : Option Addr) (vb vcap : Nat) (LS' : List FLoc), Below w.heap.size w w' → (0 < [tinyF].length → va = some ⟨vb, 0, none⟩ ∧ vb < w'.heap.size) → FilesInL w' vb 0 [tinyF] LS' → Calls Tryz.prog 10 #[.agg #[.int .i64 2, .int .i64 10, .int .i64 2, .int .i64 3, .int .i64 1000], .slice va [tinyF].length vcap] w' (ProgBoot 2 10 2 3 1000 [tinyF] KR w')) :
    Calls Tryz.prog 4 #[] w fun e w' => e = .returned (.bool true) ∧ Below w.heap.size w w' := by
  have HPR := hide hprog
  have HT := hide (tiny_any w)
  clear hprog
  go_enter Tryz.func4, Tryz.ntmps4
  go_wp2_with fail
  refine (unhide HT).mono ?_
  rintro e w1 ⟨rfl, hh1, hb1⟩
  obtain ⟨W2, hW2⟩ : ∃ W2, W2 = w1.alloc (Obj.cells #[.string initPath, .bool false, .slice (some ⟨w.heap.size, 0, none⟩) 260 260] 44) := ⟨_, rfl⟩
  have hb2 : Below w1.heap.size w1 W2 := by rw [hW2]; exact (Below.refl _ _).alloc (Nat.le_refl _) _
  have hn2 : Holds W2 w1.heap.size 44 [.string initPath, .bool false, .slice (some ⟨w.heap.size, 0, none⟩) 260 260] := by rw [hW2]; exact Holds.new w1 44 _
  have hh2 : Holds W2 w.heap.size 5 (bytesRow tinyB) := hh1.below hb2 hh1.lt
  have hbw2 : Below w.heap.size w W2 := hb1.trans (hb2.mono hb1.size)
  have HPC := hide (unhide HPR W2 (some ⟨w1.heap.size, 0, none⟩) w1.heap.size 1 [⟨some ⟨w.heap.size, 0, none⟩, w.heap.size, 0, 260⟩] hbw2 (fun _ => ⟨rfl, hn2.lt⟩) ⟨rfl, fun i f l hf hl => by
    have hi := (List.getElem?_eq_some_iff.1 hf).1
    have hi0 : i = 0 := by simp at hi; omega
    subst hi0
    have e1 : tinyF = f := by simpa using hf
    have e2 : (⟨some ⟨w.heap.size, 0, none⟩, w.heap.size, 0, 260⟩ : FLoc) = l := by simpa using hl
    subst e1 e2
    refine ⟨hn2.cell (j := 0) rfl, hn2.cell (j := 1) rfl, ?_, fun _ => ⟨rfl, hh2.lt⟩, fun j hj => ?_⟩
    · rw [show tinyF.bytes.length = 260 from tiny_len]; exact hn2.cell (j := 2) rfl
    · rw [Nat.zero_add]; exact hh2.bytes j hj⟩)
  have HB2 := hide hbw2
  have HW2 := hide hW2
  unfold initPath at hW2
  have HW2' := hide hW2
  clear hh1 hb1 hb2 hn2 hh2 hbw2 hW2 HT HPR
  go_wp2_with fail
  rw [← unhide HW2']
  refine (unhide HPC).mono ?_
  rintro e w3 ⟨hb3, (⟨c, hc, rfl⟩ | ⟨_, kp, rfl, _⟩)⟩
  · exact (bootBad_not hc tiny_boots).elim
  · have HB3 := hide ((unhide HB2).trans (hb3.mono (unhide HB2).size))
    have HTN := hide (tell_nil w3)
    clear hb3 HPC
    go_wp2_with fail
    refine (unhide HTN).mono ?_
    rintro e w4 ⟨rfl, hb4⟩
    have HB4 := hide ((unhide HB3).trans (hb4.mono (unhide HB3).size))
    clear hb4 HTN
    go_wp2
    go_ret
    exact ⟨rfl, unhide HB4⟩
/-- Boots, out of what the program's Boot and the calls on its kernel answer. -/
theorem boots_all (lp lf lo li lb : Int) (fa : Option Addr) (fb foff fcap : Nat) (FZ : List PFile) (LS : List FLoc) (w : World) (hfa : 0 < FZ.length → fa = some ⟨fb, foff, none⟩ ∧ fb < w.heap.size) (hf : FilesInL w fb foff FZ LS) (hb : ∀ f ∈ FZ, f.path.size ≤ 140737488355328 ∧ f.bytes.length ≤ 140737488355328) (hl : FZ.length ≤ 140737488355328) (hby : ∀ f ∈ FZ, IsBytes f.bytes)
    (hg : w.cell? ⟨0, 0, none⟩ = some (.iface 192 (.agg #[.pointer (some ⟨5, 40, none⟩)]))) (hge : 0 < w.heap.size) (KR : World → Nat → Addr → PK → Prop) (api : ProgApi KR)
    (hprog : ∀ (lp lf lo li lb : Int) (FZ : List PFile) (w' : World) (va : Option Addr) (vb vcap : Nat) (LS' : List FLoc), FZ.length ≤ 100 → (FZ.map (fun f => f.bytes.length)).sum ≤ 200000 → (∀ f ∈ FZ, f.path.size ≤ maxLen ∧ IsBytes f.bytes) → Below w.heap.size w w' → (0 < FZ.length → va = some ⟨vb, 0, none⟩ ∧ vb < w'.heap.size) → FilesInL w' vb 0 FZ LS' → Calls Tryz.prog 10 #[.agg #[.int .i64 lp, .int .i64 lf, .int .i64 lo, .int .i64 li, .int .i64 lb], .slice va FZ.length vcap] w' (ProgBoot lp lf lo li lb FZ KR w')) :
    Calls Tryz.prog 3 #[.agg #[.int .i64 lp, .int .i64 lf, .int .i64 lo, .int .i64 li, .int .i64 lb, .slice fa FZ.length fcap]] w fun e w' => e = .returned (.bool true) ∧ Below w.heap.size w w' := by
  refine boots_law lp lf lo li lb fa fb foff fcap FZ LS w hfa hf hb hl hby hg hge KR api (fun w' h => lives_law w' KR (fun w'' va vb vcap LS' h2 h3 h4 => ?_)) (fun hn hs w' va vb vcap LS' h2 h3 h4 => ?_) (puts_inv lp lf lo li lb FZ).tree
  · refine hprog 2 10 2 3 1000 [tinyF] w'' va vb vcap LS' (by decide) (by simp [tinyF, tiny_len]) (fun f hf => ?_) (h.trans (h2.mono h.size)) h3 h4
    have e : f = tinyF := by simpa using hf
    subst e
    exact ⟨by decide, tiny_bytes⟩
  · exact hprog lp lf lo li lb FZ w' va vb vcap LS' hn hs (fun f hf => ⟨by have := (hb f hf).1; unfold maxLen; omega, hby f hf⟩) h2 h3 h4
end Go.Proofs.YtkmbleboceedbaaGreatDoor
