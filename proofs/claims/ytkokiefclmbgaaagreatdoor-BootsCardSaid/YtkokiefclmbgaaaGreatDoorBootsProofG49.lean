import Derived.Test.YtkokiefclmbgaaaGreatDoorBootsProofG42
import Derived.Test.YtkokiefclmbgaaaGreatDoorBootsProofG43
import Derived.Test.YtkokiefclmbgaaaGreatDoorBootsProofG40
import Derived.Test.YtkokiefclmbgaaaGreatDoorBootsProofG41
import Derived.Test.YtkokiefclmbgaaaGreatDoorBootsProofG48
/- The program's Procs, where there is process 1 alone. -/
namespace Go.Proofs.YtkokiefclmbgaaaGreatDoor
open Go Go.RowKit
set_option linter.unusedVariables false
set_option linter.unusedSimpArgs false

theorem apiProcInfo : (Tryz.prog.info? 79).map (fun i => (i.zero, i.size, i.bytes)) = some (some (.agg noProc.toArray), 24, 224) := by kernel_rfl
theorem makeProc (w : World) : ∃ cur : Array Value, cur.size = 1 * 24 ∧ (Instr.makeSlice 63 (.int .i64 0) (.int .i64 1)).run Tryz.prog w = .ok (.slice (some ⟨w.heap.size, 0, none⟩) 0 1) (w.alloc (.cells cur 79)) := by
  obtain ⟨i, hi, hz, hs, hb⟩ := info_parts apiProcInfo
  have hr := run_make (P := Tryz.prog) w 63 79 i _ Tryz.underlying63 hi hz .i64 .i64 0 1 (by omega) (by omega) (by rw [hb]; omega) (by omega)
  rw [hs] at hr
  exact ⟨_, by simp [madeCells], hr⟩
/-- What Procs answers where there is one process. -/
def OnePost (pid par st su E : Int) (R : List Int) (PS : List Pg) (w : World) (e : Ending) (w' : World) : Prop :=
  ∃ ag ac ga ca fg fc, e = .returned (.slice (some ⟨ag, 0, none⟩) 1 ac) ∧ Below w.heap.size w w' ∧ w.heap.size ≤ ag ∧ ag < w'.heap.size ∧ w'.rangeAt ag 0 (apiProc pid par st su 0 E R (.slice (some ⟨ga, 0, none⟩) PS.length ca) (.slice (some ⟨fg, 0, none⟩) 3 fc)) ∧
    w'.ownsRow w.heap.size 87 258 (.slice (some ⟨ga, 0, none⟩) PS.length ca) PS.length (apiRow PS) ∧ w'.ownsRow w.heap.size 109 3 (.slice (some ⟨fg, 0, none⟩) 3 fc) 3 (fdsUpTo 3) ∧ ga ≠ fg ∧ ga ≠ ag ∧ fg ≠ ag

set_option maxRecDepth 100000 in
set_option maxHeartbeats 4000000 in
theorem kProcs_one (kb pm pb cb : Nat) (E : Int) (R : List Int) (PS : List Pg) (pid par st su wk : Int) (w : World) (hk : w.cell? ⟨kb, 9, none⟩ = some (.map (some pm))) (hkl : kb < w.heap.size) (hm : OneProc w pm pb) (hp : Holds w pb 183 (procRow E R (spaceRow PS) pid par st su wk (kfdsTo cb 3))) (hR : R.length = 16) (hok : PgsOk PS) (h0 : 0 < PS.length) (hst : st ≠ 1) :
    Calls Tryz.prog 31 #[.pointer (some ⟨kb, 0, none⟩)] w (OnePost pid par st su E R PS w) := by
  obtain ⟨cur, hcur, hmk⟩ := makeProc w
  have hln := one_len hm
  obtain ⟨W1, hW1⟩ : ∃ W1, W1 = w.alloc (.cells cur 79) := ⟨_, rfl⟩
  have hb1 : Below w.heap.size w W1 := by rw [hW1]; exact (Below.refl _ _).alloc (Nat.le_refl _) _
  have hs1 : w.heap.size < W1.heap.size := by rw [hW1]; simp
  have ho1 : W1.ownsRow w.heap.size 79 24 (.slice (some ⟨w.heap.size, 0, none⟩) 0 1) 0 [] := by rw [hW1]; exact World.ownsRow_made w cur 1 (Nat.le_refl _) (by unfold maxLen; omega) hcur
  have HAL := hide (all_one kb pm pb W1 (by rw [hb1.cell (p := ⟨kb, 9, none⟩) hkl]; exact hk) (by omega) (hm.kept (grown_below hb1) (by simp)))
  have HTL := hide (show ∀ w', Below w.heap.size w w' → Calls Tryz.prog 52 #[.pointer (some ⟨kb, 0, none⟩), .pointer (some ⟨pb, 0, none⟩)] w' (TellPost pid par st su E R PS w') from fun w' h => tell_one kb pb cb E R PS pid par st su wk w' (hp.below h hp.lt) hR hok h0 hst)
  have HB1 := hide hb1
  have HO1 := hide ho1
  have HW1 := hide hW1
  obtain ⟨ip, hip, hpz0, hpz1, hpz2⟩ := info_parts apiProcInfo
  have HIP := hide (And.intro hip (And.intro hpz0 (And.intro hpz1 hpz2)))
  clear hm hb1 ho1 hW1 hcur hip hpz0 hpz1 hpz2 hp hok
  go_enter Tryz.func31, Tryz.ntmps31
  go_upto_region 2 with fail
  rw [← unhide HW1]
  clear hmk hln hk
  go_wp2_with fail
  refine (unhide HAL).mono ?_
  rintro e w2 ⟨v2, rfl, ho2, hb2⟩
  obtain ⟨g2, c2, rfl, hg2, hgl2⟩ := ho2.form (by omega)
  have s0 : w2.cell? ⟨g2, 0, none⟩ = some (.pointer (some ⟨pb, 0, none⟩)) := ho2.cellAt 0 (by omega)
  have hb2w := (unhide HB1).trans (hb2.mono (unhide HB1).size)
  have HO2 := hide (own_below (unhide HO1) (hide hb2))
  have HB2 := hide hb2w
  have HT2 := hide (unhide HTL w2 hb2w)
  have HL := hide (show w.heap.size < w2.heap.size from by have := hb2.size; omega)
  clear ho2 hb2 hb2w hg2 hgl2 HAL HO1 HTL
  go_wp2
  go_loopw [3, 15] (fun v i wr => ∃ k : Nat, k ≤ 1 ∧ i = .int .i64 k ∧ (k = 0 → v = .slice (some ⟨w.heap.size, 0, none⟩) 0 1 ∧ wr = w2) ∧ (k = 1 → Hid (OnePost pid par st su E R PS w (.returned v) wr))) (fun _ i _ => 1 - (intOf i).toNat)
  case atStart => exact ⟨0, by omega, rfl, fun _ => ⟨rfl, rfl⟩, fun h => by omega⟩
  case round =>
    obtain ⟨k, hk, rfl, h1, h2⟩ := hrel
    have h3 : k = 0 ∨ k = 1 := by omega
    rcases h3 with rfl | rfl
    · obtain ⟨rfl, rfl⟩ := h1 rfl
      clear h1 h2
      go_wp2_with fail
      refine (unhide HT2).mono ?_
      rintro e w3 ⟨ga, ca, fg, fc, rfl, hb3, hop, hof, hgf⟩
      have hgl := hop.lt ga rfl
      have hfl := hof.lt fg rfl
      obtain ⟨AR, hAR⟩ : ∃ AR, AR = apiProc pid par st su 0 E R (.slice (some ⟨ga, 0, none⟩) PS.length ca) (.slice (some ⟨fg, 0, none⟩) 3 fc) := ⟨_, rfl⟩
      have hARl : AR.length = 24 := by rw [hAR]; rfl
      have hAR1 : ∀ v ∈ AR, v.oneCell' = true := by rw [hAR]; exact apiProc_one _ _ _ _ _ _ _ _ _ _ _ _ _
      rw [← hAR]
      have hs3 := hb3.size
      obtain ⟨W4, hW4⟩ : ∃ W4, W4 = w3.alloc (.cells AR.toArray 79) := ⟨_, rfl⟩
      have hb4 : Below w3.heap.size w3 W4 := by rw [hW4]; exact (Below.refl _ _).alloc (Nat.le_refl _) _
      have hh4 : Holds W4 w3.heap.size 79 AR := by rw [hW4]; exact Holds.new w3 79 AR
      have hb34 := hb3.trans (hb4.mono hs3)
      have HA := hide (own_below (unhide HO2) (hide hb34))
      have HB4 := hide ((unhide HB2).trans (hb34.mono (unhide HB2).size))
      have HNW := hide (holds_news (hide hh4))
      have HW4 := hide hW4
      have HAR := hide (And.intro hAR (And.intro hARl hAR1))
      have hl := unhide HL
      have HOP := hide (own_base (base' := w.heap.size) (own_below hop (hide hb4)) (by omega))
      have HOF := hide (own_base (base' := w.heap.size) (own_below hof (hide hb4)) (by omega))
      have HD := hide (show wr.heap.size ≤ ga ∧ ga < w3.heap.size ∧ wr.heap.size ≤ fg ∧ fg < w3.heap.size ∧ ga ≠ fg ∧ w3.heap.size < W4.heap.size from ⟨hgl.1, hgl.2, hfl.1, hfl.2, hgf, hh4.lt⟩)
      clear hb3 hop hof hgl hfl hgf hAR hARl hAR1 hs3 hb4 hh4 hb34 hW4 HT2
      go_wp2_with (first
        | (refine wpList_slice1 rfl _ 79 _ rfl AR (by rfl) ip _ Tryz.underlying63 (unhide HIP).1 (unhide HIP).2.1 (by rw [(unhide HIP).2.2.1, (unhide HAR).2.1]) (by rw [(unhide HAR).2.1]; decide) (by rw [(unhide HAR).2.1]; decide) ?_; rw [← unhide HW4])
        | (at_builtin; refine wpList_append_lies _ (by rfl) _ _ 63 (by rfl) w.heap.size 79 ip _ 24 224 Tryz.underlying63 (unhide HIP).1 (unhide HIP).2.1 (unhide HIP).2.2.1 (unhide HIP).2.2.2 rfl (by decide) _ 0 [] (by rfl) (unhide HA) ⟨w3.heap.size, 0, none⟩ 1 1 AR (by rfl) (by rw [(unhide HAR).2.1]) (unhide HNW) (unhide HAR).2.2 (by omega) (by unfold maxLen; omega) (by omega) (by have := (unhide HB4).size; omega) W4.heap.size (by rfl) ?_; intro g8 c8 w8 hown8 hgrow8 hat8 hlt8))
      have hgrow8 : W4.grownBy w8 (some w.heap.size) := hgrow8
      obtain ⟨d1, d2, d3, d4, d5, d6⟩ := unhide HD
      have hg8 : g8 = w.heap.size ∨ g8 = W4.heap.size := by
        rcases hat8 with h | h
        · left
          have : some w.heap.size = some g8 := h
          simpa using this.symm
        · exact .inr h
      refine ⟨⟨1, by omega, by simp, fun h => by omega, fun _ => hide ⟨g8, c8, ga, ca, fg, fc, rfl, (unhide HB4).trans (below_grown hgrow8 (Nat.le_refl _) (unhide HB4).size), by omega, hlt8, fun j v hv => ?_, (unhide HOP).kept hgrow8 (.inr (by show some ga ≠ some w.heap.size; simp; omega)), (unhide HOF).kept hgrow8 (.inr (by show some fg ≠ some w.heap.size; simp; omega)), d5, by omega, by omega⟩⟩, by simp [intOf]⟩
      rw [Nat.zero_add]
      rw [← (unhide HAR).1] at hv
      have hj := (List.getElem?_eq_some_iff.1 hv).1
      rw [(unhide HAR).2.1] at hj
      rw [hown8.cellAt j (by omega)]
      exact hv
    · have HF := h2 rfl
      clear h1 h2
      go_wp2
      go_ret
      exact unhide HF
end Go.Proofs.YtkokiefclmbgaaaGreatDoor

/- The program's Procs: what the law asks. -/
namespace Go.Proofs.YtkokiefclmbgaaaGreatDoor
open Go Go.RowKit
set_option linter.unusedVariables false
set_option linter.unusedSimpArgs false

theorem fds_con : fdsOf [] [-1, -1, -1, 0, 0, 0, 0, 0] = [⟨0, 4, 0⟩, ⟨1, 4, 0⟩, ⟨2, 4, 0⟩] := by kernel_rfl
theorem one_procs {p : PK} {w w' : World} {e : Ending} (hex : p.ExecOk [0] 0 initPath [initArg]) (h : OnePost (initProc p).pid (initProc p).par (initProc p).st (initProc p).su (initProc p).pc (initProc p).R (initProc p).PS w e w') : ProcsPost w [] [initProc p] e w' := by
  obtain ⟨ag, ac, ga, ca, fg, fc, rfl, hb, hag, hal, hrow, hop, hof, h1, h2, h3⟩ := h
  have hok := initProc_ok hex (outPgs_len hex.2.2.2.1)
  have hgl := hop.lt ga rfl
  have hfl := hof.lt fg rfl
  have hF : fdsOf [] (initProc p).F = [⟨0, 4, 0⟩, ⟨1, 4, 0⟩, ⟨2, 4, 0⟩] := fds_con
  have hapi : ApiAt w' ga (initProc p).PS := api_at (fun q hq => (hok.pages q hq).2.2) hop
  refine ⟨some ⟨ag, 0, none⟩, ag, ac, [⟨some ⟨ga, 0, none⟩, ga, ca, some ⟨fg, 0, none⟩, fg, 0, fc⟩], rfl, fun _ => ⟨rfl, hal⟩, hb, rfl, fun i q l _ hq hl => ?_, fun i j q l m hq hl hm hne _ => ?_⟩
  · have hi := (List.getElem?_eq_some_iff.1 hq).1
    have hi0 : i = 0 := by simp at hi; omega
    subst hi0
    have e1 : initProc p = q := by simpa using hq
    have e2 : (⟨some ⟨ga, 0, none⟩, ga, ca, some ⟨fg, 0, none⟩, fg, 0, fc⟩ : ALoc) = l := by simpa using hl
    subst e1 e2
    refine ⟨?_, fun _ => ⟨rfl, hgl.1, hgl.2, h2⟩, hapi, fun j hj => ?_, fun _ => ⟨rfl, hfl.2⟩, ?_⟩
    · rw [Nat.zero_mul]
      unfold apiOf
      rw [hF]
      exact hrow
    · obtain ⟨v, c1, f1⟩ := row_there hop (j * 258) (by omega)
      obtain ⟨v2, c2, f2⟩ := row_there hop (j * 258 + 2) (by omega)
      obtain ⟨q, hq⟩ : ∃ q, (initProc p).PS[j]? = some q := ⟨_, List.getElem?_eq_getElem hj⟩
      refine ⟨by rw [c1]; rfl, f1, ?_, f2⟩
      have h256 := (hok.pages q (List.mem_of_getElem? hq)).2.2
      have := (hapi j q hq).2.2 0 (.int .u8 (q.bytes.getD 0 0)) (bytesRow_get _ _ (by omega))
      exact ⟨_, this⟩
    · rw [hF]
      intro i x hx
      have hi := (List.getElem?_eq_some_iff.1 hx).1
      have hi3 : i < 3 := by simpa using hi
      have c0 := hof.cellAt (i * 3) (by omega)
      have c1 := hof.cellAt (i * 3 + 1) (by omega)
      have c2 := hof.cellAt (i * 3 + 2) (by omega)
      rw [Nat.zero_add, c0, c1, c2]
      have h9 : i = 0 ∨ i = 1 ∨ i = 2 := by omega
      rcases h9 with rfl | rfl | rfl
      · have : (⟨0, 4, 0⟩ : AFd) = x := by simpa using hx
        subst this; exact ⟨rfl, rfl, rfl⟩
      · have : (⟨1, 4, 0⟩ : AFd) = x := by simpa using hx
        subst this; exact ⟨rfl, rfl, rfl⟩
      · have : (⟨2, 4, 0⟩ : AFd) = x := by simpa using hx
        subst this; exact ⟨rfl, rfl, rfl⟩
  · have hi := (List.getElem?_eq_some_iff.1 hq).1
    have hj := (List.getElem?_eq_some_iff.1 hm).1
    simp at hi hj
    omega
set_option maxRecDepth 100000 in
set_option maxHeartbeats 1000000 in
theorem procs_top (tk kb pm pb cb : Nat) (p : PK) (w : World) (ht : w.cell? ⟨tk, 0, none⟩ = some (.pointer (some ⟨kb, 0, none⟩))) (hk : w.cell? ⟨kb, 9, none⟩ = some (.map (some pm))) (hkl : kb < w.heap.size) (hm : OneProc w pm pb) (hp : Holds w pb 183 (procRow (initProc p).pc (initProc p).R (spaceRow (initProc p).PS) 1 0 0 0 0 (kfdsTo cb 3))) (hex : p.ExecOk [0] 0 initPath [initArg]) :
    Calls Tryz.prog 18 #[.pointer (some ⟨tk, 0, none⟩)] w (ProcsPost w [] [initProc p]) := by
  have HT := hide (kProcs_one kb pm pb cb _ _ _ 1 0 0 0 0 w hk hkl hm hp (initProc_ok hex (outPgs_len hex.2.2.2.1)).regs (all_pok hex.2.2.2.1 _ (stackRoom_length hex.2.2.2.2.1)) (by simp [initProc, twoPgs]) (by decide))
  have HX := hide hex
  clear hk hm hp hex
  go_enter Tryz.func18, Tryz.ntmps18
  go_wp2_with fail
  refine (unhide HT).mono ?_
  intro e w1 h1
  obtain ⟨ag, ac, ga, ca, fg, fc, he, hr⟩ := h1
  have HP := hide (one_procs (unhide HX) ⟨ag, ac, ga, ca, fg, fc, he, hr⟩)
  subst he
  clear hr ht HT HX
  go_wp2
  go_ret
  exact unhide HP
end Go.Proofs.YtkokiefclmbgaaaGreatDoor

/- The program's kernel as Boot gives it; what lies apart from it. -/
namespace Go.Proofs.YtkokiefclmbgaaaGreatDoor
open Go Go.RowKit Go.Maps
set_option linter.unusedVariables false
set_option linter.unusedSimpArgs false

theorem OneProc.block {w w' : World} {pm pb : Nat} (h : OneProc w pm pb) (hh : w'.heap[pm]? = w.heap[pm]?) : OneProc w' pm pb := by
  obtain ⟨es, clock, hb, F, hs, hD⟩ := h
  exact ⟨es, clock, by rw [hh]; exact hb, F, hs, hD⟩
structure KRep (w : World) (B kb : Nat) (p : PK) (tb ab am cb pm pb : Nat) (NB MB : List Nat) (V : List Value) : Prop where
  tree : BootRep w B tb ab am p NB MB V
  ker : Holds w kb 121 (kernelRow p.lp p.lf p.lo p.li p.lb tb cb pm)
  procs : OneProc w pm pb
  con : Holds w cb 129 conRow
  proc : Holds w pb 183 (procRow (initProc p).pc (initProc p).R (spaceRow (initProc p).PS) 1 0 0 0 0 (kfdsTo cb 3))
  low : B ≤ kb ∧ B ≤ cb ∧ B ≤ pm ∧ B ≤ pb
  inv : PInv p
  size : p.xs.length ≤ 101 ∧ usedOf p.cs ≤ 200000 ∧ AllBytes p.cs
theorem KRep.stable {w w' : World} {B kb : Nat} {p : PK} {tb ab am cb pm pb : Nat} {NB MB : List Nat} {V : List Value} (h : KRep w B kb p tb ab am cb pm pb NB MB V) (hs : w.heap.size ≤ w'.heap.size) (hk : ∀ k, B ≤ k → k < w.heap.size → w'.heap[k]? = w.heap[k]?) : KRep w' B kb p tb ab am cb pm pb NB MB V :=
  ⟨h.tree.stable hs hk, holds_block h.ker (hk _ h.low.1 h.ker.lt), h.procs.block (hk _ h.low.2.2.1 (World.ownsMap.lt h.procs)), holds_block h.con (hk _ h.low.2.1 h.con.lt), holds_block h.proc (hk _ h.low.2.2.2 h.proc.lt), h.low, h.inv, h.size⟩
/-- A kernel that the program's Boot gave. -/
def KR (w : World) (B : Nat) (kp : Addr) (p : PK) : Prop := ∃ tk kb tb ab am cb pm pb NB MB V, kp = ⟨tk, 0, none⟩ ∧ B ≤ tk ∧ Holds w tk 96 [.pointer (some ⟨kb, 0, none⟩)] ∧ KRep w B kb p tb ab am cb pm pb NB MB V
theorem kr_stable : Stable KR := fun w w' B kp p h hs hk => by
  obtain ⟨tk, kb, tb, ab, am, cb, pm, pb, NB, MB, V, h1, h2, h3, h4⟩ := h
  exact ⟨tk, kb, tb, ab, am, cb, pm, pb, NB, MB, V, h1, h2, holds_block h3 (hk _ h2 h3.lt), h4.stable hs hk⟩
theorem init_pok {p : PK} (h : p.ExecOk [0] 0 initPath [initArg]) : PgsOk (initProc p).PS := all_pok h.2.2.2.1 _ (stackRoom_length h.2.2.2.2.1)
theorem init_regs (p : PK) : (initProc p).R.length = 16 := by simp [initProc]
theorem kr_procs (w : World) (B : Nat) (kp : Addr) (p : PK) (h : KR w B kp p) (hex : p.ExecOk [0] 0 initPath [initArg]) : Calls Tryz.prog 18 #[.pointer (some kp)] w (ProcsPost w [] [initProc p]) := by
  obtain ⟨tk, kb, tb, ab, am, cb, pm, pb, NB, MB, V, rfl, h2, h3, h4⟩ := h
  exact procs_top tk kb pm pb cb p w (h3.cell rfl) (h4.ker.cell rfl) h4.ker.lt h4.procs h4.proc hex
theorem kr_console (w : World) (B : Nat) (kp : Addr) (p : PK) (h : KR w B kp p) : Calls Tryz.prog 9 #[.pointer (some kp)] w fun e w2 => (∃ a c, e = .returned (.slice a 0 c)) ∧ Below w.heap.size w w2 := by
  obtain ⟨tk, kb, tb, ab, am, cb, pm, pb, NB, MB, V, rfl, h2, h3, h4⟩ := h
  exact (console_nil tk kb cb w (h3.cell rfl) (h4.ker.cell rfl) h4.con).mono fun e w' h => ⟨⟨none, 0, h.1⟩, h.2⟩
set_option maxRecDepth 100000 in
set_option maxHeartbeats 1000000 in
theorem used_top (tk kb pm pb cb tb ab : Nat) (lp lf lo li lb n used : Int) (PS : List Pg) (w : World) (hT : w.cell? ⟨tk, 0, none⟩ = some (.pointer (some ⟨kb, 0, none⟩))) (htl : tk < w.heap.size) (hk : Holds w kb 121 (kernelRow lp lf lo li lb tb cb pm)) (hm : OneProc w pm pb) (hpl : pb < w.heap.size) (hp : PermsAt w pb PS) (hok : PgsOk PS) (hf : w.rangeAt pb 65814 (kfdsTo cb 3)) (ht : Holds w tb 163 [.pointer (some ⟨ab, 0, none⟩), .int .i64 n, .int .i64 li, .int .i64 used, .int .i64 lb]) :
    Calls Tryz.prog 23 #[.pointer (some ⟨tk, 0, none⟩)] w fun e w' => e = .returned (.agg (limRow 1 (PS.length : Nat) 0 n used).toArray) ∧ Below w.heap.size w w' := by
  obtain ⟨W0, hW0⟩ : ∃ W0, W0 = w.alloc (Obj.cells #[.int .i64 0, .int .i64 0, .int .i64 0, .int .i64 0, .int .i64 0] 23) := ⟨_, rfl⟩
  have hb0 : Below w.heap.size w W0 := by rw [hW0]; exact (Below.refl _ _).alloc (Nat.le_refl _) _
  have hn0 : Holds W0 w.heap.size 23 [.int .i64 0, .int .i64 0, .int .i64 0, .int .i64 0, .int .i64 0] := by rw [hW0]; exact Holds.new w 23 _
  have hT0 : W0.cell? ⟨tk, 0, none⟩ = some (.pointer (some ⟨kb, 0, none⟩)) := by rw [hb0.cell (p := ⟨tk, 0, none⟩) htl]; exact hT
  have HU := hide (kUsed_one kb pm pb cb tb ab lp lf lo li lb n used PS W0 (hk.below hb0 hk.lt) (hm.kept (grown_below hb0) (by simp)) (by have := hb0.size; omega) (hp.below hb0 hpl) hok (fun j v hv => by rw [hb0.cell (p := ⟨pb, 65814 + j, none⟩) hpl]; exact hf j v hv) (ht.below hb0 ht.lt))
  have HW0 := hide hW0
  have HB0 := hide hb0
  have HN0 := hide hn0
  have hs0 : w.heap.size < W0.heap.size := hn0.lt
  clear hk hm hp hf ht hok hW0 hb0 hn0 hT
  go_enter Tryz.func23, Tryz.ntmps23
  go_upto_region 1 with fail
  rw [← unhide HW0]
  go_wp2_with fail
  refine (unhide HU).mono ?_
  rintro e w1 ⟨rfl, hb1⟩
  have hn1 := (unhide HN0).below hb1 hs0
  have HB1 := hide ((unhide HB0).trans (hb1.mono (unhide HB0).size))
  unfold limRow
  obtain ⟨NP, hNP⟩ : ∃ NP : Int, NP = ((PS.length : Nat) : Int) := ⟨_, rfl⟩
  rw [← hNP]
  have HNP := hide hNP
  have k0 : w1.cell? ⟨w.heap.size, 0, none⟩ = some (.int .i64 0) := hn1.cell rfl
  have k1 : w1.cell? ⟨w.heap.size, 1, none⟩ = some (.int .i64 0) := hn1.cell rfl
  have k2 : w1.cell? ⟨w.heap.size, 2, none⟩ = some (.int .i64 0) := hn1.cell rfl
  have k3 : w1.cell? ⟨w.heap.size, 3, none⟩ = some (.int .i64 0) := hn1.cell rfl
  have k4 : w1.cell? ⟨w.heap.size, 4, none⟩ = some (.int .i64 0) := hn1.cell rfl
  have f0 := hn1.frozen 0
  have f1 := hn1.frozen 1
  have f2 := hn1.frozen 2
  have f3 := hn1.frozen 3
  have f4 := hn1.frozen 4
  clear hb1 hT0 HU hNP
  go_upto_region 99 with (refine wpList_store_hold rfl 23 _ _ rfl w.heap.size [.int .i64 1, .int .i64 NP, .int .i64 0, .int .i64 n, .int .i64 used] (by rfl) (by rfl) 23 _ hn1 (by rw [limSize]; rfl) (by rfl) (limRow_one 1 NP 0 n used) ?_; intro w6 H6 G6)
  have h6 := unhide H6
  exact ⟨rfl, .agg #[.int .i64 1, .int .i64 NP, .int .i64 0, .int .i64 n, .int .i64 used], results_one (by rfl) (by rfl) (run_loadVar_mid w6 w.heap.size 0 23 [.int .i64 1, .int .i64 NP, .int .i64 0, .int .i64 n, .int .i64 used] _ h6.range Tryz.underlying23 rfl (by rw [limSize]; rfl)), by rw [unhide HNP]; rfl, (unhide HB1).trans (below_grown G6 (Nat.le_refl _) (unhide HB1).size)⟩
theorem kr_used (w : World) (B : Nat) (kp : Addr) (p : PK) (h : KR w B kp p) (hex : p.ExecOk [0] 0 initPath [initArg]) : Calls Tryz.prog 23 #[.pointer (some kp)] w fun e w2 => e = .returned (.agg (limRow (pagesOf p).length (pagesOf p).sum 0 p.xs.length (usedOf p.cs)).toArray) ∧ Below w.heap.size w w2 := by
  obtain ⟨tk, kb, tb, ab, am, cb, pm, pb, NB, MB, V, rfl, h2, h3, h4⟩ := h
  have hok := init_pok hex
  have hSl : (spaceRow (initProc p).PS).length = 65792 := spaceRow_length (fun q hq => (hok.each q hq).2.2.2.2)
  have hsp : w.rangeAt pb 17 (spaceRow (initProc p).PS) := fun j v hv => h4.proc.cell (row_space (init_regs p) hSl j v hv)
  refine (used_top tk kb pm pb cb tb ab p.lp p.lf p.lo p.li p.lb p.xs.length (usedOf p.cs) (initProc p).PS w (h3.cell rfl) h3.lt h4.ker h4.procs h4.proc.lt (fun j hj => (space_page hok hsp hj).1) hok (fun j v hv => h4.proc.cell ?_) h4.tree.tree.tree).mono ?_
  · rw [show 65814 + j = 65809 + (5 + j) by omega]
    refine row_at (init_regs p) hSl _ _ ?_
    rw [List.getElem?_append_right (by simp)]
    simpa using hv
  · rintro e w' ⟨rfl, hb⟩
    refine ⟨?_, hb⟩
    have e1 : (pagesOf p).length = 1 := rfl
    have e2 : (initProc p).PS.length = (pagesOf p).sum := by simp [initProc, pagesOf, twoPgs]
    rw [e1, ← e2]
    rfl
end Go.Proofs.YtkokiefclmbgaaaGreatDoor

/- The program's Boot. -/
namespace Go.Proofs.YtkokiefclmbgaaaGreatDoor
open Go Go.RowKit Go.Maps
set_option linter.unusedVariables false
set_option linter.unusedSimpArgs false

def errKer (c : Int) : Ending := .returned (.tuple #[.pointer none, .iface 45 (.int .i64 c)])
/-- What kernel.Boot answers. -/
def KBootPost (lp lf lo li lb : Int) (FZ : List PFile) (w : World) (e : Ending) (w' : World) : Prop :=
  Below w.heap.size w w' ∧ ((∃ c, BootBad lp lf lo li lb FZ c ∧ e = errKer c) ∨ (BootGood lp lf lo li lb FZ ∧ ∃ kb tb ab am cb pm pb NB MB V, e = .returned (.tuple #[.pointer (some ⟨kb, 0, none⟩), .nilIface]) ∧ KRep w' w.heap.size kb ((boot0 lp lf lo li lb).puts FZ).2 tb ab am cb pm pb NB MB V))
def sizesTo (FZ : List PFile) (j : Nat) : Nat := ((FZ.take j).map (fun f => f.bytes.length)).sum
/-- The kernel's Boot while it makes files. -/
structure KLoop (lp lf lo li lb : Int) (FZ : List PFile) (w : World) (tb ab am j : Nat) (wr : World) (q : PK) (NB MB : List Nat) (V : List Value) : Prop where
  puts : (boot0 lp lf lo li lb).puts (FZ.take j) = (0, q)
  rep : BootRep wr w.heap.size tb ab am q NB MB V
  below : Below w.heap.size w wr
  size : PSize lp lf lo li lb j (sizesTo FZ j) q
  fit : PFit q
theorem sizes_succ {FZ : List PFile} {j : Nat} {f : PFile} (h : FZ[j]? = some f) : sizesTo FZ (j + 1) = sizesTo FZ j + f.bytes.length := by
  unfold sizesTo
  rw [List.take_add_one, h]
  simp
theorem sizes_le (FZ : List PFile) (j : Nat) : sizesTo FZ j ≤ (FZ.map (fun f => f.bytes.length)).sum := by
  unfold sizesTo
  have : FZ.map (fun f => f.bytes.length) = (FZ.take j).map (fun f => f.bytes.length) ++ (FZ.drop j).map (fun f => f.bytes.length) := by rw [← List.map_append, List.take_append_drop]
  rw [this, List.sum_append]
  omega
theorem KLoop.inv {lp lf lo li lb : Int} {FZ : List PFile} {W0 : World} {tb ab am j : Nat} {wr : World} {q : PK} {NB MB : List Nat} {V : List Value} (h : KLoop lp lf lo li lb FZ W0 tb ab am j wr q NB MB V) : PInv q := by
  have := puts_inv lp lf lo li lb (FZ.take j)
  rw [h.puts] at this
  exact this
theorem errno_ne (c : Int) : c ≠ 0 → (c == 0) = false := fun h => by simpa using h

set_option maxRecDepth 100000 in
set_option maxHeartbeats 8000000 in
theorem kBoot_any (lp lf lo li lb mm : Int) (va : Option Addr) (vb vcap : Nat) (FZ : List PFile) (LS : List FLoc) (w : World) (hn : FZ.length ≤ 100) (hsum : (FZ.map (fun f => f.bytes.length)).sum ≤ 200000) (hps : ∀ f ∈ FZ, f.path.size ≤ maxLen ∧ IsBytes f.bytes) (hva : 0 < FZ.length → va = some ⟨vb, 0, none⟩ ∧ vb < w.heap.size) (hf : FilesInL w vb 0 FZ LS)
    (ht : w.rangeAt 1 0 tblRow) (hgw : 1 < w.heap.size) (hmm : w.cell? ⟨2, 0, none⟩ = some (.int .i64 mm)) (hml : 2 < w.heap.size) :
    Calls Tryz.prog 26 #[.agg #[.int .i64 lp, .int .i64 lf, .int .i64 lo, .int .i64 li, .int .i64 lb], .slice va FZ.length vcap] w (KBootPost lp lf lo li lb FZ w) := by
  obtain ⟨W0, hW0⟩ : ∃ W0, W0 = w.alloc (Obj.cells #[.int .i64 lp, .int .i64 lf, .int .i64 lo, .int .i64 li, .int .i64 lb] 23) := ⟨_, rfl⟩
  have hb0 : Below w.heap.size w W0 := by rw [hW0]; exact (Below.refl _ _).alloc (Nat.le_refl _) _
  have hn0 : Holds W0 w.heap.size 23 [.int .i64 lp, .int .i64 lf, .int .i64 lo, .int .i64 li, .int .i64 lb] := by rw [hW0]; exact Holds.new w 23 _
  have HAL := hide (areLimits_any lp lf lo li lb W0)
  have HFB := hide (show ∀ w', Below w.heap.size w w' → ∀ (i : Nat) (f : PFile) (l : FLoc), FZ[i]? = some f → LS[i]? = some l → w'.cell? ⟨vb, i * 3, none⟩ = some (.string f.path) ∧ w'.cell? ⟨vb, i * 3 + 1, none⟩ = some (.bool f.dir) ∧ w'.cell? ⟨vb, i * 3 + 2, none⟩ = some (.slice l.a f.bytes.length l.c) ∧ (0 < f.bytes.length → l.a = some ⟨l.q, l.o, none⟩ ∧ l.q < w.heap.size) ∧ BView w' l.q l.o f.bytes from fun w' h i f l hi hli => by
    obtain ⟨x0, x1, x2, x3, x4⟩ := hf.at_ i f l hi hli
    have h0 : 0 < FZ.length := by have := (List.getElem?_eq_some_iff.1 hi).1; omega
    have hfb := (hva h0).2
    rw [Nat.zero_add] at x0 x1 x2
    refine ⟨by rw [h.cell (p := ⟨vb, i * 3, none⟩) hfb]; exact x0, by rw [h.cell (p := ⟨vb, i * 3 + 1, none⟩) hfb]; exact x1, by rw [h.cell (p := ⟨vb, i * 3 + 2, none⟩) hfb]; exact x2, x3, fun j hj => ?_⟩
    rw [h.cell (p := ⟨l.q, l.o + j, none⟩) (x3 (by omega)).2]
    exact x4 j hj)
  have HVA := hide (show 0 < FZ.length → va = some ⟨vb, 0, none⟩ from fun h => (hva h).1)
  have HLEN := hide hf.len
  have HPS := hide hps
  have HT := hide ht
  have HMM := hide hmm
  have HGL := hide (And.intro hgw (And.intro hml hsum))
  have HW0 := hide hW0
  have HB0 := hide hb0
  have HN0 := hide hn0
  clear hps hva hf ht hmm hgw hml hW0 hb0 hn0 hsum
  go_enter Tryz.func26, Tryz.ntmps26
  go_upto_region 1 with fail
  rw [← unhide HW0]
  have k0 : W0.cell? ⟨w.heap.size, 0, none⟩ = some (.int .i64 lp) := (unhide HN0).cell rfl
  have k1 : W0.cell? ⟨w.heap.size, 1, none⟩ = some (.int .i64 lf) := (unhide HN0).cell rfl
  have k2 : W0.cell? ⟨w.heap.size, 2, none⟩ = some (.int .i64 lo) := (unhide HN0).cell rfl
  have k3 : W0.cell? ⟨w.heap.size, 3, none⟩ = some (.int .i64 li) := (unhide HN0).cell rfl
  have k4 : W0.cell? ⟨w.heap.size, 4, none⟩ = some (.int .i64 lb) := (unhide HN0).cell rfl
  go_wp2_with fail
  refine (unhide HAL).mono ?_
  rintro e w1 ⟨(⟨rfl, hlim⟩ | ⟨rfl, hlim⟩), hb1⟩
  case inr =>
    have HP := hide (show KBootPost lp lf lo li lb FZ w (errKer 6) w1 from ⟨(unhide HB0).trans (hb1.mono (unhide HB0).size), .inl ⟨6, .inl ⟨hlim, rfl⟩, rfl⟩⟩)
    clear hlim hb1 k0 k1 k2 k3 k4 HAL
    go_wp2
    go_ret2
    exact unhide HP
  have hn1 := (unhide HN0).below hb1 (unhide HN0).lt
  have hb1w := (unhide HB0).trans (hb1.mono (unhide HB0).size)
  have k3' : w1.cell? ⟨w.heap.size, 3, none⟩ = some (.int .i64 li) := hn1.cell rfl
  have k4' : w1.cell? ⟨w.heap.size, 4, none⟩ = some (.int .i64 lb) := hn1.cell rfl
  have HNEW := hide (fsNew_any li lb mm w1 (by rw [hb1w.cell (p := ⟨2, 0, none⟩) (unhide HGL).2.1]; exact unhide HMM) (by have := (unhide HGL).2.1; have := hb1w.size; omega) ⟨hlim.2.2.2.2.2.2.1, by have := hlim.2.2.2.2.2.2.2.1; omega⟩ ⟨hlim.2.2.2.2.2.2.2.2.1, by have := hlim.2.2.2.2.2.2.2.2.2; omega⟩)
  have HLIM := hide hlim
  have HN1 := hide hn1
  have HB01 := hide hb1
  have HB1 := hide hb1w
  clear hlim hn1 hb1 hb1w k0 k1 k2 k3 k4 HAL
  go_wp2_with fail
  refine (unhide HNEW).mono ?_
  rintro e w2 ⟨hb2, (⟨hli, rfl⟩ | ⟨hli, tb, ab, am, nb, nm, rfl, htr⟩)⟩
  · have HP := hide (show KBootPost lp lf lo li lb FZ w (errKer 12) w2 from ⟨(unhide HB1).trans (hb2.mono (unhide HB1).size), .inl ⟨12, .inr ⟨unhide HLIM, .inl ⟨by have := (unhide HLIM).2.2.2.2.2.2.1; omega, rfl⟩⟩, rfl⟩⟩)
    clear hb2 hli k3' k4' HNEW
    go_wp2
    go_ret2
    exact unhide HP
  have hb2w := (unhide HB1).trans (hb2.mono (unhide HB1).size)
  have HLI := hide hli
  have HR0 := hide (show ∃ q NB MB V, KLoop lp lf lo li lb FZ W0 tb ab am 0 w2 q NB MB V from ⟨boot0 lp lf lo li lb, [nb], [nm], [.slice none 0 0], rfl, boot0_rep htr (unhide HB01).size, (unhide HB01).trans (hb2.mono (unhide HB01).size), boot0_size lp lf lo li lb, ⟨by show (1 : Int) ≤ li; omega, by show (0 : Int) ≤ lb; have := (unhide HLIM).2.2.2.2.2.2.2.2.1; omega⟩⟩)
  clear htr hb2 hb2w hli k3' k4' HNEW
  go_wp2
  go_loopw [32] (fun i wr => ∃ j : Nat, j ≤ FZ.length ∧ i = .int .i64 j ∧ Hid (∃ q NB MB V, KLoop lp lf lo li lb FZ W0 tb ab am j wr q NB MB V)) (fun i _ => FZ.length - (intOf i).toNat)
  case atStart => exact ⟨0, by omega, rfl, HR0⟩
  case round =>
    obtain ⟨j, hj, rfl, HR⟩ := hrel
    obtain ⟨q, NB, MB, V, hkl⟩ := unhide HR
    have HKL := hide hkl
    have hsz := hkl.size
    have hbw0 := hkl.below
    have hws0 := hbw0.size
    have hs00 := (unhide HB0).size
    have hbw := (unhide HB0).trans (hbw0.mono hs00)
    have hws := hbw.size
    have hsl := sizes_le FZ j
    have hgl := unhide HGL
    have hlm := unhide HLIM
    have hqb : 0 ≤ q.lb ∧ q.lb ≤ 1000000 := by rw [hsz.lims.2.2.2.2]; have := hlm.2.2.2.2.2.2.2.2; omega
    have hqu : usedOf q.cs ≤ 200000 := by have := hsz.used; omega
    have hql : q.xs.length ≤ 101 := by have := hsz.len; omega
    have hqi : (q.xs.length : Int) ≤ q.li ∧ q.li ≤ 1000000 := ⟨hkl.fit.1, by rw [hsz.lims.2.2.2.1]; have := hlm.2.2.2.2.2.2.2.1; omega⟩
    have hqf : (usedOf q.cs : Int) ≤ q.lb := hkl.fit.2
    have hmw : ∀ w', Below w.heap.size w w' → w'.cell? ⟨2, 0, none⟩ = some (.int .i64 mm) := fun w' h => by rw [h.cell (p := ⟨2, 0, none⟩) hgl.2.1]; exact unhide HMM
    by_cases hlt : j < FZ.length
    · obtain ⟨f, hfj⟩ : ∃ f, FZ[j]? = some f := ⟨_, List.getElem?_eq_getElem hlt⟩
      obtain ⟨l, hlj⟩ : ∃ l, LS[j]? = some l := ⟨_, List.getElem?_eq_getElem (by rw [unhide HLEN]; exact hlt)⟩
      obtain rfl := unhide HVA (by omega)
      obtain ⟨x0, x1, x2, x3, x4⟩ := unhide HFB wr hbw j f l hfj hlj
      have hj0 : (0 : Int) ≤ (j : Int) := by omega
      have hj1 : (j : Int) < (FZ.length : Int) := by omega
      have hfp := unhide HPS f (List.mem_of_getElem? hfj)
      have hsc := sizes_succ hfj
      have hsl1 := sizes_le FZ (j + 1)
      obtain ⟨W3, hW3⟩ : ∃ W3, W3 = wr.alloc (Obj.cells #[.string f.path, .bool f.dir, .slice l.a f.bytes.length l.c] 44) := ⟨_, rfl⟩
      have hb3 : Below wr.heap.size wr W3 := by rw [hW3]; exact (Below.refl _ _).alloc (Nat.le_refl _) _
      have hb3w := hbw.trans (hb3.mono hws)
      have hb30 := hbw0.trans (hb3.mono hws0)
      have HMK := hide (makeFile_any q W0.heap.size tb ab am l.q l.o l.c l.a NB MB V f mm W3 (hkl.rep.below hb3) hkl.inv (by omega) (by omega) hqb hqi hqf hfp.1 (by omega) (fun h => ⟨(x3 h).1, by have := (x3 h).2; omega⟩) (unhide HFB W3 hb3w j f l hfj hlj).2.2.2.2 hb30.size (hmw W3 hb3w) (by omega))
      have HW3 := hide hW3
      have HB3 := hide hb3w
      have HB30 := hide hb30
      have HFJ := hide (And.intro hfj hfp)
      clear hsz hbw hws hbw0 hws0 hs00 hsl hgl hlm hqb hqu hql hqi hqf hmw hkl hfj hlj x3 x4 hfp hsc hsl1 hW3 hb3 hb3w hb30
      go_wp2_with fail
      rw [← unhide HW3]
      refine (unhide HMK).mono ?_
      rintro e w4 ⟨hb4, (⟨hne, rfl⟩ | ⟨hok, rfl, NB', MB', V', hrep⟩)⟩
      · have HP := hide (show KBootPost lp lf lo li lb FZ w (errKer (q.put f).1) w4 from ⟨(unhide HB3).trans (hb4.mono (unhide HB0).size), .inl ⟨_, .inr ⟨unhide HLIM, .inr ⟨by have := unhide HLI; omega, .inl (by rw [puts_stop (unhide HKL).puts (unhide HFJ).1 hne]; exact ⟨hne, rfl⟩)⟩⟩, rfl⟩⟩)
        unfold errnoRet
        clear hb4 hne x0 x1 x2 HMK
        go_wp2
        go_ret2
        exact unhide HP
      · have HR' := hide (show ∃ q NB MB V, KLoop lp lf lo li lb FZ W0 tb ab am (j + 1) w4 q NB MB V from ⟨(q.put f).2, NB', MB', V', puts_snoc (unhide HKL).puts (unhide HFJ).1 hok, hrep, (unhide HB30).trans hb4, by rw [sizes_succ (unhide HFJ).1]; exact (unhide HKL).size.put f (unhide HFJ).2.2, (unhide HKL).fit.put f hok⟩)
        clear hb4 hok hrep x0 x1 x2 HMK
        go_wp2
        exact ⟨⟨j + 1, by omega, by simp, HR'⟩, by simp only [intOf]; omega⟩
    · have hje : j = FZ.length := by omega
      subst hje
      have hput := hkl.puts
      rw [List.take_length] at hput
      have hq : ((boot0 lp lf lo li lb).puts FZ).2 = q := by rw [hput]
      have hq1 : ((boot0 lp lf lo li lb).puts FZ).1 = 0 := by rw [hput]
      obtain ⟨W5, hW5⟩ : ∃ W5, W5 = wr.alloc (Obj.cells #[.slice none 0 0, .slice none 0 0] 129) := ⟨_, rfl⟩
      have hb5 : Below wr.heap.size wr W5 := by rw [hW5]; exact (Below.refl _ _).alloc (Nat.le_refl _) _
      have hc5 : Holds W5 wr.heap.size 129 conRow := by rw [hW5]; exact Holds.new wr 129 _
      have hs5 : W5.heap.size = wr.heap.size + 1 := by rw [hW5]; simp
      have HNP := hide (newProcess_any 1 0 wr.heap.size W5)
      have HW5 := hide hW5
      have HB5 := hide hb5
      have HC5 := hide hc5
      have HQ := hide (And.intro hq hq1)
      have HSZ := hide (And.intro hsz (And.intro hqu (And.intro hql (And.intro hws hs5))))
      have HMW := hide hmw
      have HBW := hide (And.intro hbw (And.intro hbw0 (And.intro hws0 hs00)))
      clear hsz hbw hws hbw0 hws0 hs00 hsl hgl hlm hqb hqu hql hqi hqf hmw hkl hput hq hq1 hW5 hb5 hc5 hs5 hlt hj
      go_upto_region 14 with fail
      rw [← unhide HW5]
      go_wp2_with fail
      refine (unhide HNP).mono ?_
      rintro e w6 ⟨rfl, hb6, hp6⟩
      obtain ⟨W7, hup, hone, hg7⟩ := one_put w6 W5.heap.size
      have hs6 : W5.heap.size < w6.heap.size := hp6.lt
      have hb56 := (unhide HB5).trans (hb6.mono (unhide HB5).size)
      obtain ⟨hbw, hbw0, hws0, hs00⟩ := unhide HBW
      obtain ⟨hsz, hqu, hql, hws, hs5⟩ := unhide HSZ
      have hb60 := hbw0.trans (hb56.mono hws0)
      have hb6w := hbw.trans (hb56.mono hws)
      have hn6 := (unhide HN0).below hb60 (unhide HN0).lt
      have k0 : w6.cell? ⟨w.heap.size, 0, none⟩ = some (.int .i64 lp) := hn6.cell rfl
      have k1 : w6.cell? ⟨w.heap.size, 1, none⟩ = some (.int .i64 lf) := hn6.cell rfl
      have k2 : w6.cell? ⟨w.heap.size, 2, none⟩ = some (.int .i64 lo) := hn6.cell rfl
      have k3 : w6.cell? ⟨w.heap.size, 3, none⟩ = some (.int .i64 li) := hn6.cell rfl
      have k4 : w6.cell? ⟨w.heap.size, 4, none⟩ = some (.int .i64 lb) := hn6.cell rfl
      have hmk := @run_makeMap Tryz.prog
      have hb7 : Below w6.heap.size w6 W7 := ((Below.refl w6.heap.size w6).alloc (Nat.le_refl _) (.map #[] 0)).trans (below_grown hg7 (Nat.le_refl _) (by simp))
      have hs7 : w6.heap.size < W7.heap.size := by have := hg7.size; simp at this; omega
      obtain ⟨pm, hpm⟩ : ∃ pm, pm = w6.heap.size := ⟨_, rfl⟩
      obtain ⟨pb, hpb⟩ : ∃ pb, pb = W5.heap.size := ⟨_, rfl⟩
      obtain ⟨cb, hcb⟩ : ∃ cb, cb = wr.heap.size := ⟨_, rfl⟩
      obtain ⟨W8, hW8⟩ : ∃ W8, W8 = W7.alloc (Obj.cells #[.int .i64 lp, .int .i64 lf, .int .i64 lo, .int .i64 li, .int .i64 lb, .pointer (some ⟨tb, 0, none⟩), .pointer (some ⟨cb, 0, none⟩), .int .i64 0, .slice none 0 0, .map (some pm)] 121) := ⟨_, rfl⟩
      obtain ⟨W9, hW9⟩ : ∃ W9, W9 = W8.alloc (Obj.cells #[.string initArg] 9) := ⟨_, rfl⟩
      have hb8 : Below W7.heap.size W7 W8 := by rw [hW8]; exact (Below.refl _ _).alloc (Nat.le_refl _) _
      have hb9 : Below W8.heap.size W8 W9 := by rw [hW9]; exact (Below.refl _ _).alloc (Nat.le_refl _) _
      have hk8 : Holds W8 W7.heap.size 121 (kernelRow lp lf lo li lb tb cb pm) := by rw [hW8]; exact Holds.new W7 121 _
      have ha9 : Holds W9 W8.heap.size 9 [.string initArg] := by rw [hW9]; exact Holds.new W8 9 _
      have hb79 : Below W7.heap.size W7 W9 := hb8.trans (hb9.mono hb8.size)
      have hb69 : Below w6.heap.size w6 W9 := hb7.trans (hb79.mono hb7.size)
      have hbr9 : Below wr.heap.size wr W9 := hb56.trans (hb69.mono (by omega))
      have hbw9 : Below w.heap.size w W9 := hbw.trans (hbr9.mono hws)
      have hk9 := hk8.below hb9 hk8.lt
      have hp9 := hp6.below hb69 hp6.lt
      have hc9 := (unhide HC5).below (hb6.trans (hb69.mono (by omega))) (unhide HC5).lt
      have ho9 : OneProc W9 w6.heap.size W5.heap.size := hone.kept (grown_below hb79) (by simp)
      rw [← hpm, ← hpb] at ho9
      rw [← hpb, ← hcb] at hp9
      rw [← hcb] at hc9
      obtain ⟨kb, hkb⟩ : ∃ kb, kb = W7.heap.size := ⟨_, rfl⟩
      rw [← hkb] at hk9
      obtain ⟨l1, l2, l3, l4, l5⟩ := hsz.lims
      have hgl := unhide HGL
      have hlm := unhide HLIM
      have hq9 := (unhide HKL).rep.below hbr9
      have HEX := hide (execute_any q W0.heap.size tb ab am kb pm pb cb W8.heap.size 0 1 (some ⟨W8.heap.size, 0, none⟩) 1 0 mm (kfdsTo cb 3) NB MB V initPath [initArg] W9 hq9 (unhide HKL).inv hsz.bytes (by omega) (by omega) ⟨by rw [l4]; exact hlm.2.2.2.2.2.2.1, by rw [l4]; have := hlm.2.2.2.2.2.2.2.1; omega⟩ ⟨(unhide HKL).fit.2, by rw [l5]; have := hlm.2.2.2.2.2.2.2.2.2; omega⟩ (by rw [l2]; have := hlm.2.2; omega) (by rw [l1, l2, l3, l4, l5]; exact hk9) ho9 hp9 (by
          intro v hv
          rw [fds_8] at hv
          simp only [List.mem_cons, List.not_mem_nil, or_false] at hv
          rcases hv with rfl | rfl | rfl | rfl | rfl | rfl | rfl | rfl <;> rfl) (by decide) (fun _ => rfl) ha9.lt (fun i hi => by
          have hi0 : i = 0 := by simp at hi; omega
          subst hi0
          exact ha9.cell rfl) (by decide) (fun j v hj => by rw [hbw9.cell (p := ⟨1, 0 + j, none⟩) hgl.1]; exact unhide HT j v hj) (by have := hbw9.size; omega) (unhide HMW W9 hbw9) (by have := hbw9.size; omega))
      have hsz9 := hb69.size
      have HFIN := hide (show wr.heap.size = cb ∧ cb < pb ∧ pb < pm ∧ pm < kb ∧ kb < W9.heap.size ∧ w.heap.size ≤ cb ∧ w.heap.size ≤ W0.heap.size from ⟨hcb.symm, by omega, by omega, by omega, by rw [hkb]; have := hk8.lt; have := hb9.size; omega, by omega, hs00⟩)
      have HST := hide (And.intro hbr9 (And.intro hbw9 (And.intro hk9 (And.intro ho9 hc9))))
      have HW8 := hide hW8
      have hW9' := hW9
      unfold initArg at hW9'
      have HW9 := hide hW9'
      have HUP := hide hup
      have HID := hide (And.intro hpm (And.intro hpb (And.intro hcb hkb)))
      clear hs6 hb56 hbw hbw0 hws0 hs00 hsz hqu hql hws hs5 hb60 hb6w hn6 hb7 hs7 hW8 hW9 hW9' hb8 hb9 hk8 ha9 hb79 hb69 hbr9 hbw9 hk9 hp9 hc9 ho9 l1 l2 l3 l4 l5 hgl hlm hq9 hsz9 hb6 hp6 hone hg7 HNP hpm hpb hcb hkb
      have hup' := unhide HUP
      rw [← (unhide HID).2.1] at hup' ⊢
      rw [← (unhide HID).2.2.1]
      clear hup
      go_upto_region 16 with fail
      rw [← (unhide HID).1]
      rw [← unhide HW8]
      rw [← (unhide HID).2.2.2]
      clear hup' hmk k0 k1 k2 k3 k4
      go_wp2_with fail
      rw [← unhide HW9]
      refine (unhide HEX).mono ?_
      intro e w10 hx
      obtain ⟨hbr9, hbw9, hk9, ho9, hc9⟩ := unhide HST
      obtain ⟨i1, i2, i3, i4, i5, i6, i7⟩ := unhide HFIN
      rcases hx with ⟨c, hc, rfl, hb10⟩ | ⟨hok, rfl, hfr, hp10⟩
      · have HP := hide (show KBootPost lp lf lo li lb FZ w (errKer c) w10 from ⟨hbw9.trans (hb10.mono hbw9.size), .inl ⟨c, .inr ⟨unhide HLIM, .inr ⟨by have := unhide HLI; omega, .inr ⟨(unhide HQ).2, by rw [(unhide HQ).1]; exact hc⟩⟩⟩, rfl⟩⟩)
        unfold errnoRet
        clear hc hb10 hbr9 hbw9 hk9 ho9 hc9 i1 i2 i3 i4 i5 i6 i7 HEX
        go_wp2
        go_ret2
        exact unhide HP
      · have HP := hide (show KBootPost lp lf lo li lb FZ w (.returned (.tuple #[.pointer (some ⟨kb, 0, none⟩), .nilIface])) w10 from by
          have hbw10 : Below w.heap.size W9 w10 := hfr.below (fun k hk => by simp at hk; omega) hbw9.size
          have hbr10 : Below wr.heap.size wr w10 := hbr9.trans (hfr.below (fun k hk => by simp at hk; omega) hbr9.size)
          obtain ⟨hsz, hqu, hql, _, _⟩ := unhide HSZ
          obtain ⟨l1, l2, l3, l4, l5⟩ := hsz.lims
          have hkeep : ∀ k, k < W9.heap.size → k ≠ pb → w10.heap[k]? = W9.heap[k]? := fun k hk hne => hfr.block k hk (by simpa using hne)
          refine ⟨hbw9.trans hbw10, .inr ⟨⟨unhide HLIM, by have := unhide HLI; omega, (unhide HQ).2, by rw [(unhide HQ).1]; exact hok⟩, kb, tb, ab, am, cb, pm, pb, NB, MB, V, rfl, ?_⟩⟩
          rw [(unhide HQ).1]
          have hrep := (unhide HKL).rep.below hbr10
          refine ⟨⟨hrep.tree.base i7, fun i v c hv hc => ?_, hrep.own⟩, ?_, ho9.block (hkeep _ (by omega) (by omega)), holds_block hc9 (hkeep _ (by omega) (by omega)), hp10, ⟨by omega, by omega, by omega, by omega⟩, (unhide HKL).inv, ⟨by omega, by omega, hsz.bytes⟩⟩
          · rcases hrep.cont i v c hv hc with z | ⟨R, cp, T, z1, z2, z3, z4, z5⟩
            · exact .inl z
            · exact .inr ⟨R, cp, T, z1, z2, z3, z4, by omega⟩
          · rw [l1, l2, l3, l4, l5]
            exact holds_block hk9 (hkeep _ (by omega) (by omega)))
        clear hok hfr hp10 hbr9 hbw9 hk9 ho9 hc9 i1 i2 i3 i4 i5 i6 i7 HEX
        go_wp2
        go_ret2
        exact unhide HP
end Go.Proofs.YtkokiefclmbgaaaGreatDoor

/- The program's Boot: what the law asks. -/
namespace Go.Proofs.YtkokiefclmbgaaaGreatDoor
open Go Go.RowKit Go.Maps
set_option linter.unusedVariables false
set_option linter.unusedSimpArgs false

set_option maxRecDepth 100000 in
set_option maxHeartbeats 2000000 in
theorem boot_top (lp lf lo li lb mm : Int) (va : Option Addr) (vb vcap : Nat) (FZ : List PFile) (LS : List FLoc) (w : World) (hn : FZ.length ≤ 100) (hsum : (FZ.map (fun f => f.bytes.length)).sum ≤ 200000) (hps : ∀ f ∈ FZ, f.path.size ≤ maxLen ∧ IsBytes f.bytes) (hva : 0 < FZ.length → va = some ⟨vb, 0, none⟩ ∧ vb < w.heap.size) (hf : FilesInL w vb 0 FZ LS)
    (ht : w.rangeAt 1 0 tblRow) (hgw : 1 < w.heap.size) (hmm : w.cell? ⟨2, 0, none⟩ = some (.int .i64 mm)) (hml : 2 < w.heap.size) :
    Calls Tryz.prog 10 #[.agg #[.int .i64 lp, .int .i64 lf, .int .i64 lo, .int .i64 li, .int .i64 lb], .slice va FZ.length vcap] w (ProgBoot lp lf lo li lb FZ KR w) := by
  obtain ⟨W0, hW0⟩ : ∃ W0, W0 = w.alloc (Obj.cells #[.int .i64 lp, .int .i64 lf, .int .i64 lo, .int .i64 li, .int .i64 lb] 23) := ⟨_, rfl⟩
  have hb0 : Below w.heap.size w W0 := by rw [hW0]; exact (Below.refl _ _).alloc (Nat.le_refl _) _
  have hs0 := hb0.size
  have HB := hide (kBoot_any lp lf lo li lb mm va vb vcap FZ LS W0 hn hsum hps (fun h => ⟨(hva h).1, by have := (hva h).2; omega⟩) ⟨hf.len, fun i f l hi hl => by
    obtain ⟨x0, x1, x2, x3, x4⟩ := hf.at_ i f l hi hl
    have h0 : 0 < FZ.length := by have := (List.getElem?_eq_some_iff.1 hi).1; omega
    have hfb := (hva h0).2
    refine ⟨by rw [hb0.cell (p := ⟨vb, 0 + i * 3, none⟩) hfb]; exact x0, by rw [hb0.cell (p := ⟨vb, 0 + i * 3 + 1, none⟩) hfb]; exact x1, by rw [hb0.cell (p := ⟨vb, 0 + i * 3 + 2, none⟩) hfb]; exact x2, fun q => ⟨(x3 q).1, by have := (x3 q).2; omega⟩, fun j hj => ?_⟩
    rw [hb0.cell (p := ⟨l.q, l.o + j, none⟩) (x3 (by omega)).2]
    exact x4 j hj⟩ (fun j v hv => by rw [hb0.cell (p := ⟨1, 0 + j, none⟩) hgw]; exact ht j v hv) (by omega) (by rw [hb0.cell (p := ⟨2, 0, none⟩) hml]; exact hmm) (by omega))
  have hn0 : Holds W0 w.heap.size 23 [.int .i64 lp, .int .i64 lf, .int .i64 lo, .int .i64 li, .int .i64 lb] := by rw [hW0]; exact Holds.new w 23 _
  have k0 : W0.cell? ⟨w.heap.size, 0, none⟩ = some (.int .i64 lp) := hn0.cell rfl
  have k1 : W0.cell? ⟨w.heap.size, 1, none⟩ = some (.int .i64 lf) := hn0.cell rfl
  have k2 : W0.cell? ⟨w.heap.size, 2, none⟩ = some (.int .i64 lo) := hn0.cell rfl
  have k3 : W0.cell? ⟨w.heap.size, 3, none⟩ = some (.int .i64 li) := hn0.cell rfl
  have k4 : W0.cell? ⟨w.heap.size, 4, none⟩ = some (.int .i64 lb) := hn0.cell rfl
  have HW0 := hide hW0
  have HB0 := hide hb0
  clear hps hva hf ht hmm hgw hml hW0 hb0 hn0 hsum hs0
  go_enter Tryz.func10, Tryz.ntmps10
  go_upto_region 1 with fail
  rw [← unhide HW0]
  go_wp2_with fail
  refine (unhide HB).mono ?_
  rintro e w1 ⟨hb1, (⟨c, hc, rfl⟩ | ⟨hg, kb, tb, ab, am, cb, pm, pb, NB, MB, V, rfl, hrep⟩)⟩
  · have HP := hide (show ProgBoot lp lf lo li lb FZ KR w (.returned (.tuple #[.pointer none, .iface 45 (.int .i64 c)])) w1 from ⟨(unhide HB0).trans (hb1.mono (unhide HB0).size), .inl ⟨c, hc, rfl⟩⟩)
    unfold errKer
    clear hc hb1 k0 k1 k2 k3 k4 HB
    go_wp2
    go_ret2
    exact unhide HP
  · have HP := hide (show ProgBoot lp lf lo li lb FZ KR w (.returned (.tuple #[.pointer (some ⟨w1.heap.size, 0, none⟩), .nilIface])) (w1.alloc (Obj.cells #[.pointer (some ⟨kb, 0, none⟩)] 96)) from by
      have hs0 := (unhide HB0).size
      have hb1w := (unhide HB0).trans (hb1.mono hs0)
      have hb2 : Below w1.heap.size w1 (w1.alloc (Obj.cells #[.pointer (some ⟨kb, 0, none⟩)] 96)) := (Below.refl _ _).alloc (Nat.le_refl _) _
      refine ⟨hb1w.trans (hb2.mono hb1w.size), .inr ⟨hg, ⟨w1.heap.size, 0, none⟩, rfl, w1.heap.size, kb, tb, ab, am, cb, pm, pb, NB, MB, V, rfl, hb1w.size, Holds.new w1 96 _, ?_⟩⟩
      have h2 := hrep.stable hb2.size (fun k _ hk => hb2.block k hk)
      have hl := h2.low
      refine ⟨⟨h2.tree.tree.base hs0, fun i v c hv hc => ?_, h2.tree.own⟩, h2.ker, h2.procs, h2.con, h2.proc, ⟨by omega, by omega, by omega, by omega⟩, h2.inv, h2.size⟩
      rcases h2.tree.cont i v c hv hc with z | ⟨R, cp, T, z1, z2, z3, z4, z5⟩
      · exact .inl z
      · exact .inr ⟨R, cp, T, z1, z2, z3, z4, by omega⟩)
    clear hg hrep hb1 k0 k1 k2 k3 k4 HB
    go_wp2
    go_ret2
    exact unhide HP
end Go.Proofs.YtkokiefclmbgaaaGreatDoor
