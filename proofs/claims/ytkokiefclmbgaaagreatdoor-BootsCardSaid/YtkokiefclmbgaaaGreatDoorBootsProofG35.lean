import Derived.Test.YtkokiefclmbgaaaGreatDoorBootsProofG34
/- tinyosref: Boot, whatever the limits. -/
namespace Go.Proofs.YtkokiefclmbgaaaGreatDoor
open Go.RowKit
set_option linter.unusedVariables false
set_option linter.unusedSimpArgs false

set_option maxRecDepth 100000 in
set_option maxHeartbeats 4000000 in
theorem refBoot_zero (lp lf lo lb : Int) (v1 v2 v3 : Value) (w : World) (h : limsOk lp lf lo 0 lb) :
    Calls Tryz.prog 16 #[.agg #[.int .i64 lp, .int .i64 lf, .int .i64 lo, .int .i64 0, .int .i64 lb], v1, v2, v3] w fun e w' => e = noKernel 12 ∧ Below w.heap.size w w' := by
  obtain ⟨a1, a2, a3, a4, a5, a6, a7, a8, a9, a10⟩ := h
  have fin : ∀ (o1 o2 : Obj), Below w.heap.size w ((w.alloc o1).alloc o2) := fun o1 o2 => ((Below.refl _ _).alloc (Nat.le_refl _) _).alloc (by simp) _
  have HF := hide fin
  have b1 : decide (lp < 1) = false := decide_eq_false (by omega)
  have b2 : decide (16 < lp) = false := decide_eq_false (by omega)
  have b3 : decide (lf < 1) = false := decide_eq_false (by omega)
  have b4 : decide (1000 < lf) = false := decide_eq_false (by omega)
  have b5 : decide (lo < 0) = false := decide_eq_false (by omega)
  have b6 : decide (100000 < lo) = false := decide_eq_false (by omega)
  have b9 : decide (lb < 0) = false := decide_eq_false (by omega)
  have b10 : decide (100000 < lb) = false := decide_eq_false (by omega)
  clear fin a1 a2 a3 a4 a5 a6 a7 a8 a9 a10
  go_enter Tryz.func16, Tryz.ntmps16
  go_wp2
  go_ret2
  exact ⟨rfl, unhide HF _ _⟩

/-- The error of a Boot. -/
def BootBad (lp lf lo li lb : Int) (FZ : List PFile) (c : Int) : Prop :=
  ¬ limsOk lp lf lo li lb ∧ c = 6 ∨ limsOk lp lf lo li lb ∧ (li = 0 ∧ c = 12 ∨ li ≠ 0 ∧ BootErr lp lf lo li lb FZ c)
/-- A Boot that makes a kernel. -/
def BootGood (lp lf lo li lb : Int) (FZ : List PFile) : Prop :=
  limsOk lp lf lo li lb ∧ li ≠ 0 ∧ ((boot0 lp lf lo li lb).puts FZ).1 = 0 ∧ ((boot0 lp lf lo li lb).puts FZ).2.ExecOk [0] 0 initPath [initArg]
def RefBootPost (lp lf lo li lb : Int) (FZ : List PFile) (w : World) (e : Ending) (w' : World) : Prop :=
  Below w.heap.size w w' ∧ ((∃ c, BootBad lp lf lo li lb FZ c ∧ e = noKernel c) ∨ (BootGood lp lf lo li lb FZ ∧ e = kernelAt w ∧ ∃ k cs g cap gp pc gn cn, BootedAt ((boot0 lp lf lo li lb).puts FZ).2 w w' k cs g cap gp pc gn cn))
theorem refBoot_any (lp lf lo li lb : Int) (pa da ba : Option Addr) (pb poff pcap db doff dcap bb boff bcap : Nat) (FZ : List PFile) (w : World) (hn : FZ.length ≤ 100) (hsum : (FZ.map (fun f => f.bytes.length)).sum ≤ 200000)
    (hpa : 0 < FZ.length → pa = some ⟨pb, poff, none⟩ ∧ da = some ⟨db, doff, none⟩ ∧ ba = some ⟨bb, boff, none⟩) (hf : FilesAt w pb poff db doff bb boff FZ) (hlt : pb < w.heap.size ∧ db < w.heap.size ∧ bb < w.heap.size) (hps : ∀ f ∈ FZ, f.path.size ≤ maxLen ∧ IsBytes f.bytes) :
    Calls Tryz.prog 16 #[.agg #[.int .i64 lp, .int .i64 lf, .int .i64 lo, .int .i64 li, .int .i64 lb], .slice pa FZ.length pcap, .slice da FZ.length dcap, .slice ba FZ.length bcap] w fun e w' => RefBootPost lp lf lo li lb FZ w e w' := by
  by_cases hl : limsOk lp lf lo li lb
  case neg =>
    refine (refBoot_lims lp lf lo li lb _ _ _ w hl).mono ?_
    rintro e w' ⟨rfl, hb⟩
    exact ⟨hb, .inl ⟨6, .inl ⟨hl, rfl⟩, rfl⟩⟩
  by_cases h0 : li = 0
  · subst h0
    refine (refBoot_zero lp lf lo lb _ _ _ w hl).mono ?_
    rintro e w' ⟨rfl, hb⟩
    exact ⟨hb, .inl ⟨12, .inr ⟨hl, .inl ⟨rfl, rfl⟩⟩, rfl⟩⟩
  · refine (refBoot_files lp lf lo li lb pa da ba pb poff pcap db doff dcap bb boff bcap FZ w hl h0 hn hsum hpa hf hlt hps).mono ?_
    rintro e w' ⟨hb, (⟨c, hc, rfl⟩ | ⟨hp, rfl, k, cs, g, cap, gp, pc, gn, cn, hbt⟩)⟩
    · exact ⟨hb, .inl ⟨c, .inr ⟨hl, .inr ⟨h0, hc⟩⟩, rfl⟩⟩
    · exact ⟨hb, .inr ⟨⟨hl, h0, hp, hbt.ok⟩, rfl, k, cs, g, cap, gp, pc, gn, cn, hbt⟩⟩
end Go.Proofs.YtkokiefclmbgaaaGreatDoor
