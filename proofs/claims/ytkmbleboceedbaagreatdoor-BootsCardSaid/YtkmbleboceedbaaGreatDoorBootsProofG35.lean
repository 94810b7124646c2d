import Derived.Test.YtkmbleboceedbaaGreatDoorBootsProofG20
import Derived.Deep.RegionWith
import Derived.Test.YtkmbleboceedbaaGreatDoorBootsProofG22
/- tinyosref: Boot: one file. -/
namespace Go.Proofs.YtkmbleboceedbaaGreatDoor
open Go.RowKit
set_option linter.unusedVariables false
set_option linter.unusedSimpArgs false

/-- The kernel of Boot behind j files. -/
structure BootAt (lp lf lo li lb : Int) (w : World) (FS : List PFile) (j : Nat) (wr : World) (k : RK) (cs : List (List Int)) (g cap : Nat) : Prop where
  rep : RepK wr (w.heap.size + 2) (w.heap.size + 1) g cap k
  cont : ContAt wr k.inos cs
  inv : InvK k
  nils : NilK lp lf lo li lb k
  puts : (boot0 lp lf lo li lb).puts (FS.take j) = (0, k.toP cs)
  bytes : AllBytes cs
  used : usedOf cs ≤ ((FS.take j).map (fun f => f.bytes.length)).sum
  inos : k.inos.length ≤ j + 1
  last : k.last ≤ j + 1
  below : Below w.heap.size w wr
def BootR (lp lf lo li lb : Int) (w : World) (FS : List PFile) (j : Nat) (wr : World) : Prop := ∃ k cs g cap, BootAt lp lf lo li lb w FS j wr k cs g cap
theorem BootAt.drew {lp lf lo li lb : Int} {w : World} {FS : List PFile} {j : Nat} {wr : World} {k : RK} {cs : List (List Int)} {g cap : Nat} (h : BootAt lp lf lo li lb w FS j wr k cs g cap) : BootAt lp lf lo li lb w FS j wr.drew k cs g cap :=
  ⟨h.rep.heap rfl, h.cont, h.inv, h.nils, h.puts, h.bytes, h.used, h.inos, h.last, ⟨h.below.os, h.below.tape, h.below.output, h.below.size, h.below.block⟩⟩
theorem BootR.drew {lp lf lo li lb : Int} {w : World} {FS : List PFile} {j : Nat} {wr : World} (h : BootR lp lf lo li lb w FS j wr) : BootR lp lf lo li lb w FS j wr.drew := by
  obtain ⟨k, cs, g, cap, h⟩ := h
  exact ⟨k, cs, g, cap, h.drew⟩
theorem sum_take_file {FS : List PFile} {j : Nat} {f : PFile} (hf : FS[j]? = some f) : ((FS.take (j + 1)).map (fun f => f.bytes.length)).sum = ((FS.take j).map (fun f => f.bytes.length)).sum + f.bytes.length := by
  rw [List.take_add_one, hf]; simp
theorem sum_take_all (FS : List PFile) (j : Nat) : ((FS.take j).map (fun f => f.bytes.length)).sum ≤ (FS.map (fun f => f.bytes.length)).sum := by
  rw [List.map_take]; exact sum_take_le _ j
/-- What the call for one file of Boot's leaves. -/
def StepPost (lp lf lo li lb : Int) (w : World) (FS : List PFile) (j : Nat) (e : Ending) (w' : World) : Prop :=
  ∃ c : Int, e = .returned (.int .i64 c) ∧ Below w.heap.size w w' ∧ (c ≠ 0 → ((boot0 lp lf lo li lb).puts FS).1 = c) ∧ (c = 0 → BootR lp lf lo li lb w FS (j + 1) w')

theorem boot_step (lp lf lo li lb : Int) (FS : List PFile) (w : World) (j : Nat) (f : PFile) (hf : FS[j]? = some f) (hn : FS.length ≤ 100) (hsum : (FS.map (fun f => f.bytes.length)).sum ≤ 200000) (hps : ∀ f ∈ FS, f.path.size ≤ maxLen ∧ IsBytes f.bytes)
    (a : Option Addr) (q o c : Nat) (haq : 0 < f.bytes.length → a = some ⟨q, o, none⟩ ∧ q < w.heap.size) (hbv : BView w q o f.bytes) (wr : World) (h : BootR lp lf lo li lb w FS j wr) :
    Calls Tryz.prog 29 #[.pointer (some ⟨w.heap.size + 1, 0, none⟩), .string f.path, .bool f.dir, .slice a f.bytes.length c] wr fun e w' => StepPost lp lf lo li lb w FS j e w' := by
  obtain ⟨k, cs, g, cap, h⟩ := h
  have hjl := (List.getElem?_eq_some_iff.1 hf).1
  have hg := h.rep.2.lt g rfl
  have hk := h.rep.1.lt
  have hi0 := h.inos
  have hl0 := h.last
  have hp := hps f (List.mem_of_getElem? hf)
  have hu := h.used
  have hst := sum_take_all FS j
  have hst2 := sum_take_all FS (j + 1)
  have hsf := sum_take_file hf
  have hsz := h.below.size
  cases hd : f.dir with
  | true =>
    refine (refFile_dir (w.heap.size + 2) (w.heap.size + 1) g cap k f.path _ wr h.rep (by omega) (by omega) (by omega) (by have := h.inv.2.2; omega) (by omega) hp.1).mono ?_
    rintro e w7 ⟨rfl, g7, cap7, hr7, hf7, hg7⟩
    have hb7 : Below w.heap.size w w7 := h.below.trans (hf7.below (by omega) (by omega) (by omega))
    have hpd := puts_dir (k := k) (cs := cs) hd
    refine ⟨(mkdirOf k f.path).1, rfl, hb7, fun hc => ?_, fun hc => ?_⟩
    · rw [puts_stop h.puts hf (by rw [hpd.1]; exact hc), hpd.1]
    · have had := mkdir_add hc
      refine ⟨(mkdirOf k f.path).2, cs ++ [[]], g7, cap7, hr7, ?_, h.inv.mkdir f.path, h.nils.mkdir f.path, ?_, h.bytes.snoc, ?_, ?_, ?_, hb7⟩
      · rw [had]
        exact (h.cont.frame hf7 h.rep.apart.1 h.rep.apart.2).add _ _ _
      · rw [puts_snoc h.puts hf (hpd.1.trans hc), hpd.2 hc]
      · rw [used_snoc]; omega
      · rw [had]; simp [RK.add]; omega
      · rw [had]; show k.last + 1 ≤ _; omega
  | false =>
    have hcs : (cs.map List.length).sum ≤ 1000000 := by have : usedOf cs = (cs.map List.length).sum := rfl; omega
    refine (refFile_open (w.heap.size + 2) (w.heap.size + 1) g cap k cs f.path a q o c f.bytes wr h.rep h.cont h.inv (by omega) (by omega) (by omega) (by omega) hp.1 h.nils.pv h.nils.ov (by omega) hcs (fun h0 => (haq h0).1) (fun h0 => by have := (haq h0).2; omega) ?_).mono ?_
    · by_cases h0 : 0 < f.bytes.length
      · exact hbv.below h.below (haq h0).2
      · exact fun j hj => absurd hj (by omega)
    rintro e w7 ⟨rfl, hb7, hok⟩
    have hb7' : Below w.heap.size w w7 := h.below.trans (hb7.mono (by omega))
    have hpd := puts_file (k := k) (cs := cs) hd
    refine ⟨fileCode k cs f.path f.bytes, rfl, hb7', fun hc => ?_, fun hc => ?_⟩
    · rw [puts_stop h.puts hf (by rw [hpd.1]; exact hc), hpd.1]
    · obtain ⟨k', g', cap', hr', hc', he', hk', hf', hg'⟩ := hok hc
      have hin : k'.inos.length = (Go.Proofs.YtkmbleboceedbaaGreatDoor.opened k cs f.path).1.inos.length := by have := congrArg List.length he'; simpa using this
      have hll : k'.last = (Go.Proofs.YtkmbleboceedbaaGreatDoor.opened k cs f.path).1.last := by have h9 := congrArg (fun x : RK => x.last) hk'; exact h9
      refine ⟨k', fileCs k cs f.path f.bytes, g', cap', hr', hc', ?_, h.nils.file hk', ?_, h.bytes.file k f.path hp.2, ?_, ?_, ?_, hb7'⟩
      · obtain ⟨⟨k1, cs1, n1⟩, ho⟩ : ∃ x, Go.Proofs.YtkmbleboceedbaaGreatDoor.opened k cs f.path = x := ⟨_, rfl⟩
        rw [ho] at he' hll
        exact (h.inv.opened ho).same he' hll
      · rw [puts_snoc h.puts hf (hpd.1.trans hc), hpd.2 k' he' hk']
      · have := fileCs_used k cs f.path f.bytes; omega
      · rw [hin]; unfold Go.Proofs.YtkmbleboceedbaaGreatDoor.opened; split
        · simp [RK.add]; omega
        · simp; omega
      · rw [hll]; unfold Go.Proofs.YtkmbleboceedbaaGreatDoor.opened; split
        · show k.last + 1 ≤ _; omega
        · show k.last ≤ _; omega
end Go.Proofs.YtkmbleboceedbaaGreatDoor

/- tinyosref: Boot: the exec of /init. -/
namespace Go.Proofs.YtkmbleboceedbaaGreatDoor
open Go.RowKit
set_option linter.unusedVariables false
set_option linter.unusedSimpArgs false

def initPath : ByteArray := ⟨#[47, 105, 110, 105, 116]⟩
def initArg : ByteArray := ⟨#[105, 110, 105, 116]⟩
/-- Process 1 as Boot lays it, ahead of Exec. -/
def proc1 : List Value := [.int .i64 1, .int .i64 0, .int .i64 0, .int .i64 0, .int .i64 0, .int .u64 0] ++ regs0 ++ [.slice none 0 0, .int .i64 (-1), .int .i64 (-1), .int .i64 (-1), .int .i64 0, .int .i64 0, .int .i64 0, .int .i64 0, .int .i64 0]
def BootErr (lp lf lo li lb : Int) (FS : List PFile) (c : Int) : Prop :=
  ((boot0 lp lf lo li lb).puts FS).1 ≠ 0 ∧ c = ((boot0 lp lf lo li lb).puts FS).1 ∨ ((boot0 lp lf lo li lb).puts FS).1 = 0 ∧ ((boot0 lp lf lo li lb).puts FS).2.ExecErr [0] 0 initPath [initArg] c
/-- The kernel that Boot answers. -/
structure BootedAt (p : PK) (w w' : World) (k : RK) (cs : List (List Int)) (g cap gp pc gn cn : Nat) : Prop where
  toP : k.toP cs = p
  rep : RepK w' (w.heap.size + 2) (w.heap.size + 1) g cap k
  cont : ContAt w' k.inos cs
  inv : InvK k
  bytes : AllBytes cs
  used : usedOf cs ≤ 200000
  inos : k.inos.length ≤ 101
  last : k.last ≤ 101
  pv : k.pv = .slice (some ⟨gp, 0, none⟩) 1 pc
  nils : k.ov = .slice none 0 0 ∧ k.cv = .slice none 0 0 ∧ k.tv = .slice none 0 0 ∧ k.uv = .slice none 0 0 ∧ k.mv = .slice none 0 0
  ok : p.ExecOk [0] 0 initPath [initArg]
  pages : w'.ownsRow (w.heap.size + 2) 155 258 (.slice (some ⟨gn, 0, none⟩) ((outPgs (p.fileOf initPath)).length + 2) cn) ((outPgs (p.fileOf initPath)).length + 2) (refRow (outPgs (p.fileOf initPath)) ++ refPagesTo (stackRoom [initArg]) 2)
  procs : w'.ownsRow (w.heap.size + 2) 83 31 (.slice (some ⟨gp, 0, none⟩) 1 pc) 1 (procExec proc1 0 (.slice (some ⟨gn, 0, none⟩) ((outPgs (p.fileOf initPath)).length + 2) cn) (numAt (p.fileOf initPath) 24 8) (65024 + (spOff [initArg] : Int)))
  apart : g ≠ gp ∧ g ≠ gn ∧ gp ≠ gn
def kernelAt (w : World) : Ending := .returned (.tuple #[.pointer (some ⟨w.heap.size + 1, 0, none⟩), .int .i64 0])
def BootPost (lp lf lo li lb : Int) (FS : List PFile) (w : World) (e : Ending) (w' : World) : Prop :=
  Below w.heap.size w w' ∧ ((∃ c, BootErr lp lf lo li lb FS c ∧ e = noKernel c) ∨ (((boot0 lp lf lo li lb).puts FS).1 = 0 ∧ e = kernelAt w ∧ ∃ k cs g cap gp pc gn cn, BootedAt ((boot0 lp lf lo li lb).puts FS).2 w w' k cs g cap gp pc gn cn))
def proc0 : List Value := [.int .i64 0, .int .i64 0, .int .i64 0, .int .i64 0, .int .i64 0, .int .u64 0] ++ regs0 ++ [.slice none 0 0, .int .i64 0, .int .i64 0, .int .i64 0, .int .i64 0, .int .i64 0, .int .i64 0, .int .i64 0, .int .i64 0]
theorem procInfo : (Tryz.prog.info? 83).map (fun i => (i.zero, i.size, i.bytes)) = some (some (.agg proc0.toArray), 31, 264) := by kernel_rfl
theorem procSize : (Tryz.prog.info? 83).map (·.size) = some proc1.length := by kernel_rfl
theorem proc1_one : ∀ u ∈ proc1, u.oneCell' = true := by
  intro u hu
  simp only [proc1, regs0, List.replicate, List.cons_append, List.nil_append, List.mem_cons, List.not_mem_nil, or_false] at hu
  rcases hu with rfl | rfl | rfl | rfl | rfl | rfl | rfl | rfl | rfl | rfl | rfl | rfl | rfl | rfl | rfl | rfl | rfl | rfl | rfl | rfl | rfl | rfl | rfl | rfl | rfl | rfl | rfl | rfl | rfl | rfl | rfl <;> rfl
theorem proc1_lens : PLens proc1 [0] := ⟨rfl, fun j n h => by
  match j, h with
  | 0, h =>
    have : n = 0 := by simpa using h.symm
    subst this
    exact ⟨none, 0, rfl⟩⟩

theorem bad_ne {B : List Int} {c : Int} (h : Bad B c) : c ≠ 0 := by
  rcases h with ⟨_, rfl⟩ | ⟨_, _, rfl⟩ | ⟨_, _, (⟨_, rfl⟩ | ⟨_, _, rfl⟩)⟩ <;> decide
theorem execErr_ne {k : RK} {cs : List (List Int)} {PL : List Nat} {i : Nat} {s : ByteArray} {ss : List ByteArray} {c : Int} (h : ExecErr k cs PL i s ss c) : c ≠ 0 := by
  rcases h with ⟨h, rfl⟩ | ⟨_, (⟨_, rfl⟩ | ⟨_, (⟨_, rfl⟩ | ⟨_, (h | ⟨_, (⟨_, rfl⟩ | ⟨_, _, rfl⟩)⟩)⟩)⟩)⟩
  · exact h
  · decide
  · decide
  · exact bad_ne h
  · decide
  · decide
theorem all_used {cs : List (List Int)} {n : Nat} (h : AllBytes cs) (hu : usedOf cs ≤ n) : ∀ c ∈ cs, IsBytes c ∧ c.length ≤ n := fun c hc => by
  obtain ⟨i, hi⟩ := List.mem_iff_getElem?.1 hc
  exact ⟨h c hc, Nat.le_trans (used_ge hi) hu⟩

theorem proc_apart {w : World} {base n g cap : Nat} {xs : List Value} (h : w.ownsRow base 83 31 (.slice (some ⟨g, 0, none⟩) n cap) n xs) : ∀ vs, ¬ Holds w g 5 vs := fun vs hv => by
  rcases h.2 with ⟨h', _⟩ | ⟨g', cap', cur, h', _, hg, _⟩
  · simp at h'
  · simp only [Value.slice.injEq, Option.some.injEq, Addr.mk.injEq, and_true, true_and] at h'
    obtain ⟨rfl, _⟩ := h'
    unfold Holds at hv
    rw [hg] at hv
    simp at hv
theorem boot_exec (lp lf lo li lb : Int) (FS : List PFile) (w wr : World) (hn : FS.length ≤ 100) (hsum : (FS.map (fun f => f.bytes.length)).sum ≤ 200000) (k : RK) (cs : List (List Int)) (g cap : Nat) (h : BootAt lp lf lo li lb w FS FS.length wr k cs g cap)
    (wX : World) (gp pc : Nat) (hG : wr.grownBy wX (some (w.heap.size + 1))) (hk : Holds wX (w.heap.size + 1) 71 ({k with pv := .slice (some ⟨gp, 0, none⟩) 1 pc}.cells (.slice (some ⟨g, 0, none⟩) k.inos.length cap)))
    (hown : wX.ownsRow (w.heap.size + 2) 83 31 (.slice (some ⟨gp, 0, none⟩) 1 pc) 1 proc1) (hgp : wr.heap.size ≤ gp) (ab acap : Nat) (hab : ab < wX.heap.size) (hac : wX.cell? ⟨ab, 0, none⟩ = some (.string initArg)) :
    Calls Tryz.prog 30 #[.pointer (some ⟨w.heap.size + 1, 0, none⟩), .pointer (some ⟨gp, 0, none⟩), .string initPath, .slice (some ⟨ab, 0, none⟩) 1 acap] wX fun e w' => ∃ c : Int, e = .returned (.tuple #[.int .i64 0, .int .i64 c]) ∧ Below w.heap.size w w' ∧ (c ≠ 0 → BootErr lp lf lo li lb FS c) ∧
      (c = 0 → ((boot0 lp lf lo li lb).puts FS).1 = 0 ∧ ∃ k cs g cap gp pc gn cn, BootedAt ((boot0 lp lf lo li lb).puts FS).2 w w' k cs g cap gp pc gn cn) := by
  have hgl := h.rep.2.lt g rfl
  have hkl := h.rep.1.lt
  have hsz := h.below.size
  have hGs := hG.size
  have hgp2 := hown.lt gp rfl
  have hus := h.used
  have hput := h.puts
  rw [List.take_length] at hus hput
  have hpv : ({k with pv := .slice (some ⟨gp, 0, none⟩) 1 pc} : RK).toP cs = k.toP cs := rfl
  have hr : RepK wX (w.heap.size + 2) (w.heap.size + 1) g cap {k with pv := .slice (some ⟨gp, 0, none⟩) 1 pc} := ⟨hk, h.rep.2.kept hG (.inr (by show some g ≠ some (w.heap.size + 1); simp; omega))⟩
  have hfr : FrameK wr wX (w.heap.size + 1) (w.heap.size + 1) := ⟨hG.os, hG.tape, hG.output, hG.size, fun b hb h1 _ => hG.block b hb (by simpa using h1)⟩
  have hc : ContAt wX k.inos cs := h.cont.frame hfr h.rep.apart.1 h.rep.apart.1
  have hbX : Below w.heap.size w wX := h.below.trans (hfr.below (by omega) (by omega) (by omega))
  have hcs : (cs.map List.length).sum ≤ 1000000 := by have : usedOf cs = (cs.map List.length).sum := rfl; omega
  have hin := h.inos
  have hla := h.last
  have hex := refExec_any (w.heap.size + 2) (w.heap.size + 1) g cap gp 1 pc 0 {k with pv := .slice (some ⟨gp, 0, none⟩) 1 pc} cs [0] proc1 0 0 none initPath (some ⟨ab, 0, none⟩) ab 0 acap [initArg] wX hr hc h.inv (fun c hc => by have := all_used h.bytes hus c hc; exact ⟨this.1, by omega⟩) rfl hown proc1_lens (by omega) h.nils.ov (by omega) (by omega) (show k.inos.length ≤ 10000 by omega) (by decide) hcs (by omega) (by decide) (by decide) (fun _ => rfl) hab (fun j hj => by
    have : j = 0 := by simp at hj; omega
    subst this; exact hac) (fun x hx => by
    have : x = initArg := by simpa using hx
    subst this; decide)
  refine hex.mono ?_
  rintro e w' (⟨c, he, rfl, hb⟩ | ⟨hok, rfl, hg, gn, cn, hpg, hpr⟩)
  · refine ⟨c, rfl, hbX.trans (hb.mono (by omega)), fun _ => .inr ?_, fun h0 => absurd h0 (execErr_ne he)⟩
    rw [hput]
    exact ⟨rfl, execErr_toP he⟩
  · have hgn := hpg.lt gn rfl
    refine ⟨0, rfl, hbX.trans ⟨hg.os, hg.tape, hg.output, hg.size, fun b hb => hg.block b (by omega) (by simp; omega)⟩, fun h0 => absurd rfl h0, fun _ => ?_⟩
    rw [hput]
    refine ⟨rfl, {k with pv := .slice (some ⟨gp, 0, none⟩) 1 pc}, cs, g, cap, gp, pc, gn, cn, ⟨hpv, ⟨hr.1.grown hg (by simp; omega), hr.2.kept hg (.inr (by show some g ≠ some gp; simp; omega))⟩, ?_, h.inv, h.bytes, by omega, show k.inos.length ≤ 101 by omega, show k.last ≤ 101 by omega, rfl, ?_, execOk_toP hok, ?_, ?_, ⟨by omega, by omega, by omega⟩⟩⟩
    · have hfr2 : FrameK wX w' gp gp := ⟨hg.os, hg.tape, hg.output, hg.size, fun b hb h1 _ => hg.block b hb (by simpa using h1)⟩
      have hap := proc_apart hown
      exact hc.frame hfr2 hap hap
    · have h1 := h.nils
      exact ⟨congrArg RK.ov h1, congrArg RK.cv h1, congrArg RK.tv h1, congrArg RK.uv h1, congrArg RK.mv h1⟩
    · rw [fileOf_toP]
      exact own_base hpg (by omega)
    · rw [fileOf_toP]
      exact hpr
end Go.Proofs.YtkmbleboceedbaaGreatDoor
