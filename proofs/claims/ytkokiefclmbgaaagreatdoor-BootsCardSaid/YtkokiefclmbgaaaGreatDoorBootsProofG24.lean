import Derived.Test.YtkokiefclmbgaaaGreatDoorBootsProofG22
import Derived.Test.YtkokiefclmbgaaaGreatDoorBootsProofG17
import Derived.Test.YtkokiefclmbgaaaGreatDoorBootsProofG23
/- tinyoslaw: procs, where what the two kernels tell is the same. -/
namespace Go.Proofs.YtkokiefclmbgaaaGreatDoor
open Go.RowKit
set_option linter.unusedVariables false
set_option linter.unusedSimpArgs false

/-- Where a process that Procs told has its pages and its descriptors. -/
structure ALoc where
  aa : Option Addr
  ga : Nat
  ca : Nat
  fa : Option Addr
  fg : Nat
  fo : Nat
  fc : Nat
def PgCells (w : World) (g n : Nat) : Prop := ∀ j, j < n → (w.cell? ⟨g, j * 258, none⟩).isSome = true ∧ w.frozen? ⟨g, j * 258, none⟩ = false ∧ (∃ x : Int, w.cell? ⟨g, j * 258 + 2, none⟩ = some (.int .u8 x)) ∧ w.frozen? ⟨g, j * 258 + 2, none⟩ = false
theorem PgCells.set {w : World} {g n : Nat} (h : PgCells w g n) (o : Nat) (v : Value) (hv : ∀ j, j < n → o = j * 258 + 2 → ∃ y : Int, v = .int .u8 y) : PgCells (w.setCell ⟨g, o, none⟩ v) g n := fun j hj => by
  obtain ⟨a, b, ⟨x, c⟩, d⟩ := h j hj
  refine ⟨?_, by simpa using b, ?_, by simpa using d⟩
  · by_cases e : o = j * 258
    · subst e
      rw [World.cell?_setCell_same' _ _ _ a]; rfl
    · rw [World.cell?_setCell_other _ _ _ _ (by simp)]; exact a
  · by_cases e : o = j * 258 + 2
    · obtain ⟨y, rfl⟩ := hv j hj e
      subst e
      exact ⟨y, World.cell?_setCell_same _ _ _ c⟩
    · exact ⟨x, by rw [World.cell?_setCell_other _ _ _ _ (by simp)]; exact c⟩
def apiOf (OB : List ROb) (p : AP) (l : ALoc) : List Value := apiProc p.pid p.par p.st p.su p.le p.pc p.R (.slice l.aa p.PS.length l.ca) (.slice l.fa (fdsOf OB p.F).length l.fc)
structure ProcAt (w : World) (B ag i : Nat) (OB : List ROb) (p : AP) (l : ALoc) : Prop where
  row : w.rangeAt ag (i * 24) (apiOf OB p l)
  aa : 0 < p.PS.length → l.aa = some ⟨l.ga, 0, none⟩ ∧ B ≤ l.ga ∧ l.ga < w.heap.size ∧ l.ga ≠ ag
  pages : ApiAt w l.ga p.PS
  pgc : PgCells w l.ga p.PS.length
  fa : 0 < (fdsOf OB p.F).length → l.fa = some ⟨l.fg, l.fo, none⟩ ∧ l.fg < w.heap.size
  fds : FdsAt w l.fg l.fo (fdsOf OB p.F)
/-- What Procs told, from the n-th process on. -/
structure ProcsAt (w : World) (B ag n : Nat) (OB : List ROb) (AL : List AP) (LS : List ALoc) : Prop where
  len : LS.length = AL.length
  at_ : ∀ (i : Nat) (p : AP) (l : ALoc), n ≤ i → AL[i]? = some p → LS[i]? = some l → ProcAt w B ag i OB p l
  apart : ∀ (i j : Nat) (p : AP) (l m : ALoc), AL[i]? = some p → LS[i]? = some l → LS[j]? = some m → i ≠ j → 0 < p.PS.length → l.ga ≠ m.ga ∧ l.ga ≠ m.fg
/-- The document's processes as they lie. -/
structure RefProcs (w : World) (B gp : Nat) (AL : List AP) : Prop where
  lt : 0 < AL.length → gp < B
  at_ : ∀ (i : Nat) (p : AP), AL[i]? = some p → ∃ ab gb cb, w.rangeAt gp (i * 31) (refProc p.pid p.par p.st p.su p.le p.pc p.R (.slice ab p.PS.length cb) p.F) ∧ (0 < p.PS.length → ab = some ⟨gb, 0, none⟩ ∧ gb < B) ∧ RefAt w gb p.PS
theorem apiOf_get23 (OB : List ROb) (p : AP) (l : ALoc) : (apiOf OB p l)[22]? = some (.slice l.aa p.PS.length l.ca) := rfl
theorem apiOf_len (OB : List ROb) (p : AP) (l : ALoc) : (apiOf OB p l).length = 24 := rfl
/-- A store into the pages of another process leaves it. -/
theorem ProcAt.other {w w' : World} {B ag i g : Nat} {OB : List ROb} {p : AP} {l : ALoc} (h : ProcAt w B ag i OB p l) (hg : w.grownBy w' (some g)) (h1 : g ≠ ag) (h2 : 0 < p.PS.length → g ≠ l.ga) (h3 : 0 < (fdsOf OB p.F).length → g ≠ l.fg) : ProcAt w' B ag i OB p l := by
  have hs := hg.size
  refine ⟨rangeAt_grown h.row hg (by simp; omega), fun h0 => ?_, fun j q hq => ?_, fun j hj => ?_, fun h0 => ?_, fun j x hx => ?_⟩
  · obtain ⟨a, b, c, d⟩ := h.aa h0
    exact ⟨a, b, by omega, d⟩
  · have h0 : 0 < p.PS.length := by have := (List.getElem?_eq_some_iff.1 hq).1; omega
    have hne : some l.ga ≠ some g := by simp; exact fun e => h2 h0 e.symm
    obtain ⟨a, b, c⟩ := h.pages j q hq
    exact ⟨hg.cell a hne, hg.cell b hne, rangeAt_grown c hg hne⟩
  · have hne : some l.ga ≠ some g := by simp; exact fun e => h2 (by omega) e.symm
    have hl := (h.aa (by omega)).2.2.1
    obtain ⟨a, b, ⟨x, c⟩, d⟩ := h.pgc j hj
    refine ⟨?_, ?_, ⟨x, hg.cell c hne⟩, ?_⟩
    · obtain ⟨u, hu⟩ := Option.isSome_iff_exists.1 a
      rw [hg.cell hu hne]; rfl
    · rw [hg.frozen_far _ hl hne]; exact b
    · rw [hg.frozen_far _ hl hne]; exact d
  · obtain ⟨a, b⟩ := h.fa h0
    exact ⟨a, by omega⟩
  · have h0 : 0 < (fdsOf OB p.F).length := by have := (List.getElem?_eq_some_iff.1 hx).1; omega
    have hne : some l.fg ≠ some g := by simp; exact fun e => h3 h0 e.symm
    obtain ⟨a, b, c⟩ := h.fds j x hx
    exact ⟨hg.cell a hne, hg.cell b hne, hg.cell c hne⟩
theorem ProcsAt.rest {w w' : World} {B ag n : Nat} {OB : List ROb} {AL : List AP} {LS : List ALoc} (h : ProcsAt w B ag n OB AL LS) {p : AP} {l : ALoc} (hp : AL[n]? = some p) (hl : LS[n]? = some l) (h0 : 0 < p.PS.length) (hg : w.grownBy w' (some l.ga)) : ProcsAt w' B ag (n + 1) OB AL LS := by
  have hn := h.at_ n p l (Nat.le_refl _) hp hl
  refine ⟨h.len, fun i q m hi hq hm => ?_, h.apart⟩
  have ha := h.apart n i p l m hp hl hm (by omega) h0
  exact (h.at_ i q m (by omega) hq hm).other hg (hn.aa h0).2.2.2 (fun _ => ha.1) (fun _ => ha.2)
theorem ProcsAt.next {w : World} {B ag n : Nat} {OB : List ROb} {AL : List AP} {LS : List ALoc} (h : ProcsAt w B ag n OB AL LS) : ProcsAt w B ag (n + 1) OB AL LS := ⟨h.len, fun i q m hi hq hm => h.at_ i q m (by omega) hq hm, h.apart⟩
theorem ProcAt.below {w w' : World} {B ag i : Nat} {OB : List ROb} {p : AP} {l : ALoc} (h : ProcAt w B ag i OB p l) (hb : Below w.heap.size w w') : ProcAt w' B ag i OB p l := by
  have hg : w.grownBy w' none := ⟨hb.os, hb.tape, hb.output, hb.size, fun k hk _ => hb.block k hk⟩
  have hs := hg.size
  refine ⟨rangeAt_grown h.row hg (by simp), fun h0 => ?_, fun j q hq => ?_, fun j hj => ?_, fun h0 => ?_, fun j x hx => ?_⟩
  · obtain ⟨a, b, c, d⟩ := h.aa h0
    exact ⟨a, b, by omega, d⟩
  · obtain ⟨a, b, c⟩ := h.pages j q hq
    exact ⟨hg.cell a (by simp), hg.cell b (by simp), rangeAt_grown c hg (by simp)⟩
  · have hl := (h.aa (by omega)).2.2.1
    obtain ⟨a, b, ⟨x, c⟩, d⟩ := h.pgc j hj
    refine ⟨?_, ?_, ⟨x, hg.cell c (by simp)⟩, ?_⟩
    · obtain ⟨u, hu⟩ := Option.isSome_iff_exists.1 a
      rw [hg.cell hu (by simp)]; rfl
    · rw [hg.frozen_far _ hl (by simp)]; exact b
    · rw [hg.frozen_far _ hl (by simp)]; exact d
  · obtain ⟨a, b⟩ := h.fa h0
    exact ⟨a, by omega⟩
  · obtain ⟨a, b, c⟩ := h.fds j x hx
    exact ⟨hg.cell a (by simp), hg.cell b (by simp), hg.cell c (by simp)⟩
theorem ProcsAt.below {w w' : World} {B ag n : Nat} {OB : List ROb} {AL : List AP} {LS : List ALoc} (h : ProcsAt w B ag n OB AL LS) (hb : Below w.heap.size w w') : ProcsAt w' B ag n OB AL LS := ⟨h.len, fun i q m hi hq hm => (h.at_ i q m hi hq hm).below hb, h.apart⟩
end Go.Proofs.YtkokiefclmbgaaaGreatDoor

/- The program's HasRoom, isFull. -/
namespace Go.Proofs.YtkokiefclmbgaaaGreatDoor
open Go Go.RowKit Go.Maps
set_option linter.unusedVariables false
set_option linter.unusedSimpArgs false

set_option maxRecDepth 100000 in
set_option maxHeartbeats 1000000 in
theorem fsHasRoom_any (tb ab : Nat) (n li used lb c d : Int) (w : World) (h : Holds w tb 163 [.pointer (some ⟨ab, 0, none⟩), .int .i64 n, .int .i64 li, .int .i64 used, .int .i64 lb]) (hn : 0 ≤ n ∧ n ≤ 1000000) (hl : 0 ≤ li ∧ li ≤ 1000000) (hu : 0 ≤ used ∧ used ≤ 1000000) (hb : 0 ≤ lb ∧ lb ≤ 1000000) :
    Calls Tryz.prog 96 #[.pointer (some ⟨tb, 0, none⟩), .int .i64 c, .int .i64 d] w fun e w' => e = .returned (.bool (decide (c ≤ li - n) && decide (d ≤ lb - used))) ∧ w'.heap = w.heap ∧ Below w.heap.size w w' := by
  have hcell : ∀ w' : World, w'.heap = w.heap → ∀ a, w'.cell? a = w.cell? a := fun w' h a => by unfold World.cell?; rw [h]
  have R1 := hide (show ∀ w' : World, w'.heap = w.heap → (Instr.loadAt 3 (.pointer (some ⟨tb, 1, none⟩))).run Tryz.prog w' = .ok (.int .i64 n) w' from fun w' hh => by
    have c : w'.cell? ⟨tb, 1, none⟩ = some (.int .i64 n) := by rw [hcell w' hh]; exact h.cell rfl
    clear hcell h
    go_simp)
  have R2 := hide (show ∀ w' : World, w'.heap = w.heap → (Instr.loadAt 3 (.pointer (some ⟨tb, 2, none⟩))).run Tryz.prog w' = .ok (.int .i64 li) w' from fun w' hh => by
    have c : w'.cell? ⟨tb, 2, none⟩ = some (.int .i64 li) := by rw [hcell w' hh]; exact h.cell rfl
    clear hcell h
    go_simp)
  have R3 := hide (show ∀ w' : World, w'.heap = w.heap → (Instr.loadAt 3 (.pointer (some ⟨tb, 3, none⟩))).run Tryz.prog w' = .ok (.int .i64 used) w' from fun w' hh => by
    have c : w'.cell? ⟨tb, 3, none⟩ = some (.int .i64 used) := by rw [hcell w' hh]; exact h.cell rfl
    clear hcell h
    go_simp)
  have R4 := hide (show ∀ w' : World, w'.heap = w.heap → (Instr.loadAt 3 (.pointer (some ⟨tb, 4, none⟩))).run Tryz.prog w' = .ok (.int .i64 lb) w' from fun w' hh => by
    have c : w'.cell? ⟨tb, 4, none⟩ = some (.int .i64 lb) := by rw [hcell w' hh]; exact h.cell rfl
    clear hcell h
    go_simp)
  have S1 := hide (show ∀ w' : World, ((do eqGuard .sub 3 (.tmp 11) (.tmp 15) (.int .i64 li) (.int .i64 n); binOp .sub 3 (.int .i64 li) (.int .i64 n) : Sem Value)).run Tryz.prog w' = .ok (.int .i64 (li - n)) w' from fun w' => by
    clear hcell h
    go_simp
    rw [IntKind.wrap_i64]
    omega)
  have S2 := hide (show ∀ w' : World, ((do eqGuard .sub 3 (.tmp 23) (.tmp 27) (.int .i64 lb) (.int .i64 used); binOp .sub 3 (.int .i64 lb) (.int .i64 used) : Sem Value)).run Tryz.prog w' = .ok (.int .i64 (lb - used)) w' from fun w' => by
    clear hcell h
    go_simp
    rw [IntKind.wrap_i64]
    omega)
  obtain ⟨x, hx⟩ : ∃ x, x = li - n := ⟨_, rfl⟩
  obtain ⟨y, hy⟩ : ∃ y, y = lb - used := ⟨_, rfl⟩
  rw [← hx] at S1 ⊢
  rw [← hy] at S2 ⊢
  have L1 := hide (show ∀ w' : World, ((do eqGuard .leq 3 (.tmp 7) (.tmp 16) (.int .i64 c) (.int .i64 x); binOp .leq 3 (.int .i64 c) (.int .i64 x) : Sem Value)).run Tryz.prog w' = .ok (.bool (decide (c ≤ x))) w' from fun w' => by
    clear hcell h R1 R2 R3 R4 S1 S2
    go_simp)
  have L2 := hide (show ∀ w' : World, ((do eqGuard .leq 3 (.tmp 19) (.tmp 28) (.int .i64 d) (.int .i64 y); binOp .leq 3 (.int .i64 d) (.int .i64 y) : Sem Value)).run Tryz.prog w' = .ok (.bool (decide (d ≤ y))) w' from fun w' => by
    clear hcell h R1 R2 R3 R4 S1 S2
    go_simp)
  obtain ⟨p, hp⟩ : ∃ p, p = decide (c ≤ x) := ⟨_, rfl⟩
  obtain ⟨q, hq⟩ : ∃ q, q = decide (d ≤ y) := ⟨_, rfl⟩
  rw [← hp] at L1 ⊢
  rw [← hq] at L2 ⊢
  clear hcell h hn hl hu hb hx hy hp hq
  go_enter Tryz.func96, Tryz.ntmps96
  go_wp2
  refine act_gen ?_
  intro A hA
  have e0 : A.eval (.tmp 0) = .pointer (some ⟨tb, 0, none⟩) := by rw [hA]; rfl
  have e1 : A.eval (.tmp 1) = .int .i64 c := by rw [hA]; rfl
  have e2 : A.eval (.tmp 2) = .int .i64 d := by rw [hA]; rfl
  have esz : A.tmps.size = 31 := by rw [hA]; rfl
  have HA := hide hA
  clear hA
  refine wp_region_held_drew (S := fun w' => w'.heap = w.heap) (by kernel_rfl) rfl (fun hS => ?_)
  refine takeH (i := 0) (some 7) rfl rfl (by kernel_rfl) (by kernel_rfl) (by kernel_rfl) (fun _ _ _ h => h) (yields_move rfl _ rfl (.int .i64 c) (by simp [put_eval, put_size, esz, e0, e1, e2])) hS ?_
  refine takeH (i := 1) (some 8) rfl rfl (by kernel_rfl) (by kernel_rfl) (by kernel_rfl) (fun _ _ _ h => h) (yields_move rfl _ rfl (.pointer (some ⟨tb, 0, none⟩)) (by simp [put_eval, put_size, esz, e0, e1, e2])) hS ?_
  refine takeH (i := 2) (some 9) rfl rfl (by kernel_rfl) (by kernel_rfl) (by kernel_rfl) (fun _ _ _ h => h) (yields_nil rfl _ rfl ⟨tb, 0, none⟩ (by simp [put_eval, put_size, esz, e0, e1, e2])) hS ?_
  refine takeH (i := 3) (some 10) rfl rfl (by kernel_rfl) (by kernel_rfl) (by kernel_rfl) (fun _ _ _ h => h) (yields_field rfl _ _ _ rfl (.pointer (some ⟨tb, 0, none⟩)) (by simp [put_eval, put_size, esz, e0, e1, e2]) (.pointer (some ⟨tb, 2, none⟩)) (fun w' => by go_simp)) hS ?_
  refine takeH (i := 4) (some 11) rfl rfl (by kernel_rfl) (by kernel_rfl) (by kernel_rfl) (fun _ _ _ h => h) (yields_load1 rfl _ _ rfl ⟨tb, 2, none⟩ (by simp [put_eval, put_size, esz, e0, e1, e2]) (.int .i64 li) (unhide R2)) hS ?_
  refine takeH (i := 5) (some 12) rfl rfl (by kernel_rfl) (by kernel_rfl) (by kernel_rfl) (fun _ _ _ h => h) (yields_move rfl _ rfl (.pointer (some ⟨tb, 0, none⟩)) (by simp [put_eval, put_size, esz, e0, e1, e2])) hS ?_
  refine takeH (i := 6) (some 13) rfl rfl (by kernel_rfl) (by kernel_rfl) (by kernel_rfl) (fun _ _ _ h => h) (yields_nil rfl _ rfl ⟨tb, 0, none⟩ (by simp [put_eval, put_size, esz, e0, e1, e2])) hS ?_
  refine takeH (i := 7) (some 14) rfl rfl (by kernel_rfl) (by kernel_rfl) (by kernel_rfl) (fun _ _ _ h => h) (yields_field rfl _ _ _ rfl (.pointer (some ⟨tb, 0, none⟩)) (by simp [put_eval, put_size, esz, e0, e1, e2]) (.pointer (some ⟨tb, 1, none⟩)) (fun w' => by go_simp)) hS ?_
  refine takeH (i := 8) (some 15) rfl rfl (by kernel_rfl) (by kernel_rfl) (by kernel_rfl) (fun _ _ _ h => h) (yields_load1 rfl _ _ rfl ⟨tb, 1, none⟩ (by simp [put_eval, put_size, esz, e0, e1, e2]) (.int .i64 n) (unhide R1)) hS ?_
  refine takeH (i := 9) (some 16) rfl rfl (by kernel_rfl) (by kernel_rfl) (by kernel_rfl) (fun _ _ _ h => h) (yields_bin rfl .sub _ _ (.tmp 11) (.tmp 15) rfl (.int .i64 li) (.int .i64 n) (by simp [put_eval, put_size, esz, e0, e1, e2]) (by simp [put_eval, put_size, esz, e0, e1, e2]) (.int .i64 x) (unhide S1)) hS ?_
  refine takeH (i := 10) (some 17) rfl rfl (by kernel_rfl) (by kernel_rfl) (by kernel_rfl) (fun _ _ _ h => h) (yields_bin rfl .leq _ _ (.tmp 7) (.tmp 16) rfl (.int .i64 c) (.int .i64 x) (by simp [put_eval, put_size, esz, e0, e1, e2]) (by simp [put_eval, put_size, esz, e0, e1, e2]) (.bool p) (unhide L1)) hS ?_
  refine takeH (i := 11) (some 18) rfl rfl (by kernel_rfl) (by kernel_rfl) (by kernel_rfl) (fun _ _ _ h => h) (yields_move rfl _ rfl (.bool p) (by simp [put_eval, put_size, esz, e0, e1, e2])) hS ?_
  cases p with
  | true =>
    refine takeH (i := 12) (some 19) rfl rfl (by kernel_rfl) (by kernel_rfl) (by kernel_rfl) (fun _ _ _ h => h) (yields_on 11 18 rfl rfl (by simp [put_size, esz]) (by simp [put_eval, put_size, esz, e0, e1, e2]) (yields_move rfl _ rfl (.int .i64 d) (by simp [put_eval, put_size, esz, e0, e1, e2]))) hS ?_
    refine takeH (i := 13) (some 20) rfl rfl (by kernel_rfl) (by kernel_rfl) (by kernel_rfl) (fun _ _ _ h => h) (yields_on 11 18 rfl rfl (by simp [put_size, esz]) (by simp [put_eval, put_size, esz, e0, e1, e2]) (yields_move rfl _ rfl (.pointer (some ⟨tb, 0, none⟩)) (by simp [put_eval, put_size, esz, e0, e1, e2]))) hS ?_
    refine takeH (i := 14) (some 21) rfl rfl (by kernel_rfl) (by kernel_rfl) (by kernel_rfl) (fun _ _ _ h => h) (yields_on 11 18 rfl rfl (by simp [put_size, esz]) (by simp [put_eval, put_size, esz, e0, e1, e2]) (yields_nil rfl _ rfl ⟨tb, 0, none⟩ (by simp [put_eval, put_size, esz, e0, e1, e2]))) hS ?_
    refine takeH (i := 15) (some 22) rfl rfl (by kernel_rfl) (by kernel_rfl) (by kernel_rfl) (fun _ _ _ h => h) (yields_on 11 18 rfl rfl (by simp [put_size, esz]) (by simp [put_eval, put_size, esz, e0, e1, e2]) (yields_field rfl _ _ _ rfl (.pointer (some ⟨tb, 0, none⟩)) (by simp [put_eval, put_size, esz, e0, e1, e2]) (.pointer (some ⟨tb, 4, none⟩)) (fun w' => by go_simp))) hS ?_
    refine takeH (i := 16) (some 23) rfl rfl (by kernel_rfl) (by kernel_rfl) (by kernel_rfl) (fun _ _ _ h => h) (yields_on 11 18 rfl rfl (by simp [put_size, esz]) (by simp [put_eval, put_size, esz, e0, e1, e2]) (yields_load1 rfl _ _ rfl ⟨tb, 4, none⟩ (by simp [put_eval, put_size, esz, e0, e1, e2]) (.int .i64 lb) (unhide R4))) hS ?_
    refine takeH (i := 17) (some 24) rfl rfl (by kernel_rfl) (by kernel_rfl) (by kernel_rfl) (fun _ _ _ h => h) (yields_on 11 18 rfl rfl (by simp [put_size, esz]) (by simp [put_eval, put_size, esz, e0, e1, e2]) (yields_move rfl _ rfl (.pointer (some ⟨tb, 0, none⟩)) (by simp [put_eval, put_size, esz, e0, e1, e2]))) hS ?_
    refine takeH (i := 18) (some 25) rfl rfl (by kernel_rfl) (by kernel_rfl) (by kernel_rfl) (fun _ _ _ h => h) (yields_on 11 18 rfl rfl (by simp [put_size, esz]) (by simp [put_eval, put_size, esz, e0, e1, e2]) (yields_nil rfl _ rfl ⟨tb, 0, none⟩ (by simp [put_eval, put_size, esz, e0, e1, e2]))) hS ?_
    refine takeH (i := 19) (some 26) rfl rfl (by kernel_rfl) (by kernel_rfl) (by kernel_rfl) (fun _ _ _ h => h) (yields_on 11 18 rfl rfl (by simp [put_size, esz]) (by simp [put_eval, put_size, esz, e0, e1, e2]) (yields_field rfl _ _ _ rfl (.pointer (some ⟨tb, 0, none⟩)) (by simp [put_eval, put_size, esz, e0, e1, e2]) (.pointer (some ⟨tb, 3, none⟩)) (fun w' => by go_simp))) hS ?_
    refine takeH (i := 20) (some 27) rfl rfl (by kernel_rfl) (by kernel_rfl) (by kernel_rfl) (fun _ _ _ h => h) (yields_on 11 18 rfl rfl (by simp [put_size, esz]) (by simp [put_eval, put_size, esz, e0, e1, e2]) (yields_load1 rfl _ _ rfl ⟨tb, 3, none⟩ (by simp [put_eval, put_size, esz, e0, e1, e2]) (.int .i64 used) (unhide R3))) hS ?_
    refine takeH (i := 21) (some 28) rfl rfl (by kernel_rfl) (by kernel_rfl) (by kernel_rfl) (fun _ _ _ h => h) (yields_on 11 18 rfl rfl (by simp [put_size, esz]) (by simp [put_eval, put_size, esz, e0, e1, e2]) (yields_bin rfl .sub _ _ (.tmp 23) (.tmp 27) rfl (.int .i64 lb) (.int .i64 used) (by simp [put_eval, put_size, esz, e0, e1, e2]) (by simp [put_eval, put_size, esz, e0, e1, e2]) (.int .i64 y) (unhide S2))) hS ?_
    refine takeH (i := 22) (some 29) rfl rfl (by kernel_rfl) (by kernel_rfl) (by kernel_rfl) (fun _ _ _ h => h) (yields_on 11 18 rfl rfl (by simp [put_size, esz]) (by simp [put_eval, put_size, esz, e0, e1, e2]) (yields_bin rfl .leq _ _ (.tmp 19) (.tmp 28) rfl (.int .i64 d) (.int .i64 y) (by simp [put_eval, put_size, esz, e0, e1, e2]) (by simp [put_eval, put_size, esz, e0, e1, e2]) (.bool q) (unhide L2))) hS ?_
    refine takeH (i := 23) (some 30) rfl rfl (by kernel_rfl) (by kernel_rfl) (by kernel_rfl) (fun _ _ _ h => h) (yields_pick rfl _ _ _ rfl true (.bool q) (by simp [put_eval, put_size, esz, e0, e1, e2]) ((if_pos rfl).trans (by simp [put_eval, put_size, esz, e0, e1, e2]))) hS ?_
    refine takeH (i := 24) (some 6) rfl rfl (by kernel_rfl) (by kernel_rfl) (by kernel_rfl) (fun _ _ _ h => h) (yields_run rfl (v := .bool q) (fun w' _ => by simp only [execOp]; simp [put_eval, put_size, esz, e0, e1, e2])) hS ?_
    refine wpAnyH_done (by kernel_rfl) ?_ _
    rw [unhide HA]
    simp only [Act.put, List.setIfInBounds_toArray, List.set_cons_zero, List.set_cons_succ]
    clear R1 R2 R3 R4 S1 S2 L1 L2 HA e0 e1 e2 esz hS
    go_wp2
    go_ret
    exact ⟨rfl, rfl, ⟨rfl, rfl, rfl, Nat.le_refl _, fun _ _ => rfl⟩⟩
  | false =>
    refine takeH (i := 12) (some 19) rfl rfl (by kernel_rfl) (by kernel_rfl) (by kernel_rfl) (fun _ _ _ h => h) (yields_off 11 18 rfl rfl (by simp [put_size, esz]) (by simp [put_eval, put_size, esz, e0, e1, e2])) hS ?_
    refine takeH (i := 13) (some 20) rfl rfl (by kernel_rfl) (by kernel_rfl) (by kernel_rfl) (fun _ _ _ h => h) (yields_off 11 18 rfl rfl (by simp [put_size, esz]) (by simp [put_eval, put_size, esz, e0, e1, e2])) hS ?_
    refine takeH (i := 14) (some 21) rfl rfl (by kernel_rfl) (by kernel_rfl) (by kernel_rfl) (fun _ _ _ h => h) (yields_off 11 18 rfl rfl (by simp [put_size, esz]) (by simp [put_eval, put_size, esz, e0, e1, e2])) hS ?_
    refine takeH (i := 15) (some 22) rfl rfl (by kernel_rfl) (by kernel_rfl) (by kernel_rfl) (fun _ _ _ h => h) (yields_off 11 18 rfl rfl (by simp [put_size, esz]) (by simp [put_eval, put_size, esz, e0, e1, e2])) hS ?_
    refine takeH (i := 16) (some 23) rfl rfl (by kernel_rfl) (by kernel_rfl) (by kernel_rfl) (fun _ _ _ h => h) (yields_off 11 18 rfl rfl (by simp [put_size, esz]) (by simp [put_eval, put_size, esz, e0, e1, e2])) hS ?_
    refine takeH (i := 17) (some 24) rfl rfl (by kernel_rfl) (by kernel_rfl) (by kernel_rfl) (fun _ _ _ h => h) (yields_off 11 18 rfl rfl (by simp [put_size, esz]) (by simp [put_eval, put_size, esz, e0, e1, e2])) hS ?_
    refine takeH (i := 18) (some 25) rfl rfl (by kernel_rfl) (by kernel_rfl) (by kernel_rfl) (fun _ _ _ h => h) (yields_off 11 18 rfl rfl (by simp [put_size, esz]) (by simp [put_eval, put_size, esz, e0, e1, e2])) hS ?_
    refine takeH (i := 19) (some 26) rfl rfl (by kernel_rfl) (by kernel_rfl) (by kernel_rfl) (fun _ _ _ h => h) (yields_off 11 18 rfl rfl (by simp [put_size, esz]) (by simp [put_eval, put_size, esz, e0, e1, e2])) hS ?_
    refine takeH (i := 20) (some 27) rfl rfl (by kernel_rfl) (by kernel_rfl) (by kernel_rfl) (fun _ _ _ h => h) (yields_off 11 18 rfl rfl (by simp [put_size, esz]) (by simp [put_eval, put_size, esz, e0, e1, e2])) hS ?_
    refine takeH (i := 21) (some 28) rfl rfl (by kernel_rfl) (by kernel_rfl) (by kernel_rfl) (fun _ _ _ h => h) (yields_off 11 18 rfl rfl (by simp [put_size, esz]) (by simp [put_eval, put_size, esz, e0, e1, e2])) hS ?_
    refine takeH (i := 22) (some 29) rfl rfl (by kernel_rfl) (by kernel_rfl) (by kernel_rfl) (fun _ _ _ h => h) (yields_off 11 18 rfl rfl (by simp [put_size, esz]) (by simp [put_eval, put_size, esz, e0, e1, e2])) hS ?_
    refine takeH (i := 23) (some 30) rfl rfl (by kernel_rfl) (by kernel_rfl) (by kernel_rfl) (fun _ _ _ h => h) (yields_pick rfl _ _ _ rfl false (.bool false) (by simp [put_eval, put_size, esz, e0, e1, e2]) (if_neg (by decide))) hS ?_
    refine takeH (i := 24) (some 6) rfl rfl (by kernel_rfl) (by kernel_rfl) (by kernel_rfl) (fun _ _ _ h => h) (yields_run rfl (v := .bool false) (fun w' _ => by simp only [execOp]; simp [put_eval, put_size, esz, e0, e1, e2])) hS ?_
    refine wpAnyH_done (by kernel_rfl) ?_ _
    rw [unhide HA]
    simp only [Act.put, List.setIfInBounds_toArray, List.set_cons_zero, List.set_cons_succ]
    clear R1 R2 R3 R4 S1 S2 L1 L2 HA e0 e1 e2 esz hS
    go_wp2
    go_ret
    exact ⟨rfl, rfl, ⟨rfl, rfl, rfl, Nat.le_refl _, fun _ _ => rfl⟩⟩

set_option maxHeartbeats 4000000 in
theorem fsIsFull_any (tb ab : Nat) (n li used lb : Int) (w : World) (h : Holds w tb 163 [.pointer (some ⟨ab, 0, none⟩), .int .i64 n, .int .i64 li, .int .i64 used, .int .i64 lb]) (hn : 0 ≤ n ∧ n ≤ 1000000) (hl : 0 ≤ li ∧ li ≤ 1000000) (hu : 0 ≤ used ∧ used ≤ lb) (hb : lb ≤ 1000000) :
    Calls Tryz.prog 93 #[.pointer (some ⟨tb, 0, none⟩)] w fun e w' => e = .returned (.bool (decide (li ≤ n))) ∧ w'.heap = w.heap ∧ Below w.heap.size w w' := by
  have HR := hide (fsHasRoom_any tb ab n li used lb 1 0 w h hn hl ⟨by omega, by omega⟩ ⟨by omega, hb⟩)
  have he : (decide ((1 : Int) ≤ li - n) && decide ((0 : Int) ≤ lb - used)) = !decide (li ≤ n) := by
    by_cases q : li ≤ n
    · rw [decide_eq_true q, decide_eq_false (by omega)]; rfl
    · rw [decide_eq_false q, decide_eq_true (by omega), decide_eq_true (by omega)]; rfl
  rw [he] at HR
  obtain ⟨q, hq⟩ : ∃ q, q = decide (li ≤ n) := ⟨_, rfl⟩
  rw [← hq] at HR ⊢
  clear h hn hl hu hb he hq
  go_enter Tryz.func93, Tryz.ntmps93
  go_wp2_with fail
  refine (unhide HR).mono ?_
  rintro e w1 ⟨rfl, hw1, hb1⟩
  have HW := hide hw1
  have HB := hide hb1
  clear hw1 hb1 HR
  cases q with
  | true =>
    go_wp2
    go_ret
    exact ⟨rfl, unhide HW, unhide HB⟩
  | false =>
    go_wp2
    go_ret
    exact ⟨rfl, unhide HW, unhide HB⟩
end Go.Proofs.YtkokiefclmbgaaaGreatDoor

/- The program's Place.Node, newDir. -/
namespace Go.Proofs.YtkokiefclmbgaaaGreatDoor
open Go Go.RowKit Go.Maps
set_option linter.unusedVariables false
set_option linter.unusedSimpArgs false

theorem DictAt.heap {w w' : World} {m n : Nat} {f : ByteArray → Option Nat} (h : DictAt w m n f) (hh : w'.heap = w.heap) : DictAt w' m n f := by
  obtain ⟨D, ⟨es, clock, hb, F, hs, hD⟩, hf⟩ := h
  exact ⟨D, ⟨es, clock, by rw [hh]; exact hb, F, hs, hD⟩, hf⟩
theorem yields_lookup {P : Program} {ops : Array Oper} {S : World → Prop} {o : Oper} {A : Act} (hg : o.guard = none) (t : TypeId) (x y : Operand) (ho : o.op = .lookup t x y false) (vx vy : Value) (hx : A.eval x = vx) (hy : A.eval y = vy) (v : Value) (hrun : ∀ w', S w' → (Instr.lookup t vx vy false).run P w' = .ok v w') : YieldsIf P ops S o v A :=
  yields_run hg fun w' hS => by simp only [execOp, ho, hx, hy, Sem.run_bind, hrun w' hS, Result.andThen_ok, Sem.run_pure]

set_option maxRecDepth 100000 in
set_option maxHeartbeats 4000000 in
theorem fsNode_any (b m n : Nat) (name pth : ByteArray) (f : ByteArray → Option Nat) (w : World) (hn : name.size ≤ maxLen) (hc : w.cell? ⟨b, 3, none⟩ = some (.map (some m))) (hd : DictAt w m n f) :
    Calls Tryz.prog 92 #[.agg #[.pointer (some ⟨b, 0, none⟩), .string name, .string pth]] w fun e w' => e = .returned (nodePtr (f name)) ∧ Below w.heap.size w w' := by
  obtain ⟨W0, hW0⟩ : ∃ W0, W0 = w.alloc (Obj.cells #[.pointer (some ⟨b, 0, none⟩), .string name, .string pth] 166) := ⟨_, rfl⟩
  have hb0 : Below w.heap.size w W0 := by rw [hW0]; exact (Below.refl _ _).alloc (Nat.le_refl _) _
  have hp0 : Holds W0 w.heap.size 166 [.pointer (some ⟨b, 0, none⟩), .string name, .string pth] := by rw [hW0]; exact Holds.new w 166 _
  have hd0 : DictAt W0 m n f := hd.kept (row := none) ⟨hb0.os, hb0.tape, hb0.output, hb0.size, fun k hk _ => hb0.block k hk⟩ (by simp)
  have hc0 : W0.cell? ⟨b, 3, none⟩ = some (.map (some m)) := by rw [hb0.cell (p := ⟨b, 3, none⟩) (World.block_lt_of_cell? w _ hc)]; exact hc
  have hcell : ∀ w' : World, w'.heap = W0.heap → ∀ a, w'.cell? a = W0.cell? a := fun w' h a => by unfold World.cell?; rw [h]
  have R0 := hide (show ∀ w' : World, w'.heap = W0.heap → (Instr.loadAt 160 (.pointer (some ⟨w.heap.size, 0, none⟩))).run Tryz.prog w' = .ok (.pointer (some ⟨b, 0, none⟩)) w' from fun w' h => by
    have c : w'.cell? ⟨w.heap.size, 0, none⟩ = some (.pointer (some ⟨b, 0, none⟩)) := by rw [hcell w' h]; exact hp0.cell rfl
    clear hcell
    go_simp)
  have R1 := hide (show ∀ w' : World, w'.heap = W0.heap → (Instr.loadAt 9 (.pointer (some ⟨w.heap.size, 1, none⟩))).run Tryz.prog w' = .ok (.string name) w' from fun w' h => by
    have c : w'.cell? ⟨w.heap.size, 1, none⟩ = some (.string name) := by rw [hcell w' h]; exact hp0.cell rfl
    clear hcell
    go_simp)
  have R2 := hide (show ∀ w' : World, w'.heap = W0.heap → (Instr.loadAt 228 (.pointer (some ⟨b, 3, none⟩))).run Tryz.prog w' = .ok (.map (some m)) w' from fun w' h => by
    have c : w'.cell? ⟨b, 3, none⟩ = some (.map (some m)) := by rw [hcell w' h]; exact hc0
    clear hcell
    go_simp)
  have R3 := hide (show ∀ w' : World, w'.heap = W0.heap → (Instr.lookup 228 (.map (some m)) (.string name) false).run Tryz.prog w' = .ok (nodePtr (f name)) w' from fun w' h => (hd0.heap h).look name hn)
  obtain ⟨V, hV⟩ : ∃ V, V = nodePtr (f name) := ⟨_, rfl⟩
  rw [← hV] at R3 ⊢
  have HB0 := hide hb0
  have HW0 := hide hW0
  clear hV hb0 hp0 hd0 hc0 hcell hW0 hc hd
  go_enter Tryz.func92, Tryz.ntmps92
  go_upto_region 1 with fail
  rw [← unhide HW0]
  refine act_gen ?_
  intro A hA
  have e1 : A.eval (.tmp 1) = .pointer (some ⟨w.heap.size, 0, none⟩) := by rw [hA]; rfl
  have esz : A.tmps.size = 11 := by rw [hA]; rfl
  have HA := hide hA
  clear hA
  refine wp_region_held_drew (S := fun w' => w'.heap = W0.heap) (by kernel_rfl) rfl (fun hS => ?_)
  refine takeH (i := 0) (some 3) rfl rfl (by kernel_rfl) (by kernel_rfl) (by kernel_rfl) (fun _ _ _ h => h) (yields_field rfl _ _ _ rfl (.pointer (some ⟨w.heap.size, 0, none⟩)) (by simp [put_eval, put_size, esz, e1]) (.pointer (some ⟨w.heap.size, 0, none⟩)) (fun w' => by go_simp)) hS ?_
  refine takeH (i := 1) (some 4) rfl rfl (by kernel_rfl) (by kernel_rfl) (by kernel_rfl) (fun _ _ _ h => h) (yields_load1 rfl _ _ rfl ⟨w.heap.size, 0, none⟩ (by simp [put_eval, put_size, esz, e1]) (.pointer (some ⟨b, 0, none⟩)) (unhide R0)) hS ?_
  refine takeH (i := 2) (some 5) rfl rfl (by kernel_rfl) (by kernel_rfl) (by kernel_rfl) (fun _ _ _ h => h) (yields_nil rfl _ rfl ⟨b, 0, none⟩ (by simp [put_eval, put_size, esz, e1])) hS ?_
  refine takeH (i := 3) (some 6) rfl rfl (by kernel_rfl) (by kernel_rfl) (by kernel_rfl) (fun _ _ _ h => h) (yields_field rfl _ _ _ rfl (.pointer (some ⟨b, 0, none⟩)) (by simp [put_eval, put_size, esz, e1]) (.pointer (some ⟨b, 3, none⟩)) (fun w' => by go_simp)) hS ?_
  refine takeH (i := 4) (some 7) rfl rfl (by kernel_rfl) (by kernel_rfl) (by kernel_rfl) (fun _ _ _ h => h) (yields_load1 rfl _ _ rfl ⟨b, 3, none⟩ (by simp [put_eval, put_size, esz, e1]) (.map (some m)) (unhide R2)) hS ?_
  refine takeH (i := 5) (some 8) rfl rfl (by kernel_rfl) (by kernel_rfl) (by kernel_rfl) (fun _ _ _ h => h) (yields_field rfl _ _ _ rfl (.pointer (some ⟨w.heap.size, 0, none⟩)) (by simp [put_eval, put_size, esz, e1]) (.pointer (some ⟨w.heap.size, 1, none⟩)) (fun w' => by go_simp)) hS ?_
  refine takeH (i := 6) (some 9) rfl rfl (by kernel_rfl) (by kernel_rfl) (by kernel_rfl) (fun _ _ _ h => h) (yields_load1 rfl _ _ rfl ⟨w.heap.size, 1, none⟩ (by simp [put_eval, put_size, esz, e1]) (.string name) (unhide R1)) hS ?_
  refine takeH (i := 7) (some 10) rfl rfl (by kernel_rfl) (by kernel_rfl) (by kernel_rfl) (fun _ _ _ h => h) (yields_lookup rfl _ _ _ rfl (.map (some m)) (.string name) (by simp [put_eval, put_size, esz, e1]) (by simp [put_eval, put_size, esz, e1]) V (unhide R3)) hS ?_
  refine takeH (i := 8) (some 2) rfl rfl (by kernel_rfl) (by kernel_rfl) (by kernel_rfl) (fun _ _ _ h => h) (yields_run rfl (v := V) (fun w' _ => by simp only [execOp]; simp [put_eval, put_size, esz])) hS ?_
  refine wpAnyH_done (by kernel_rfl) ?_ _
  rw [unhide HA]
  simp only [Act.put, List.setIfInBounds_toArray, List.set_cons_zero, List.set_cons_succ]
  clear R0 R1 R2 R3 HA e1 esz hS
  go_wp2
  go_ret
  exact ⟨rfl, ⟨(unhide HB0).os, (unhide HB0).tape, (unhide HB0).output, (unhide HB0).size, (unhide HB0).block⟩⟩

set_option maxHeartbeats 4000000 in
theorem fsNewDir_any (w : World) : Calls Tryz.prog 60 #[] w fun e w' => e = .returned (.pointer (some ⟨w.heap.size + 1, 0, none⟩)) ∧ Holds w' (w.heap.size + 1) 230 [.string ⟨#[]⟩, .bool true, .slice none 0 0, .map (some w.heap.size), .int .i64 0] ∧ DictAt w' w.heap.size 0 (fun _ => none) ∧ Below w.heap.size w w' := by
  have hmm := @run_makeMap Tryz.prog
  have HD := hide (show DictAt (w.alloc (.map #[] 0)) w.heap.size 0 (fun _ => none) from ⟨.map [], World.ownsMap_made w _ _ _, fun s => rfl, fun kl h => by cases h⟩)
  have HB := hide (show Below w.heap.size w (w.alloc (.map #[] 0)) from (Below.refl _ _).alloc (Nat.le_refl _) _)
  go_enter Tryz.func60, Tryz.ntmps60
  go_wp2
  go_ret
  refine ⟨rfl, ?_, (unhide HD).kept (row := none) (World.grownBy_alloc _ _ _) (by simp), (unhide HB).alloc (by simp) _⟩
  have h := Holds.new (w.alloc (.map #[] 0)) 230 [.string ⟨#[]⟩, .bool true, .slice none 0 0, .map (some w.heap.size), .int .i64 0]
  rwa [show (w.alloc (.map #[] 0)).heap.size = w.heap.size + 1 from by simp] at h
end Go.Proofs.YtkokiefclmbgaaaGreatDoor

/- The program's put. -/
namespace Go.Proofs.YtkokiefclmbgaaaGreatDoor
open Go Go.RowKit Go.Maps
set_option linter.unusedVariables false
set_option linter.unusedSimpArgs false

set_option maxHeartbeats 1000000 in
theorem fsClone_any (s : ByteArray) (w : World) (hs : s.size ≤ 100000) : Calls Tryz.prog 116 #[.string s] w fun e w' => e = .returned (.string s) ∧ Below w.heap.size w w' := by
  have H := hide (show Calls Tryz.prog 139 #[.string s] w fun e w' => e = .returned (.string s) ∧ Below w.heap.size w w' from Go.Proofs.Any.stringslite_Clone sclone s w (by omega))
  go_enter Tryz.func116, Tryz.ntmps116
  go_wp2_with fail
  refine (unhide H).mono ?_
  rintro e w1 ⟨rfl, hb1⟩
  have HB := hide hb1
  clear hb1 H
  go_wp2
  go_ret
  exact ⟨rfl, unhide HB⟩
theorem step_call1' {P : Program} {ops : Array Oper} {o : Oper} {a : Act} {w : World} {K : Act → World → Prop} {Q : Exit → Act → World → Prop} {E : Prop} (hgd : o.guard = none) (f n1 : Nat) (t1 : TypeId)
    (ho : o.op = .call { callee := .value (.func f), args := #[.tmp n1], argTypes := #[t1] }) (v1 : Value) (h1 : a.eval (.tmp n1) = v1)
    (he : ∀ args w, (callFunc f args).run P w = .ok (.enter f args) w) (post : Ending → World → Prop) (r : Value) (hp : ∀ e w', post e w' → e = .returned r) (hc : Calls P f #[v1] w post) (d : Option Tmp) (hd : o.dst = d)
    (h : ∀ w', post (.returned r) w' → K (a.put d r) w') :
    if Region.wanted o (yielded ops a.tmps) = true then Oper.wp P o a w K Q else E := by
  have hw : Region.wanted o (yielded ops a.tmps) = true := by simp [Region.wanted, hgd]
  have h1' : a.tmps[n1]?.getD undef = v1 := by rw [← h1]; simp [go_sem]
  rw [if_pos hw]
  subst hd
  unfold Oper.wp
  simp [execOp, ho, resolve, invoke, h1', Result.andThen, go_sem, he]
  refine hc.mono ?_
  intro e w' hpe
  obtain rfl := hp e w' hpe
  have := h w' hpe
  simpa [go_sem] using this
theorem cloneEnter : ∀ args w, (callFunc 116 args).run Tryz.prog w = .ok (.enter 116 args) w := enters_of Tryz.func116 (by kernel_rfl) rfl
theorem step_update {P : Program} {ops : Array Oper} {o : Oper} {a : Act} {w w' : World} {K : Act → World → Prop} {Q : Exit → Act → World → Prop} {E : Prop} (hgd : o.guard = none) (t : TypeId) (m x v : Operand) (ho : o.op = .mapUpdate t m x v) (vm vx vv : Value) (hm : a.eval m = vm) (hx : a.eval x = vx) (hv : a.eval v = vv) (hrun : (Instr.mapUpdate t vm vx vv).run P w = .ok () w') (hd : o.dst = none) (h : K a w') :
    if Region.wanted o (yielded ops a.tmps) = true then Oper.wp P o a w K Q else E := by
  have hw : Region.wanted o (yielded ops a.tmps) = true := by simp [Region.wanted, hgd]
  rw [if_pos hw]
  unfold Oper.wp execOp
  simp only [ho, hm, hx, hv, Sem.run_bind, hrun, Result.andThen_ok, Sem.run_pure]
  rw [Oper.upon_skip, hd]
  exact h
theorem ready_update {P : Program} {md : Region.Mode} {ops : Array Oper} {Q : Exit → Act → World → Prop} {S : World → Prop} {fuel : Nat} {listed : Array Bool} {a : Act} {w w' : World} {i : Nat} {o : Oper} {rs : List Nat} (hi : ops[i]? = some o) (hgd : o.guard = none) (t : TypeId) (m x v : Operand) (ho : o.op = .mapUpdate t m x v) (vm vx vv : Value) (hm : a.eval m = vm) (hx : a.eval x = vx) (hv : a.eval v = vv) (hrun : (Instr.mapUpdate t vm vx vv).run P w = .ok () w') (hd : o.dst = none) (hS : S w') (h : wpAnyH P md ops Q S fuel (listed.setIfInBounds i true) a w') (hs : AllReadyH P md ops Q S fuel listed a w rs) :
    AllReadyH P md ops Q S fuel listed a w (i :: rs) :=
  AllReadyH.cons hi (fun K hK => step_update hgd t m x v ho vm vx vv hm hx hv hrun hd (hK.out _ _ hS (fun _ => h))) hs
theorem str_lit {s t : ByteArray} (h : s.data.toList ≠ t.data.toList) : (Lit.string s.data.toList) ≠ (Lit.string t.data.toList) := fun e => h (by injection e)
theorem DictAt.put {w : World} {m n : Nat} {f : ByteArray → Option Nat} (h : DictAt w m n f) (hn : n < maxLen) (name : ByteArray) (hs : name.size ≤ maxLen) (b : Nat) :
    ∃ w', (Instr.mapUpdate 228 (.map (some m)) (.string name) (.pointer (some ⟨b, 0, none⟩))).run Tryz.prog w = .ok () w' ∧ DictAt w' m (n + 1) (fun s => if s.data.toList = name.data.toList then some b else f s) ∧ w.grownBy w' (some m) := by
  obtain ⟨D, hD, hf, hkeys⟩ := h
  have hkey := Go.WideMaps.keyOf_string_mk (P := Tryz.prog) Tryz.underlying9 hs
  obtain ⟨w', hrun, hD', hg⟩ := hD.update strKeyed Tryz.underlying228 hn hkey (show ptrElem (.pointer (some ⟨b, 0, none⟩)) = some (.lit (.int .i64 b), []) from rfl)
  refine ⟨w', hrun, ⟨_, hD', fun s => ?_, fun kl hkl => ?_⟩, hg⟩
  rotate_left
  · by_cases e : kl = .string name.data.toList
    · exact ⟨name, b, e, if_pos rfl⟩
    · rw [Maps.has_put_other e] at hkl
      obtain ⟨s, c, h1, h2⟩ := hkeys kl hkl
      refine ⟨s, c, h1, ?_⟩
      show (if s.data.toList = name.data.toList then some b else f s) = some c
      rw [if_neg (fun q => e (by rw [h1, q])), h2]
  show _ = nodeDatum (if s.data.toList = name.data.toList then some b else f s)
  by_cases e : s.data.toList = name.data.toList
  · rw [if_pos e, e, Maps.atKey_put_same hD.isMap (strKeyed.key hkey)]
    rfl
  · rw [if_neg e, Maps.atKey_put_other (str_lit e)]
    exact hf s
theorem dict_block {w : World} {m n b : Nat} {f : ByteArray → Option Nat} {t : TypeId} {vs : List Value} (h : DictAt w m n f) (hh : Holds w b t vs) : b ≠ m := by
  intro e
  subst e
  obtain ⟨D, ⟨es, clock, hb, _⟩, _⟩ := h
  unfold Holds at hh
  rw [hb] at hh
  cases hh
/-- All but two blocks are as they were. -/
def PutPost (tb m k ab : Nat) (n li used lb : Int) (f : ByteArray → Option Nat) (name : ByteArray) (b : Nat) (w w' : World) : Prop :=
  Holds w' tb 163 [.pointer (some ⟨ab, 0, none⟩), .int .i64 (n + 1), .int .i64 li, .int .i64 used, .int .i64 lb] ∧ DictAt w' m (k + 1) (fun s => if s.data.toList = name.data.toList then some b else f s) ∧ FrameK w w' tb m
/-- All but these blocks are as they were. -/
structure FrameS (w w' : World) (S : List Nat) : Prop where
  os : w'.os = w.os
  tape : w'.tape = w.tape
  output : w'.output = w.output
  size : w.heap.size ≤ w'.heap.size
  block : ∀ k, k < w.heap.size → k ∉ S → w'.heap[k]? = w.heap[k]?
theorem FrameS.refl (w : World) (S : List Nat) : FrameS w w S := ⟨rfl, rfl, rfl, Nat.le_refl _, fun _ _ _ => rfl⟩
theorem FrameS.trans {a b c : World} {S : List Nat} (h : FrameS a b S) (k : FrameS b c S) : FrameS a c S := ⟨k.os.trans h.os, k.tape.trans h.tape, k.output.trans h.output, Nat.le_trans h.size k.size, fun i hi hn => (k.block i (Nat.lt_of_lt_of_le hi h.size) hn).trans (h.block i hi hn)⟩
theorem FrameS.grown {a b c : World} {S : List Nat} {r : Option Nat} (h : FrameS a b S) (k : b.grownBy c r) (hr : ∀ x, r = some x → x ∈ S ∨ a.heap.size ≤ x) : FrameS a c S := ⟨k.os.trans h.os, k.tape.trans h.tape, k.output.trans h.output, Nat.le_trans h.size k.size, fun i hi hn => (k.block i (Nat.lt_of_lt_of_le hi h.size) (fun e => by rcases hr i e.symm with q | q; exact hn q; omega)).trans (h.block i hi hn)⟩
theorem FrameS.ofK {w w' : World} {a b : Nat} (h : FrameK w w' a b) : FrameS w w' [a, b] := ⟨h.os, h.tape, h.output, h.size, fun k hk hn => h.block k hk (fun e => hn (by simp [e])) (fun e => hn (by simp [e]))⟩
theorem FrameS.ofBelow {w w' : World} {S : List Nat} (h : Below w.heap.size w w') : FrameS w w' S := ⟨h.os, h.tape, h.output, h.size, fun k hk _ => h.block k hk⟩
theorem FrameS.mono {w w' : World} {S T : List Nat} (h : FrameS w w' S) (hs : ∀ x ∈ S, x ∈ T ∨ w.heap.size ≤ x) : FrameS w w' T := ⟨h.os, h.tape, h.output, h.size, fun k hk hn => h.block k hk (fun e => by rcases hs k e with q | q; exact hn q; omega)⟩
theorem FrameS.below {w w' : World} {S : List Nat} {B : Nat} (h : FrameS w w' S) (hs : ∀ x ∈ S, B ≤ x) (hB : B ≤ w.heap.size) : Below B w w' := ⟨h.os, h.tape, h.output, h.size, fun k hk => h.block k (by omega) (fun e => by have := hs k e; omega)⟩
theorem FrameS.toK {a b c : World} {t m n : Nat} (h : Below a.heap.size a b) (k : FrameS b c [t, m, n]) (hn : a.heap.size ≤ n) : FrameK a c t m :=
  ⟨k.os.trans h.os, k.tape.trans h.tape, k.output.trans h.output, Nat.le_trans h.size k.size, fun i hi h1 h2 => (k.block i (by have := h.size; omega) (by simp; omega)).trans (h.block i hi)⟩
theorem holds_block {w w' : World} {b : Nat} {t : TypeId} {vs : List Value} (h : Holds w b t vs) (hh : w'.heap[b]? = w.heap[b]?) : Holds w' b t vs := by
  unfold Holds at h ⊢
  rw [hh]; exact h
theorem holds_apart {w : World} {a b : Nat} {s t : TypeId} {us vs : List Value} (h : Holds w a s us) (h' : Holds w b t vs) (hne : s ≠ t) : a ≠ b := by
  intro e
  subst e
  unfold Holds at h h'
  rw [h] at h'
  injection h' with h'
  injection h' with _ h'
  exact hne h'
/-- What put leaves: the node has its path. -/
def PutEnd (tb m k ab : Nat) (n li used lb : Int) (f : ByteArray → Option Nat) (name pth : ByteArray) (b : Nat) (bvs : List Value) (w w' : World) : Prop :=
  Holds w' tb 163 [.pointer (some ⟨ab, 0, none⟩), .int .i64 (n + 1), .int .i64 li, .int .i64 used, .int .i64 lb] ∧ DictAt w' m (k + 1) (fun s => if s.data.toList = name.data.toList then some b else f s) ∧ Holds w' b 230 (.string pth :: bvs) ∧ FrameS w w' [tb, m, b]
/-- What put reads. -/
def PutS (P d m : Nat) (name pth : ByteArray) (w : World) : Prop := w.cell? ⟨P, 0, none⟩ = some (.pointer (some ⟨d, 0, none⟩)) ∧ w.cell? ⟨P, 1, none⟩ = some (.string name) ∧ w.cell? ⟨P, 2, none⟩ = some (.string pth) ∧ w.cell? ⟨d, 3, none⟩ = some (.map (some m))
theorem PutS.grown {P d m : Nat} {name pth : ByteArray} {w w' : World} {r : Option Nat} (h : PutS P d m name pth w) (hg : w.grownBy w' r) (h1 : some P ≠ r) (h2 : some d ≠ r) : PutS P d m name pth w' :=
  ⟨hg.cell h.1 h1, hg.cell h.2.1 h1, hg.cell h.2.2.1 h1, hg.cell h.2.2.2 h2⟩

set_option maxRecDepth 100000 in
set_option maxHeartbeats 1000000 in
theorem fsPut_any (tb ab d m k b : Nat) (n li used lb : Int) (f : ByteArray → Option Nat) (name pth q0 : ByteArray) (bvs : List Value) (w : World) (ht : Holds w tb 163 [.pointer (some ⟨ab, 0, none⟩), .int .i64 n, .int .i64 li, .int .i64 used, .int .i64 lb]) (hn : 0 ≤ n ∧ n ≤ 1000000) (hd : DictAt w m k f) (hk : k ≤ 1000000) (tn : TypeId) (dvs : List Value) (hdn : Holds w d tn dvs) (hd2 : dvs[3]? = some (.map (some m))) (hdt : d ≠ tb) (hbn : Holds w b 230 (.string q0 :: bvs)) (hbd : b ≠ d) (hs : name.size ≤ 100000) (hps : pth.size ≤ 100000) :
    Calls Tryz.prog 94 #[.pointer (some ⟨tb, 0, none⟩), .agg #[.pointer (some ⟨d, 0, none⟩), .string name, .string pth], .pointer (some ⟨b, 0, none⟩)] w fun e w' => e = .returned (.tuple #[]) ∧ PutEnd tb m k ab n li used lb f name pth b bvs w w' := by
  have htl := ht.lt
  have hdl := hdn.lt
  have hbl := hbn.lt
  have hbt : b ≠ tb := holds_apart hbn ht (by decide)
  obtain ⟨W0, hW0⟩ : ∃ W0, W0 = w.alloc (Obj.cells #[.pointer (some ⟨d, 0, none⟩), .string name, .string pth] 166) := ⟨_, rfl⟩
  have hp0 : Holds W0 w.heap.size 166 [.pointer (some ⟨d, 0, none⟩), .string name, .string pth] := by rw [hW0]; exact Holds.new w 166 _
  have ht0 : Holds W0 tb 163 [.pointer (some ⟨ab, 0, none⟩), .int .i64 n, .int .i64 li, .int .i64 used, .int .i64 lb] := by rw [hW0]; exact ht.alloc _
  obtain ⟨W1, hW1⟩ : ∃ W1, W1 = W0.setCell ⟨tb, 1, none⟩ (.int .i64 (n + 1)) := ⟨_, rfl⟩
  have c1 : W0.cell? ⟨tb, 1, none⟩ = some (.int .i64 n) := ht0.cell rfl
  have f1 := ht0.frozen 1
  have hdm : DictAt W1 m k f := by
    rw [hW1, hW0]
    have h1 : DictAt (w.alloc (Obj.cells #[.pointer (some ⟨d, 0, none⟩), .string name, .string pth] 166)) m k f := hd.kept (row := none) (World.grownBy_alloc _ _ _) (by simp)
    exact h1.kept (grown_set (World.grownBy.refl _ (some tb)) 1 _) (by simp; exact fun e => dict_block hd ht e.symm)
  have hp1 : Holds W1 w.heap.size 166 [.pointer (some ⟨d, 0, none⟩), .string name, .string pth] := by rw [hW1]; exact hp0.set_other (by omega) 1 _
  have ht1 : Holds W1 tb 163 [.pointer (some ⟨ab, 0, none⟩), .int .i64 (n + 1), .int .i64 li, .int .i64 used, .int .i64 lb] := by rw [hW1]; exact ht0.set 1 _
  have hdn1 : Holds W1 d tn dvs := by rw [hW1, hW0]; exact (hdn.alloc _).set_other hdt 1 _
  have hbn1 : Holds W1 b 230 (.string q0 :: bvs) := by rw [hW1, hW0]; exact (hbn.alloc _).set_other hbt 1 _
  have hfr : FrameS w W1 [tb, m, b] := by
    rw [hW1, hW0]
    have hg := grown_set (w := w) (wr := w.alloc (Obj.cells #[.pointer (some ⟨d, 0, none⟩), .string name, .string pth] 166)) (World.grownBy_alloc _ _ (some tb)) 1 (.int .i64 (n + 1))
    exact (FrameS.refl w _).grown hg (fun x hx => .inl (by simp at hx; simp [hx]))
  have hnm : w.heap.size ≠ m := dict_block hdm hp1
  have htm : tb ≠ m := dict_block hdm ht1
  have hdm2 : d ≠ m := dict_block hdm hdn1
  have hbm : b ≠ m := dict_block hdm hbn1
  have hS1 : PutS w.heap.size d m name pth W1 := ⟨hp1.cell rfl, hp1.cell rfl, hp1.cell rfl, hdn1.cell hd2⟩
  have R0 := hide (show ∀ w' : World, PutS w.heap.size d m name pth w' → (Instr.loadAt 160 (.pointer (some ⟨w.heap.size, 0, none⟩))).run Tryz.prog w' = .ok (.pointer (some ⟨d, 0, none⟩)) w' from fun w' h => by
    have c := h.1
    clear hS1
    go_simp)
  have R1 := hide (show ∀ w' : World, PutS w.heap.size d m name pth w' → (Instr.loadAt 9 (.pointer (some ⟨w.heap.size, 1, none⟩))).run Tryz.prog w' = .ok (.string name) w' from fun w' h => by
    have c := h.2.1
    clear hS1
    go_simp)
  have R2 := hide (show ∀ w' : World, PutS w.heap.size d m name pth w' → (Instr.loadAt 228 (.pointer (some ⟨d, 3, none⟩))).run Tryz.prog w' = .ok (.map (some m)) w' from fun w' h => by
    have c := h.2.2.2
    clear hS1
    go_simp)
  have HCL := hide (fsClone_any pth W1 hps)
  have HW0 := hide hW0
  have HW1 := hide hW1
  have HDM := hide hdm
  have HT1 := hide ht1
  have HBN := hide hbn1
  have HFR := hide hfr
  have HS1 := hide hS1
  have hn1 : n + 1 ≤ 1000001 := by omega
  have hbw : b ≠ w.heap.size := by omega
  clear hW0 hW1 hp0 ht0 hdm hp1 ht1 hdn1 hbn1 hfr hd ht hdn hbn hd2 hS1
  go_enter Tryz.func94, Tryz.ntmps94
  go_upto_region 1 with fail
  rw [← unhide HW0]
  go_upto_region 2 with fail
  rw [← unhide HW1]
  clear c1 f1
  have c2 : W1.cell? ⟨w.heap.size, 2, none⟩ = some (.string pth) := (unhide HS1).2.2.1
  go_wp2_with fail
  refine (unhide HCL).mono ?_
  rintro e w2 ⟨rfl, hb2⟩
  have hg2 : W1.grownBy w2 none := ⟨hb2.os, hb2.tape, hb2.output, hb2.size, fun q hq _ => hb2.block q hq⟩
  have hS2 := (unhide HS1).grown hg2 (by simp) (by simp)
  have hbn2 := (unhide HBN).grown hg2 (by simp)
  have x5 : w2.cell? ⟨b, 0, none⟩ = some (.string q0) := hbn2.cell rfl
  have y5 := hbn2.frozen 0
  obtain ⟨W3, hW3⟩ : ∃ W3, W3 = w2.setCell ⟨b, 0, none⟩ (.string pth) := ⟨_, rfl⟩
  have hg3 : w2.grownBy W3 (some b) := by rw [hW3]; exact grown_set (World.grownBy.refl _ _) 0 _
  have hS3 := hS2.grown hg3 (by simpa using hbw.symm) (by simpa using hbd.symm)
  have HBN3 := hide (show Holds W3 b 230 (.string pth :: bvs) from by rw [hW3]; exact hbn2.set 0 _)
  have HT3 := hide (((unhide HT1).grown hg2 (by simp)).grown hg3 (by simpa using hbt.symm))
  have HDM3 := hide (((unhide HDM).kept hg2 (by simp)).kept hg3 (by simpa using hbm.symm))
  have HFR3 := hide (((unhide HFR).grown hg2 (fun x hx => by cases hx)).grown hg3 (fun x hx => .inl (by simp at hx; simp [hx])))
  have HS3 := hide hS3
  have HCL3 := hide (fsClone_any name W3.drew hs)
  have HW3 := hide hW3
  clear hg2 hg3 hS2 hS3 hb2 hbn2 HCL hW3 HT1 HDM HBN HFR HS1 c2
  go_upto_region 3 with fail
  rw [← unhide HW3]
  clear HW3 x5 y5
  refine act_gen ?_
  intro A hA
  have e2 : A.eval (.tmp 2) = .pointer (some ⟨b, 0, none⟩) := by rw [hA]; rfl
  have e4 : A.eval (.tmp 4) = .pointer (some ⟨w.heap.size, 0, none⟩) := by rw [hA]; rfl
  have esz : A.tmps.size = 28 := by rw [hA]; rfl
  have HA := hide hA
  clear hA
  refine wp_region_held_drew (S := PutS w.heap.size d m name pth) (by kernel_rfl) (unhide HS3) (fun hS => ?_)
  refine takeH (i := 0) (some 19) rfl rfl (by kernel_rfl) (by kernel_rfl) (by kernel_rfl) (fun _ _ _ h => h) (yields_field rfl _ _ _ rfl (.pointer (some ⟨w.heap.size, 0, none⟩)) (by simp [put_eval, put_size, esz, e2, e4]) (.pointer (some ⟨w.heap.size, 0, none⟩)) (fun w' => by go_simp)) hS ?_
  refine takeH (i := 1) (some 20) rfl rfl (by kernel_rfl) (by kernel_rfl) (by kernel_rfl) (fun _ _ _ h => h) (yields_load1 rfl _ _ rfl ⟨w.heap.size, 0, none⟩ (by simp [put_eval, put_size, esz, e2, e4]) (.pointer (some ⟨d, 0, none⟩)) (unhide R0)) hS ?_
  refine takeH (i := 2) (some 21) rfl rfl (by kernel_rfl) (by kernel_rfl) (by kernel_rfl) (fun _ _ _ h => h) (yields_nil rfl _ rfl ⟨d, 0, none⟩ (by simp [put_eval, put_size, esz, e2, e4])) hS ?_
  refine takeH (i := 3) (some 22) rfl rfl (by kernel_rfl) (by kernel_rfl) (by kernel_rfl) (fun _ _ _ h => h) (yields_field rfl _ _ _ rfl (.pointer (some ⟨d, 0, none⟩)) (by simp [put_eval, put_size, esz, e2, e4]) (.pointer (some ⟨d, 3, none⟩)) (fun w' => by go_simp)) hS ?_
  refine takeH (i := 4) (some 23) rfl rfl (by kernel_rfl) (by kernel_rfl) (by kernel_rfl) (fun _ _ _ h => h) (yields_load1 rfl _ _ rfl ⟨d, 3, none⟩ (by simp [put_eval, put_size, esz, e2, e4]) (.map (some m)) (unhide R2)) hS ?_
  refine takeH (i := 5) (some 24) rfl rfl (by kernel_rfl) (by kernel_rfl) (by kernel_rfl) (fun _ _ _ h => h) (yields_field rfl _ _ _ rfl (.pointer (some ⟨w.heap.size, 0, none⟩)) (by simp [put_eval, put_size, esz, e2, e4]) (.pointer (some ⟨w.heap.size, 1, none⟩)) (fun w' => by go_simp)) hS ?_
  refine takeH (i := 6) (some 25) rfl rfl (by kernel_rfl) (by kernel_rfl) (by kernel_rfl) (fun _ _ _ h => h) (yields_load1 rfl _ _ rfl ⟨w.heap.size, 1, none⟩ (by simp [put_eval, put_size, esz, e2, e4]) (.string name) (unhide R1)) hS ?_
  refine takeH (i := 8) (some 27) rfl rfl (by kernel_rfl) (by kernel_rfl) (by kernel_rfl) (fun _ _ _ h => h) (yields_move rfl _ rfl (.pointer (some ⟨b, 0, none⟩)) (by simp [put_eval, put_size, esz, e2, e4])) hS ?_
  refine wpAnyH_ready (rs := [7]) (by kernel_rfl) (by simp) (AllReadyH.cons rfl (fun K hK => ?_) AllReadyH.nil)
  refine step_call1' rfl 116 25 _ rfl (.string name) (by simp [put_eval, put_size, esz, e2, e4]) cloneEnter _ (.string name) (fun e w' h => h.1) (unhide HCL3) (some 26) rfl ?_
  rintro w4 ⟨_, hb4⟩
  have hg4 : W3.grownBy w4 none := ⟨hb4.os, hb4.tape, hb4.output, hb4.size, fun q hq _ => hb4.block q hq⟩
  have hS4 := (unhide HS3).grown hg4 (by simp) (by simp)
  refine hK.out _ _ hS4 (fun _ => ?_)
  clear hK K
  obtain ⟨w5, hrun, hd5, hg5⟩ := ((unhide HDM3).kept hg4 (by simp)).put (by unfold maxLen; omega) name (by unfold maxLen; omega) b
  have g17 : (((((((((A.put (some 19) (.pointer (some ⟨w.heap.size, 0, none⟩))).put (some 20) (.pointer (some ⟨d, 0, none⟩))).put (some 21) (.pointer (some ⟨d, 0, none⟩))).put (some 22) (.pointer (some ⟨d, 3, none⟩))).put (some 23) (.map (some m))).put (some 24) (.pointer (some ⟨w.heap.size, 1, none⟩))).put (some 25) (.string name)).put (some 27) (.pointer (some ⟨b, 0, none⟩))).put (some 26) (.string name)).eval (.tmp 23) = .map (some m) := by simp [put_eval, put_size, esz, e2, e4]
  have g20 : (((((((((A.put (some 19) (.pointer (some ⟨w.heap.size, 0, none⟩))).put (some 20) (.pointer (some ⟨d, 0, none⟩))).put (some 21) (.pointer (some ⟨d, 0, none⟩))).put (some 22) (.pointer (some ⟨d, 3, none⟩))).put (some 23) (.map (some m))).put (some 24) (.pointer (some ⟨w.heap.size, 1, none⟩))).put (some 25) (.string name)).put (some 27) (.pointer (some ⟨b, 0, none⟩))).put (some 26) (.string name)).eval (.tmp 26) = .string name := by simp [put_eval, put_size, esz, e2, e4]
  have g21 : (((((((((A.put (some 19) (.pointer (some ⟨w.heap.size, 0, none⟩))).put (some 20) (.pointer (some ⟨d, 0, none⟩))).put (some 21) (.pointer (some ⟨d, 0, none⟩))).put (some 22) (.pointer (some ⟨d, 3, none⟩))).put (some 23) (.map (some m))).put (some 24) (.pointer (some ⟨w.heap.size, 1, none⟩))).put (some 25) (.string name)).put (some 27) (.pointer (some ⟨b, 0, none⟩))).put (some 26) (.string name)).eval (.tmp 27) = .pointer (some ⟨b, 0, none⟩) := by simp [put_eval, put_size, esz, e2, e4]
  refine wpAnyH_ready (rs := [9]) (by kernel_rfl) (by simp) ?_
  refine ready_update (w' := w5) rfl rfl 228 (.tmp 23) (.tmp 26) (.tmp 27) rfl (.map (some m)) (.string name) (.pointer (some ⟨b, 0, none⟩)) g17 g20 g21 hrun rfl (hS4.grown hg5 (by simpa using hnm) (by simpa using hdm2)) ?_ AllReadyH.nil
  refine wpAnyH_done (by kernel_rfl) ?_ _
  have HP := hide (show PutEnd tb m k ab n li used lb f name pth b bvs w w5 from ⟨((unhide HT3).grown hg4 (by simp)).grown hg5 (by simpa using htm), hd5, ((unhide HBN3).grown hg4 (by simp)).grown hg5 (by simpa using hbm), ((unhide HFR3).grown hg4 (fun x hx => by cases hx)).grown hg5 (fun x hx => .inl (by simp at hx; simp [hx]))⟩)
  rw [unhide HA]
  simp only [Act.put, List.setIfInBounds_toArray, List.set_cons_zero, List.set_cons_succ]
  clear hg4 hd5 hg5 hrun hS4 hb4 HA e2 e4 esz hS R0 R1 R2 HCL3
  go_wp2
  go_end0
  exact ⟨rfl, unhide HP⟩
end Go.Proofs.YtkokiefclmbgaaaGreatDoor

/- The program's tree with one more node. -/
namespace Go.Proofs.YtkokiefclmbgaaaGreatDoor
open Go Go.RowKit Go.Maps
set_option linter.unusedVariables false
set_option linter.unusedSimpArgs false

theorem DictAt.block {w w' : World} {m n : Nat} {f : ByteArray → Option Nat} (h : DictAt w m n f) (hh : w'.heap[m]? = w.heap[m]?) : DictAt w' m n f := by
  obtain ⟨D, ⟨es, clock, hb, F, hs, hD⟩, hf⟩ := h
  exact ⟨D, ⟨es, clock, by rw [hh]; exact hb, F, hs, hD⟩, hf⟩
theorem DictAt.lt {w : World} {m n : Nat} {f : ByteArray → Option Nat} (h : DictAt w m n f) : m < w.heap.size := by obtain ⟨D, hD, _⟩ := h; exact hD.lt
theorem DictAt.mono {w : World} {m n n' : Nat} {f : ByteArray → Option Nat} (h : DictAt w m n f) (hn : n ≤ n') : DictAt w m n' f := by obtain ⟨D, hD, hf⟩ := h; exact ⟨D, hD.mono hn, hf⟩
theorem DictAt.same {w : World} {m n : Nat} {f g : ByteArray → Option Nat} (h : DictAt w m n f) (hg : ∀ s, g s = f s) : DictAt w m n g := by
  have : g = f := funext hg
  rw [this]; exact h
theorem kid_added {xs : List Ino} {NB : List Nat} {nx : Ino} {nb : Nat} (hl : NB.length = xs.length) (d : Int) (name : ByteArray) : kidOf (xs ++ [nx]) (NB ++ [nb]) d name = match kidOf xs NB d name with | some b => some b | none => if isChild d name nx = true then some nb else none := by
  unfold kidOf
  rw [List.findIdx?_append]
  cases hf : xs.findIdx? (isChild d name) with
  | some i =>
    obtain ⟨hi, _, _⟩ := List.findIdx?_eq_some_iff_getElem.1 hf
    have hib : i < NB.length := by omega
    simp only [Option.some_or]
    rw [List.getElem?_append_left hib, List.getElem?_eq_getElem hib]
  | none =>
    simp only [Option.none_or]
    by_cases hc : isChild d name nx = true
    · rw [if_pos hc, List.findIdx?_cons, hc]
      simp [← hl]
    · rw [if_neg hc, List.findIdx?_cons]
      simp [hc]
theorem child_new (d id : Int) (s name : ByteArray) (is : Bool) : isChild d s (newIno id d name is) = decide (s.data.toList = name.data.toList) := by
  unfold isChild newIno
  show (d == d && name.toList == s.toList) = _
  rw [beq_self_eq_true, Bool.true_and, ByteArray.toList_eq, ByteArray.toList_eq]
  by_cases e : s.data.toList = name.data.toList
  · rw [decide_eq_true e, e]; simp
  · rw [decide_eq_false e]; simp; exact fun h => e (by rw [h])
theorem child_else {d e id : Int} {s name : ByteArray} {is : Bool} (h : e ≠ d) : isChild d s (newIno id e name is) = false := by
  unfold isChild newIno
  show (e == d && _) = false
  rw [show (e == d) = false from by simpa using h, Bool.false_and]
theorem bytes_eq {s t : ByteArray} (h : s.data.toList = t.data.toList) : s = t := by
  cases s with | mk a => cases t with | mk b =>
  congr 1
  exact Array.toList_inj.1 h

theorem TreeRep.added {w w' : World} {B tb ab am : Nat} {li lb used : Int} {xs : List Ino} {NB MB : List Nat} {V : List Value} (h : TreeRep w B tb ab am li lb used xs NB MB V) {pi pm nb nm : Nat} {px : Ino} {name : ByteArray} {dir : Bool} {v mv : Value} {id : Int}
    (hp : xs[pi]? = some px) (hpd : px.dir = true) (hpm : MB[pi]? = some pm) (hinc : xs.Pairwise (fun x y => x.id < y.id)) (hc : kidOf xs NB px.id name = none)
    (ht : Holds w' tb 163 [.pointer (some ⟨ab, 0, none⟩), .int .i64 ((xs.length : Int) + 1), .int .i64 li, .int .i64 used, .int .i64 lb])
    (hd : DictAt w' pm (xs.length + 1) (fun s => if s.data.toList = name.data.toList then some nb else kidOf xs NB px.id s))
    (hn : ∃ q, Holds w' nb 230 [.string q, .bool dir, v, mv, .int .i64 0])
    (hnd : dir = true → mv = .map (some nm) ∧ DictAt w' nm 0 (fun _ => none)) (hnf : dir = false → mv = .map none)
    (hnb : w.heap.size ≤ nb) (hnm : w.heap.size ≤ nm) (hnl : nm < w'.heap.size) (hf : FrameK w w' tb pm) (hpar : ∀ x ∈ xs, x.parent ≠ id) (hpid : px.id ≠ id) (hB : B ≤ w.heap.size) :
    TreeRep w' B tb ab am li lb used (xs ++ [newIno id px.id name dir]) (NB ++ [nb]) (MB ++ [nm]) (V ++ [v]) := by
  obtain ⟨hpl, hpx⟩ := List.getElem?_eq_some_iff.1 hp
  have hl1 := h.len.1
  have hl2 := h.len.2
  have hl3 := h.vlen
  have hpmm : pm ∈ MB := List.mem_of_getElem? hpm
  have hnode0 : ∀ (i : Nat) (x : Ino) (b m : Nat), xs[i]? = some x → NB[i]? = some b → MB[i]? = some m → ∃ qn v mv, Holds w' b 230 [.string qn, .bool x.dir, v, mv, .int .i64 0] ∧ (x.dir = true → mv = .map (some m) ∧ (i ≠ pi → DictAt w' m xs.length (kidOf xs NB x.id))) ∧ V[i]? = some v ∧ (x.dir = false → mv = .map none) := by
    intro i x b m hx hb hm
    obtain ⟨qn, v1, mv1, h1, h2, h3⟩ := h.node i x b m hx hb hm
    obtain ⟨pb, hpb⟩ : ∃ pb, NB[pi]? = some pb := ⟨_, List.getElem?_eq_getElem (by omega)⟩
    obtain ⟨_, v2, mv2, _, h5, _⟩ := h.node pi px pb pm hp hpb hpm
    have hdp := (h5 hpd).2
    refine ⟨qn, v1, mv1, holds_block h1 (hf.block b h1.lt (holds_apart h1 h.tree (by decide)) (dict_block hdp h1)), fun hxd => ⟨(h2 hxd).1, fun hne => (h2 hxd).2.block (hf.block m (h2 hxd).2.lt (fun e => dict_block (h2 hxd).2 h.tree e.symm) (fun e => ?_))⟩, h3⟩
    subst e
    obtain ⟨hi1, hi2⟩ := List.getElem?_eq_some_iff.1 hm
    obtain ⟨hj1, hj2⟩ := List.getElem?_eq_some_iff.1 hpm
    exact hne ((List.getElem_inj h.apart.1).1 (hi2.trans hj2.symm))
  have hdp0 : DictAt w pm xs.length (kidOf xs NB px.id) := by
    obtain ⟨pb, hpb⟩ : ∃ pb, NB[pi]? = some pb := ⟨_, List.getElem?_eq_getElem (by omega)⟩
    obtain ⟨_, v2, mv2, _, h5, _⟩ := h.node pi px pb pm hp hpb hpm
    exact (h5 hpd).2
  have hne : xs ≠ [] := by intro e; rw [e] at hpl; simp at hpl
  refine ⟨?_, ?_, ?_, ?_, ?_, ?_, ?_, ?_, ?_⟩
  · rw [List.length_append]; simpa using ht
  · exact holds_block h.above (hf.block ab h.above.lt (holds_apart h.above h.tree (by decide)) (dict_block hdp0 h.above))
  · refine (h.amap.block (hf.block am h.amap.lt (fun e => dict_block h.amap h.tree e.symm) (fun e => h.apart.2.1 (e ▸ hpmm)))).same fun s => ?_
    rw [List.getElem?_append_left (by omega)]
  · simp [hl1, hl2]
  · intro i x b m hx hb hm
    by_cases hi : i < xs.length
    · rw [List.getElem?_append_left hi] at hx
      rw [List.getElem?_append_left (by omega)] at hb hm
      obtain ⟨qn, v1, mv1, h1, h2, h3⟩ := hnode0 i x b m hx hb hm
      refine ⟨qn, v1, mv1, h1, fun hxd => ⟨(h2 hxd).1, ?_⟩, by rw [List.getElem?_append_left (by omega)]; exact h3.1, h3.2⟩
      rw [List.length_append]
      by_cases hip : i = pi
      · subst hip
        rw [hp] at hx
        obtain rfl := Option.some.inj hx
        rw [hpm] at hm
        obtain rfl := Option.some.inj hm
        refine hd.same fun s => ?_
        rw [kid_added hl1, child_new]
        by_cases e : s.data.toList = name.data.toList
        · obtain rfl := bytes_eq e
          rw [hc]; simp
        · rw [if_neg e]
          cases hk : kidOf xs NB px.id s with
          | some b => rfl
          | none => simp [e]
      · refine (((h2 hxd).2 hip).mono (by omega)).same fun s => ?_
        have hid : px.id ≠ x.id := by
          intro e
          obtain ⟨hi1, hi2⟩ := List.getElem?_eq_some_iff.1 hx
          have hpw := List.pairwise_iff_getElem.1 hinc
          rcases Nat.lt_trichotomy i pi with q | q | q
          · have := hpw i pi hi1 hpl q; rw [hi2, hpx] at this; omega
          · exact hip q
          · have := hpw pi i hpl hi1 q; rw [hi2, hpx] at this; omega
        rw [kid_added hl1, child_else hid]
        cases kidOf xs NB x.id s with
        | some b => rfl
        | none => rfl
    · have hi2 := (List.getElem?_eq_some_iff.1 hx).1
      rw [List.length_append] at hi2
      have hie : i = xs.length := by simp at hi2; omega
      subst hie
      rw [List.getElem?_append_right (by omega)] at hx hb hm
      simp [hl1] at hb
      simp [hl2] at hm
      simp at hx
      subst hx hb hm
      obtain ⟨qn, hn⟩ := hn
      refine ⟨qn, v, mv, hn, fun hxd => ⟨(hnd hxd).1, ((hnd hxd).2.mono (by omega)).same fun s => ?_⟩, by rw [List.getElem?_append_right (by omega)]; simp [hl3], fun q => hnf q⟩
      show kidOf _ _ id s = none
      rw [kid_added hl1, child_else hpid]
      have : xs.findIdx? (isChild id s) = none := by
        rw [List.findIdx?_eq_none_iff]
        intro x hx
        unfold isChild
        rw [show (x.parent == id) = false from by simpa using hpar x hx, Bool.false_and]
      unfold kidOf
      rw [this]
      rfl
  · intro _
    obtain ⟨x, hx, h1, h2⟩ := h.root hne
    exact ⟨x, by rw [List.getElem?_append_left (by omega)]; exact hx, h1, h2⟩
  · simp [hl3]
  · have hlow := h.low
    refine ⟨?_, ?_, ?_, ?_⟩
    · rw [List.nodup_append]
      exact ⟨h.apart.1, by simp, fun a ha b hb => by simp at hb; have := (hlow.2.2.2.2 a ha).2; omega⟩
    · rw [List.mem_append]
      rintro (q | q)
      · exact h.apart.2.1 q
      · simp at q; have := h.amap.lt; omega
    · rw [List.nodup_append]
      refine ⟨h.apart.2.2.1, by simp, fun a ha b hb => ?_⟩
      simp at hb
      obtain ⟨j, hj, hja⟩ := List.mem_iff_getElem.1 ha
      obtain ⟨qn, _, _, q, _⟩ := h.node j xs[j] NB[j] MB[j] (List.getElem?_eq_getElem (by omega)) (List.getElem?_eq_getElem hj) (List.getElem?_eq_getElem (by omega))
      have := q.lt
      omega
    · rw [List.mem_append]
      rintro (q | q)
      · exact h.apart.2.2.2 q
      · simp at q; have := h.above.lt; omega
  · have hlow := h.low
    have hsz := hf.size
    refine ⟨hlow.1, hlow.2.1, hlow.2.2.1, fun b hb => ?_, fun m hm => ?_⟩
    · rcases List.mem_append.1 hb with q | q
      · exact hlow.2.2.2.1 b q
      · simp at q; omega
    · rcases List.mem_append.1 hm with q | q
      · exact ⟨(hlow.2.2.2.2 m q).1, by have := (hlow.2.2.2.2 m q).2; omega⟩
      · simp at q; subst q; exact ⟨by omega, hnl⟩
end Go.Proofs.YtkokiefclmbgaaaGreatDoor
