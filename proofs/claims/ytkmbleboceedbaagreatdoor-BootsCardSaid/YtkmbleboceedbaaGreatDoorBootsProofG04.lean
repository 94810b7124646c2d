import Derived.Test.YtkmbleboceedbaaGreatDoorBootsProofG03
import Derived.RegionTactic
import Derived.ChangeAlike
import Derived.BigRegion
/- tinyosref: the kernel in memory; fresh, make, mkdir. -/
namespace Go.Proofs.YtkmbleboceedbaaGreatDoor
open Go.RowKit
set_option linter.unusedVariables false
set_option linter.unusedSimpArgs false

/-- The document's kernel: limits, inodes, the last number; the other fields as they lie. -/
structure RK where
  lp : Int
  lf : Int
  lo : Int
  li : Int
  lb : Int
  pv : Value
  ov : Value
  cv : Value
  tv : Value
  uv : Value
  mv : Value
  inos : List Ino
  last : Int
def RK.cells (k : RK) (v : Value) : List Value := [.int .i64 k.lp, .int .i64 k.lf, .int .i64 k.lo, .int .i64 k.li, .int .i64 k.lb, k.pv, k.ov, v, k.cv, k.tv, k.uv, k.mv, .int .i64 k.last]
def RepK (w : World) (base kb g cap : Nat) (k : RK) : Prop :=
  Holds w kb 71 (k.cells (.slice (some ⟨g, 0, none⟩) k.inos.length cap)) ∧ w.ownsRow base 90 5 (.slice (some ⟨g, 0, none⟩) k.inos.length cap) k.inos.length (inoRow k.inos)
theorem inoRow_length (xs : List Ino) : (inoRow xs).length = xs.length * 5 := by
  unfold inoRow
  induction xs with
  | nil => rfl
  | cons x r ih => rw [List.flatMap_cons, List.length_append, ih]; simp [inoCells]; omega
theorem RepK.at {w : World} {base kb g cap : Nat} {k : RK} (h : RepK w base kb g cap k) : InosAt w kb g cap k.inos :=
  ⟨h.1.cell rfl, fun j v hj => by
    have hl := (List.getElem?_eq_some_iff.1 hj).1
    rw [inoRow_length] at hl
    rw [Nat.zero_add, h.2.cellAt j hl]; exact hj⟩
/-- All but two blocks are as they were. -/
structure FrameK (w w' : World) (a b : Nat) : Prop where
  os : w'.os = w.os
  tape : w'.tape = w.tape
  output : w'.output = w.output
  size : w.heap.size ≤ w'.heap.size
  block : ∀ k, k < w.heap.size → k ≠ a → k ≠ b → w'.heap[k]? = w.heap[k]?
theorem FrameK.refl (w : World) (a b : Nat) : FrameK w w a b := ⟨rfl, rfl, rfl, Nat.le_refl _, fun _ _ _ _ => rfl⟩
theorem FrameK.ofBelow {w w' : World} {a b : Nat} (h : Below w.heap.size w w') : FrameK w w' a b := ⟨h.os, h.tape, h.output, h.size, fun k hk _ _ => h.block k hk⟩
theorem FrameK.below {w w' : World} {a b B : Nat} (h : FrameK w w' a b) (ha : B ≤ a) (hb : B ≤ b) (hB : B ≤ w.heap.size) : Below B w w' := ⟨h.os, h.tape, h.output, h.size, fun k hk => h.block k (by omega) (by omega) (by omega)⟩
theorem FrameK.grownL {w w' w'' : World} {a b : Nat} (h : FrameK w w' a b) (hg : w'.grownBy w'' (some a)) : FrameK w w'' a b :=
  ⟨hg.os.trans h.os, hg.tape.trans h.tape, hg.output.trans h.output, Nat.le_trans h.size hg.size, fun k hk h1 h2 => (hg.block k (by have := h.size; omega) (by simpa using h1)).trans (h.block k hk h1 h2)⟩
theorem FrameK.grownR {w w' w'' : World} {a b : Nat} (h : FrameK w w' a b) (hg : w'.grownBy w'' (some b)) : FrameK w w'' a b :=
  ⟨hg.os.trans h.os, hg.tape.trans h.tape, hg.output.trans h.output, Nat.le_trans h.size hg.size, fun k hk h1 h2 => (hg.block k (by have := h.size; omega) (by simpa using h2)).trans (h.block k hk h1 h2)⟩
theorem FrameK.step {w w' w'' : World} {a b : Nat} (h : FrameK w w' a b) (hb : Below w'.heap.size w' w'') : FrameK w w'' a b :=
  ⟨hb.os.trans h.os, hb.tape.trans h.tape, hb.output.trans h.output, Nat.le_trans h.size hb.size, fun k hk h1 h2 => (hb.block k (by have := h.size; omega)).trans (h.block k hk h1 h2)⟩
theorem FrameK.trans {w w' w'' : World} {a b b' : Nat} (h : FrameK w w' a b) (k : FrameK w' w'' a b') (hb : b' = b ∨ w.heap.size ≤ b') : FrameK w w'' a b :=
  ⟨k.os.trans h.os, k.tape.trans h.tape, k.output.trans h.output, Nat.le_trans h.size k.size, fun i hi h1 h2 => (k.block i (by have := h.size; omega) h1 (by rcases hb with rfl | hb; exact h2; omega)).trans (h.block i hi h1 h2)⟩

theorem addr_add' (b o j : Nat) : (⟨b, o, none⟩ : Addr).add j = ⟨b, o + j, none⟩ := by unfold Addr.add; split <;> simp_all

set_option maxHeartbeats 1000000 in
theorem refFresh_any (base kb : Nat) (k : RK) (v : Value) (w : World) (h : Holds w kb 71 (k.cells v)) (h0 : 0 ≤ k.last) (h1 : k.last ≤ 1000000) :
    Calls Tryz.prog 28 #[.pointer (some ⟨kb, 0, none⟩)] w fun e w' => e = .returned (.int .i64 (k.last + 1)) ∧ Holds w' kb 71 ({k with last := k.last + 1}.cells v) ∧ w.grownBy w' (some kb) := by
  have c : w.cell? ⟨kb, 12, none⟩ = some (.int .i64 k.last) := h.cell rfl
  have f := h.frozen 12
  have H2 := hide (show Holds (w.setCell ⟨kb, 12, none⟩ (.int .i64 (k.last + 1))) kb 71 ({k with last := k.last + 1}.cells v) from h.set 12 _)
  have H3 := hide (grown_set (World.grownBy.refl w (some kb)) 12 (.int .i64 (k.last + 1)))
  generalize k.last = L at *
  clear h
  go_enter Tryz.func28, Tryz.ntmps28
  go_wp2
  go_ret
  exact ⟨rfl, unhide H2, unhide H3⟩

theorem inoInfo : (Tryz.prog.info? 90).map (fun i => (i.zero, i.size, i.bytes)) = some (some (.agg #[.int .i64 0, .int .i64 0, .string ByteArray.empty, .bool false, .slice none 0 0]), 5, 64) := by kernel_rfl
def newIno (id dir : Int) (name : ByteArray) (is : Bool) : Ino := ⟨id, dir, name, is, .slice none 0 0⟩
def RK.add (k : RK) (dir : Int) (name : ByteArray) (is : Bool) : RK := {k with inos := k.inos ++ [newIno (k.last + 1) dir name is], last := k.last + 1}

set_option maxRecDepth 100000 in
set_option maxHeartbeats 2000000 in
theorem refMake_any (base kb g cap : Nat) (k : RK) (dir : Int) (name : ByteArray) (is : Bool) (w : World) (h : RepK w base kb g cap k) (hkb : kb < base) (hbs : base ≤ w.heap.size) (hn : k.inos.length ≤ 100000) (h0 : 0 ≤ k.last) (h1 : k.last ≤ 1000000) :
    Calls Tryz.prog 48 #[.pointer (some ⟨kb, 0, none⟩), .int .i64 dir, .string name, .bool is] w fun e w' => e = .returned (.int .i64 (k.last + 1)) ∧ ∃ g' cap', RepK w' base kb g' cap' (k.add dir name is) ∧ FrameK w w' kb g ∧ (g' = g ∨ w.heap.size ≤ g') := by
  have HF := hide (refFresh_any base kb k _ w h.1 h0 h1)
  have H := hide h
  have hgb := h.2.lt g rfl
  obtain ⟨ii, hii, hz0, hz1, hz2⟩ := info_of inoInfo
  have HII := hide (And.intro hii (And.intro hz0 (And.intro hz1 hz2)))
  clear h hii hz0 hz1 hz2
  go_enter Tryz.func48, Tryz.ntmps48
  go_wp2_with fail
  refine (unhide HF).mono ?_
  rintro e w1 ⟨rfl, hk1, hg1⟩
  have hs1 := hg1.size
  have how1 := (unhide H).2.kept hg1 (.inr (by show some g ≠ some kb; simp; omega))
  have c7 : w1.cell? ⟨kb, 7, none⟩ = some (.slice (some ⟨g, 0, none⟩) k.inos.length cap) := hk1.cell rfl
  have f7 := hk1.frozen 7
  have hkl := hk1.lt
  have HK1 := hide hk1
  have HG1 := hide hg1
  have HOW1 := hide how1
  obtain ⟨L, hL⟩ : ∃ L, L = k.last + 1 := ⟨_, rfl⟩
  rw [← hL]
  have HL := hide hL
  obtain ⟨n, hnn⟩ : ∃ n, n = k.inos.length := ⟨_, rfl⟩
  rw [← hnn] at c7 hn HOW1
  have HNN := hide hnn
  obtain ⟨o, ho⟩ : ∃ o, o = Obj.cells #[.int .i64 L, .int .i64 dir, .string name, .bool is, .slice none 0 0] 90 := ⟨_, rfl⟩
  have HO := hide ho
  have HNW := hide (show ∀ j u, (inoCells (newIno L dir name is))[j]? = some u → (w1.alloc o).cell? ((⟨w1.heap.size, 0, none⟩ : Addr).add j) = some u from by
    rw [ho]
    intro j u hj
    rw [addr_add', Nat.zero_add]
    exact (Holds.new w1 90 (inoCells (newIno L dir name is))).cell hj)
  clear hk1 hg1 how1 hL hnn ho HF
  go_wp2_with (at_builtin; refine wpList_append_lies _ (by rfl) _ _ 67 (by rfl) base 90 ii _ 5 64 Tryz.underlying67 (unhide HII).1 (unhide HII).2.1 (unhide HII).2.2.1 (unhide HII).2.2.2 rfl (by decide) _ _ _ (by rfl) ((unhide HOW1).alloc _) ⟨w1.heap.size, 0, none⟩ 1 1 (inoCells (newIno L dir name is)) (by rfl) (by rfl) (by have h := unhide HNW; rw [unhide HO] at h; exact h) (by intro u hu; simp only [inoCells, newIno, List.mem_cons, List.not_mem_nil, or_false] at hu; rcases hu with rfl | rfl | rfl | rfl | rfl <;> rfl) (by omega) (by unfold maxLen; omega) (by omega) (by simp; omega) (w1.heap.size + 1) (by simp) ?_; intro g5 cap5 w5 hown5 hgrow5 hat5 hlt5; have k5 := ((unhide HK1).alloc (Obj.cells #[.int .i64 L, .int .i64 dir, .string name, .bool is, .slice none 0 0] 90)).grown hgrow5 (by show some kb ≠ some g; simp; omega); have x7 := k5.cell (j := 7) rfl; have y7 := k5.frozen 7; have K5 := hide k5; clear k5)
  have hkg : kb ≠ g := by omega
  have hg5 : g5 = g ∨ g5 = w1.heap.size + 1 := by
    rcases hat5 with h | h
    · left; simpa [Value.ownBlock] using h.symm
    · exact .inr h
  have hkg5 : g5 ≠ kb := by omega
  have r1 : Holds (w5.setCell ⟨kb, 7, none⟩ (.slice (some ⟨g5, 0, none⟩) (n + 1) cap5)) kb 71 ((k.add dir name is).cells (.slice (some ⟨g5, 0, none⟩) (k.add dir name is).inos.length cap5)) := by
    have h := (unhide K5).set 7 (.slice (some ⟨g5, 0, none⟩) (n + 1) cap5)
    have e : (k.add dir name is).inos.length = n + 1 := by rw [RK.add, unhide HNN]; simp
    rw [e]; exact h
  have r2 : (w5.setCell ⟨kb, 7, none⟩ (.slice (some ⟨g5, 0, none⟩) (n + 1) cap5)).ownsRow base 90 5 (.slice (some ⟨g5, 0, none⟩) (k.add dir name is).inos.length cap5) (k.add dir name is).inos.length (inoRow (k.add dir name is).inos) := by
    have e : (k.add dir name is).inos.length = n + 1 := by rw [RK.add, unhide HNN]; simp
    have e2 : inoRow (k.add dir name is).inos = inoRow k.inos ++ inoCells (newIno L dir name is) := by rw [RK.add, unhide HL, inoRow, inoRow, List.flatMap_append]; simp
    rw [e, e2]
    exact hown5.kept (grown_set (w := w5) (wr := w5) (b := kb) ⟨rfl, rfl, rfl, Nat.le_refl _, fun _ _ _ => rfl⟩ 7 _) (.inr (by show some g5 ≠ some kb; simpa using hkg5))
  have r3 : FrameK w (w5.setCell ⟨kb, 7, none⟩ (.slice (some ⟨g5, 0, none⟩) (n + 1) cap5)) kb g :=
    ((((FrameK.refl w kb g).grownL (unhide HG1)).step ((Below.refl _ _).alloc (Nat.le_refl _) _)).grownR hgrow5).grownL (grown_set (w := w5) (wr := w5) (b := kb) ⟨rfl, rfl, rfl, Nat.le_refl _, fun _ _ _ => rfl⟩ 7 _)
  go_ret
  exact ⟨by rw [← unhide HL]; rfl, g5, cap5, ⟨r1, r2⟩, r3, by omega⟩

/-- Mkdir: the error, and the kernel behind it. -/
def mkdirOf (k : RK) (s : ByteArray) : Int × RK :=
  if (walkOf k.inos s).e ≠ 0 then ((walkOf k.inos s).e, k) else if (walkOf k.inos s).n ≠ 0 then (10, k) else if k.li ≤ (k.inos.length : Int) then (12, k) else (0, k.add (walkOf k.inos s).dir (walkOf k.inos s).name true)
theorem RepK.below {w w' : World} {base kb g cap : Nat} {k : RK} (h : RepK w base kb g cap k) (hb : Below w.heap.size w w') : RepK w' base kb g cap k :=
  ⟨h.1.below hb h.1.lt, h.2.kept (row := none) ⟨hb.os, hb.tape, hb.output, hb.size, fun q hq _ => hb.block q hq⟩ (.inr (by show some g ≠ none; simp))⟩
theorem RepK.heap {w w' : World} {base kb g cap : Nat} {k : RK} (h : RepK w base kb g cap k) (hh : w'.heap = w.heap) : RepK w' base kb g cap k :=
  ⟨h.1.heap hh, by have h2 := h.2; unfold World.ownsRow at h2 ⊢; rw [hh]; exact h2⟩

set_option maxRecDepth 100000 in
set_option maxHeartbeats 2000000 in
theorem refMkdir_any (base kb g cap : Nat) (k : RK) (s : ByteArray) (w : World) (h : RepK w base kb g cap k) (hkb : kb < base) (hbs : base ≤ w.heap.size) (hn : k.inos.length ≤ 100000) (h0 : 0 ≤ k.last) (h1 : k.last ≤ 1000000) (hs : s.size ≤ maxLen) :
    Calls Tryz.prog 46 #[.pointer (some ⟨kb, 0, none⟩), .string s] w fun e w' => e = .returned (.int .i64 (mkdirOf k s).1) ∧ ∃ g' cap', RepK w' base kb g' cap' (mkdirOf k s).2 ∧ FrameK w w' kb g ∧ (g' = g ∨ w.heap.size ≤ g') := by
  have hgb := h.2.lt g rfl
  have hkl := h.1.lt
  have HW := hide (refWalk_any kb g cap k.inos s w h.at hkl hgb.2 (by omega) hs)
  have H := hide h
  obtain ⟨r, hr⟩ : ∃ r, r = walkOf k.inos s := ⟨_, rfl⟩
  rw [← hr] at HW
  have hm : mkdirOf k s = if r.e ≠ 0 then (r.e, k) else if r.n ≠ 0 then (10, k) else if k.li ≤ (k.inos.length : Int) then (12, k) else (0, k.add r.dir r.name true) := by rw [mkdirOf, hr]
  have HM := hide hm
  clear h hs hr hm
  obtain ⟨dir, name, n, e⟩ := r
  simp only at HM
  unfold walkRet at HW
  go_enter Tryz.func46, Tryz.ntmps46
  go_wp2_with fail
  refine (unhide HW).mono ?_
  rintro e' w1 ⟨rfl, hb1⟩
  have HR1 := hide ((unhide H).below hb1)
  have HF1 := hide (FrameK.ofBelow (a := kb) (b := g) hb1)
  have hs1 := hb1.size
  clear hb1 HW
  simp only
  by_cases t1 : e = 0
  case neg =>
    have g1 : (e != 0) = true := by simpa using t1
    have hm := unhide HM
    rw [if_pos t1] at hm
    have HM2 := hide hm
    clear t1 hm
    go_wp2
    go_ret
    exact ⟨by rw [unhide HM2]; rfl, g, cap, by rw [unhide HM2]; exact unhide HR1, unhide HF1, .inl rfl⟩
  have g1 : (e != 0) = false := by simpa using t1
  by_cases t2 : n = 0
  case neg =>
    have g2 : (n != 0) = true := by simpa using t2
    have hm := unhide HM
    rw [if_neg (by simpa using t1), if_pos t2] at hm
    have HM2 := hide hm
    clear t1 t2 hm
    go_wp2
    go_ret
    exact ⟨by rw [unhide HM2]; rfl, g, cap, by rw [unhide HM2]; exact unhide HR1, unhide HF1, .inl rfl⟩
  have g2 : (n != 0) = false := by simpa using t2
  have hm := unhide HM
  rw [if_neg (by simpa using t1), if_neg (by simpa using t2)] at hm
  have HM2 := hide hm
  have c3 : w1.cell? ⟨kb, 3, none⟩ = some (.int .i64 k.li) := (unhide HR1).1.cell rfl
  have c7 : w1.cell? ⟨kb, 7, none⟩ = some (.slice (some ⟨g, 0, none⟩) k.inos.length cap) := (unhide HR1).1.cell rfl
  clear t1 t2 hm HM
  by_cases t3 : k.li ≤ (k.inos.length : Int)
  · have hm := unhide HM2
    rw [if_pos t3] at hm
    have HM3 := hide hm
    clear hm
    go_wp2
    go_quiet (fail)
    go_wp2
    go_ret
    exact ⟨by rw [unhide HM3]; rfl, g, cap, by rw [unhide HM3]; exact (unhide HR1).heap rfl, ⟨(unhide HF1).os, (unhide HF1).tape, (unhide HF1).output, (unhide HF1).size, (unhide HF1).block⟩, .inl rfl⟩
  · have hm := unhide HM2
    rw [if_neg t3] at hm
    have HM3 := hide hm
    clear hm
    go_wp2
    go_quiet (fail)
    have HMK := hide (refMake_any base kb g cap k dir name true (w1.drewN nq) ((unhide HR1).heap rfl) hkb (by show base ≤ w1.heap.size; omega) hn h0 h1)
    go_wp2_with fail
    refine (unhide HMK).mono ?_
    rintro e' w2 ⟨rfl, g', cap', hr2, hf2, hg2⟩
    have HR2 := hide hr2
    have HF2 := hide (show FrameK w w2 kb g from ⟨hf2.os.trans (unhide HF1).os, hf2.tape.trans (unhide HF1).tape, hf2.output.trans (unhide HF1).output, Nat.le_trans (unhide HF1).size hf2.size, fun q hq a b => (hf2.block q (by show q < w1.heap.size; omega) a b).trans ((unhide HF1).block q hq a b)⟩)
    have hg3 : g' = g ∨ w.heap.size ≤ g' := by rcases hg2 with h | h; exact .inl h; exact .inr (Nat.le_trans hs1 h)
    clear hr2 hf2 hg2
    go_wp2
    go_ret
    exact ⟨by rw [unhide HM3]; rfl, g', cap', by rw [unhide HM3]; exact unhide HR2, unhide HF2, hg3⟩
end Go.Proofs.YtkmbleboceedbaaGreatDoor

/- tinyosref: Used. -/
namespace Go.Proofs.YtkmbleboceedbaaGreatDoor
open Go.RowKit
set_option linter.unusedVariables false
set_option linter.unusedSimpArgs false

def limRow (a b c d e : Int) : List Value := [.int .i64 a, .int .i64 b, .int .i64 c, .int .i64 d, .int .i64 e]
/-- The processes' row: of each one how many pages it has. -/
def PagesAt (w : World) (v : Value) (PL : List Nat) : Prop := ∃ a c, v = .slice a PL.length c ∧ ∀ (i n : Nat), PL[i]? = some n → ∃ gp b d, a = some ⟨gp, 0, none⟩ ∧ gp < w.heap.size ∧ w.cell? ⟨gp, i * 31 + 22, none⟩ = some (.slice b n d)
/-- How long the inodes' bytes are. -/
def LensOf (xs : List Ino) (BL : List Nat) : Prop := BL.length = xs.length ∧ ∀ (i : Nat) (x : Ino) (n : Nat), xs[i]? = some x → BL[i]? = some n → ∃ a c, x.bytes = .slice a n c
theorem sum_take_succ {l : List Nat} {j n : Nat} (h : l[j]? = some n) : (l.take (j + 1)).sum = (l.take j).sum + n := by
  rw [List.take_add_one, h]; simp
theorem sum_take_le (l : List Nat) (j : Nat) : (l.take j).sum ≤ l.sum := by
  have h := List.take_append_drop j l
  have h2 : l.sum = (l.take j).sum + (l.drop j).sum := by
    conv => lhs; rw [← h]
    rw [List.sum_append]
  omega

set_option maxRecDepth 100000 in
set_option maxHeartbeats 4000000 in
theorem refUsed_any (base kb g cap : Nat) (k : RK) (PL BL : List Nat) (oa : Option Addr) (on oc : Nat) (w : World) (h : RepK w base kb g cap k) (hP : PagesAt w k.pv PL) (hO : k.ov = .slice oa on oc) (hB : LensOf k.inos BL)
    (hn : k.inos.length ≤ 100000) (hp : PL.length ≤ 100000) (hps : PL.sum ≤ 10000000) (hbs : BL.sum ≤ 10000000) :
    Calls Tryz.prog 24 #[.pointer (some ⟨kb, 0, none⟩)] w fun e w' => e = .returned (.agg (limRow PL.length PL.sum on k.inos.length BL.sum).toArray) ∧ Below w.heap.size w w' := by
  have hkl := h.1.lt
  have hgb := h.2.lt g rfl
  obtain ⟨pa, pc, hpv, hpp⟩ := hP
  have c5 : w.cell? ⟨kb, 5, none⟩ = some (.slice pa PL.length pc) := by rw [← hpv]; exact h.1.cell rfl
  have c6 : w.cell? ⟨kb, 6, none⟩ = some (.slice oa on oc) := by rw [← hO]; exact h.1.cell rfl
  have c7 : w.cell? ⟨kb, 7, none⟩ = some (.slice (some ⟨g, 0, none⟩) k.inos.length cap) := h.1.cell rfl
  have H := hide h
  have HP := hide hpp
  have HBL := hide hB
  clear h hpp hB
  have Z1 := hide (show Holds ((w.alloc (.cells (limRow 0 0 0 0 0).toArray 59)).alloc (.cells (limRow PL.length 0 on k.inos.length 0).toArray 59)) (w.heap.size + 1) 59 (limRow PL.length 0 on k.inos.length 0) from by
    have h := Holds.new (w.alloc (.cells (limRow 0 0 0 0 0).toArray 59)) 59 (limRow PL.length 0 on k.inos.length 0)
    rwa [show (w.alloc (.cells (limRow 0 0 0 0 0).toArray 59)).heap.size = w.heap.size + 1 from by simp] at h)
  have Z2 := hide ((Holds.new w 59 (limRow 0 0 0 0 0)).alloc (.cells (limRow PL.length 0 on k.inos.length 0).toArray 59))
  have Z3 := hide (((Below.refl w.heap.size w).alloc (Nat.le_refl _) (.cells (limRow 0 0 0 0 0).toArray 59)).alloc (by simp) (.cells (limRow PL.length 0 on k.inos.length 0).toArray 59))
  go_enter Tryz.func24, Tryz.ntmps24
  go_wp2
  go_region
  go_wp2
  go_loopw [4] (fun i wr => ∃ j : Nat, j ≤ PL.length ∧ i = .int .i64 j ∧ Hid (Holds wr (w.heap.size + 1) 59 (limRow PL.length (PL.take j).sum on k.inos.length 0)) ∧ Hid (Holds wr w.heap.size 59 (limRow 0 0 0 0 0)) ∧ Hid (Below w.heap.size w wr)) (fun i _ => PL.length - (intOf i).toNat)
  case atStart =>
    exact ⟨0, by omega, rfl, hide ((unhide Z1).heap rfl), hide ((unhide Z2).heap rfl), hide ⟨(unhide Z3).os, (unhide Z3).tape, (unhide Z3).output, (unhide Z3).size, (unhide Z3).block⟩⟩
  case round =>
    obtain ⟨j, hj, rfl, HU, HR, HB⟩ := hrel
    have hcell : ∀ b o, b < w.heap.size → wr.cell? ⟨b, o, none⟩ = w.cell? ⟨b, o, none⟩ := fun b o hb => (unhide HB).cell (p := ⟨b, o, none⟩) hb
    have d5 : wr.cell? ⟨kb, 5, none⟩ = some (.slice pa PL.length pc) := by rw [hcell _ _ hkl]; exact c5
    by_cases hlt : j < PL.length
    · obtain ⟨n, hnj⟩ : ∃ n, PL[j]? = some n := ⟨_, List.getElem?_eq_getElem hlt⟩
      obtain ⟨gp, b, d, hpa, hgp, hc⟩ := unhide HP j n hnj
      subst hpa
      have d22 : wr.cell? ⟨gp, j * 31 + 22, none⟩ = some (.slice b n d) := by rw [hcell _ _ hgp]; exact hc
      have u1 : wr.cell? ⟨w.heap.size + 1, 1, none⟩ = some (.int .i64 ((PL.take j).sum : Nat)) := (unhide HU).cell rfl
      have uf := (unhide HU).frozen 1
      have hsum := sum_take_succ hnj
      have hle := sum_take_le PL (j + 1)
      obtain ⟨A, hA⟩ : ∃ A, A = (PL.take j).sum := ⟨_, rfl⟩
      rw [← hA] at u1 hsum
      have HS := hide hsum
      have hA1 : (A : Int) + (n : Int) ≤ 10000000 := by omega
      have hj0 : (0 : Int) ≤ (j : Int) := by omega
      have hj1 : (j : Int) < (PL.length : Int) := by omega
      have hgw : gp ≠ w.heap.size + 1 := by omega
      have hkw : kb ≠ w.heap.size + 1 := by omega
      have N1 := hide (show Holds (wr.setCell ⟨w.heap.size + 1, 1, none⟩ (.int .i64 ((A : Int) + (n : Int)))) (w.heap.size + 1) 59 (limRow PL.length ((PL.take (j + 1)).sum : Nat) on k.inos.length 0) from by
        have h := (unhide HU).set 1 (.int .i64 ((A : Int) + (n : Int)))
        rw [hsum, Int.natCast_add]; exact h)
      have N2 := hide ((unhide HR).set_other (c := w.heap.size + 1) (by omega) 1 (.int .i64 ((A : Int) + (n : Int))))
      have N3 := hide ((unhide HB).setCell (p := ⟨w.heap.size + 1, 1, none⟩) (Nat.le_succ _) (.int .i64 ((A : Int) + (n : Int))))
      clear hcell hnj hc hsum hle hA c5 c6 c7
      go_wp2
      go_region
      go_wp2
      go_roundw
      case rel => exact ⟨j + 1, by omega, by go_num, hide ((unhide N1).heap rfl), hide ((unhide N2).heap rfl), hide ⟨(unhide N3).os, (unhide N3).tape, (unhide N3).output, (unhide N3).size, (unhide N3).block⟩⟩
      case measure => simp [intOf]; omega
    · have hje : j = PL.length := by omega
      subst hje
      rw [List.take_length] at HU
      go_wp2
      go_loopw [5] (fun i wr => ∃ j : Nat, j ≤ k.inos.length ∧ i = .int .i64 j ∧ Hid (Holds wr (w.heap.size + 1) 59 (limRow PL.length PL.sum on k.inos.length (BL.take j).sum)) ∧ Hid (Holds wr w.heap.size 59 (limRow 0 0 0 0 0)) ∧ Hid (Below w.heap.size w wr)) (fun i _ => k.inos.length - (intOf i).toNat)
      case atStart => exact ⟨0, by omega, rfl, HU, HR, HB⟩
      case round =>
        obtain ⟨j, hj, rfl, HU, HR, HB⟩ := hrel
        have hcell : ∀ b o, b < w.heap.size → wr.cell? ⟨b, o, none⟩ = w.cell? ⟨b, o, none⟩ := fun b o hb => (unhide HB).cell (p := ⟨b, o, none⟩) hb
        have d7 : wr.cell? ⟨kb, 7, none⟩ = some (.slice (some ⟨g, 0, none⟩) k.inos.length cap) := by rw [hcell _ _ hkl]; exact c7
        clear d5
        by_cases hlt : j < k.inos.length
        · obtain ⟨x, hx⟩ : ∃ x, k.inos[j]? = some x := ⟨_, List.getElem?_eq_getElem hlt⟩
          obtain ⟨n, hnj⟩ : ∃ n, BL[j]? = some n := ⟨_, List.getElem?_eq_getElem (by rw [(unhide HBL).1]; exact hlt)⟩
          obtain ⟨b, d, hb⟩ := (unhide HBL).2 j x n hx hnj
          have d4 : wr.cell? ⟨g, j * 5 + 4, none⟩ = some (.slice b n d) := by
            rw [hcell _ _ hgb.2, (unhide H).at.cell hx (i := 4) (by omega) rfl, hb]
          have u1 : wr.cell? ⟨w.heap.size + 1, 4, none⟩ = some (.int .i64 ((BL.take j).sum : Nat)) := (unhide HU).cell rfl
          have uf := (unhide HU).frozen 4
          have hsum := sum_take_succ hnj
          have hle := sum_take_le BL (j + 1)
          obtain ⟨A, hA⟩ : ∃ A, A = (BL.take j).sum := ⟨_, rfl⟩
          rw [← hA] at u1 hsum
          have HS := hide hsum
          have hA1 : (A : Int) + (n : Int) ≤ 10000000 := by omega
          have hj0 : (0 : Int) ≤ (j : Int) := by omega
          have hj1 : (j : Int) < (k.inos.length : Int) := by omega
          have hgw : g ≠ w.heap.size + 1 := by omega
          have hkw : kb ≠ w.heap.size + 1 := by omega
          have N1 := hide (show Holds (wr.setCell ⟨w.heap.size + 1, 4, none⟩ (.int .i64 ((A : Int) + (n : Int)))) (w.heap.size + 1) 59 (limRow PL.length PL.sum on k.inos.length ((BL.take (j + 1)).sum : Nat)) from by
            have h := (unhide HU).set 4 (.int .i64 ((A : Int) + (n : Int)))
            rw [hsum, Int.natCast_add]; exact h)
          have N2 := hide ((unhide HR).set_other (c := w.heap.size + 1) (by omega) 4 (.int .i64 ((A : Int) + (n : Int))))
          have N3 := hide ((unhide HB).setCell (p := ⟨w.heap.size + 1, 4, none⟩) (Nat.le_succ _) (.int .i64 ((A : Int) + (n : Int))))
          clear hcell hnj hx hb hsum hle hA c5 c6 c7
          go_wp2
          go_region
          go_wp2
          go_roundw
          case rel => exact ⟨j + 1, by omega, by go_num, hide ((unhide N1).heap rfl), hide ((unhide N2).heap rfl), hide ⟨(unhide N3).os, (unhide N3).tape, (unhide N3).output, (unhide N3).size, (unhide N3).block⟩⟩
          case measure => simp [intOf]; omega
        · have hje : j = k.inos.length := by omega
          have htk : BL.take j = BL := List.take_of_length_le (by rw [(unhide HBL).1]; omega)
          rw [htk] at HU
          have l0 := (unhide HU).cell (j := 0) rfl
          have l1 := (unhide HU).cell (j := 1) rfl
          have l2 := (unhide HU).cell (j := 2) rfl
          have l3 := (unhide HU).cell (j := 3) rfl
          have l4 := (unhide HU).cell (j := 4) rfl
          have r0 := (unhide HR).cell (j := 0) rfl
          have r1 := (unhide HR).cell (j := 1) rfl
          have r2 := (unhide HR).cell (j := 2) rfl
          have r3 := (unhide HR).cell (j := 3) rfl
          have r4 := (unhide HR).cell (j := 4) rfl
          have f0 := (unhide HR).frozen 0
          have f1 := (unhide HR).frozen 1
          have f2 := (unhide HR).frozen 2
          have f3 := (unhide HR).frozen 3
          have f4 := (unhide HR).frozen 4
          have u5 := (((((unhide HR).set 0 (.int .i64 PL.length)).set 1 (.int .i64 (PL.sum : Nat))).set 2 (.int .i64 on)).set 3 (.int .i64 k.inos.length)).set 4 (.int .i64 (BL.sum : Nat))
          have v0 := u5.cell (j := 0) rfl
          have v1 := u5.cell (j := 1) rfl
          have v2 := u5.cell (j := 2) rfl
          have v3 := u5.cell (j := 3) rfl
          have v4 := u5.cell (j := 4) rfl
          have N3 := hide ((((((unhide HB).setCell (p := ⟨w.heap.size, 0, none⟩) (Nat.le_refl _) (.int .i64 PL.length)).setCell (p := ⟨w.heap.size, 1, none⟩) (Nat.le_refl _) (.int .i64 (PL.sum : Nat))).setCell (p := ⟨w.heap.size, 2, none⟩) (Nat.le_refl _) (.int .i64 on)).setCell (p := ⟨w.heap.size, 3, none⟩) (Nat.le_refl _) (.int .i64 k.inos.length)).setCell (p := ⟨w.heap.size, 4, none⟩) (Nat.le_refl _) (.int .i64 (BL.sum : Nat)))
          clear hcell u5 htk hje
          go_wp2
          exact bodyPost_ret (v := .agg (limRow PL.length PL.sum on k.inos.length BL.sum).toArray) (by simp [results, Tryz.results24, go_sem, v0, v1, v2, v3, v4, limRow]) rfl ⟨rfl, unhide N3⟩
end Go.Proofs.YtkmbleboceedbaaGreatDoor
