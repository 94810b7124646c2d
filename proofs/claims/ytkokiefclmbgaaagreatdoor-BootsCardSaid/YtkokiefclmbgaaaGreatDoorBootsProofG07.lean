import Derived.Test.YtkokiefclmbgaaaGreatDoorBootsProofG06
import Derived.Deep.QuietTactic
import Derived.BigQuiet
/- tinyosref: walk. -/
namespace Go.Proofs.YtkokiefclmbgaaaGreatDoor
open Go.RowKit
set_option linter.unusedVariables false
set_option linter.unusedSimpArgs false

/-- Is the inode of this number a directory? -/
def dirOf (xs : List Ino) (n : Int) : Bool := match xs.find? (fun x => x.id == n) with | some x => x.dir | none => false
structure Walked where
  dir : Int
  name : ByteArray
  n : Int
  e : Int
def walkErr (e : Int) : Walked := ⟨0, ByteArray.empty, 0, e⟩
/-- Names followed from a directory on. -/
def follow (xs : List Ino) : Int → List ByteArray → Walked
  | _, [] => walkErr 0
  | dir, [name] => ⟨dir, name, childOf xs dir name, 0⟩
  | dir, name :: b :: r => if childOf xs dir name = 0 then walkErr 9 else if dirOf xs (childOf xs dir name) = true then follow xs (childOf xs dir name) (b :: r) else walkErr 11
def walkOf (xs : List Ino) (s : ByteArray) : Walked := match namesOf s with
  | none => walkErr 8
  | some [] => ⟨0, ByteArray.empty, 1, 0⟩
  | some (a :: r) => follow xs 1 (a :: r)
def walkRet (r : Walked) : Ending := .returned (.tuple #[.int .i64 r.dir, .string r.name, .int .i64 r.n, .int .i64 r.e])

theorem place_of_mem {xs : List Ino} {n : Int} {x : Ino} (h : xs.find? (fun x => x.id == n) = some x) : ∃ k : Nat, placeOf xs n = k ∧ xs[k]? = some x := by
  obtain ⟨he, k, hk, hx, hlt⟩ := List.find?_eq_some_iff_getElem.1 h
  refine ⟨k, place_some (x := x) (by rw [List.getElem?_eq_getElem hk, hx]) he (fun j y hj hy => ?_), by rw [List.getElem?_eq_getElem hk, hx]⟩
  have h1 := hlt j hj
  have hj2 : j < xs.length := by omega
  rw [List.getElem?_eq_getElem hj2] at hy
  rw [← Option.some.inj hy]
  simpa using h1
theorem child_mem {xs : List Ino} {dir : Int} {name : ByteArray} (h : childOf xs dir name ≠ 0) : ∃ x, xs.find? (fun x => x.id == childOf xs dir name) = some x := by
  have : ∃ y ∈ xs, y.id = childOf xs dir name := by
    unfold childOf at h ⊢
    cases hf : xs.find? (isChild dir name) with
    | none => rw [hf] at h; exact absurd rfl h
    | some y => exact ⟨y, List.mem_of_find?_eq_some hf, rfl⟩
  obtain ⟨y, hy, he⟩ := this
  cases hf : xs.find? (fun x => x.id == childOf xs dir name) with
  | some x => exact ⟨x, rfl⟩
  | none =>
    have := List.find?_eq_none.1 hf y hy
    simp [he] at this
theorem InosAt.below {w w' : World} {kb g cap : Nat} {xs : List Ino} (h : InosAt w kb g cap xs) (hb : Below w.heap.size w w') (h1 : kb < w.heap.size) (h2 : g < w.heap.size) : InosAt w' kb g cap xs :=
  ⟨by rw [hb.cell (p := ⟨kb, 7, none⟩) h1]; exact h.1, fun j v hj => by rw [hb.cell (p := ⟨g, 0 + j, none⟩) h2]; exact h.2 j v hj⟩
theorem InosAt.heap {w w' : World} {kb g cap : Nat} {xs : List Ino} (h : InosAt w kb g cap xs) (hh : w'.heap = w.heap) : InosAt w' kb g cap xs := by
  have hc : ∀ a, w'.cell? a = w.cell? a := fun a => by unfold World.cell?; rw [hh]
  exact ⟨by rw [hc]; exact h.1, fun j v hj => by rw [hc]; exact h.2 j v hj⟩
theorem drop_two {α : Type} {l : List α} {k : Nat} (h : k + 1 < l.length) : ∃ a b r, l[k]? = some a ∧ l.drop k = a :: b :: r ∧ l.drop (k + 1) = b :: r := by
  refine ⟨l[k], l[k + 1], l.drop (k + 2), List.getElem?_eq_getElem (by omega), ?_, ?_⟩
  · rw [List.drop_eq_getElem_cons (by omega), List.drop_eq_getElem_cons h]
  · rw [List.drop_eq_getElem_cons h]
theorem parts_len (l : List UInt8) : ∀ word, (parts l word).length ≤ l.length + 1 := by
  induction l with
  | nil => intro word; simp [parts]
  | cons c r ih =>
    intro word
    unfold parts
    split
    · have := ih []; simp; omega
    · have := ih (word ++ [c]); simp; omega
theorem names_len {s : ByteArray} {l : List ByteArray} (h : namesOf s = some l) : l.length ≤ 100 := by
  unfold namesOf at h
  split at h
  · cases h
  rename_i hc
  split at h
  · obtain rfl := Option.some.inj h; simp
  split at h
  · obtain rfl := Option.some.inj h
    have h1 : s.size ≤ 60 := by
      apply Classical.byContradiction
      intro hx
      exact hc (.inl (by omega))
    have h2 := parts_len (s.data.toList.drop 1) []
    have h3 : (s.data.toList.drop 1).length ≤ s.size := by simp
    rw [pathParts, List.length_map]; omega
  · cases h
theorem strsRow_get {l : List ByteArray} {k : Nat} {a : ByteArray} (h : l[k]? = some a) : (strsRow l)[k]? = some (.string a) := by simp [strsRow, h]

set_option maxRecDepth 100000 in
set_option maxHeartbeats 2000000 in
theorem refWalk_any (kb g cap : Nat) (xs : List Ino) (s : ByteArray) (w : World) (h : InosAt w kb g cap xs) (h1 : kb < w.heap.size) (h2 : g < w.heap.size) (hn : xs.length ≤ 1000000) (hs : s.size ≤ maxLen) :
    Calls Tryz.prog 47 #[.pointer (some ⟨kb, 0, none⟩), .string s] w fun e w' => e = walkRet (walkOf xs s) ∧ Below w.heap.size w w' := by
  have H := hide h
  have HN := hide (refNames_any s w hs)
  clear h hs
  go_enter Tryz.func47, Tryz.ntmps47
  go_wp2_with fail
  refine (unhide HN).mono ?_
  rintro e w1 ⟨(⟨hno, rfl⟩ | ⟨l, hl, v, rfl, how⟩), hb1⟩
  · have HR := hide (show walkOf xs s = walkErr 8 by unfold walkOf; rw [hno])
    have HB1 := hide hb1
    clear hno hb1
    go_wp2
    exact bodyPost_ret (v := .tuple #[.int .i64 0, .string ByteArray.empty, .int .i64 0, .int .i64 8]) (by simp [results, Tryz.results47, go_sem]; rfl) rfl ⟨by rw [unhide HR]; rfl, unhide HB1⟩
  have HB1 := hide hb1
  have HI1 := hide ((unhide H).below hb1 h1 h2)
  have hs1 := hb1.size
  clear hb1
  cases l with
  | nil =>
    have HR := hide (show walkOf xs s = ⟨0, ByteArray.empty, 1, 0⟩ by unfold walkOf; rw [hl])
    have hv : ∃ a c, v = .slice a 0 c := by
      rcases how.2 with ⟨hv, _⟩ | ⟨gg, cc, cur, hv, _⟩
      · exact ⟨none, 0, hv⟩
      · exact ⟨_, _, hv⟩
    obtain ⟨a, c, rfl⟩ := hv
    clear hl how
    go_wp2
    exact bodyPost_ret (v := .tuple #[.int .i64 0, .string ByteArray.empty, .int .i64 1, .int .i64 0]) (by simp [results, Tryz.results47, go_sem]; rfl) rfl ⟨by rw [unhide HR]; rfl, unhide HB1⟩
  | cons a0 r0 =>
    have hr : walkOf xs s = follow xs 1 (a0 :: r0) := by unfold walkOf; rw [hl]
    obtain ⟨l, hlL⟩ : ∃ l, l = a0 :: r0 := ⟨_, rfl⟩
    rw [← hlL] at how hr hl
    have hlen : 1 ≤ l.length := by rw [hlL]; simp
    have hl60 : l.length ≤ 100 := names_len hl
    obtain ⟨gl, cl, rfl, hgl, hgs⟩ := how.form (by omega)
    have HR := hide hr
    have HOW := hide how
    have hq0 : ((l.length : Int) == 0) = false := by rw [beq_eq_false_iff_ne]; omega
    clear hl how hlL hr
    go_wp2
    go_loopw [10, 11] (fun dv i wr => ∃ k : Nat, ∃ D : Int, k + 1 ≤ l.length ∧ i = .int .i64 k ∧ dv = .int .i64 D ∧ Hid (walkOf xs s = follow xs D (l.drop k)) ∧ Hid (wr.heap = w1.heap) ∧ Hid (Below w.heap.size w wr)) (fun _ i _ => l.length - (intOf i).toNat)
    case atStart => exact ⟨0, 1, by omega, rfl, rfl, HR, hide rfl, HB1⟩
    case round =>
      obtain ⟨k, D, hk, rfl, rfl, HF, HHE, HBL⟩ := hrel
      have hcells : ∀ a, wr.cell? a = w1.cell? a := fun a => by unfold World.cell?; rw [unhide HHE]
      have HIr := hide ((unhide HI1).heap (unhide HHE))
      by_cases hlt : k + 1 < l.length
      · obtain ⟨a, b, r, ha, hd1, hd2⟩ := drop_two hlt
        have c0 : wr.cell? ⟨gl, k, none⟩ = some (.string a) := by
          rw [hcells, (unhide HOW).cellAt _ (by omega)]; exact strsRow_get ha
        have hf := unhide HF
        rw [hd1] at hf
        unfold follow at hf
        have HF1 := hide hf
        have HD2 := hide hd2
        have HCH := hide (fun w' (hh : w'.heap = w1.heap) => refChild_any kb g cap xs D a w' ((unhide HI1).heap hh) hn)
        obtain ⟨n, hnn⟩ : ∃ n, n = childOf xs D a := ⟨_, rfl⟩
        rw [← hnn] at HF1 HCH
        have hk0 : (0 : Int) ≤ (k : Int) := by omega
        have hk1 : (k : Int) < (l.length : Int) := by omega
        have hk2 : (k : Int) < (l.length : Int) - 1 := by omega
        have HNN := hide hnn
        clear hcells ha hd1 hd2 hf hnn
        go_wp2_with fail
        refine (unhide HCH wr (unhide HHE)).mono ?_
        rintro e w2 ⟨rfl, hw2⟩
        subst hw2
        by_cases hz : n = 0
        · have g1 : (n == 0) = true := by simpa using hz
          have HR2 := hide (show walkOf xs s = walkErr 9 by rw [unhide HF1, if_pos hz])
          clear hz
          go_wp2
          exact bodyPost_ret (v := .tuple #[.int .i64 0, .string ByteArray.empty, .int .i64 0, .int .i64 9]) (by simp [results, Tryz.results47, go_sem]; try rfl) rfl ⟨by rw [unhide HR2]; rfl, unhide HBL⟩
        · have g1 : (n == 0) = false := by simpa using hz
          obtain ⟨x, hx⟩ := child_mem (xs := xs) (dir := D) (name := a) (by rw [← unhide HNN]; exact hz)
          rw [← unhide HNN] at hx
          obtain ⟨K, hK, hKx⟩ := place_of_mem hx
          have hKl := (List.getElem?_eq_some_iff.1 hKx).1
          have HIN := hide (refInode_any kb g cap xs n w2 (unhide HIr) hn)
          rw [hK] at HIN
          have hdf : dirOf xs n = x.dir := by unfold dirOf; rw [hx]
          have c3 : w2.cell? ⟨g, K * 5 + 3, none⟩ = some (.bool x.dir) := (unhide HIr).cell hKx (i := 3) (by omega) rfl
          have c7 := (unhide HIr).1
          have hf1 := unhide HF1
          rw [if_neg hz, hdf] at hf1
          have HF2 := hide hf1
          have hK0 : (0 : Int) ≤ (K : Int) := by omega
          have hK1 : (K : Int) < (xs.length : Int) := by omega
          generalize x.dir = DD at c3 HF2
          clear hz hx hK hKx hdf hf1
          go_wp2_with fail
          refine (unhide HIN).mono ?_
          rintro e w3 ⟨rfl, hw3⟩
          subst hw3
          cases DD
          · have HR2 := hide (show walkOf xs s = walkErr 11 by rw [unhide HF2]; rfl)
            go_wp2
            exact bodyPost_ret (v := .tuple #[.int .i64 0, .string ByteArray.empty, .int .i64 0, .int .i64 11]) (by simp [results, Tryz.results47, go_sem]; try rfl) rfl ⟨by rw [unhide HR2]; rfl, unhide HBL⟩
          · have HR2 := hide (show walkOf xs s = follow xs n (l.drop (k + 1)) by rw [unhide HF2, unhide HD2]; rfl)
            go_wp2
            go_roundw
            case rel => exact ⟨k + 1, n, by omega, by go_num, rfl, HR2, HHE, HBL⟩
            case measure => simp [intOf]; omega
      · have hke : k + 1 = l.length := by omega
        obtain ⟨a, ha⟩ : ∃ a, l[k]? = some a := ⟨_, List.getElem?_eq_getElem (by omega)⟩
        have hdr : l.drop k = [a] := by
          have hkl : k < l.length := by omega
          rw [List.drop_eq_getElem_cons hkl, List.drop_eq_nil_of_le (by omega)]
          rw [List.getElem?_eq_getElem hkl] at ha
          rw [Option.some.inj ha]
        have c0 : wr.cell? ⟨gl, k, none⟩ = some (.string a) := by
          rw [hcells, (unhide HOW).cellAt _ (by omega)]; exact strsRow_get ha
        have hf := unhide HF
        rw [hdr] at hf
        have HR2 := hide (show walkOf xs s = ⟨D, a, childOf xs D a, 0⟩ from hf)
        have HCH := hide (refChild_any kb g cap xs D a wr (unhide HIr) hn)
        have e1 : (l.length : Int) - 1 = (k : Int) := by omega
        have hk0 : (0 : Int) ≤ (k : Int) := by omega
        have hk1 : (k : Int) < (l.length : Int) := by omega
        generalize childOf xs D a = n at HR2 HCH
        clear hcells ha hdr hf hlt
        go_wp2_with fail
        refine (unhide HCH).mono ?_
        rintro e w2 ⟨rfl, hw2⟩
        subst hw2
        go_wp2
        exact bodyPost_ret (v := .tuple #[.int .i64 D, .string a, .int .i64 n, .int .i64 0]) (by simp [results, Tryz.results47, go_sem]; try rfl) rfl ⟨by rw [unhide HR2]; rfl, unhide HBL⟩
end Go.Proofs.YtkokiefclmbgaaaGreatDoor

/- tinyosref: the kernel in memory; fresh, make, mkdir. -/
namespace Go.Proofs.YtkokiefclmbgaaaGreatDoor
open Go.RowKit
set_option linter.unusedVariables false
set_option linter.unusedSimpArgs false

/-- The document's kernel: limits, inodes, the last number; the other fields as they lie. -/
structure RK where
  lp : Int
  lf : Int
  lo : Int
  li : Int
  lb : Int
  pv : Value
  ov : Value
  cv : Value
  tv : Value
  uv : Value
  mv : Value
  inos : List Ino
  last : Int
def RK.cells (k : RK) (v : Value) : List Value := [.int .i64 k.lp, .int .i64 k.lf, .int .i64 k.lo, .int .i64 k.li, .int .i64 k.lb, k.pv, k.ov, v, k.cv, k.tv, k.uv, k.mv, .int .i64 k.last]
def RepK (w : World) (base kb g cap : Nat) (k : RK) : Prop :=
  Holds w kb 71 (k.cells (.slice (some ⟨g, 0, none⟩) k.inos.length cap)) ∧ w.ownsRow base 90 5 (.slice (some ⟨g, 0, none⟩) k.inos.length cap) k.inos.length (inoRow k.inos)
theorem inoRow_length (xs : List Ino) : (inoRow xs).length = xs.length * 5 := by
  unfold inoRow
  induction xs with
  | nil => rfl
  | cons x r ih => rw [List.flatMap_cons, List.length_append, ih]; simp [inoCells]; omega
theorem RepK.at {w : World} {base kb g cap : Nat} {k : RK} (h : RepK w base kb g cap k) : InosAt w kb g cap k.inos :=
  ⟨h.1.cell rfl, fun j v hj => by
    have hl := (List.getElem?_eq_some_iff.1 hj).1
    rw [inoRow_length] at hl
    rw [Nat.zero_add, h.2.cellAt j hl]; exact hj⟩
/-- All but two blocks are as they were. -/
structure FrameK (w w' : World) (a b : Nat) : Prop where
  os : w'.os = w.os
  tape : w'.tape = w.tape
  output : w'.output = w.output
  size : w.heap.size ≤ w'.heap.size
  block : ∀ k, k < w.heap.size → k ≠ a → k ≠ b → w'.heap[k]? = w.heap[k]?
theorem FrameK.refl (w : World) (a b : Nat) : FrameK w w a b := ⟨rfl, rfl, rfl, Nat.le_refl _, fun _ _ _ _ => rfl⟩
theorem FrameK.ofBelow {w w' : World} {a b : Nat} (h : Below w.heap.size w w') : FrameK w w' a b := ⟨h.os, h.tape, h.output, h.size, fun k hk _ _ => h.block k hk⟩
theorem FrameK.below {w w' : World} {a b B : Nat} (h : FrameK w w' a b) (ha : B ≤ a) (hb : B ≤ b) (hB : B ≤ w.heap.size) : Below B w w' := ⟨h.os, h.tape, h.output, h.size, fun k hk => h.block k (by omega) (by omega) (by omega)⟩
theorem FrameK.grownL {w w' w'' : World} {a b : Nat} (h : FrameK w w' a b) (hg : w'.grownBy w'' (some a)) : FrameK w w'' a b :=
  ⟨hg.os.trans h.os, hg.tape.trans h.tape, hg.output.trans h.output, Nat.le_trans h.size hg.size, fun k hk h1 h2 => (hg.block k (by have := h.size; omega) (by simpa using h1)).trans (h.block k hk h1 h2)⟩
theorem FrameK.grownR {w w' w'' : World} {a b : Nat} (h : FrameK w w' a b) (hg : w'.grownBy w'' (some b)) : FrameK w w'' a b :=
  ⟨hg.os.trans h.os, hg.tape.trans h.tape, hg.output.trans h.output, Nat.le_trans h.size hg.size, fun k hk h1 h2 => (hg.block k (by have := h.size; omega) (by simpa using h2)).trans (h.block k hk h1 h2)⟩
theorem FrameK.step {w w' w'' : World} {a b : Nat} (h : FrameK w w' a b) (hb : Below w'.heap.size w' w'') : FrameK w w'' a b :=
  ⟨hb.os.trans h.os, hb.tape.trans h.tape, hb.output.trans h.output, Nat.le_trans h.size hb.size, fun k hk h1 h2 => (hb.block k (by have := h.size; omega)).trans (h.block k hk h1 h2)⟩
theorem FrameK.trans {w w' w'' : World} {a b b' : Nat} (h : FrameK w w' a b) (k : FrameK w' w'' a b') (hb : b' = b ∨ w.heap.size ≤ b') : FrameK w w'' a b :=
  ⟨k.os.trans h.os, k.tape.trans h.tape, k.output.trans h.output, Nat.le_trans h.size k.size, fun i hi h1 h2 => (k.block i (by have := h.size; omega) h1 (by rcases hb with rfl | hb; exact h2; omega)).trans (h.block i hi h1 h2)⟩

theorem addr_add' (b o j : Nat) : (⟨b, o, none⟩ : Addr).add j = ⟨b, o + j, none⟩ := by unfold Addr.add; split <;> simp_all

set_option maxHeartbeats 1000000 in
theorem refFresh_any (base kb : Nat) (k : RK) (v : Value) (w : World) (h : Holds w kb 71 (k.cells v)) (h0 : 0 ≤ k.last) (h1 : k.last ≤ 1000000) :
    Calls Tryz.prog 28 #[.pointer (some ⟨kb, 0, none⟩)] w fun e w' => e = .returned (.int .i64 (k.last + 1)) ∧ Holds w' kb 71 ({k with last := k.last + 1}.cells v) ∧ w.grownBy w' (some kb) := by
  have c : w.cell? ⟨kb, 12, none⟩ = some (.int .i64 k.last) := h.cell rfl
  have f := h.frozen 12
  have H2 := hide (show Holds (w.setCell ⟨kb, 12, none⟩ (.int .i64 (k.last + 1))) kb 71 ({k with last := k.last + 1}.cells v) from h.set 12 _)
  have H3 := hide (grown_set (World.grownBy.refl w (some kb)) 12 (.int .i64 (k.last + 1)))
  generalize k.last = L at *
  clear h
  go_enter Tryz.func28, Tryz.ntmps28
  go_wp2
  go_ret
  exact ⟨rfl, unhide H2, unhide H3⟩

theorem inoInfo : (Tryz.prog.info? 90).map (fun i => (i.zero, i.size, i.bytes)) = some (some (.agg #[.int .i64 0, .int .i64 0, .string ByteArray.empty, .bool false, .slice none 0 0]), 5, 64) := by kernel_rfl
def newIno (id dir : Int) (name : ByteArray) (is : Bool) : Ino := ⟨id, dir, name, is, .slice none 0 0⟩
def RK.add (k : RK) (dir : Int) (name : ByteArray) (is : Bool) : RK := {k with inos := k.inos ++ [newIno (k.last + 1) dir name is], last := k.last + 1}

set_option maxRecDepth 100000 in
set_option maxHeartbeats 2000000 in
theorem refMake_any (base kb g cap : Nat) (k : RK) (dir : Int) (name : ByteArray) (is : Bool) (w : World) (h : RepK w base kb g cap k) (hkb : kb < base) (hbs : base ≤ w.heap.size) (hn : k.inos.length ≤ 100000) (h0 : 0 ≤ k.last) (h1 : k.last ≤ 1000000) :
    Calls Tryz.prog 48 #[.pointer (some ⟨kb, 0, none⟩), .int .i64 dir, .string name, .bool is] w fun e w' => e = .returned (.int .i64 (k.last + 1)) ∧ ∃ g' cap', RepK w' base kb g' cap' (k.add dir name is) ∧ FrameK w w' kb g ∧ (g' = g ∨ w.heap.size ≤ g') := by
  have HF := hide (refFresh_any base kb k _ w h.1 h0 h1)
  have H := hide h
  have hgb := h.2.lt g rfl
  obtain ⟨ii, hii, hz0, hz1, hz2⟩ := info_of inoInfo
  have HII := hide (And.intro hii (And.intro hz0 (And.intro hz1 hz2)))
  clear h hii hz0 hz1 hz2
  go_enter Tryz.func48, Tryz.ntmps48
  go_wp2_with fail
  refine (unhide HF).mono ?_
  rintro e w1 ⟨rfl, hk1, hg1⟩
  have hs1 := hg1.size
  have how1 := (unhide H).2.kept hg1 (.inr (by show some g ≠ some kb; simp; omega))
  have c7 : w1.cell? ⟨kb, 7, none⟩ = some (.slice (some ⟨g, 0, none⟩) k.inos.length cap) := hk1.cell rfl
  have f7 := hk1.frozen 7
  have hkl := hk1.lt
  have HK1 := hide hk1
  have HG1 := hide hg1
  have HOW1 := hide how1
  obtain ⟨L, hL⟩ : ∃ L, L = k.last + 1 := ⟨_, rfl⟩
  rw [← hL]
  have HL := hide hL
  obtain ⟨n, hnn⟩ : ∃ n, n = k.inos.length := ⟨_, rfl⟩
  rw [← hnn] at c7 hn HOW1
  have HNN := hide hnn
  obtain ⟨o, ho⟩ : ∃ o, o = Obj.cells #[.int .i64 L, .int .i64 dir, .string name, .bool is, .slice none 0 0] 90 := ⟨_, rfl⟩
  have HO := hide ho
  have HNW := hide (show ∀ j u, (inoCells (newIno L dir name is))[j]? = some u → (w1.alloc o).cell? ((⟨w1.heap.size, 0, none⟩ : Addr).add j) = some u from by
    rw [ho]
    intro j u hj
    rw [addr_add', Nat.zero_add]
    exact (Holds.new w1 90 (inoCells (newIno L dir name is))).cell hj)
  clear hk1 hg1 how1 hL hnn ho HF
  go_wp2_with (at_builtin; refine wpList_append_lies _ (by rfl) _ _ 67 (by rfl) base 90 ii _ 5 64 Tryz.underlying67 (unhide HII).1 (unhide HII).2.1 (unhide HII).2.2.1 (unhide HII).2.2.2 rfl (by decide) _ _ _ (by rfl) ((unhide HOW1).alloc _) ⟨w1.heap.size, 0, none⟩ 1 1 (inoCells (newIno L dir name is)) (by rfl) (by rfl) (by have h := unhide HNW; rw [unhide HO] at h; exact h) (by intro u hu; simp only [inoCells, newIno, List.mem_cons, List.not_mem_nil, or_false] at hu; rcases hu with rfl | rfl | rfl | rfl | rfl <;> rfl) (by omega) (by unfold maxLen; omega) (by omega) (by simp; omega) (w1.heap.size + 1) (by simp) ?_; intro g5 cap5 w5 hown5 hgrow5 hat5 hlt5; have k5 := ((unhide HK1).alloc (Obj.cells #[.int .i64 L, .int .i64 dir, .string name, .bool is, .slice none 0 0] 90)).grown hgrow5 (by show some kb ≠ some g; simp; omega); have x7 := k5.cell (j := 7) rfl; have y7 := k5.frozen 7; have K5 := hide k5; clear k5)
  have hkg : kb ≠ g := by omega
  have hg5 : g5 = g ∨ g5 = w1.heap.size + 1 := by
    rcases hat5 with h | h
    · left; simpa [Value.ownBlock] using h.symm
    · exact .inr h
  have hkg5 : g5 ≠ kb := by omega
  have r1 : Holds (w5.setCell ⟨kb, 7, none⟩ (.slice (some ⟨g5, 0, none⟩) (n + 1) cap5)) kb 71 ((k.add dir name is).cells (.slice (some ⟨g5, 0, none⟩) (k.add dir name is).inos.length cap5)) := by
    have h := (unhide K5).set 7 (.slice (some ⟨g5, 0, none⟩) (n + 1) cap5)
    have e : (k.add dir name is).inos.length = n + 1 := by rw [RK.add, unhide HNN]; simp
    rw [e]; exact h
  have r2 : (w5.setCell ⟨kb, 7, none⟩ (.slice (some ⟨g5, 0, none⟩) (n + 1) cap5)).ownsRow base 90 5 (.slice (some ⟨g5, 0, none⟩) (k.add dir name is).inos.length cap5) (k.add dir name is).inos.length (inoRow (k.add dir name is).inos) := by
    have e : (k.add dir name is).inos.length = n + 1 := by rw [RK.add, unhide HNN]; simp
    have e2 : inoRow (k.add dir name is).inos = inoRow k.inos ++ inoCells (newIno L dir name is) := by rw [RK.add, unhide HL, inoRow, inoRow, List.flatMap_append]; simp
    rw [e, e2]
    exact hown5.kept (grown_set (w := w5) (wr := w5) (b := kb) ⟨rfl, rfl, rfl, Nat.le_refl _, fun _ _ _ => rfl⟩ 7 _) (.inr (by show some g5 ≠ some kb; simpa using hkg5))
  have r3 : FrameK w (w5.setCell ⟨kb, 7, none⟩ (.slice (some ⟨g5, 0, none⟩) (n + 1) cap5)) kb g :=
    ((((FrameK.refl w kb g).grownL (unhide HG1)).step ((Below.refl _ _).alloc (Nat.le_refl _) _)).grownR hgrow5).grownL (grown_set (w := w5) (wr := w5) (b := kb) ⟨rfl, rfl, rfl, Nat.le_refl _, fun _ _ _ => rfl⟩ 7 _)
  go_ret
  exact ⟨by rw [← unhide HL]; rfl, g5, cap5, ⟨r1, r2⟩, r3, by omega⟩

/-- Mkdir: the error, and the kernel behind it. -/
def mkdirOf (k : RK) (s : ByteArray) : Int × RK :=
  if (walkOf k.inos s).e ≠ 0 then ((walkOf k.inos s).e, k) else if (walkOf k.inos s).n ≠ 0 then (10, k) else if k.li ≤ (k.inos.length : Int) then (12, k) else (0, k.add (walkOf k.inos s).dir (walkOf k.inos s).name true)
theorem RepK.below {w w' : World} {base kb g cap : Nat} {k : RK} (h : RepK w base kb g cap k) (hb : Below w.heap.size w w') : RepK w' base kb g cap k :=
  ⟨h.1.below hb h.1.lt, h.2.kept (row := none) ⟨hb.os, hb.tape, hb.output, hb.size, fun q hq _ => hb.block q hq⟩ (.inr (by show some g ≠ none; simp))⟩
theorem RepK.heap {w w' : World} {base kb g cap : Nat} {k : RK} (h : RepK w base kb g cap k) (hh : w'.heap = w.heap) : RepK w' base kb g cap k :=
  ⟨h.1.heap hh, by have h2 := h.2; unfold World.ownsRow at h2 ⊢; rw [hh]; exact h2⟩

set_option maxRecDepth 100000 in
set_option maxHeartbeats 2000000 in
theorem refMkdir_any (base kb g cap : Nat) (k : RK) (s : ByteArray) (w : World) (h : RepK w base kb g cap k) (hkb : kb < base) (hbs : base ≤ w.heap.size) (hn : k.inos.length ≤ 100000) (h0 : 0 ≤ k.last) (h1 : k.last ≤ 1000000) (hs : s.size ≤ maxLen) :
    Calls Tryz.prog 46 #[.pointer (some ⟨kb, 0, none⟩), .string s] w fun e w' => e = .returned (.int .i64 (mkdirOf k s).1) ∧ ∃ g' cap', RepK w' base kb g' cap' (mkdirOf k s).2 ∧ FrameK w w' kb g ∧ (g' = g ∨ w.heap.size ≤ g') := by
  have hgb := h.2.lt g rfl
  have hkl := h.1.lt
  have HW := hide (refWalk_any kb g cap k.inos s w h.at hkl hgb.2 (by omega) hs)
  have H := hide h
  obtain ⟨r, hr⟩ : ∃ r, r = walkOf k.inos s := ⟨_, rfl⟩
  rw [← hr] at HW
  have hm : mkdirOf k s = if r.e ≠ 0 then (r.e, k) else if r.n ≠ 0 then (10, k) else if k.li ≤ (k.inos.length : Int) then (12, k) else (0, k.add r.dir r.name true) := by rw [mkdirOf, hr]
  have HM := hide hm
  clear h hs hr hm
  obtain ⟨dir, name, n, e⟩ := r
  simp only at HM
  unfold walkRet at HW
  go_enter Tryz.func46, Tryz.ntmps46
  go_wp2_with fail
  refine (unhide HW).mono ?_
  rintro e' w1 ⟨rfl, hb1⟩
  have HR1 := hide ((unhide H).below hb1)
  have HF1 := hide (FrameK.ofBelow (a := kb) (b := g) hb1)
  have hs1 := hb1.size
  clear hb1 HW
  simp only
  by_cases t1 : e = 0
  case neg =>
    have g1 : (e != 0) = true := by simpa using t1
    have hm := unhide HM
    rw [if_pos t1] at hm
    have HM2 := hide hm
    clear t1 hm
    go_wp2
    go_ret
    exact ⟨by rw [unhide HM2]; rfl, g, cap, by rw [unhide HM2]; exact unhide HR1, unhide HF1, .inl rfl⟩
  have g1 : (e != 0) = false := by simpa using t1
  by_cases t2 : n = 0
  case neg =>
    have g2 : (n != 0) = true := by simpa using t2
    have hm := unhide HM
    rw [if_neg (by simpa using t1), if_pos t2] at hm
    have HM2 := hide hm
    clear t1 t2 hm
    go_wp2
    go_ret
    exact ⟨by rw [unhide HM2]; rfl, g, cap, by rw [unhide HM2]; exact unhide HR1, unhide HF1, .inl rfl⟩
  have g2 : (n != 0) = false := by simpa using t2
  have hm := unhide HM
  rw [if_neg (by simpa using t1), if_neg (by simpa using t2)] at hm
  have HM2 := hide hm
  have c3 : w1.cell? ⟨kb, 3, none⟩ = some (.int .i64 k.li) := (unhide HR1).1.cell rfl
  have c7 : w1.cell? ⟨kb, 7, none⟩ = some (.slice (some ⟨g, 0, none⟩) k.inos.length cap) := (unhide HR1).1.cell rfl
  clear t1 t2 hm HM
  by_cases t3 : k.li ≤ (k.inos.length : Int)
  · have hm := unhide HM2
    rw [if_pos t3] at hm
    have HM3 := hide hm
    clear hm
    go_wp2
    go_quiet (fail)
    go_wp2
    go_ret
    exact ⟨by rw [unhide HM3]; rfl, g, cap, by rw [unhide HM3]; exact (unhide HR1).heap rfl, ⟨(unhide HF1).os, (unhide HF1).tape, (unhide HF1).output, (unhide HF1).size, (unhide HF1).block⟩, .inl rfl⟩
  · have hm := unhide HM2
    rw [if_neg t3] at hm
    have HM3 := hide hm
    clear hm
    go_wp2
    go_quiet (fail)
    have HMK := hide (refMake_any base kb g cap k dir name true (w1.drewN nq) ((unhide HR1).heap rfl) hkb (by show base ≤ w1.heap.size; omega) hn h0 h1)
    go_wp2_with fail
    refine (unhide HMK).mono ?_
    rintro e' w2 ⟨rfl, g', cap', hr2, hf2, hg2⟩
    have HR2 := hide hr2
    have HF2 := hide (show FrameK w w2 kb g from ⟨hf2.os.trans (unhide HF1).os, hf2.tape.trans (unhide HF1).tape, hf2.output.trans (unhide HF1).output, Nat.le_trans (unhide HF1).size hf2.size, fun q hq a b => (hf2.block q (by show q < w1.heap.size; omega) a b).trans ((unhide HF1).block q hq a b)⟩)
    have hg3 : g' = g ∨ w.heap.size ≤ g' := by rcases hg2 with h | h; exact .inl h; exact .inr (Nat.le_trans hs1 h)
    clear hr2 hf2 hg2
    go_wp2
    go_ret
    exact ⟨by rw [unhide HM3]; rfl, g', cap', by rw [unhide HM3]; exact unhide HR2, unhide HF2, hg3⟩
end Go.Proofs.YtkokiefclmbgaaaGreatDoor
