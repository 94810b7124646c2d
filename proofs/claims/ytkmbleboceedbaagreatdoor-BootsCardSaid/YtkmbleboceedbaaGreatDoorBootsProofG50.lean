import Derived.Test.YtkmbleboceedbaaGreatDoorBootsProofG49
import Derived.Shelf.SlSortCmp.NoneTotal
import Derived.Test.YtkmbleboceedbaaGreatDoorBootsProofG28
import Derived.Test.YtkmbleboceedbaaGreatDoorBootsProofG05
import Derived.Test.YtkmbleboceedbaaGreatDoorBootsProofG43
import Derived.Test.YtkmbleboceedbaaGreatDoorBootsProofG20
import Derived.Test.YtkmbleboceedbaaGreatDoorRows
import Derived.ProofKit
import Derived.LaidMore
import Derived.LaidHandle
import Derived.OpenShut
import Derived.Below
import Derived.Stop.Joined
import Derived.SevenTiedAt
/- The program's Files: the walk; all that the law Boots asks of the program. -/
namespace Go.Proofs.YtkmbleboceedbaaGreatDoor
open Go Go.RowKit Go.Maps
set_option linter.unusedVariables false
set_option linter.unusedSimpArgs false

theorem FilesPost.heap {w w0 : World} {FL : List PFile} {e : Ending} {w' : World} (h : FilesPost w0 FL e w') (hb : Below w.heap.size w w0) : FilesPost w FL e w' := by
  obtain ⟨aa, ag, ac, LS, h1, h2, h3, h4⟩ := h
  refine ⟨aa, ag, ac, LS, h1, h2, hb.trans (h3.mono hb.size), h4.len, fun i f l hi hf hl => ?_, h4.apart⟩
  obtain ⟨c1, c2, c3, c4, c5, c6⟩ := h4.at_ i f l hi hf hl
  exact ⟨c1, c2, c3, fun q => ⟨(c4 q).1, by have := (c4 q).2.1; have := hb.size; omega, (c4 q).2.2.1, (c4 q).2.2.2⟩, c5, c6⟩
theorem FilesPost.val {w : World} {FL : List PFile} {e : Ending} {w' : World} (h : FilesPost w FL e w') : ∃ a n c, e = .returned (.slice a n c) := by
  obtain ⟨aa, ag, ac, LS, h1, _⟩ := h
  exact ⟨_, _, _, h1⟩
set_option maxRecDepth 100000 in
set_option maxHeartbeats 2000000 in
theorem treeFiles_any (p : PK) (hi : PInv p) (B tb ab am : Nat) (NB MB : List Nat) (V : List Value) (hxl : p.xs.length ≤ 100000) (hcl : ∀ c ∈ p.cs, c.length ≤ 1000000) (w : World) (hr : BootRep w B tb ab am p NB MB V) :
    Calls Tryz.prog 53 #[.pointer (some ⟨tb, 0, none⟩)] w (FilesPost w (FL0 p)) := by
  have hne : p.xs ≠ [] := by obtain ⟨x, hx, _⟩ := hi.root; intro e; rw [e] at hx; cases hx
  obtain ⟨x0, h0, h01, h0d⟩ := hr.tree.root hne
  have h0l := (List.getElem?_eq_some_iff.1 h0).1
  obtain ⟨b0, hb0⟩ : ∃ b0, NB[0]? = some b0 := ⟨_, List.getElem?_eq_getElem (by rw [hr.tree.len.1]; exact h0l)⟩
  have c0 : w.cell? ⟨tb, 0, none⟩ = some (.pointer (some ⟨ab, 0, none⟩)) := hr.tree.tree.cell rfl
  have c2 : w.cell? ⟨ab, 2, none⟩ = some (.map (some am)) := hr.tree.above.cell rfl
  have hlk : (Instr.lookup 226 (.map (some am)) (.string ⟨#[]⟩) false).run Tryz.prog w = .ok (.pointer (some ⟨b0, 0, none⟩)) w := by
    have h := hr.tree.amap.look ByteArray.empty (by unfold maxLen; decide)
    have e : nodePtr (if ByteArray.empty.data.toList = [] then NB[0]? else none) = .pointer (some ⟨b0, 0, none⟩) := by rw [if_pos (show ByteArray.empty.data.toList = [] from rfl), hb0]; rfl
    rw [e] at h
    exact h
  have HLS := hide (list_any p hi B tb ab am NB MB V hxl hcl p.xs.length 0 x0 b0 w hr h0 hb0 (by omega))
  rw [pathOf_root (show x0.id ≤ 1 by omega)] at HLS
  have HI := hide (And.intro hi (And.intro h0 h01))
  clear hr hi hb0 hcl hne h0 h01 h0d
  go_enter Tryz.func53, Tryz.ntmps53
  go_wp2_with fail
  refine (unhide HLS).mono ?_
  rintro e w1 ⟨v1, EL, rfl, hrep, hnd, hmem, hb1⟩
  obtain ⟨hi, h0, h01⟩ := unhide HI
  clear c0 c2 hlk HLS
  by_cases hE : EL = []
  · subst hE
    obtain rfl := hrep.nil rfl
    have hFL : FL0 p = [] := by
      have hl : (IL0 p) = [] := by
        apply List.eq_nil_iff_forall_not_mem.2
        intro j hj
        have := (hmem j).2 ((all_desc hi h0 h01 j).2 (IL0_mem.1 hj))
        simp at this
      unfold FL0
      rw [hl]; rfl
    have HSN := hide (show Calls Tryz.prog 88 #[.slice none 0 0, .func (.func 89) #[] #[]] w1 fun e w' => e = .returned (.tuple #[]) ∧ w' = w1 from AnyF.slices_SortFunc_none { sortFileL with } none 0 _ w1)
    have HP := hide (show FilesPost w (FL0 p) (.returned (.slice none 0 0)) w1 from by
      rw [hFL]
      exact ⟨none, 0, 0, [], rfl, fun h => absurd h (by decide), hb1, rfl, fun i f l _ hf _ => by simp at hf, fun i j f l m hf _ _ _ _ => by simp at hf⟩)
    clear hrep hnd hmem hb1 hi h0 h01 hFL HI
    go_wp2_with fail
    refine (unhide HSN).mono ?_
    rintro e w2 ⟨rfl, hw2⟩
    subst hw2
    clear HSN
    go_wp2
    go_ret
    exact unhide HP
  · obtain ⟨g, c, rfl, hg, hgl⟩ := hrep.row.form (List.length_pos_iff.2 hE)
    have hEl : EL.length ≤ 100000 := by
      have := nodup_len (EL.map Prod.fst) (List.range p.xs.length) hnd (fun k hk => by rw [List.mem_range]; exact ((hmem k).1 hk).bound)
      simp at this
      omega
    have HSF := hide (sortFiles_any p w.heap.size g c EL w1 hrep.row hEl)
    have HREP := hide (And.intro hrep (And.intro hnd (And.intro hmem hb1)))
    obtain ⟨n, hn⟩ : ∃ n, n = EL.length := ⟨_, rfl⟩
    rw [← hn] at HSF ⊢
    have HN := hide hn
    clear hrep hnd hmem hb1 hi h0 h01 hg hgl hEl hE hn
    go_wp2_with fail
    refine (unhide HSF).mono ?_
    rintro e w2 ⟨rfl, EL', hperm, hs, hH, hgr⟩
    have HP := hide (show FilesPost w (FL0 p) (.returned (.slice (some ⟨g, 0, none⟩) n c)) w2 from by
      rw [unhide HN]
      exact files_post (unhide HI).1 (unhide HI).2.1 (unhide HI).2.2 (unhide HREP).1 (unhide HREP).2.1 (unhide HREP).2.2.1 (unhide HREP).2.2.2 hperm hs hH hgr)
    clear hperm hs hH hgr HSF HREP HI
    go_wp2
    go_ret
    exact unhide HP
set_option maxRecDepth 100000 in
set_option maxHeartbeats 1000000 in
theorem kFiles_any (kb tb : Nat) (FL : List PFile) (w : World) (hk : w.cell? ⟨kb, 5, none⟩ = some (.pointer (some ⟨tb, 0, none⟩))) (h : Calls Tryz.prog 53 #[.pointer (some ⟨tb, 0, none⟩)] w (FilesPost w FL)) :
    Calls Tryz.prog 33 #[.pointer (some ⟨kb, 0, none⟩)] w (FilesPost w FL) := by
  have HT := hide h
  clear h
  go_enter Tryz.func33, Tryz.ntmps33
  go_wp2_with fail
  refine (unhide HT).mono ?_
  intro e w1 h1
  obtain ⟨a, n, c, he⟩ := h1.val
  subst he
  have HP := hide h1
  clear h1 hk HT
  go_wp2
  go_ret
  exact unhide HP
set_option maxRecDepth 100000 in
set_option maxHeartbeats 1000000 in
theorem files_top (tk kb tb : Nat) (FL : List PFile) (w : World) (ht : w.cell? ⟨tk, 0, none⟩ = some (.pointer (some ⟨kb, 0, none⟩))) (hk : w.cell? ⟨kb, 5, none⟩ = some (.pointer (some ⟨tb, 0, none⟩))) (h : Calls Tryz.prog 53 #[.pointer (some ⟨tb, 0, none⟩)] w (FilesPost w FL)) :
    Calls Tryz.prog 20 #[.pointer (some ⟨tk, 0, none⟩)] w (FilesPost w FL) := by
  have HT := hide (kFiles_any kb tb FL w hk h)
  clear h hk
  go_enter Tryz.func20, Tryz.ntmps20
  go_wp2_with fail
  refine (unhide HT).mono ?_
  intro e w1 h1
  obtain ⟨a, n, c, he⟩ := h1.val
  subst he
  have HP := hide h1
  clear h1 ht HT
  go_wp2
  go_ret
  exact unhide HP
theorem used_each {cs : List (List Int)} {c : List Int} (h : c ∈ cs) : c.length ≤ usedOf cs := by
  obtain ⟨i, hi⟩ := List.mem_iff_getElem?.1 h
  exact used_ge hi
theorem kr_files (w : World) (B : Nat) (kp : Addr) (p : PK) (h : KR w B kp p) : ∃ FL, Calls Tryz.prog 20 #[.pointer (some kp)] w (FilesPost w FL) ∧ Tells p.xs p.cs FL ∧ ∀ f ∈ FL, f.bytes.length ≤ 1000000 := by
  obtain ⟨tk, kb, tb, ab, am, cb, pm, pb, NB, MB, V, rfl, h2, h3, h4⟩ := h
  have hne : p.xs ≠ [] := by obtain ⟨x, hx, _⟩ := h4.inv.root; intro e; rw [e] at hx; cases hx
  obtain ⟨x0, h0, h01, _⟩ := h4.tree.tree.root hne
  have hcl : ∀ c ∈ p.cs, c.length ≤ 1000000 := fun c hc => by have := used_each hc; have := h4.size.2.1; omega
  refine ⟨FL0 p, files_top tk kb tb (FL0 p) w (h3.cell rfl) (h4.ker.cell rfl) (treeFiles_any p h4.inv B tb ab am NB MB V (by have := h4.size.1; omega) hcl w h4.tree), FL0_tells h4.inv h0 h01, fun f hf => ?_⟩
  obtain ⟨j, _, rfl⟩ := List.mem_map.1 hf
  unfold fileAt
  split
  · show (p.cs.getD j []).length ≤ 1000000
    rw [List.getD_eq_getElem?_getD]
    cases hc : p.cs[j]? with
    | none => simp
    | some c => exact hcl c (List.mem_of_getElem? hc)
  · simp
/-- All that the law asks of the calls on a kernel. -/
theorem prog_api : ProgApi KR := ⟨kr_stable, kr_procs, kr_files, kr_used, kr_console⟩
end Go.Proofs.YtkmbleboceedbaaGreatDoor

/- tinyoslaw: tiny. -/
namespace Go.Proofs.YtkmbleboceedbaaGreatDoor
open Go Go.RowKit
set_option linter.unusedVariables false
set_option linter.unusedSimpArgs false

theorem wpList_copy_str {P : Program} {ops : Array Oper} {rest : List Oper} {o : Oper} {a : Act} {w : World} {Q : Exit → Act → World → Prop} (hgd : o.guard = none) (d s : Operand) (dT sT : TypeId)
    (ho : o.op = .call { callee := .builtin .copy, args := #[d, s], argTypes := #[dT, sT] }) (elem : TypeId) (hu : P.underlying dT = some (.slice elem)) (hsz : (P.info? elem).map (·.size) = some 1)
    (g off dLen dCap : Nat) (str : ByteArray) (hd : a.eval d = .slice (some ⟨g, off, none⟩) dLen dCap) (hs : a.eval s = .string str)
    (cur : List Value) (t : TypeId) (hg : Holds w g t cur) (hle : str.size ≤ dLen) (hfit : off + str.size ≤ cur.length)
    (h : ∀ w', Hid (Holds w' g t (splice cur off (Lib.byteCells str.data.toList))) → w.grownBy w' (some g) → wpList P ops Q rest (a.put o.dst (goInt str.size)) w') : wpList P ops Q (o :: rest) a w := by
  refine wpList_plain hgd fun K hK => ?_
  have := step_copy_str (P := P) (ops := ops) (o := o) (a := a) (w := w) (K := K) (Q := Q) (E := True) hgd d s dT sT ho elem hu hsz g off dLen dCap str hd hs cur t hg hle hfit (fun w' h1 h2 => hK _ _ (h w' h1 h2))
  have hw : Region.wanted o (yielded ops a.tmps) = true := by simp [Region.wanted, hgd]
  rw [if_pos hw] at this
  exact this
def tiny0 : List Int := [127, 69, 76, 70, 2, 1, 1] ++ List.replicate 253 0
def tinyB : List Int := ((((((((((((((tiny0.set 16 2).set 18 243).set 20 1).set 25 1).set 32 64).set 52 64).set 54 56).set 56 1).set 64 1).set 68 5).set 73 1).set 81 1).set 96 4).set 104 4).set 256 22
theorem tiny0_row : splice (bytesRow (List.replicate 260 0)) 0 (Lib.byteCells [127, 69, 76, 70, 2, 1, 1]) = bytesRow tiny0 := by kernel_rfl

set_option maxRecDepth 100000 in
set_option maxHeartbeats 4000000 in
theorem tiny_any (w : World) : Calls Tryz.prog 11 #[] w fun e w' => e = .returned (.slice (some ⟨w.heap.size, 0, none⟩) 260 260) ∧ Holds w' w.heap.size 5 (bytesRow tinyB) ∧ Below w.heap.size w w' := by
  obtain ⟨Z, hZ⟩ : ∃ Z, Z = zeroBytes 260 := ⟨_, rfl⟩
  have hmk : ∀ w, (Instr.makeSlice 32 (.int .i64 260) (.int .i64 260)).run Tryz.prog w = .ok (.slice (some ⟨w.heap.size, 0, none⟩) 260 260) (w.alloc (.cells Z 5)) := by
    intro w
    have := run_make_row' (P := Tryz.prog) 32 5 (.int .u8 0) 1 Tryz.underlying32 u8info rfl .i64 .i64 260 (by decide) (by decide) w
    rw [hZ]
    rwa [made_bytes] at this
  have HZ := hide (show Holds (w.alloc (.cells Z 5)) w.heap.size 5 (bytesRow (List.replicate 260 0)) from by rw [hZ]; exact Holds.new w 5 _)
  have HB := hide (show Below w.heap.size w (w.alloc (.cells Z 5)) from (Below.refl _ _).alloc (Nat.le_refl _) _)
  clear hZ
  go_enter Tryz.func11, Tryz.ntmps11
  go_upto_region 3 with (refine wpList_copy_str rfl _ _ 32 9 rfl 5 Tryz.underlying32 u8one w.heap.size 0 260 260 _ (by rfl) (by rfl) _ _ (unhide HZ) (by decide) (by rw [bytesRow_length]; decide) ?_; intro w1 H1 hg1)
  have hh : Holds w1 w.heap.size 5 (bytesRow tiny0) := by rw [← tiny0_row]; exact unhide H1
  have hb : Below w.heap.size w w1 := (unhide HB).trans (below_grown hg1 (Nat.le_refl _) (by simp))
  obtain ⟨x16, c16⟩ : ∃ x, w1.cell? ⟨w.heap.size, 16, none⟩ = some (.int .u8 x) := ⟨_, hh.cell (bytesRow_get tiny0 16 (by decide))⟩
  have f16 := hh.frozen 16
  obtain ⟨x18, c18⟩ : ∃ x, w1.cell? ⟨w.heap.size, 18, none⟩ = some (.int .u8 x) := ⟨_, hh.cell (bytesRow_get tiny0 18 (by decide))⟩
  have f18 := hh.frozen 18
  obtain ⟨x20, c20⟩ : ∃ x, w1.cell? ⟨w.heap.size, 20, none⟩ = some (.int .u8 x) := ⟨_, hh.cell (bytesRow_get tiny0 20 (by decide))⟩
  have f20 := hh.frozen 20
  obtain ⟨x25, c25⟩ : ∃ x, w1.cell? ⟨w.heap.size, 25, none⟩ = some (.int .u8 x) := ⟨_, hh.cell (bytesRow_get tiny0 25 (by decide))⟩
  have f25 := hh.frozen 25
  obtain ⟨x32, c32⟩ : ∃ x, w1.cell? ⟨w.heap.size, 32, none⟩ = some (.int .u8 x) := ⟨_, hh.cell (bytesRow_get tiny0 32 (by decide))⟩
  have f32 := hh.frozen 32
  obtain ⟨x52, c52⟩ : ∃ x, w1.cell? ⟨w.heap.size, 52, none⟩ = some (.int .u8 x) := ⟨_, hh.cell (bytesRow_get tiny0 52 (by decide))⟩
  have f52 := hh.frozen 52
  obtain ⟨x54, c54⟩ : ∃ x, w1.cell? ⟨w.heap.size, 54, none⟩ = some (.int .u8 x) := ⟨_, hh.cell (bytesRow_get tiny0 54 (by decide))⟩
  have f54 := hh.frozen 54
  obtain ⟨x56, c56⟩ : ∃ x, w1.cell? ⟨w.heap.size, 56, none⟩ = some (.int .u8 x) := ⟨_, hh.cell (bytesRow_get tiny0 56 (by decide))⟩
  have f56 := hh.frozen 56
  obtain ⟨x64, c64⟩ : ∃ x, w1.cell? ⟨w.heap.size, 64, none⟩ = some (.int .u8 x) := ⟨_, hh.cell (bytesRow_get tiny0 64 (by decide))⟩
  have f64 := hh.frozen 64
  obtain ⟨x68, c68⟩ : ∃ x, w1.cell? ⟨w.heap.size, 68, none⟩ = some (.int .u8 x) := ⟨_, hh.cell (bytesRow_get tiny0 68 (by decide))⟩
  have f68 := hh.frozen 68
  obtain ⟨x73, c73⟩ : ∃ x, w1.cell? ⟨w.heap.size, 73, none⟩ = some (.int .u8 x) := ⟨_, hh.cell (bytesRow_get tiny0 73 (by decide))⟩
  have f73 := hh.frozen 73
  obtain ⟨x81, c81⟩ : ∃ x, w1.cell? ⟨w.heap.size, 81, none⟩ = some (.int .u8 x) := ⟨_, hh.cell (bytesRow_get tiny0 81 (by decide))⟩
  have f81 := hh.frozen 81
  obtain ⟨x96, c96⟩ : ∃ x, w1.cell? ⟨w.heap.size, 96, none⟩ = some (.int .u8 x) := ⟨_, hh.cell (bytesRow_get tiny0 96 (by decide))⟩
  have f96 := hh.frozen 96
  obtain ⟨x104, c104⟩ : ∃ x, w1.cell? ⟨w.heap.size, 104, none⟩ = some (.int .u8 x) := ⟨_, hh.cell (bytesRow_get tiny0 104 (by decide))⟩
  have f104 := hh.frozen 104
  obtain ⟨x256, c256⟩ : ∃ x, w1.cell? ⟨w.heap.size, 256, none⟩ = some (.int .u8 x) := ⟨_, hh.cell (bytesRow_get tiny0 256 (by decide))⟩
  have f256 := hh.frozen 256
  have HH := hide (show Holds _ w.heap.size 5 (bytesRow tinyB) from by
    have h := (((((((((((((((hh.set 16 (.int .u8 2)).set 18 (.int .u8 243)).set 20 (.int .u8 1)).set 25 (.int .u8 1)).set 32 (.int .u8 64)).set 52 (.int .u8 64)).set 54 (.int .u8 56)).set 56 (.int .u8 1)).set 64 (.int .u8 1)).set 68 (.int .u8 5)).set 73 (.int .u8 1)).set 81 (.int .u8 1)).set 96 (.int .u8 4)).set 104 (.int .u8 4)).set 256 (.int .u8 22))
    simp only [bytesRow_set] at h
    exact h)
  have HBB := hide (((((((((((((((hb.setCell (p := ⟨w.heap.size, 16, none⟩) (Nat.le_refl _) (.int .u8 2)).setCell (p := ⟨w.heap.size, 18, none⟩) (Nat.le_refl _) (.int .u8 243)).setCell (p := ⟨w.heap.size, 20, none⟩) (Nat.le_refl _) (.int .u8 1)).setCell (p := ⟨w.heap.size, 25, none⟩) (Nat.le_refl _) (.int .u8 1)).setCell (p := ⟨w.heap.size, 32, none⟩) (Nat.le_refl _) (.int .u8 64)).setCell (p := ⟨w.heap.size, 52, none⟩) (Nat.le_refl _) (.int .u8 64)).setCell (p := ⟨w.heap.size, 54, none⟩) (Nat.le_refl _) (.int .u8 56)).setCell (p := ⟨w.heap.size, 56, none⟩) (Nat.le_refl _) (.int .u8 1)).setCell (p := ⟨w.heap.size, 64, none⟩) (Nat.le_refl _) (.int .u8 1)).setCell (p := ⟨w.heap.size, 68, none⟩) (Nat.le_refl _) (.int .u8 5)).setCell (p := ⟨w.heap.size, 73, none⟩) (Nat.le_refl _) (.int .u8 1)).setCell (p := ⟨w.heap.size, 81, none⟩) (Nat.le_refl _) (.int .u8 1)).setCell (p := ⟨w.heap.size, 96, none⟩) (Nat.le_refl _) (.int .u8 4)).setCell (p := ⟨w.heap.size, 104, none⟩) (Nat.le_refl _) (.int .u8 4)).setCell (p := ⟨w.heap.size, 256, none⟩) (Nat.le_refl _) (.int .u8 22))
  clear hh hb H1 hg1 HZ HB hmk
  go_wp2
  go_ret
  exact ⟨rfl, unhide HH, unhide HBB⟩
end Go.Proofs.YtkmbleboceedbaaGreatDoor

/- tinyoslaw: lives: a kernel boots at tiny. -/
namespace Go.Proofs.YtkmbleboceedbaaGreatDoor
open Go Go.RowKit
set_option linter.unusedVariables false
set_option linter.unusedSimpArgs false

def tinyF : PFile := ⟨initPath, false, tinyB⟩
theorem init_names : namesOf initPath = some [initArg] := by kernel_rfl
theorem root_child : childOf [root] 1 initArg = 0 := by kernel_rfl
theorem tiny_walk0 : walkOf [root] initPath = ⟨1, initArg, 0, 0⟩ := by
  unfold walkOf
  rw [init_names]
  show follow [root] 1 [initArg] = _
  unfold follow
  rw [root_child]
def tinyP : PK := ⟨2, 10, 2, 3, 1000, 2, [root, newIno 2 1 initArg false], [[], tinyB]⟩
theorem tiny_len : tinyB.length = 260 := by kernel_rfl
theorem tiny_code : ((boot0 2 10 2 3 1000).put tinyF).1 = 0 := by kernel_rfl
theorem tiny_out : ((boot0 2 10 2 3 1000).put tinyF).2 = tinyP := by kernel_rfl
theorem tiny_puts : (boot0 2 10 2 3 1000).puts [tinyF] = (0, tinyP) := by
  unfold PK.puts
  rw [if_neg (by rw [tiny_code]; decide), tiny_out]
  rfl
theorem tiny_walk1 : walkOf tinyP.xs initPath = ⟨1, initArg, 2, 0⟩ := by
  unfold walkOf
  rw [init_names]
  kernel_rfl
theorem tiny_dir : dirOf tinyP.xs 2 = false := by kernel_rfl
theorem tiny_file : tinyP.fileOf initPath = tinyB := by
  unfold PK.fileOf
  rw [tiny_walk1]
  rfl
theorem tiny_magic : magicOk tinyB := by
  unfold magicOk
  kernel_rfl
theorem tiny_nums : numAt tinyB 16 2 = 2 ∧ numAt tinyB 18 2 = 243 ∧ numAt tinyB 20 4 = 1 ∧ numAt tinyB 32 8 = 64 ∧ numAt tinyB 52 2 = 64 ∧ numAt tinyB 54 2 = 56 ∧ numAt tinyB 56 2 = 1 ∧ numAt tinyB 24 8 = 256 := ⟨by kernel_rfl, by kernel_rfl, by kernel_rfl, by kernel_rfl, by kernel_rfl, by kernel_rfl, by kernel_rfl, by kernel_rfl⟩
theorem tiny_hdr : HdrOk tinyB := by
  obtain ⟨a, b, c, d, e, f, g, h⟩ := tiny_nums
  refine ⟨by rw [tiny_len]; decide, tiny_magic, a, b, c, d, e, f, ?_⟩
  rw [g, tiny_len]
  decide
theorem tiny_count : segCount tinyB = 1 := by kernel_rfl
theorem tiny_segAt : segAt tinyB 64 = ⟨5, 256, 256, 4, 4⟩ := by
  unfold segAt
  kernel_rfl
theorem tiny_seg : SegOk tinyB 64 := by
  unfold SegOk
  rw [tiny_segAt, tiny_len]
  exact ⟨by kernel_rfl, ⟨by decide, by decide, by decide⟩, by decide, by decide, by decide, by decide, by decide⟩
theorem tiny_segs : fileSegs tinyB = [⟨5, 256, 256, 4, 4⟩] := by kernel_rfl
theorem tiny_pgs : (outPgs tinyB).length = 1 := by kernel_rfl
theorem tiny_good : Good tinyB := by
  refine ⟨tiny_hdr, fun i hi => ?_, fun p hp => ?_, ?_⟩
  · rw [tiny_count] at hi
    have : i = 0 := by omega
    subst this
    exact tiny_seg
  · rw [tiny_segs]
    exact List.countP_le_length
  · rw [tiny_nums.2.2.2.2.2.2.2]
    refine ⟨by decide, by decide, ⟨1, 5, segPage tinyB ⟨5, 256, 256, 4, 4⟩ 1⟩, ?_, by decide, by decide⟩
    unfold outPgs refPgs
    rw [tiny_segs]
    exact List.mem_flatMap.2 ⟨1, List.mem_range.2 (by decide), by
      rw [show List.filter (fun s => cov s 1) [(⟨5, 256, 256, 4, 4⟩ : Seg)] = [⟨5, 256, 256, 4, 4⟩] from by kernel_rfl]
      exact List.mem_singleton.2 rfl⟩
theorem tiny_bytes : IsBytes tinyB := by
  refine isBytes_mem.2 ?_
  have h : tinyB.all (fun x => decide (0 ≤ x) && decide (x ≤ 255)) = true := by kernel_rfl
  intro x hx
  have := List.all_eq_true.1 h x hx
  simpa using this
theorem init_ok : okArgs [initArg] = true := by kernel_rfl
theorem tiny_exec : tinyP.ExecOk [0] 0 initPath [initArg] := by
  unfold PK.ExecOk
  rw [tiny_walk1, tiny_file, tiny_pgs]
  exact ⟨rfl, by decide, tiny_dir, tiny_good, init_ok, by decide⟩
theorem tiny_boots : BootGood 2 10 2 3 1000 [tinyF] := by
  refine ⟨by unfold limsOk; decide, by decide, ?_, ?_⟩
  · rw [tiny_puts]
  · rw [tiny_puts]; exact tiny_exec
set_option maxRecDepth 100000 in
set_option maxHeartbeats 4000000 in
theorem lives_law (w : World) (KR : World → Nat → Addr → PK → Prop)
    (hprog : ∀ (w' : World) (va : Option Addr) (vb vcap : Nat) (LS' : List FLoc), Below w.heap.size w w' → (0 < [tinyF].length → va = some ⟨vb, 0, none⟩ ∧ vb < w'.heap.size) → FilesInL w' vb 0 [tinyF] LS' → Calls Tryz.prog 10 #[.agg #[.int .i64 2, .int .i64 10, .int .i64 2, .int .i64 3, .int .i64 1000], .slice va [tinyF].length vcap] w' (ProgBoot 2 10 2 3 1000 [tinyF] KR w')) :
    Calls Tryz.prog 4 #[] w fun e w' => e = .returned (.bool true) ∧ Below w.heap.size w w' := by
  have HPR := hide hprog
  have HT := hide (tiny_any w)
  clear hprog
  go_enter Tryz.func4, Tryz.ntmps4
  go_wp2_with fail
  refine (unhide HT).mono ?_
  rintro e w1 ⟨rfl, hh1, hb1⟩
  obtain ⟨W2, hW2⟩ : ∃ W2, W2 = w1.alloc (Obj.cells #[.string initPath, .bool false, .slice (some ⟨w.heap.size, 0, none⟩) 260 260] 44) := ⟨_, rfl⟩
  have hb2 : Below w1.heap.size w1 W2 := by rw [hW2]; exact (Below.refl _ _).alloc (Nat.le_refl _) _
  have hn2 : Holds W2 w1.heap.size 44 [.string initPath, .bool false, .slice (some ⟨w.heap.size, 0, none⟩) 260 260] := by rw [hW2]; exact Holds.new w1 44 _
  have hh2 : Holds W2 w.heap.size 5 (bytesRow tinyB) := hh1.below hb2 hh1.lt
  have hbw2 : Below w.heap.size w W2 := hb1.trans (hb2.mono hb1.size)
  have HPC := hide (unhide HPR W2 (some ⟨w1.heap.size, 0, none⟩) w1.heap.size 1 [⟨some ⟨w.heap.size, 0, none⟩, w.heap.size, 0, 260⟩] hbw2 (fun _ => ⟨rfl, hn2.lt⟩) ⟨rfl, fun i f l hf hl => by
    have hi := (List.getElem?_eq_some_iff.1 hf).1
    have hi0 : i = 0 := by simp at hi; omega
    subst hi0
    have e1 : tinyF = f := by simpa using hf
    have e2 : (⟨some ⟨w.heap.size, 0, none⟩, w.heap.size, 0, 260⟩ : FLoc) = l := by simpa using hl
    subst e1 e2
    refine ⟨hn2.cell (j := 0) rfl, hn2.cell (j := 1) rfl, ?_, fun _ => ⟨rfl, hh2.lt⟩, fun j hj => ?_⟩
    · rw [show tinyF.bytes.length = 260 from tiny_len]; exact hn2.cell (j := 2) rfl
    · rw [Nat.zero_add]; exact hh2.bytes j hj⟩)
  have HB2 := hide hbw2
  have HW2 := hide hW2
  unfold initPath at hW2
  have HW2' := hide hW2
  clear hh1 hb1 hb2 hn2 hh2 hbw2 hW2 HT HPR
  go_wp2_with fail
  rw [← unhide HW2']
  refine (unhide HPC).mono ?_
  rintro e w3 ⟨hb3, (⟨c, hc, rfl⟩ | ⟨_, kp, rfl, _⟩)⟩
  · exact (bootBad_not hc tiny_boots).elim
  · have HB3 := hide ((unhide HB2).trans (hb3.mono (unhide HB2).size))
    have HTN := hide (tell_nil w3)
    clear hb3 HPC
    go_wp2_with fail
    refine (unhide HTN).mono ?_
    rintro e w4 ⟨rfl, hb4⟩
    have HB4 := hide ((unhide HB3).trans (hb4.mono (unhide HB3).size))
    clear hb4 HTN
    go_wp2
    go_ret
    exact ⟨rfl, unhide HB4⟩
/-- Boots, out of what the program's Boot and the calls on its kernel answer. -/
theorem boots_all (lp lf lo li lb : Int) (fa : Option Addr) (fb foff fcap : Nat) (FS : List PFile) (LS : List FLoc) (w : World) (hfa : 0 < FS.length → fa = some ⟨fb, foff, none⟩ ∧ fb < w.heap.size) (hf : FilesInL w fb foff FS LS) (hb : ∀ f ∈ FS, f.path.size ≤ 140737488355328 ∧ f.bytes.length ≤ 140737488355328) (hl : FS.length ≤ 140737488355328) (hby : ∀ f ∈ FS, IsBytes f.bytes)
    (hg : w.cell? ⟨0, 0, none⟩ = some (.iface 192 (.agg #[.pointer (some ⟨5, 40, none⟩)]))) (hge : 0 < w.heap.size) (KR : World → Nat → Addr → PK → Prop) (api : ProgApi KR)
    (hprog : ∀ (lp lf lo li lb : Int) (FS : List PFile) (w' : World) (va : Option Addr) (vb vcap : Nat) (LS' : List FLoc), FS.length ≤ 100 → (FS.map (fun f => f.bytes.length)).sum ≤ 200000 → (∀ f ∈ FS, f.path.size ≤ maxLen ∧ IsBytes f.bytes) → Below w.heap.size w w' → (0 < FS.length → va = some ⟨vb, 0, none⟩ ∧ vb < w'.heap.size) → FilesInL w' vb 0 FS LS' → Calls Tryz.prog 10 #[.agg #[.int .i64 lp, .int .i64 lf, .int .i64 lo, .int .i64 li, .int .i64 lb], .slice va FS.length vcap] w' (ProgBoot lp lf lo li lb FS KR w')) :
    Calls Tryz.prog 3 #[.agg #[.int .i64 lp, .int .i64 lf, .int .i64 lo, .int .i64 li, .int .i64 lb, .slice fa FS.length fcap]] w fun e w' => e = .returned (.bool true) ∧ Below w.heap.size w w' := by
  refine boots_law lp lf lo li lb fa fb foff fcap FS LS w hfa hf hb hl hby hg hge KR api (fun w' h => lives_law w' KR (fun w'' va vb vcap LS' h2 h3 h4 => ?_)) (fun hn hs w' va vb vcap LS' h2 h3 h4 => ?_) (puts_inv lp lf lo li lb FS).tree
  · refine hprog 2 10 2 3 1000 [tinyF] w'' va vb vcap LS' (by decide) (by simp [tinyF, tiny_len]) (fun f hf => ?_) (h.trans (h2.mono h.size)) h3 h4
    have e : f = tinyF := by simpa using hf
    subst e
    exact ⟨by decide, tiny_bytes⟩
  · exact hprog lp lf lo li lb FS w' va vb vcap LS' hn hs (fun f hf => ⟨by have := (hb f hf).1; unfold maxLen; omega, hby f hf⟩) h2 h3 h4
end Go.Proofs.YtkmbleboceedbaaGreatDoor

/- What the row of Boots rests on: the type's handle in errors.errorType (RowBase at any number of that variable). -/
namespace Go.Proofs.YtkmbleboceedbaaGreatDoor
open Go.ChangeShapes Go.WideShapes Go.ChangeAt Go.RowKit

theorem own : ownKnob Tryz.prog.godebug = none := by kernel_rfl
theorem laidOut : laidOutB Tryz.prog = true := by kernel_rfl
theorem Tryz.et : Tryz.prog.globalNamed "errors.errorType" = some 0 := by kernel_rfl
theorem Tryz.rt : (Tryz.prog.cutTypes.find? (·.1 == "internal/reflectlite.rtype")).map (·.2) = some 192 := by kernel_rfl
theorem Tryz.oneRow : ((List.range 366).filter fun t => Tryz.prog.rowNamed t [101, 114, 114, 111, 114]) = [40] := by kernel_rfl
theorem Tryz.size : Tryz.prog.types.size = 366 := by kernel_rfl

/-- What the handle's condition gives a walk: the variable's one cell. -/
theorem handle_of {W : World} {l : List (String × DataW Unit)} (h : handlesMet Tryz.prog l W) (hm : ("errors.errorType", Rows.laid_errors_errorType) ∈ l) : W.cell? ⟨0, 0, none⟩ = some (.iface 192 (.agg #[.pointer (some ⟨5, 40, none⟩)])) := by
  obtain ⟨name, u, ty, e1, e2, e3, e4, e5⟩ := h _ hm
  have en : name = [101, 114, 114, 111, 114] := (Option.some.inj e1).symm
  subst en
  obtain rfl := Option.some.inj (Tryz.rt.symm.trans e2)
  have hm : ty ∈ (List.range 366).filter fun t => Tryz.prog.rowNamed t [101, 114, 114, 111, 114] := List.mem_filter.2 ⟨List.mem_range.2 (by rw [← Tryz.size]; exact e3), e4⟩
  rw [Tryz.oneRow] at hm
  obtain rfl := List.mem_singleton.1 hm
  have hh : typeHandle Tryz.prog 40 = .pointer (some ⟨5, 40, none⟩) := by kernel_rfl
  rw [hh] at e5
  simpa using World.var?_cell Tryz.et e5 0

end Go.Proofs.YtkmbleboceedbaaGreatDoor
