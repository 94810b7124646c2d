import Derived.Test.YtjkpeelijbeekaaGreatDoorBootsProofG48
import Derived.Test.YtjkpeelijbeekaaGreatDoorBootsProofG49
import Derived.Shelf.SlSortCmp.NoneTotal
/- The program's Files: the walk; all that the law Boots asks of the program. -/
namespace Go.Proofs.YtjkpeelijbeekaaGreatDoor
open Go Go.RowKit Go.Maps
set_option linter.unusedVariables false
set_option linter.unusedSimpArgs false

theorem FilesPost.heap {w w0 : World} {FL : List PFile} {e : Ending} {w' : World} (h : FilesPost w0 FL e w') (hb : Below w.heap.size w w0) : FilesPost w FL e w' := by
  obtain ⟨aa, ag, ac, LS, h1, h2, h3, h4⟩ := h
  refine ⟨aa, ag, ac, LS, h1, h2, hb.trans (h3.mono hb.size), h4.len, fun i f l hi hf hl => ?_, h4.apart⟩
  obtain ⟨c1, c2, c3, c4, c5, c6⟩ := h4.at_ i f l hi hf hl
  exact ⟨c1, c2, c3, fun q => ⟨(c4 q).1, by have := (c4 q).2.1; have := hb.size; omega, (c4 q).2.2.1, (c4 q).2.2.2⟩, c5, c6⟩
theorem FilesPost.val {w : World} {FL : List PFile} {e : Ending} {w' : World} (h : FilesPost w FL e w') : ∃ a n c, e = .returned (.slice a n c) := by
  obtain ⟨aa, ag, ac, LS, h1, _⟩ := h
  exact ⟨_, _, _, h1⟩
set_option maxRecDepth 100000 in
set_option maxHeartbeats 2000000 in
theorem treeFiles_any (p : PK) (hi : PInv p) (B tb ab am : Nat) (NB MB : List Nat) (V : List Value) (hxl : p.xs.length ≤ 100000) (hcl : ∀ c ∈ p.cs, c.length ≤ 1000000) (w : World) (hr : BootRep w B tb ab am p NB MB V) :
    Calls Tryz.prog 53 #[.pointer (some ⟨tb, 0, none⟩)] w (FilesPost w (FL0 p)) := by
  haveI hinh : Inhabited FLoc := ⟨⟨none, 0, 0, 0⟩⟩
  have hne : p.xs ≠ [] := by obtain ⟨x, hx, _⟩ := hi.root; intro e; rw [e] at hx; cases hx
  obtain ⟨x0, h0, h01, h0d⟩ := hr.tree.root hne
  have h0l := (List.getElem?_eq_some_iff.1 h0).1
  obtain ⟨b0, hb0⟩ : ∃ b0, NB[0]? = some b0 := ⟨_, List.getElem?_eq_getElem (by rw [hr.tree.len.1]; exact h0l)⟩
  have c0 : w.cell? ⟨tb, 0, none⟩ = some (.pointer (some ⟨ab, 0, none⟩)) := hr.tree.tree.cell rfl
  have c2 : w.cell? ⟨ab, 3, none⟩ = some (.map (some am)) := hr.tree.above.cell rfl
  have hlk : (Instr.lookup 228 (.map (some am)) (.string ⟨#[]⟩) false).run Tryz.prog w = .ok (.pointer (some ⟨b0, 0, none⟩)) w := by
    have h := hr.tree.amap.look ByteArray.empty (by unfold maxLen; decide)
    have e : nodePtr (if ByteArray.empty.data.toList = [] then NB[0]? else none) = .pointer (some ⟨b0, 0, none⟩) := by rw [if_pos (show ByteArray.empty.data.toList = [] from rfl), hb0]; rfl
    rw [e] at h
    exact h
  have HLS := hide (list_any p hi B tb ab am NB MB V hxl hcl p.xs.length 0 x0 b0 w hr h0 hb0 (by omega))
  rw [pathOf_root (show x0.id ≤ 1 by omega)] at HLS
  have HI := hide (And.intro hi (And.intro h0 h01))
  clear hr hi hb0 hcl hne h0 h01 h0d
  go_enter Tryz.func53, Tryz.ntmps53
  go_wp2_with fail
  refine (unhide HLS).mono ?_
  rintro e w1 ⟨v1, EL, rfl, hrep, hnd, hmem, hb1⟩
  obtain ⟨hi, h0, h01⟩ := unhide HI
  clear c0 c2 hlk HLS
  by_cases hE : EL = []
  · subst hE
    obtain rfl := hrep.nil rfl
    have hFL : FL0 p = [] := by
      have hl : (IL0 p) = [] := by
        apply List.eq_nil_iff_forall_not_mem.2
        intro j hj
        have := (hmem j).2 ((all_desc hi h0 h01 j).2 (IL0_mem.1 hj))
        simp at this
      unfold FL0
      rw [hl]; rfl
    have HSN := hide (show Calls Tryz.prog 88 #[.slice none 0 0, .func (.func 89) #[] #[]] w1 fun e w' => e = .returned (.tuple #[]) ∧ w' = w1 from AnyF.slices_SortFunc_none { sortFileL with } none 0 _ w1)
    have HP := hide (show FilesPost w (FL0 p) (.returned (.slice none 0 0)) w1 from by
      rw [hFL]
      exact ⟨none, 0, 0, [], rfl, fun h => absurd h (by decide), hb1, rfl, fun i f l _ hf _ => by simp at hf, fun i j f l m hf _ _ _ _ => by simp at hf⟩)
    clear hrep hnd hmem hb1 hi h0 h01 hFL HI
    go_wp2_with fail
    refine (unhide HSN).mono ?_
    rintro e w2 ⟨rfl, hw2⟩
    subst hw2
    clear HSN
    go_wp2
    go_ret
    exact unhide HP
  · obtain ⟨g, c, rfl, hg, hgl⟩ := hrep.row.form (List.length_pos_iff.2 hE)
    have hEl : EL.length ≤ 100000 := by
      have := nodup_len (EL.map Prod.fst) (List.range p.xs.length) hnd (fun k hk => by rw [List.mem_range]; exact ((hmem k).1 hk).bound)
      simp at this
      omega
    have HSF := hide (sortFiles_any p w.heap.size g c EL w1 hrep.row hEl)
    have HREP := hide (And.intro hrep (And.intro hnd (And.intro hmem hb1)))
    obtain ⟨n, hn⟩ : ∃ n, n = EL.length := ⟨_, rfl⟩
    rw [← hn] at HSF ⊢
    have HN := hide hn
    clear hrep hnd hmem hb1 hi h0 h01 hg hgl hEl hE hn
    go_wp2_with fail
    refine (unhide HSF).mono ?_
    rintro e w2 ⟨rfl, EL', hperm, hs, hH, hgr⟩
    have HP := hide (show FilesPost w (FL0 p) (.returned (.slice (some ⟨g, 0, none⟩) n c)) w2 from by
      rw [unhide HN]
      exact files_post (unhide HI).1 (unhide HI).2.1 (unhide HI).2.2 (unhide HREP).1 (unhide HREP).2.1 (unhide HREP).2.2.1 (unhide HREP).2.2.2 hperm hs hH hgr)
    clear hperm hs hH hgr HSF HREP HI
    go_wp2
    go_ret
    exact unhide HP
set_option maxRecDepth 100000 in
set_option maxHeartbeats 1000000 in
theorem kFiles_any (kb tb : Nat) (FL : List PFile) (w : World) (hk : w.cell? ⟨kb, 5, none⟩ = some (.pointer (some ⟨tb, 0, none⟩))) (h : Calls Tryz.prog 53 #[.pointer (some ⟨tb, 0, none⟩)] w (FilesPost w FL)) :
    Calls Tryz.prog 33 #[.pointer (some ⟨kb, 0, none⟩)] w (FilesPost w FL) := by
  have HT := hide h
  clear h
  go_enter Tryz.func33, Tryz.ntmps33
  go_wp2_with fail
  refine (unhide HT).mono ?_
  intro e w1 h1
  obtain ⟨a, n, c, he⟩ := h1.val
  subst he
  have HP := hide h1
  clear h1 hk HT
  go_wp2
  go_ret
  exact unhide HP
set_option maxRecDepth 100000 in
set_option maxHeartbeats 1000000 in
theorem files_top (tk kb tb : Nat) (FL : List PFile) (w : World) (ht : w.cell? ⟨tk, 0, none⟩ = some (.pointer (some ⟨kb, 0, none⟩))) (hk : w.cell? ⟨kb, 5, none⟩ = some (.pointer (some ⟨tb, 0, none⟩))) (h : Calls Tryz.prog 53 #[.pointer (some ⟨tb, 0, none⟩)] w (FilesPost w FL)) :
    Calls Tryz.prog 20 #[.pointer (some ⟨tk, 0, none⟩)] w (FilesPost w FL) := by
  have HT := hide (kFiles_any kb tb FL w hk h)
  clear h hk
  go_enter Tryz.func20, Tryz.ntmps20
  go_wp2_with fail
  refine (unhide HT).mono ?_
  intro e w1 h1
  obtain ⟨a, n, c, he⟩ := h1.val
  subst he
  have HP := hide h1
  clear h1 ht HT
  go_wp2
  go_ret
  exact unhide HP
theorem used_each {cs : List (List Int)} {c : List Int} (h : c ∈ cs) : c.length ≤ usedOf cs := by
  obtain ⟨i, hi⟩ := List.mem_iff_getElem?.1 h
  exact used_ge hi
theorem kr_files (w : World) (B : Nat) (kp : Addr) (p : PK) (h : KR w B kp p) : ∃ FL, Calls Tryz.prog 20 #[.pointer (some kp)] w (FilesPost w FL) ∧ Tells p.xs p.cs FL ∧ ∀ f ∈ FL, f.bytes.length ≤ 1000000 := by
  obtain ⟨tk, kb, tb, ab, am, cb, pm, pb, NB, MB, V, rfl, h2, h3, h4⟩ := h
  have hne : p.xs ≠ [] := by obtain ⟨x, hx, _⟩ := h4.inv.root; intro e; rw [e] at hx; cases hx
  obtain ⟨x0, h0, h01, _⟩ := h4.tree.tree.root hne
  have hcl : ∀ c ∈ p.cs, c.length ≤ 1000000 := fun c hc => by have := used_each hc; have := h4.size.2.1; omega
  refine ⟨FL0 p, files_top tk kb tb (FL0 p) w (h3.cell rfl) (h4.ker.cell rfl) (treeFiles_any p h4.inv B tb ab am NB MB V (by have := h4.size.1; omega) hcl w h4.tree), FL0_tells h4.inv h0 h01, fun f hf => ?_⟩
  obtain ⟨j, _, rfl⟩ := List.mem_map.1 hf
  unfold fileAt
  split
  · show (p.cs.getD j []).length ≤ 1000000
    rw [List.getD_eq_getElem?_getD]
    cases hc : p.cs[j]? with
    | none => simp
    | some c => exact hcl c (List.mem_of_getElem? hc)
  · simp
/-- All that the law asks of the calls on a kernel. -/
theorem prog_api : ProgApi KR := ⟨kr_stable, kr_procs, kr_files, kr_used, kr_console⟩
end Go.Proofs.YtjkpeelijbeekaaGreatDoor
