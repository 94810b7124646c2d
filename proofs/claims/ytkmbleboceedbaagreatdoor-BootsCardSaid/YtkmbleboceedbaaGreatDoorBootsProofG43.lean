import Derived.Test.YtkmbleboceedbaaGreatDoorBootsProofG42
import Derived.Shelf.SlSortCmp.WholeK
import Derived.Test.YtkmbleboceedbaaGreatDoorBootsProofG37
import Derived.Test.YtkmbleboceedbaaGreatDoorBootsProofG39
/- The files by the bytes of their paths. -/
-- import Derived.Shelf.SlSortCmp.NoneTotal
namespace Go.Proofs.YtkmbleboceedbaaGreatDoor
open Go Go.RowKit
set_option linter.unusedVariables false
set_option linter.unusedSimpArgs false

theorem u8_eq {a b : UInt8} (h1 : ¬ a < b) (h2 : ¬ b < a) : a = b := by
  rw [UInt8.lt_iff_toNat_lt] at h1 h2
  exact UInt8.toNat_inj.1 (by omega)
theorem cmp_less : ∀ a b : List UInt8, (Lib.compareBytes a b < 0) ↔ Op.bytesLess a b = true
  | [], [] => by simp [Lib.compareBytes, Op.bytesLess]
  | [], _ :: _ => by simp [Lib.compareBytes, Op.bytesLess]
  | _ :: _, [] => by simp [Lib.compareBytes, Op.bytesLess]
  | a :: x, b :: y => by
    have ih := cmp_less x y
    unfold Lib.compareBytes Op.bytesLess
    by_cases h1 : a < b
    · simp [h1]
    · by_cases h2 : b < a
      · have h3 : a ≠ b := fun e => by subst e; exact h1 h2
        simp [h1, h2, h3]
      · obtain rfl := u8_eq h1 h2
        simp [h1, ih]
theorem less_irrefl : ∀ a : List UInt8, Op.bytesLess a a = false
  | [] => rfl
  | a :: x => by
    have := less_irrefl x
    unfold Op.bytesLess
    simp [this]
theorem less_trans : ∀ a b c : List UInt8, Op.bytesLess a b = true → Op.bytesLess b c = true → Op.bytesLess a c = true
  | _, [], _, h, _ => by simp [Op.bytesLess] at h
  | _, _ :: _, [], _, h => by simp [Op.bytesLess] at h
  | [], _ :: _, _ :: _, _, _ => by simp [Op.bytesLess]
  | a :: x, b :: y, c :: z, h1, h2 => by
    have ih := less_trans x y z
    unfold Op.bytesLess at h1 h2 ⊢
    simp only [Bool.or_eq_true, decide_eq_true_eq, Bool.and_eq_true, beq_iff_eq] at h1 h2 ⊢
    rcases h1 with h1 | ⟨rfl, h1⟩
    · rcases h2 with h2 | ⟨rfl, h2⟩
      · left; rw [UInt8.lt_iff_toNat_lt] at *; omega
      · exact .inl h1
    · rcases h2 with h2 | ⟨rfl, h2⟩
      · exact .inl h2
      · exact .inr ⟨rfl, ih h1 h2⟩
theorem less_total : ∀ a b : List UInt8, Op.bytesLess a b = false → Op.bytesLess b a = false → a = b
  | [], [], _, _ => rfl
  | [], _ :: _, h, _ => by simp [Op.bytesLess] at h
  | _ :: _, [], _, h => by simp [Op.bytesLess] at h
  | a :: x, b :: y, h1, h2 => by
    have ih := less_total x y
    unfold Op.bytesLess at h1 h2
    simp only [Bool.or_eq_false_iff, decide_eq_false_iff_not, Bool.and_eq_false_iff, beq_eq_false_iff_ne] at h1 h2
    obtain rfl := u8_eq h1.1 h2.1
    rw [ih (by rcases h1.2 with q | q; exact absurd rfl q; exact q) (by rcases h2.2 with q | q; exact absurd rfl q; exact q)]
theorem less_ntrans (a b c : List UInt8) (h1 : Op.bytesLess a b = false) (h2 : Op.bytesLess b c = false) : Op.bytesLess a c = false := by
  cases h : Op.bytesLess a c with
  | false => rfl
  | true =>
    cases hcb : Op.bytesLess c b with
    | true => rw [less_trans a c b h hcb] at h1; cases h1
    | false =>
      obtain rfl := less_total b c h2 hcb
      rw [h1] at h
      cases h
def pathB (p : PK) (j : Nat) : List UInt8 := (fileAt p j).path.data.toList
def lePath (p : PK) (i j : Nat) : Bool := !Op.bytesLess (pathB p j) (pathB p i)
/-- The nodes but the root, by the bytes of their paths. -/
def IL0 (p : PK) : List Nat := (List.range' 1 (p.xs.length - 1)).mergeSort (lePath p)
def FL0 (p : PK) : List PFile := (IL0 p).map (fileAt p)
theorem pathB_inj {p : PK} (hi : PInv p) {i j : Nat} (h1 : i < p.xs.length) (h2 : j < p.xs.length) (h : pathB p i = pathB p j) : i = j := by
  have e : ∀ k (hk : k < p.xs.length), pathB p k = (pathOf p.xs (p.xs[k]).id).data.toList := fun k hk => by
    unfold pathB fileAt
    rw [List.getElem?_eq_getElem hk]
  rw [e i h1, e j h2] at h
  exact path_inj hi i j _ _ (List.getElem?_eq_getElem h1) (List.getElem?_eq_getElem h2) h
theorem IL0_perm (p : PK) : (IL0 p).Perm (List.range' 1 (p.xs.length - 1)) := List.mergeSort_perm _ _
theorem IL0_sorted (p : PK) : (IL0 p).Pairwise (fun i j => lePath p i j = true) := by
  refine List.pairwise_mergeSort (fun a b c h1 h2 => ?_) (fun a b => ?_) _
  · unfold lePath at *
    simp only [Bool.not_eq_true'] at *
    exact less_ntrans _ _ _ h2 h1
  · unfold lePath
    cases h1 : Op.bytesLess (pathB p b) (pathB p a) with
    | false => simp
    | true =>
      cases h2 : Op.bytesLess (pathB p a) (pathB p b) with
      | false => simp
      | true =>
        have := less_trans _ _ _ h1 h2
        rw [less_irrefl] at this
        cases this
theorem IL0_mem {p : PK} {j : Nat} : j ∈ IL0 p ↔ 1 ≤ j ∧ j < p.xs.length := by
  rw [(IL0_perm p).mem_iff, List.mem_range'_1]
  omega
theorem IL0_nodup (p : PK) : (IL0 p).Nodup := (IL0_perm p).symm.nodup (List.nodup_range' (h := by decide))
theorem IL0_length {p : PK} : (IL0 p).length = p.xs.length - 1 := by rw [(IL0_perm p).length_eq, List.length_range']
/-- Sorted, and of all nodes but the root: there is one such list. -/
theorem IL0_uniq {p : PK} (hi : PInv p) {IL : List Nat} (hn : IL.Nodup) (hm : ∀ j, j ∈ IL ↔ 1 ≤ j ∧ j < p.xs.length) (hs : IL.Pairwise (fun i j => lePath p i j = true)) : IL = IL0 p := by
  refine List.Perm.eq_of_pairwise (le := fun i j => lePath p i j = true) (fun a b ha hb h1 h2 => ?_) hs (IL0_sorted p) ((List.perm_ext_iff_of_nodup hn (IL0_nodup p)).2 (fun j => by rw [hm, IL0_mem]))
  unfold lePath at h1 h2
  simp only [Bool.not_eq_true'] at h1 h2
  exact pathB_inj hi ((hm a).1 ha).2 (IL0_mem.1 hb).2 (less_total _ _ h2 h1)
theorem count_tree {p : PK} (hi : PInv p) {x0 : Ino} (h0 : p.xs[0]? = some x0) (h01 : x0.id = 1) : countTo p.xs p.xs.length = p.xs.length - 1 := by
  unfold countTo
  rw [List.take_length]
  have hne : ∀ (j : Nat) (y : Ino), p.xs[j]? = some y → 0 < j → inTree y = true := by
    intro j y hy hj
    unfold inTree
    have : y.parent ≠ 0 := fun e => by
      have h1 := (hi.root1 y (List.mem_of_getElem? hy) e).1
      have := idx_eq hi.incr h0 hy (by omega)
      omega
    simpa using this
  have h00 : inTree x0 = false := by
    unfold inTree
    have : x0.parent = 0 := by
      have := hi.down x0 (List.mem_of_getElem? h0)
      apply Classical.byContradiction
      intro q
      obtain ⟨m, x, hm, hx, _, hk⟩ := parent_at hi h0 q
      have := hk.lt hi
      omega
    simp [this]
  cases hx : p.xs with
  | nil => rfl
  | cons a r =>
    rw [hx] at h0 hne
    have e : a = x0 := by simpa using h0
    subst e
    rw [List.filter_cons_of_neg (by rw [h00]; decide), List.filter_eq_self.2 (fun y hy => ?_)]
    · simp
    · obtain ⟨j, hj⟩ := List.mem_iff_getElem?.1 hy
      exact hne (j + 1) y (by simpa using hj) (by omega)
theorem lastOf_map {IL : List Nat} {p : PK} {m j : Nat} (h : IL[m]? = some j) : lastOf (IL.map (fileAt p)) (m + 1) = (fileAt p j).path := by
  show (match (IL.map (fileAt p))[m]? with | some f => f.path | none => ByteArray.empty) = _
  rw [List.getElem?_map, h]
  rfl
theorem FL0_tells {p : PK} (hi : PInv p) {x0 : Ino} (h0 : p.xs[0]? = some x0) (h01 : x0.id = 1) : Tells p.xs p.cs (FL0 p) := by
  refine ⟨fun i x c hx hc hp => ?_, ?_, fun m f hf => ?_⟩
  · have hil := (List.getElem?_eq_some_iff.1 hx).1
    have hi0 : 1 ≤ i := by
      apply Classical.byContradiction
      intro q
      have e : i = 0 := by omega
      subst e
      obtain ⟨m, y, hm, _, _, hk⟩ := parent_at hi hx hp
      have := hk.lt hi
      omega
    obtain ⟨J, hJ⟩ := List.mem_iff_getElem?.1 (IL0_mem.2 ⟨hi0, hil⟩)
    refine ⟨J, ?_, fun j f hf he => ?_⟩
    · unfold FL0
      rw [List.getElem?_map, hJ]
      show some (fileAt p i) = _
      rw [fileAt_eq hx hc]
    · unfold FL0 at hf
      rw [List.getElem?_map] at hf
      obtain ⟨k, hk, rfl⟩ := Option.map_eq_some_iff.1 hf
      have hkm := IL0_mem.1 (List.mem_of_getElem? hk)
      have e1 : pathB p k = pathB p i := by
        unfold pathB
        rw [ByteArray.toList_eq, ByteArray.toList_eq] at he
        have := eq_of_beq he
        rw [this, fileAt_eq hx hc]
      have e2 := pathB_inj hi hkm.2 hil e1
      subst e2
      obtain ⟨a1, a2⟩ := List.getElem?_eq_some_iff.1 hk
      obtain ⟨b1, b2⟩ := List.getElem?_eq_some_iff.1 hJ
      exact (List.getElem_inj (IL0_nodup p)).1 (a2.trans b2.symm)
  · rw [count_tree hi h0 h01]
    unfold FL0
    rw [List.length_map, IL0_length]
  · unfold FL0 at hf ⊢
    rw [List.getElem?_map] at hf
    obtain ⟨k, hk, rfl⟩ := Option.map_eq_some_iff.1 hf
    have hkm := IL0_mem.1 (List.mem_of_getElem? hk)
    rw [ByteArray.toList_eq, ByteArray.toList_eq]
    cases m with
    | zero =>
      show Op.bytesLess (fileAt p k).path.data.toList [] = false ∧ ((fileAt p k).path.data.toList == []) = false
      refine ⟨by cases (fileAt p k).path.data.toList <;> rfl, ?_⟩
      obtain ⟨y, hy⟩ : ∃ y, p.xs[k]? = some y := ⟨_, List.getElem?_eq_getElem hkm.2⟩
      have hyp : y.parent ≠ 0 := fun e => by
        have h1 := (hi.root1 y (List.mem_of_getElem? hy) e).1
        have := idx_eq hi.incr h0 hy (by omega)
        omega
      have : (fileAt p k).path = pathOf p.xs y.id := by unfold fileAt; rw [hy]
      rw [this, path_list hi hy hyp]
      simp
    | succ m =>
      obtain ⟨j, hj⟩ : ∃ j, (IL0 p)[m]? = some j := ⟨_, List.getElem?_eq_getElem (by have := (List.getElem?_eq_some_iff.1 hk).1; omega)⟩
      rw [lastOf_map hj]
      obtain ⟨a1, a2⟩ := List.getElem?_eq_some_iff.1 hj
      obtain ⟨b1, b2⟩ := List.getElem?_eq_some_iff.1 hk
      have hle := List.pairwise_iff_getElem.1 (IL0_sorted p) m (m + 1) a1 b1 (by omega)
      rw [a2, b2] at hle
      unfold lePath at hle
      simp only [Bool.not_eq_true'] at hle
      refine ⟨hle, ?_⟩
      rw [beq_eq_false_iff_ne]
      intro e
      have hjm := IL0_mem.1 (List.mem_of_getElem? hj)
      have := pathB_inj hi hkm.2 hjm.2 e
      subst this
      have := (List.getElem_inj (IL0_nodup p)).1 (a2.trans b2.symm)
      omega
end Go.Proofs.YtkmbleboceedbaaGreatDoor

/- tinyoslaw: Boots, out of what the program's calls answer. -/
namespace Go.Proofs.YtkmbleboceedbaaGreatDoor
open Go.RowKit
set_option linter.unusedVariables false
set_option linter.unusedSimpArgs false

theorem erase_id (x : Ino) : (erase x).id = x.id := rfl
theorem pathGo_erase (xs : List Ino) : ∀ (n : Nat) (id : Int) (t : ByteArray), pathGo (xs.map erase) n id t = pathGo xs n id t
  | 0, _, _ => rfl
  | n + 1, id, t => by
    unfold pathGo
    split
    · rfl
    · rw [List.find?_map, show (fun x : Ino => x.id == id) ∘ erase = (fun x : Ino => x.id == id) from rfl]
      cases xs.find? (fun x => x.id == id) with
      | none => rfl
      | some x => exact pathGo_erase xs n x.parent _
theorem pathOf_erase (xs : List Ino) (id : Int) : pathOf (xs.map erase) id = pathOf xs id := pathGo_erase xs _ _ _
theorem countTo_erase (xs : List Ino) (n : Nat) : countTo (xs.map erase) n = countTo xs n := by
  unfold countTo
  rw [← List.map_take, List.filter_map, List.length_map]
  rfl
theorem tells_erase {xs : List Ino} {cs : List (List Int)} {FL : List PFile} (h : Tells (xs.map erase) cs FL) : Tells xs cs FL := by
  refine ⟨fun i x c hx hc hp => ?_, ?_, h.sorted⟩
  · obtain ⟨J, h1, h2⟩ := h.each i (erase x) c (by rw [List.getElem?_map, hx]; rfl) hc hp
    rw [pathOf_erase] at h1 h2
    exact ⟨J, h1, h2⟩
  · have := h.count
    rw [List.length_map, countTo_erase] at this
    exact this
theorem treeInv_erase {xs : List Ino} (h : TreeInv (xs.map erase)) : TreeInv xs := by
  refine ⟨fun x hx => h.down (erase x) (List.mem_map.2 ⟨x, hx, rfl⟩), fun x hx hp => ?_, fun x hx => h.names (erase x) (List.mem_map.2 ⟨x, hx, rfl⟩)⟩
  obtain ⟨y, hy, he⟩ := h.there (erase x) (List.mem_map.2 ⟨x, hx, rfl⟩) hp
  obtain ⟨z, hz, rfl⟩ := List.mem_map.1 hy
  exact ⟨z, hz, he⟩
def twoPgs (R : List Int) : List Pg := [⟨254, 6, R.take 256⟩, ⟨255, 6, R.drop 256⟩]
theorem twoPgs_ok (R : List Int) (h : R.length = 512) : ∀ p ∈ twoPgs R, 0 ≤ p.perm ∧ p.perm ≤ 255 ∧ p.bytes.length = 256 := by
  intro p hp
  simp only [twoPgs, List.mem_cons, List.mem_nil_iff, or_false] at hp
  rcases hp with rfl | rfl
  · exact ⟨show (0 : Int) ≤ 6 by decide, show (6 : Int) ≤ 255 by decide, by simp [h]⟩
  · exact ⟨show (0 : Int) ≤ 6 by decide, show (6 : Int) ≤ 255 by decide, by simp [h]⟩
/-- Process 1 behind Boot. -/
def initProc (p : PK) : AP := ⟨1, 0, 0, 0, 0, numAt (p.fileOf initPath) 24 8, List.replicate 15 0 ++ [65024 + (spOff [initArg] : Int)], outPgs (p.fileOf initPath) ++ twoPgs (stackRoom [initArg]), [-1, -1, -1, 0, 0, 0, 0, 0]⟩
theorem refRow_two (PS : List Pg) (R : List Int) : refRow (PS ++ twoPgs R) = refRow PS ++ refPagesTo R 2 := by
  unfold refRow
  rw [List.flatMap_append]
  congr 1
  show refPage 254 6 (R.take 256) ++ (refPage 255 6 (R.drop 256) ++ []) = refPage 254 6 (R.take 256) ++ refPage 255 6 (R.drop 256)
  rw [List.append_nil]
theorem initProc_row (E : Int) (sp : Int) (pv : Value) : procExec proc1 0 pv E sp = refProc 1 0 0 0 0 E (List.replicate 15 0 ++ [sp]) pv [-1, -1, -1, 0, 0, 0, 0, 0] := rfl
theorem initProc_ok {p : PK} (h : p.ExecOk [0] 0 initPath [initArg]) (hl : (outPgs (p.fileOf initPath)).length ≤ 256) : APOk (initProc p) := by
  refine ⟨by simp [initProc], fun q hq => ?_, ?_⟩
  · rcases List.mem_append.1 hq with h1 | h1
    · exact outPgs_ok h.2.2.2.1 q h1
    · exact twoPgs_ok _ (stackRoom_length h.2.2.2.2.1) q h1
  · simp [initProc, twoPgs]; omega
theorem booted_procs {p : PK} {w w' : World} {k : RK} {cs : List (List Int)} {g cap gp pc gn cn : Nat} (h : BootedAt p w w' k cs g cap gp pc gn cn) : RefProcs w' w'.heap.size gp [initProc p] := by
  have hgp := h.procs.lt gp rfl
  have hgn := h.pages.lt gn rfl
  refine ⟨fun _ => hgp.2, fun i q hq => ?_⟩
  have hi := (List.getElem?_eq_some_iff.1 hq).1
  have hi0 : i = 0 := by simp at hi; omega
  subst hi0
  have e : initProc p = q := by simpa using hq
  subst e
  have hlen : (outPgs (p.fileOf initPath) ++ twoPgs (stackRoom [initArg])).length = (outPgs (p.fileOf initPath)).length + 2 := by simp [twoPgs]
  refine ⟨some ⟨gn, 0, none⟩, gn, cn, fun j v hv => ?_, fun _ => ⟨rfl, hgn.2⟩, ?_⟩
  · have hj := (List.getElem?_eq_some_iff.1 hv).1
    have hr := h.procs
    rw [initProc_row] at hr
    rw [Nat.zero_mul, Nat.zero_add, hr.cellAt j (by exact hj)]
    have : (initProc p).PS.length = (outPgs (p.fileOf initPath)).length + 2 := hlen
    rw [this] at hv
    exact hv
  · refine ref_at (fun q hq => ?_) (base := w.heap.size + 2) (gc := cn) ?_
    · rcases List.mem_append.1 hq with h1 | h1
      · exact (outPgs_ok h.ok.2.2.2.1 q h1).2.2
      · exact (twoPgs_ok _ (stackRoom_length h.ok.2.2.2.2.1) q h1).2.2
    · show w'.ownsRow _ _ _ (.slice (some ⟨gn, 0, none⟩) (outPgs (p.fileOf initPath) ++ twoPgs (stackRoom [initArg])).length cn) (outPgs (p.fileOf initPath) ++ twoPgs (stackRoom [initArg])).length (refRow (outPgs (p.fileOf initPath) ++ twoPgs (stackRoom [initArg])))
      rw [hlen, refRow_two]
      exact h.pages
theorem outPgs_len {B : List Int} (h : Good B) : (outPgs B).length ≤ 256 := refPgs_len (fun q hq => h.2.2.1 q hq)
def pagesOf (p : PK) : List Nat := [(outPgs (p.fileOf initPath)).length + 2]
/-- What the program's calls on a kernel that Boot gave must answer. -/
structure ProgApi (KR : World → Nat → Addr → PK → Prop) : Prop where
  stable : Stable KR
  procs : ∀ (w : World) (B : Nat) (kp : Addr) (p : PK), KR w B kp p → p.ExecOk [0] 0 initPath [initArg] → Calls Tryz.prog 18 #[.pointer (some kp)] w (ProcsPost w [] [initProc p])
  files : ∀ (w : World) (B : Nat) (kp : Addr) (p : PK), KR w B kp p → ∃ FL, Calls Tryz.prog 20 #[.pointer (some kp)] w (FilesPost w FL) ∧ Tells p.xs p.cs FL ∧ ∀ f ∈ FL, f.bytes.length ≤ 1000000
  used : ∀ (w : World) (B : Nat) (kp : Addr) (p : PK), KR w B kp p → p.ExecOk [0] 0 initPath [initArg] → Calls Tryz.prog 23 #[.pointer (some kp)] w fun e w2 => e = .returned (.agg (limRow (pagesOf p).length (pagesOf p).sum 0 p.xs.length (usedOf p.cs)).toArray) ∧ Below w.heap.size w w2
  console : ∀ (w : World) (B : Nat) (kp : Addr) (p : PK), KR w B kp p → Calls Tryz.prog 9 #[.pointer (some kp)] w fun e w2 => (∃ a c, e = .returned (.slice a 0 c)) ∧ Below w.heap.size w w2
theorem booted_pages {p : PK} {w w' : World} {k : RK} {cs : List (List Int)} {g cap gp pc gn cn : Nat} (h : BootedAt p w w' k cs g cap gp pc gn cn) : PagesAt w' k.pv (pagesOf p) :=
  pages_at (PR := procExec proc1 0 (.slice (some ⟨gn, 0, none⟩) ((outPgs (p.fileOf initPath)).length + 2) cn) (numAt (p.fileOf initPath) 24 8) (65024 + (spOff [initArg] : Int))) ⟨rfl, fun j n hn => by
    match j, hn with
    | 0, hn =>
      have e : (outPgs (p.fileOf initPath)).length + 2 = n := by simpa [pagesOf] using hn
      subst e
      exact ⟨some ⟨gn, 0, none⟩, cn, rfl⟩⟩ h.pv h.procs
theorem small_sum {FS : List PFile} (h : isSmall FS = true) : FS.length ≤ 100 ∧ (FS.map (fun f => f.bytes.length)).sum ≤ 200000 := by
  unfold isSmall at h
  simp only [Bool.and_eq_true, decide_eq_true_eq] at h
  refine ⟨h.1, Nat.le_trans ?_ h.2⟩
  clear h
  induction FS with
  | nil => simp
  | cons a r ih => simp [fileWeight] at ih ⊢; omega

set_option maxRecDepth 100000 in
set_option maxHeartbeats 8000000 in
theorem boots_law (lp lf lo li lb : Int) (fa : Option Addr) (fb foff fcap : Nat) (FS : List PFile) (LS : List FLoc) (w : World) (hfa : 0 < FS.length → fa = some ⟨fb, foff, none⟩ ∧ fb < w.heap.size) (hf : FilesInL w fb foff FS LS) (hb : ∀ f ∈ FS, f.path.size ≤ 140737488355328 ∧ f.bytes.length ≤ 140737488355328) (hl : FS.length ≤ 140737488355328) (hby : ∀ f ∈ FS, IsBytes f.bytes)
    (hg : w.cell? ⟨0, 0, none⟩ = some (.iface 192 (.agg #[.pointer (some ⟨5, 40, none⟩)]))) (hge : 0 < w.heap.size) (KR : World → Nat → Addr → PK → Prop) (api : ProgApi KR)
    (hlives : ∀ w', Below w.heap.size w w' → Calls Tryz.prog 4 #[] w' fun e w'' => e = .returned (.bool true) ∧ Below w'.heap.size w' w'')
    (hprog : FS.length ≤ 100 → (FS.map (fun f => f.bytes.length)).sum ≤ 200000 → ∀ (w' : World) (va : Option Addr) (vb vcap : Nat) (LS' : List FLoc), Below w.heap.size w w' → (0 < FS.length → va = some ⟨vb, 0, none⟩ ∧ vb < w'.heap.size) → FilesInL w' vb 0 FS LS' → Calls Tryz.prog 10 #[.agg #[.int .i64 lp, .int .i64 lf, .int .i64 lo, .int .i64 li, .int .i64 lb], .slice va FS.length vcap] w' (ProgBoot lp lf lo li lb FS KR w'))
    (htree : TreeInv ((boot0 lp lf lo li lb).puts FS).2.xs) :
    Calls Tryz.prog 3 #[.agg #[.int .i64 lp, .int .i64 lf, .int .i64 lo, .int .i64 li, .int .i64 lb, .slice fa FS.length fcap]] w fun e w' => e = .returned (.bool true) ∧ Below w.heap.size w w' := by
  obtain ⟨W0, hW0⟩ : ∃ W0, W0 = w.alloc (Obj.cells #[.int .i64 lp, .int .i64 lf, .int .i64 lo, .int .i64 li, .int .i64 lb, .slice fa FS.length fcap] 26) := ⟨_, rfl⟩
  have hb0 : Below w.heap.size w W0 := by rw [hW0]; exact (Below.refl _ _).alloc (Nat.le_refl _) _
  have hs0 : Holds W0 w.heap.size 26 [.int .i64 lp, .int .i64 lf, .int .i64 lo, .int .i64 li, .int .i64 lb, .slice fa FS.length fcap] := by rw [hW0]; exact Holds.new w 26 _
  have HFB := hide (show ∀ w', Below w.heap.size w w' → FilesInL w' fb foff FS LS from fun w' h => ⟨hf.len, fun i f l hi hli => by
    obtain ⟨x0, x1, x2, x3, x4⟩ := hf.at_ i f l hi hli
    have h0 : 0 < FS.length := by have := (List.getElem?_eq_some_iff.1 hi).1; omega
    have hfb := (hfa h0).2
    refine ⟨by rw [h.cell (p := ⟨fb, foff + i * 3, none⟩) hfb]; exact x0, by rw [h.cell (p := ⟨fb, foff + i * 3 + 1, none⟩) hfb]; exact x1, by rw [h.cell (p := ⟨fb, foff + i * 3 + 2, none⟩) hfb]; exact x2, fun q => ⟨(x3 q).1, by have := (x3 q).2; have := h.size; omega⟩, fun j hj => ?_⟩
    rw [h.cell (p := ⟨l.q, l.o + j, none⟩) (x3 (by omega)).2]; exact x4 j hj⟩)
  have HFA := hide (show ∀ w', Below w.heap.size w w' → 0 < FS.length → fa = some ⟨fb, foff, none⟩ ∧ fb < w'.heap.size from fun w' h h0 => ⟨(hfa h0).1, by have := (hfa h0).2; have := h.size; omega⟩)
  have HBB := hide hb
  have HBY := hide hby
  have HG := hide hg
  have HPR := hide hprog
  have HTR := hide htree
  have HAPI := hide api
  have HLV := hide hlives
  have HB0 := hide hb0
  have HS0 := hide hs0
  have HW0 := hide hW0
  clear hf hfa hb hby hg hprog htree api hlives hb0 hs0 hW0
  go_enter Tryz.func3, Tryz.ntmps3
  go_upto_region 1 with fail
  rw [← unhide HW0]
  go_wp2_with fail
  refine (unhide HLV W0 (unhide HB0)).mono ?_
  rintro e w1 ⟨rfl, hb1⟩
  have HS1 := hide ((unhide HS0).below hb1 (unhide HS0).lt)
  have HB1 := hide ((unhide HB0).trans (hb1.mono (unhide HB0).size))
  have c0 := (unhide HS1).cell (j := 0) rfl
  have c1 := (unhide HS1).cell (j := 1) rfl
  have c2 := (unhide HS1).cell (j := 2) rfl
  have c3 := (unhide HS1).cell (j := 3) rfl
  have c4 := (unhide HS1).cell (j := 4) rfl
  have c5 := (unhide HS1).cell (j := 5) rfl
  have HSM := hide (small_nil lp lf lo li lb fa fb foff fcap FS w1 (fun h => (unhide HFA w1 (unhide HB1) h).1) (fun h => (unhide HFA w1 (unhide HB1) h).2) (unhide HFB w1 (unhide HB1)).in (unhide HBB) hl)
  clear hb1 HLV
  go_wp2_with fail
  refine (unhide HSM).mono ?_
  rintro e w2 ⟨rfl, hb2⟩
  have HS2 := hide ((unhide HS1).below hb2 (unhide HS1).lt)
  have HB2 := hide ((unhide HB1).trans (hb2.mono (unhide HB1).size))
  clear c0 c1 c2 c3 c4 c5 hb2 HSM
  cases hsm : isSmall FS with
  | false =>
    go_wp2
    go_ret
    exact ⟨rfl, unhide HB2⟩
  | true =>
    obtain ⟨hn, hsum⟩ := small_sum hsm
    have c0 := (unhide HS2).cell (j := 0) rfl
    have c1 := (unhide HS2).cell (j := 1) rfl
    have c2 := (unhide HS2).cell (j := 2) rfl
    have c3 := (unhide HS2).cell (j := 3) rfl
    have c4 := (unhide HS2).cell (j := 4) rfl
    have c5 := (unhide HS2).cell (j := 5) rfl
    have HBT := hide (boot_law lp lf lo li lb fa fb foff fcap FS LS w2 (unhide HFA w2 (unhide HB2)) (unhide HFB w2 (unhide HB2)) hn hsum (fun f hf => ⟨by have := (unhide HBB f hf).1; unfold maxLen; omega, unhide HBY f hf⟩) (by rw [(unhide HB2).cell (p := ⟨0, 0, none⟩) hge]; exact unhide HG) (by have := (unhide HB2).size; omega) KR (unhide HAPI).stable (fun w' va vb vcap LS' h => unhide HPR hn hsum w' va vb vcap LS' ((unhide HB2).trans (h.mono (unhide HB2).size))))
    clear hsm
    go_wp2_with fail
    refine (unhide HBT).mono ?_
    rintro e w3 ⟨hb3, (⟨c, wp, hc, rfl⟩ | ⟨hgood, wb, B, kp, W, k, cs, g, cap, gp, pc, gn, cn, rfl, hwb, hwr, hkr, hWs, hbt⟩)⟩
    · have HB3 := hide ((unhide HB2).trans (hb3.mono (unhide HB2).size))
      have hc0 : (c != 0) = true := by simpa using hc
      clear hc hb3 c0 c1 c2 c3 c4 c5
      go_wp2
      go_ret
      exact ⟨rfl, unhide HB3⟩
    · have hok := hbt.ok
      have hwl := hwr.lt
      have HB3 := hide ((unhide HB2).trans (hb3.mono (unhide HB2).size))
      have HPX := hide (procs_any wb (W.heap.size + 1) (some kp) (some ⟨gp, 0, none⟩) gp pc none 0 0 [] [initProc ((boot0 lp lf lo li lb).puts FS).2] w3 (hwr.cell (j := 0) rfl) (hwr.cell (j := 1) rfl) (by have := hbt.rep.1.cell (j := 5) rfl; rw [hbt.pv] at this; exact this) (fun _ => rfl) (booted_procs hbt) (by have := hbt.rep.1.cell (j := 6) rfl; rw [hbt.nils.1] at this; exact this) (fun h => by simp at h) (fun j v hv => by simp [obRow] at hv) (by simp) (by simp) (fun q hq => by
        have : q = initProc ((boot0 lp lf lo li lb).puts FS).2 := by simpa using hq
        subst this
        exact initProc_ok hok (outPgs_len hok.2.2.2.1)) hwl hbt.rep.1.lt ((unhide HAPI).procs w3 B kp _ hkr hok))
      have HWR := hide hwr
      have HKR := hide hkr
      have HBTT := hide hbt
      have HOK := hide hok
      clear hwr hkr hbt hb3 hgood hwb hWs hok c0 c1 c2 c3 c4 c5
      go_wp2_with fail
      refine (unhide HPX).mono ?_
      rintro e w4 ⟨rfl, hb4⟩
      have hst := (unhide HAPI).stable
      have hkr4 := hst _ _ _ _ _ (unhide HKR) hb4.size (fun q _ hq => hb4.block q hq)
      have hbt4 := (unhide HBTT).below hb4
      have hwr4 := (unhide HWR).below hb4 hwl
      obtain ⟨FL, hfl, htl, hfs⟩ := (unhide HAPI).files w4 B kp _ hkr4
      have hP := hbt4.toP
      have hxs : ((boot0 lp lf lo li lb).puts FS).2.xs = k.inos.map erase := by rw [← hP]; rfl
      have hcs : ((boot0 lp lf lo li lb).puts FS).2.cs = cs := by rw [← hP]; rfl
      rw [hxs, hcs] at htl
      have htr := unhide HTR
      rw [hxs] at htr
      have hin := hbt4.inos
      have hla := hbt4.last
      have HFX := hide (files_any wb (W.heap.size + 2) (W.heap.size + 1) g cap (some kp) k cs (pagesOf ((boot0 lp lf lo li lb).puts FS).2) none 0 0 FL w4 (hwr4.cell (j := 0) rfl) (hwr4.cell (j := 1) rfl) hwr4.lt hbt4.rep hbt4.cont (treeInv_erase htr) (by omega) (fun x hx => by have := hbt4.inv.1 x hx; omega) (by have := hbt4.used; omega) hfl (tells_erase htl) hfs (booted_pages hbt4) hbt4.nils.1 (by simp [pagesOf]) (by have := outPgs_len (unhide HOK).2.2.2.1; simp [pagesOf]; omega) (fun w' h => by
        have hu := (unhide HAPI).used w' B kp _ (hst _ _ _ _ _ hkr4 h.size (fun q _ hq => h.block q hq)) (unhide HOK)
        rw [hxs, hcs, List.length_map] at hu
        exact hu))
      have HB4 := hide ((unhide HB3).trans (hb4.mono (unhide HB3).size))
      have HKR4 := hide hkr4
      have HWR4 := hide hwr4
      clear hb4 hkr4 hbt4 hwr4 hfl htl hfs hP hxs hcs htr hin hla hst HPX HBTT HKR HWR
      go_wp2_with fail
      refine (unhide HFX).mono ?_
      rintro e w5 ⟨rfl, hb5⟩
      have hwr5 := (unhide HWR4).below hb5 (unhide HWR4).lt
      have hkr5 := (unhide HAPI).stable _ _ _ _ _ (unhide HKR4) hb5.size (fun q _ hq => hb5.block q hq)
      have HB5 := hide ((unhide HB4).trans (hb5.mono (unhide HB4).size))
      have x0 := hwr5.cell (j := 0) rfl
      have HCX := hide ((unhide HAPI).console w5 B kp _ hkr5)
      clear hb5 hwr5 hkr5 HFX
      go_wp2_with fail
      refine (unhide HCX).mono ?_
      rintro e w6 ⟨⟨a6, c6, rfl⟩, hb6⟩
      have HB6 := hide ((unhide HB5).trans (hb6.mono (unhide HB5).size))
      clear hb6 x0 HCX
      go_wp2
      go_ret
      exact ⟨rfl, unhide HB6⟩
end Go.Proofs.YtkmbleboceedbaaGreatDoor
