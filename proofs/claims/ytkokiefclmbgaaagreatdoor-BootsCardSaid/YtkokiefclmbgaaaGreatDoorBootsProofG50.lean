import Derived.Test.YtkokiefclmbgaaaGreatDoorBootsProofG44
import Derived.Shelf.SlSortCmp.WholeK
import Derived.Test.YtkokiefclmbgaaaGreatDoorBootsProofG49
import Derived.Shelf.SlSortCmp.NoneTotal
/- The files by the bytes of their paths. -/
namespace Go.Proofs.YtkokiefclmbgaaaGreatDoor
open Go Go.RowKit
set_option linter.unusedVariables false
set_option linter.unusedSimpArgs false

theorem u8_eq {a b : UInt8} (h1 : ¬ a < b) (h2 : ¬ b < a) : a = b := by
  rw [UInt8.lt_iff_toNat_lt] at h1 h2
  exact UInt8.toNat_inj.1 (by omega)
theorem cmp_less : ∀ a b : List UInt8, (Lib.compareBytes a b < 0) ↔ Op.bytesLess a b = true
  | [], [] => by simp [Lib.compareBytes, Op.bytesLess]
  | [], _ :: _ => by simp [Lib.compareBytes, Op.bytesLess]
  | _ :: _, [] => by simp [Lib.compareBytes, Op.bytesLess]
  | a :: x, b :: y => by
    have ih := cmp_less x y
    unfold Lib.compareBytes Op.bytesLess
    by_cases h1 : a < b
    · simp [h1]
    · by_cases h2 : b < a
      · have h3 : a ≠ b := fun e => by subst e; exact h1 h2
        simp [h1, h2, h3]
      · obtain rfl := u8_eq h1 h2
        simp [h1, ih]
theorem less_irrefl : ∀ a : List UInt8, Op.bytesLess a a = false
  | [] => rfl
  | a :: x => by
    have := less_irrefl x
    unfold Op.bytesLess
    simp [this]
theorem less_trans : ∀ a b c : List UInt8, Op.bytesLess a b = true → Op.bytesLess b c = true → Op.bytesLess a c = true
  | _, [], _, h, _ => by simp [Op.bytesLess] at h
  | _, _ :: _, [], _, h => by simp [Op.bytesLess] at h
  | [], _ :: _, _ :: _, _, _ => by simp [Op.bytesLess]
  | a :: x, b :: y, c :: z, h1, h2 => by
    have ih := less_trans x y z
    unfold Op.bytesLess at h1 h2 ⊢
    simp only [Bool.or_eq_true, decide_eq_true_eq, Bool.and_eq_true, beq_iff_eq] at h1 h2 ⊢
    rcases h1 with h1 | ⟨rfl, h1⟩
    · rcases h2 with h2 | ⟨rfl, h2⟩
      · left; rw [UInt8.lt_iff_toNat_lt] at *; omega
      · exact .inl h1
    · rcases h2 with h2 | ⟨rfl, h2⟩
      · exact .inl h2
      · exact .inr ⟨rfl, ih h1 h2⟩
theorem less_total : ∀ a b : List UInt8, Op.bytesLess a b = false → Op.bytesLess b a = false → a = b
  | [], [], _, _ => rfl
  | [], _ :: _, h, _ => by simp [Op.bytesLess] at h
  | _ :: _, [], _, h => by simp [Op.bytesLess] at h
  | a :: x, b :: y, h1, h2 => by
    have ih := less_total x y
    unfold Op.bytesLess at h1 h2
    simp only [Bool.or_eq_false_iff, decide_eq_false_iff_not, Bool.and_eq_false_iff, beq_eq_false_iff_ne] at h1 h2
    obtain rfl := u8_eq h1.1 h2.1
    rw [ih (by rcases h1.2 with q | q; exact absurd rfl q; exact q) (by rcases h2.2 with q | q; exact absurd rfl q; exact q)]
theorem less_ntrans (a b c : List UInt8) (h1 : Op.bytesLess a b = false) (h2 : Op.bytesLess b c = false) : Op.bytesLess a c = false := by
  cases h : Op.bytesLess a c with
  | false => rfl
  | true =>
    cases hcb : Op.bytesLess c b with
    | true => rw [less_trans a c b h hcb] at h1; cases h1
    | false =>
      obtain rfl := less_total b c h2 hcb
      rw [h1] at h
      cases h
def pathB (p : PK) (j : Nat) : List UInt8 := (fileAt p j).path.data.toList
def lePath (p : PK) (i j : Nat) : Bool := !Op.bytesLess (pathB p j) (pathB p i)
/-- The nodes but the root, by the bytes of their paths. -/
def IL0 (p : PK) : List Nat := (List.range' 1 (p.xs.length - 1)).mergeSort (lePath p)
def FL0 (p : PK) : List PFile := (IL0 p).map (fileAt p)
theorem pathB_inj {p : PK} (hi : PInv p) {i j : Nat} (h1 : i < p.xs.length) (h2 : j < p.xs.length) (h : pathB p i = pathB p j) : i = j := by
  have e : ∀ k (hk : k < p.xs.length), pathB p k = (pathOf p.xs (p.xs[k]).id).data.toList := fun k hk => by
    unfold pathB fileAt
    rw [List.getElem?_eq_getElem hk]
  rw [e i h1, e j h2] at h
  exact path_inj hi i j _ _ (List.getElem?_eq_getElem h1) (List.getElem?_eq_getElem h2) h
theorem IL0_perm (p : PK) : (IL0 p).Perm (List.range' 1 (p.xs.length - 1)) := List.mergeSort_perm _ _
theorem IL0_sorted (p : PK) : (IL0 p).Pairwise (fun i j => lePath p i j = true) := by
  refine List.pairwise_mergeSort (fun a b c h1 h2 => ?_) (fun a b => ?_) _
  · unfold lePath at *
    simp only [Bool.not_eq_true'] at *
    exact less_ntrans _ _ _ h2 h1
  · unfold lePath
    cases h1 : Op.bytesLess (pathB p b) (pathB p a) with
    | false => simp
    | true =>
      cases h2 : Op.bytesLess (pathB p a) (pathB p b) with
      | false => simp
      | true =>
        have := less_trans _ _ _ h1 h2
        rw [less_irrefl] at this
        cases this
theorem IL0_mem {p : PK} {j : Nat} : j ∈ IL0 p ↔ 1 ≤ j ∧ j < p.xs.length := by
  rw [(IL0_perm p).mem_iff, List.mem_range'_1]
  omega
theorem IL0_nodup (p : PK) : (IL0 p).Nodup := (IL0_perm p).symm.nodup (List.nodup_range' (h := by decide))
theorem IL0_length {p : PK} : (IL0 p).length = p.xs.length - 1 := by rw [(IL0_perm p).length_eq, List.length_range']
/-- Sorted, and of all nodes but the root: there is one such list. -/
theorem IL0_uniq {p : PK} (hi : PInv p) {IL : List Nat} (hn : IL.Nodup) (hm : ∀ j, j ∈ IL ↔ 1 ≤ j ∧ j < p.xs.length) (hs : IL.Pairwise (fun i j => lePath p i j = true)) : IL = IL0 p := by
  refine List.Perm.eq_of_pairwise (le := fun i j => lePath p i j = true) (fun a b ha hb h1 h2 => ?_) hs (IL0_sorted p) ((List.perm_ext_iff_of_nodup hn (IL0_nodup p)).2 (fun j => by rw [hm, IL0_mem]))
  unfold lePath at h1 h2
  simp only [Bool.not_eq_true'] at h1 h2
  exact pathB_inj hi ((hm a).1 ha).2 (IL0_mem.1 hb).2 (less_total _ _ h2 h1)
theorem count_tree {p : PK} (hi : PInv p) {x0 : Ino} (h0 : p.xs[0]? = some x0) (h01 : x0.id = 1) : countTo p.xs p.xs.length = p.xs.length - 1 := by
  unfold countTo
  rw [List.take_length]
  have hne : ∀ (j : Nat) (y : Ino), p.xs[j]? = some y → 0 < j → inTree y = true := by
    intro j y hy hj
    unfold inTree
    have : y.parent ≠ 0 := fun e => by
      have h1 := (hi.root1 y (List.mem_of_getElem? hy) e).1
      have := idx_eq hi.incr h0 hy (by omega)
      omega
    simpa using this
  have h00 : inTree x0 = false := by
    unfold inTree
    have : x0.parent = 0 := by
      have := hi.down x0 (List.mem_of_getElem? h0)
      apply Classical.byContradiction
      intro q
      obtain ⟨m, x, hm, hx, _, hk⟩ := parent_at hi h0 q
      have := hk.lt hi
      omega
    simp [this]
  cases hx : p.xs with
  | nil => rfl
  | cons a r =>
    rw [hx] at h0 hne
    have e : a = x0 := by simpa using h0
    subst e
    rw [List.filter_cons_of_neg (by rw [h00]; decide), List.filter_eq_self.2 (fun y hy => ?_)]
    · simp
    · obtain ⟨j, hj⟩ := List.mem_iff_getElem?.1 hy
      exact hne (j + 1) y (by simpa using hj) (by omega)
theorem lastOf_map {IL : List Nat} {p : PK} {m j : Nat} (h : IL[m]? = some j) : lastOf (IL.map (fileAt p)) (m + 1) = (fileAt p j).path := by
  show (match (IL.map (fileAt p))[m]? with | some f => f.path | none => ByteArray.empty) = _
  rw [List.getElem?_map, h]
  rfl
theorem FL0_tells {p : PK} (hi : PInv p) {x0 : Ino} (h0 : p.xs[0]? = some x0) (h01 : x0.id = 1) : Tells p.xs p.cs (FL0 p) := by
  refine ⟨fun i x c hx hc hp => ?_, ?_, fun m f hf => ?_⟩
  · have hil := (List.getElem?_eq_some_iff.1 hx).1
    have hi0 : 1 ≤ i := by
      apply Classical.byContradiction
      intro q
      have e : i = 0 := by omega
      subst e
      obtain ⟨m, y, hm, _, _, hk⟩ := parent_at hi hx hp
      have := hk.lt hi
      omega
    obtain ⟨J, hJ⟩ := List.mem_iff_getElem?.1 (IL0_mem.2 ⟨hi0, hil⟩)
    refine ⟨J, ?_, fun j f hf he => ?_⟩
    · unfold FL0
      rw [List.getElem?_map, hJ]
      show some (fileAt p i) = _
      rw [fileAt_eq hx hc]
    · unfold FL0 at hf
      rw [List.getElem?_map] at hf
      obtain ⟨k, hk, rfl⟩ := Option.map_eq_some_iff.1 hf
      have hkm := IL0_mem.1 (List.mem_of_getElem? hk)
      have e1 : pathB p k = pathB p i := by
        unfold pathB
        rw [ByteArray.toList_eq, ByteArray.toList_eq] at he
        have := eq_of_beq he
        rw [this, fileAt_eq hx hc]
      have e2 := pathB_inj hi hkm.2 hil e1
      subst e2
      obtain ⟨a1, a2⟩ := List.getElem?_eq_some_iff.1 hk
      obtain ⟨b1, b2⟩ := List.getElem?_eq_some_iff.1 hJ
      exact (List.getElem_inj (IL0_nodup p)).1 (a2.trans b2.symm)
  · rw [count_tree hi h0 h01]
    unfold FL0
    rw [List.length_map, IL0_length]
  · unfold FL0 at hf ⊢
    rw [List.getElem?_map] at hf
    obtain ⟨k, hk, rfl⟩ := Option.map_eq_some_iff.1 hf
    have hkm := IL0_mem.1 (List.mem_of_getElem? hk)
    rw [ByteArray.toList_eq, ByteArray.toList_eq]
    cases m with
    | zero =>
      show Op.bytesLess (fileAt p k).path.data.toList [] = false ∧ ((fileAt p k).path.data.toList == []) = false
      refine ⟨by cases (fileAt p k).path.data.toList <;> rfl, ?_⟩
      obtain ⟨y, hy⟩ : ∃ y, p.xs[k]? = some y := ⟨_, List.getElem?_eq_getElem hkm.2⟩
      have hyp : y.parent ≠ 0 := fun e => by
        have h1 := (hi.root1 y (List.mem_of_getElem? hy) e).1
        have := idx_eq hi.incr h0 hy (by omega)
        omega
      have : (fileAt p k).path = pathOf p.xs y.id := by unfold fileAt; rw [hy]
      rw [this, path_list hi hy hyp]
      simp
    | succ m =>
      obtain ⟨j, hj⟩ : ∃ j, (IL0 p)[m]? = some j := ⟨_, List.getElem?_eq_getElem (by have := (List.getElem?_eq_some_iff.1 hk).1; omega)⟩
      rw [lastOf_map hj]
      obtain ⟨a1, a2⟩ := List.getElem?_eq_some_iff.1 hj
      obtain ⟨b1, b2⟩ := List.getElem?_eq_some_iff.1 hk
      have hle := List.pairwise_iff_getElem.1 (IL0_sorted p) m (m + 1) a1 b1 (by omega)
      rw [a2, b2] at hle
      unfold lePath at hle
      simp only [Bool.not_eq_true'] at hle
      refine ⟨hle, ?_⟩
      rw [beq_eq_false_iff_ne]
      intro e
      have hjm := IL0_mem.1 (List.mem_of_getElem? hj)
      have := pathB_inj hi hkm.2 hjm.2 e
      subst this
      have := (List.getElem_inj (IL0_nodup p)).1 (a2.trans b2.symm)
      omega
end Go.Proofs.YtkokiefclmbgaaaGreatDoor

/- The program's Files. -/
namespace Go.Proofs.YtkokiefclmbgaaaGreatDoor
open Go Go.RowKit Go.Maps
set_option linter.unusedVariables false
set_option linter.unusedSimpArgs false
set_option linter.unusedSectionVars false

def cfE (p : PK) (e f : Nat × FLoc) : Int := Lib.compareBytes (pathB p e.1) (pathB p f.1)
theorem ltE (p : PK) (e f : Nat × FLoc) : ltOf (cfE p) e f = Op.bytesLess (pathB p e.1) (pathB p f.1) := by
  unfold ltOf cfE
  rw [show decide (Lib.compareBytes (pathB p e.1) (pathB p f.1) < 0) = decide (Op.bytesLess (pathB p e.1) (pathB p f.1) = true) from decide_eq_decide.2 (cmp_less _ _)]
  simp
theorem swoE (p : PK) : Go.Sort.SWO (ltOf (cfE p)) where
  irrefl x := by rw [ltE]; exact less_irrefl _
  trans x y z h1 h2 := by rw [ltE] at *; exact less_trans _ _ _ h1 h2
  ntrans x y z h1 h2 := by rw [ltE] at *; exact less_ntrans _ _ _ h1 h2
set_option maxRecDepth 100000 in
set_option maxHeartbeats 1000000 in
theorem closure_file (p : PK) (e f : Nat × FLoc) (W : World) : Calls Tryz.prog 89 #[.agg (elemRow p e).toArray, .agg (elemRow p f).toArray] W fun r w' => r = .returned (.int .i64 (cfE p e f)) ∧ ∃ q os', w' = Go.Sort.grow (W.drewN q) os' := by
  have H := hide (show ∀ w, Calls Tryz.prog 90 #[.string (fileAt p e.1).path, .string (fileAt p f.1).path] w fun r w' => r = .returned (.int .i64 (cfE p e f)) ∧ w' = w from fun w => Any.strings_Compare compareSL _ _ w)
  generalize cfE p e f = r at H ⊢
  unfold elemRow elemVal
  generalize (fileAt p e.1).path = s1 at H ⊢
  generalize (fileAt p f.1).path = s2 at H ⊢
  go_enter Tryz.func89, Tryz.ntmps89
  go_wp2_with (go_at_call 90; refine (unhide H _).mono ?_; rintro e w' ⟨rfl, rfl⟩)
  go_ret
  exact ⟨rfl, 0, _, by rw [Go.Sort.alloc_eq_grow, Go.Sort.alloc_eq_grow, Go.Sort.grow_grow]; rfl⟩
theorem elemRows_get (p : PK) : ∀ (EL : List (Nat × FLoc)) (i j : Nat) (e : Nat × FLoc), j < 3 → EL[i]? = some e → (elemRows p EL)[i * 3 + j]? = (elemRow p e)[j]?
  | [], i, j, s, _, h => by simp at h
  | x :: r, 0, j, s, hj, h => by
    obtain rfl : x = s := by simpa using h
    rw [elemRows, List.flatMap_cons, Nat.zero_mul, Nat.zero_add, List.getElem?_append_left (show j < (elemRow p x).length from hj)]
  | x :: r, i + 1, j, s, hj, h => by
    have ih := elemRows_get p r i j s hj (by simpa using h)
    rw [elemRows, List.flatMap_cons, List.getElem?_append_right (show (elemRow p x).length ≤ (i + 1) * 3 + j from by show 3 ≤ _; omega)]
    rw [show (i + 1) * 3 + j - (elemRow p x).length = i * 3 + j from by show (i + 1) * 3 + j - 3 = _; omega]
    exact ih
section
variable [Inhabited FLoc]
theorem flat_elems (p : PK) (EL : List (Nat × FLoc)) : Go.Sort.flatK (elemRow p) 3 EL.toArray = (elemRows p EL).toArray := by
  apply Go.Sort.ext_get!
  · simp [elemRows_length]
  · intro t ht
    have ht' : t < EL.length * 3 := by simpa using ht
    rw [Go.Sort.get_flatK _ _ _ _ (by simpa using ht')]
    have hi : t / 3 < EL.length := by omega
    have h := elemRows_get p EL (t / 3) (t % 3) EL[t / 3] (Nat.mod_lt _ (by omega)) (List.getElem?_eq_getElem hi)
    rw [show t / 3 * 3 + t % 3 = t from by omega] at h
    have e : EL.toArray[t / 3]! = EL[t / 3] := by simp [getElem!_pos, hi]
    rw [e]
    simp only [List.getElem!_toArray, List.getElem!_eq_getElem?_getD, h]
theorem holdsE {w : World} {B g c : Nat} {p : PK} {EL : List (Nat × FLoc)} (h : w.ownsRow B 44 3 (.slice (some ⟨g, 0, none⟩) EL.length c) EL.length (elemRows p EL)) : Go.Sort.HoldsK (elemRow p) 3 w g 0 EL.toArray := by
  unfold Go.Sort.HoldsK
  rw [flat_elems]
  intro j hj
  rw [Nat.zero_add]
  have hj' : j < (elemRows p EL).length := by simpa using hj
  have hj3 : j < EL.length * 3 := by rw [elemRows_length] at hj'; exact hj'
  obtain ⟨v, _, hf⟩ := row_there h j hj3
  refine ⟨?_, hf⟩
  rw [h.cellAt j hj3, List.getElem?_eq_getElem hj']
  simp [getElem!_pos, hj']
theorem sort_grown {α : Type} (enc : α → List Value) (k : Nat) (w : World) (g n : Nat) (d : Array α) (os : Array Obj) [Inhabited α] : w.grownBy (sortWorldK enc k w g 0 n d os) (some g) := by
  unfold sortWorldK Go.Sort.grow Go.Sort.putRowK Go.Sort.putRow Go.Sort.mapBlock Go.Sort.ahead
  refine ⟨rfl, rfl, rfl, by simp, fun k hk hne => ?_⟩
  simp only
  rw [Array.getElem?_append_left (by simpa using hk), Array.getElem?_modify, if_neg (fun e => hne (by rw [e]))]
theorem sortFiles_any (p : PK) (B g c : Nat) (EL : List (Nat × FLoc)) (w : World) (h : w.ownsRow B 44 3 (.slice (some ⟨g, 0, none⟩) EL.length c) EL.length (elemRows p EL)) (hl : EL.length ≤ 100000) :
    Calls Tryz.prog 88 #[.slice (some ⟨g, 0, none⟩) EL.length c, .func (.func 89) #[] #[]] w fun e w' =>
      e = .returned (.tuple #[]) ∧ ∃ EL' : List (Nat × FLoc), EL'.Perm EL ∧ (EL'.map Prod.fst).Pairwise (fun i j => lePath p i j = true) ∧ Go.Sort.HoldsK (elemRow p) 3 w' g 0 EL'.toArray ∧ w.grownBy w' (some g) := by
  have eg : ∀ args w, (callFunc 89 args).run Tryz.prog w = .ok (.enter 89 args) w := enters_of Tryz.func89 (by kernel_rfl) rfl
  have hgl := (h.lt g rfl).2
  have hcon := AnyQ.slices_SortFunc sortFileL 3 Tryz.isAgg44 Tryz.sizeOf44 (elemRow p) (fun _ => rfl) (elemRow_one p) (cfE p) (swoE p) 89 #[] g 0 c EL.toArray w eg (fun _ _ _ _ x y => closure_file p x y _) (holdsE h) hgl (by simp; omega)
  change Calls Tryz.prog 88 #[.slice (some ⟨g, 0, none⟩) EL.length c, .func (.func 89) #[] #[]] w _ at hcon
  refine hcon.mono ?_
  rintro e w' ⟨he, d', n, os, hp, hs, rfl⟩
  have hsz := hp.1
  simp only [List.size_toArray] at hsz
  refine ⟨he, d'.toList, ?_, ?_, ?_, sort_grown _ _ _ _ _ _ _⟩
  · have := hp.2.2
    simp only [List.size_toArray] at this
    rw [show d'.extract 0 EL.length = d' from by rw [← hsz]; simp] at this
    simpa using this
  · rw [List.pairwise_map, List.pairwise_iff_getElem]
    intro i j hi hj hij
    have := hs i j (Nat.zero_le _) hij (by simp only [List.size_toArray]; simpa [hsz] using hj)
    rw [ltE] at this
    have hj' : j < d'.size := by simpa using hj
    have hi' : i < d'.size := by simpa using hi
    rw [getElem!_pos d' j hj', getElem!_pos d' i hi'] at this
    unfold lePath
    simp only [Array.getElem_toList, this, Bool.not_false]
  · have := holdsK_sortWorldK_c (enc := elemRow p) (k := 3) (w := w) (blk := g) (off := 0) EL.toArray d' n os (holdsE h) hgl (by simpa using hsz)
    simpa using this
end
end Go.Proofs.YtkokiefclmbgaaaGreatDoor

/- The program's Files: what is told. -/
namespace Go.Proofs.YtkokiefclmbgaaaGreatDoor
open Go Go.RowKit Go.Maps
set_option linter.unusedVariables false
set_option linter.unusedSimpArgs false
set_option linter.unusedSectionVars false

def locOf (Q : Nat) (e : Nat × FLoc) : FLoc := ⟨e.2.a, (match e.2.a with | some ad => ad.block | none => Q), 0, e.2.c⟩
theorem all_desc {p : PK} (hi : PInv p) {x0 : Ino} (h0 : p.xs[0]? = some x0) (h01 : x0.id = 1) (j : Nat) : Desc p.xs 0 j ↔ 1 ≤ j ∧ j < p.xs.length :=
  ⟨fun h => ⟨by have := h.lt hi; omega, h.bound⟩, fun h => root_desc hi h0 h01 j (by omega) h.2⟩
section
variable [Inhabited FLoc]
theorem files_post {p : PK} (hi : PInv p) {x0 : Ino} (h0 : p.xs[0]? = some x0) (h01 : x0.id = 1) {w w1 w' : World} {g c : Nat} {EL EL' : List (Nat × FLoc)} (hrep : LRep p w1 w.heap.size (.slice (some ⟨g, 0, none⟩) EL.length c) EL) (hnd : (EL.map Prod.fst).Nodup) (hmem : ∀ j, j ∈ EL.map Prod.fst ↔ Desc p.xs 0 j) (hb1 : Below w.heap.size w w1)
    (hperm : EL'.Perm EL) (hs : (EL'.map Prod.fst).Pairwise (fun i j => lePath p i j = true)) (hH : Go.Sort.HoldsK (elemRow p) 3 w' g 0 EL'.toArray) (hg : w1.grownBy w' (some g)) : FilesPost w (FL0 p) (.returned (.slice (some ⟨g, 0, none⟩) EL.length c)) w' := by
  have hpm := hperm.map Prod.fst
  have hIL : EL'.map Prod.fst = IL0 p := IL0_uniq hi (hpm.symm.nodup hnd) (fun j => by rw [hpm.mem_iff, hmem j, all_desc hi h0 h01]) hs
  have hFL : FL0 p = EL'.map (fun e => fileAt p e.1) := by unfold FL0; rw [← hIL, List.map_map]; rfl
  have hlen : (FL0 p).length = EL.length := by rw [hFL, List.length_map, hperm.length_eq]
  have hgl := hrep.row.lt g rfl
  have hsz := hg.size
  have hbw : Below w.heap.size w w' := hb1.trans (below_grown hg hgl.1 hb1.size)
  have heach : ∀ e ∈ EL', w'.ownsRow w.heap.size 5 1 (elemVal p e) (fileAt p e.1).bytes.length (bytesRow (fileAt p e.1).bytes) := fun e he => by
    have he' := hperm.mem_iff.1 he
    refine (hrep.each e he').kept hg ?_
    by_cases hb : blkOf e = none
    · left; rw [own_blk]; exact hb
    · right; rw [own_blk]; exact fun q => hrep.own e he' hb q.symm
  have hform : ∀ e ∈ EL', 0 < (fileAt p e.1).bytes.length → ∃ gg, e.2.a = some ⟨gg, 0, none⟩ ∧ w.heap.size ≤ gg ∧ gg < w'.heap.size ∧ gg ≠ g := fun e he hpos => by
    obtain ⟨gg, cap, hv, hb, hl⟩ := (heach e he).form hpos
    have ha : e.2.a = some ⟨gg, 0, none⟩ := by unfold elemVal at hv; injection hv
    refine ⟨gg, ha, hb, hl, fun q => ?_⟩
    have hbe : blkOf e = some gg := by unfold blkOf; rw [ha]; rfl
    exact hrep.own e (hperm.mem_iff.1 he) (by rw [hbe]; simp) (by rw [hbe, q]; rfl)
  have hap := (List.Perm.pairwise_iff (R := fun e f : Nat × FLoc => blkOf e ≠ none → blkOf e ≠ blkOf f) (fun {x y} h hn q => h (by rw [← q]; exact hn) q.symm) hperm).2 hrep.apart
  refine ⟨some ⟨g, 0, none⟩, g, c, EL'.map (locOf w'.heap.size), by rw [hlen], fun _ => ⟨rfl, by omega⟩, hbw, by rw [hFL, List.length_map, List.length_map], fun i f l _ hf hl => ?_, fun i j f l m hf hl hm hne hpos => ?_⟩
  · rw [hFL, List.getElem?_map] at hf
    obtain ⟨e, he, rfl⟩ := Option.map_eq_some_iff.1 hf
    rw [List.getElem?_map, he] at hl
    obtain rfl := Option.some.inj hl
    have hem := List.mem_of_getElem? he
    obtain ⟨hil, hie⟩ := List.getElem?_eq_some_iff.1 he
    have hia : i < EL'.toArray.size := by simpa using hil
    have hE : (EL'.toArray)[i]! = e := by rw [getElem!_pos EL'.toArray i hia]; simpa using hie
    have hcell : ∀ k : Nat, k < 3 → w'.cell? ⟨g, i * 3 + k, none⟩ = some ((elemRow p e)[k]!) := fun k hk => by
      have := (hH.cell hia hk).1
      rw [Nat.zero_add, hE] at this
      exact this
    have hloc : 0 < (fileAt p e.1).bytes.length → (locOf w'.heap.size e).a = some ⟨(locOf w'.heap.size e).q, (locOf w'.heap.size e).o, none⟩ ∧ w.heap.size ≤ (locOf w'.heap.size e).q ∧ (locOf w'.heap.size e).q < w'.heap.size ∧ (locOf w'.heap.size e).q ≠ g := fun hpos => by
      obtain ⟨gg, ha, h1, h2, h3⟩ := hform e hem hpos
      have hq : (locOf w'.heap.size e).q = gg := by unfold locOf; rw [ha]
      have hla : (locOf w'.heap.size e).a = some ⟨gg, 0, none⟩ := ha
      rw [hq, hla]
      exact ⟨rfl, h1, h2, h3⟩
    have hown : 0 < (fileAt p e.1).bytes.length → w'.ownsRow w.heap.size 5 1 (.slice (some ⟨(locOf w'.heap.size e).q, 0, none⟩) (fileAt p e.1).bytes.length e.2.c) (fileAt p e.1).bytes.length (bytesRow (fileAt p e.1).bytes) := fun hpos => by
      have h1 := heach e hem
      have h2 := (hloc hpos).1
      unfold elemVal at h1
      rw [show e.2.a = some ⟨(locOf w'.heap.size e).q, 0, none⟩ from h2] at h1
      exact h1
    refine ⟨by have := hcell 0 (by omega); rw [Nat.add_zero] at this; exact this, hcell 1 (by omega), hcell 2 (by omega), hloc, fun j hj => ?_, fun k hk => ?_⟩
    · have h1 := hown (by omega)
      show w'.cell? ⟨(locOf w'.heap.size e).q, 0 + j, none⟩ = _
      rw [Nat.zero_add, h1.cellAt j (by omega)]
      exact bytesRow_get _ j hj
    · obtain ⟨v, _, h3⟩ := row_there (hown (by omega)) k (by omega)
      show w'.frozen? ⟨(locOf w'.heap.size e).q, 0 + k, none⟩ = false
      rw [Nat.zero_add]
      exact h3
  · rw [hFL, List.getElem?_map] at hf
    obtain ⟨e, he, rfl⟩ := Option.map_eq_some_iff.1 hf
    rw [List.getElem?_map, he] at hl
    obtain rfl := Option.some.inj hl
    rw [List.getElem?_map] at hm
    obtain ⟨d, hd, rfl⟩ := Option.map_eq_some_iff.1 hm
    obtain ⟨gg, ha, h1, h2, h3⟩ := hform e (List.mem_of_getElem? he) hpos
    have hq : (locOf w'.heap.size e).q = gg := by unfold locOf; rw [ha]
    have hbe : blkOf e = some gg := by unfold blkOf; rw [ha]; rfl
    rw [hq]
    intro q
    cases hda : d.2.a with
    | none =>
      have : (locOf w'.heap.size d).q = w'.heap.size := by unfold locOf; rw [hda]
      omega
    | some ad =>
      have hqd : (locOf w'.heap.size d).q = ad.block := by unfold locOf; rw [hda]
      have hbd : blkOf d = some ad.block := by unfold blkOf; rw [hda]; rfl
      obtain ⟨i1, i2⟩ := List.getElem?_eq_some_iff.1 he
      obtain ⟨j1, j2⟩ := List.getElem?_eq_some_iff.1 hd
      have hpw := List.pairwise_iff_getElem.1 hap
      have heq : blkOf e = blkOf d := by rw [hbe, hbd, q, hqd]
      rcases Nat.lt_or_gt_of_ne hne with q1 | q1
      · have := hpw i j i1 j1 q1
        rw [i2, j2] at this
        exact this (by rw [hbe]; simp) heq
      · have := hpw j i j1 i1 q1
        rw [i2, j2] at this
        exact this (by rw [hbd]; simp) heq.symm
end
end Go.Proofs.YtkokiefclmbgaaaGreatDoor

/- The program's Files: the walk; all that the law Boots asks of the program. -/
namespace Go.Proofs.YtkokiefclmbgaaaGreatDoor
open Go Go.RowKit Go.Maps
set_option linter.unusedVariables false
set_option linter.unusedSimpArgs false

theorem FilesPost.heap {w w0 : World} {FL : List PFile} {e : Ending} {w' : World} (h : FilesPost w0 FL e w') (hb : Below w.heap.size w w0) : FilesPost w FL e w' := by
  obtain ⟨aa, ag, ac, LS, h1, h2, h3, h4⟩ := h
  refine ⟨aa, ag, ac, LS, h1, h2, hb.trans (h3.mono hb.size), h4.len, fun i f l hi hf hl => ?_, h4.apart⟩
  obtain ⟨c1, c2, c3, c4, c5, c6⟩ := h4.at_ i f l hi hf hl
  exact ⟨c1, c2, c3, fun q => ⟨(c4 q).1, by have := (c4 q).2.1; have := hb.size; omega, (c4 q).2.2.1, (c4 q).2.2.2⟩, c5, c6⟩
theorem FilesPost.val {w : World} {FL : List PFile} {e : Ending} {w' : World} (h : FilesPost w FL e w') : ∃ a n c, e = .returned (.slice a n c) := by
  obtain ⟨aa, ag, ac, LS, h1, _⟩ := h
  exact ⟨_, _, _, h1⟩
set_option maxRecDepth 100000 in
set_option maxHeartbeats 2000000 in
theorem treeFiles_any (p : PK) (hi : PInv p) (B tb ab am : Nat) (NB MB : List Nat) (V : List Value) (hxl : p.xs.length ≤ 100000) (hcl : ∀ c ∈ p.cs, c.length ≤ 1000000) (w : World) (hr : BootRep w B tb ab am p NB MB V) :
    Calls Tryz.prog 53 #[.pointer (some ⟨tb, 0, none⟩)] w (FilesPost w (FL0 p)) := by
  haveI hinh : Inhabited FLoc := ⟨⟨none, 0, 0, 0⟩⟩
  have hne : p.xs ≠ [] := by obtain ⟨x, hx, _⟩ := hi.root; intro e; rw [e] at hx; cases hx
  obtain ⟨x0, h0, h01, h0d⟩ := hr.tree.root hne
  have h0l := (List.getElem?_eq_some_iff.1 h0).1
  obtain ⟨b0, hb0⟩ : ∃ b0, NB[0]? = some b0 := ⟨_, List.getElem?_eq_getElem (by rw [hr.tree.len.1]; exact h0l)⟩
  have c0 : w.cell? ⟨tb, 0, none⟩ = some (.pointer (some ⟨ab, 0, none⟩)) := hr.tree.tree.cell rfl
  have c2 : w.cell? ⟨ab, 3, none⟩ = some (.map (some am)) := hr.tree.above.cell rfl
  have hlk : (Instr.lookup 228 (.map (some am)) (.string ⟨#[]⟩) false).run Tryz.prog w = .ok (.pointer (some ⟨b0, 0, none⟩)) w := by
    have h := hr.tree.amap.look ByteArray.empty (by unfold maxLen; decide)
    have e : nodePtr (if ByteArray.empty.data.toList = [] then NB[0]? else none) = .pointer (some ⟨b0, 0, none⟩) := by rw [if_pos (show ByteArray.empty.data.toList = [] from rfl), hb0]; rfl
    rw [e] at h
    exact h
  have HLS := hide (list_any p hi B tb ab am NB MB V hxl hcl p.xs.length 0 x0 b0 w hr h0 hb0 (by omega))
  rw [pathOf_root (show x0.id ≤ 1 by omega)] at HLS
  have HI := hide (And.intro hi (And.intro h0 h01))
  clear hr hi hb0 hcl hne h0 h01 h0d
  go_enter Tryz.func53, Tryz.ntmps53
  go_wp2_with fail
  refine (unhide HLS).mono ?_
  rintro e w1 ⟨v1, EL, rfl, hrep, hnd, hmem, hb1⟩
  obtain ⟨hi, h0, h01⟩ := unhide HI
  clear c0 c2 hlk HLS
  by_cases hE : EL = []
  · subst hE
    obtain rfl := hrep.nil rfl
    have hFL : FL0 p = [] := by
      have hl : (IL0 p) = [] := by
        apply List.eq_nil_iff_forall_not_mem.2
        intro j hj
        have := (hmem j).2 ((all_desc hi h0 h01 j).2 (IL0_mem.1 hj))
        simp at this
      unfold FL0
      rw [hl]; rfl
    have HSN := hide (show Calls Tryz.prog 88 #[.slice none 0 0, .func (.func 89) #[] #[]] w1 fun e w' => e = .returned (.tuple #[]) ∧ w' = w1 from AnyF.slices_SortFunc_none { sortFileL with } none 0 _ w1)
    have HP := hide (show FilesPost w (FL0 p) (.returned (.slice none 0 0)) w1 from by
      rw [hFL]
      exact ⟨none, 0, 0, [], rfl, fun h => absurd h (by decide), hb1, rfl, fun i f l _ hf _ => by simp at hf, fun i j f l m hf _ _ _ _ => by simp at hf⟩)
    clear hrep hnd hmem hb1 hi h0 h01 hFL HI
    go_wp2_with fail
    refine (unhide HSN).mono ?_
    rintro e w2 ⟨rfl, hw2⟩
    subst hw2
    clear HSN
    go_wp2
    go_ret
    exact unhide HP
  · obtain ⟨g, c, rfl, hg, hgl⟩ := hrep.row.form (List.length_pos_iff.2 hE)
    have hEl : EL.length ≤ 100000 := by
      have := nodup_len (EL.map Prod.fst) (List.range p.xs.length) hnd (fun k hk => by rw [List.mem_range]; exact ((hmem k).1 hk).bound)
      simp at this
      omega
    have HSF := hide (sortFiles_any p w.heap.size g c EL w1 hrep.row hEl)
    have HREP := hide (And.intro hrep (And.intro hnd (And.intro hmem hb1)))
    obtain ⟨n, hn⟩ : ∃ n, n = EL.length := ⟨_, rfl⟩
    rw [← hn] at HSF ⊢
    have HN := hide hn
    clear hrep hnd hmem hb1 hi h0 h01 hg hgl hEl hE hn
    go_wp2_with fail
    refine (unhide HSF).mono ?_
    rintro e w2 ⟨rfl, EL', hperm, hs, hH, hgr⟩
    have HP := hide (show FilesPost w (FL0 p) (.returned (.slice (some ⟨g, 0, none⟩) n c)) w2 from by
      rw [unhide HN]
      exact files_post (unhide HI).1 (unhide HI).2.1 (unhide HI).2.2 (unhide HREP).1 (unhide HREP).2.1 (unhide HREP).2.2.1 (unhide HREP).2.2.2 hperm hs hH hgr)
    clear hperm hs hH hgr HSF HREP HI
    go_wp2
    go_ret
    exact unhide HP
set_option maxRecDepth 100000 in
set_option maxHeartbeats 1000000 in
theorem kFiles_any (kb tb : Nat) (FL : List PFile) (w : World) (hk : w.cell? ⟨kb, 5, none⟩ = some (.pointer (some ⟨tb, 0, none⟩))) (h : Calls Tryz.prog 53 #[.pointer (some ⟨tb, 0, none⟩)] w (FilesPost w FL)) :
    Calls Tryz.prog 33 #[.pointer (some ⟨kb, 0, none⟩)] w (FilesPost w FL) := by
  have HT := hide h
  clear h
  go_enter Tryz.func33, Tryz.ntmps33
  go_wp2_with fail
  refine (unhide HT).mono ?_
  intro e w1 h1
  obtain ⟨a, n, c, he⟩ := h1.val
  subst he
  have HP := hide h1
  clear h1 hk HT
  go_wp2
  go_ret
  exact unhide HP
set_option maxRecDepth 100000 in
set_option maxHeartbeats 1000000 in
theorem files_top (tk kb tb : Nat) (FL : List PFile) (w : World) (ht : w.cell? ⟨tk, 0, none⟩ = some (.pointer (some ⟨kb, 0, none⟩))) (hk : w.cell? ⟨kb, 5, none⟩ = some (.pointer (some ⟨tb, 0, none⟩))) (h : Calls Tryz.prog 53 #[.pointer (some ⟨tb, 0, none⟩)] w (FilesPost w FL)) :
    Calls Tryz.prog 20 #[.pointer (some ⟨tk, 0, none⟩)] w (FilesPost w FL) := by
  have HT := hide (kFiles_any kb tb FL w hk h)
  clear h hk
  go_enter Tryz.func20, Tryz.ntmps20
  go_wp2_with fail
  refine (unhide HT).mono ?_
  intro e w1 h1
  obtain ⟨a, n, c, he⟩ := h1.val
  subst he
  have HP := hide h1
  clear h1 ht HT
  go_wp2
  go_ret
  exact unhide HP
theorem used_each {cs : List (List Int)} {c : List Int} (h : c ∈ cs) : c.length ≤ usedOf cs := by
  obtain ⟨i, hi⟩ := List.mem_iff_getElem?.1 h
  exact used_ge hi
theorem kr_files (w : World) (B : Nat) (kp : Addr) (p : PK) (h : KR w B kp p) : ∃ FL, Calls Tryz.prog 20 #[.pointer (some kp)] w (FilesPost w FL) ∧ Tells p.xs p.cs FL ∧ ∀ f ∈ FL, f.bytes.length ≤ 1000000 := by
  obtain ⟨tk, kb, tb, ab, am, cb, pm, pb, NB, MB, V, rfl, h2, h3, h4⟩ := h
  have hne : p.xs ≠ [] := by obtain ⟨x, hx, _⟩ := h4.inv.root; intro e; rw [e] at hx; cases hx
  obtain ⟨x0, h0, h01, _⟩ := h4.tree.tree.root hne
  have hcl : ∀ c ∈ p.cs, c.length ≤ 1000000 := fun c hc => by have := used_each hc; have := h4.size.2.1; omega
  refine ⟨FL0 p, files_top tk kb tb (FL0 p) w (h3.cell rfl) (h4.ker.cell rfl) (treeFiles_any p h4.inv B tb ab am NB MB V (by have := h4.size.1; omega) hcl w h4.tree), FL0_tells h4.inv h0 h01, fun f hf => ?_⟩
  obtain ⟨j, _, rfl⟩ := List.mem_map.1 hf
  unfold fileAt
  split
  · show (p.cs.getD j []).length ≤ 1000000
    rw [List.getD_eq_getElem?_getD]
    cases hc : p.cs[j]? with
    | none => simp
    | some c => exact hcl c (List.mem_of_getElem? hc)
  · simp
/-- All that the law asks of the calls on a kernel. -/
theorem prog_api : ProgApi KR := ⟨kr_stable, kr_procs, kr_files, kr_used, kr_console⟩
end Go.Proofs.YtkokiefclmbgaaaGreatDoor
