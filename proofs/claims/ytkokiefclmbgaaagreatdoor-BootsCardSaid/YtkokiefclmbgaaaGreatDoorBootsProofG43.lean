import Derived.Test.YtkokiefclmbgaaaGreatDoorBootsProofG24
import Derived.Test.YtkokiefclmbgaaaGreatDoorBootsProofG32
import Derived.Test.YtkokiefclmbgaaaGreatDoorBootsProofG09
import Derived.Test.YtkokiefclmbgaaaGreatDoorBootsProofG28
import Derived.Test.YtkokiefclmbgaaaGreatDoorBootsProofG16
import Derived.Test.YtkokiefclmbgaaaGreatDoorBootsProofG36
/- The tree of files, by numbers of nodes: who is below whom; paths. -/
namespace Go.Proofs.YtkokiefclmbgaaaGreatDoor
open Go Go.RowKit
set_option linter.unusedVariables false
set_option linter.unusedSimpArgs false

/-- The j-th node is a child of the i-th. -/
def Kid (xs : List Ino) (i j : Nat) : Prop := ∃ x y, xs[i]? = some x ∧ xs[j]? = some y ∧ y.parent = x.id ∧ y.parent ≠ 0
/-- The j-th node is below the a-th. -/
def DescN (xs : List Ino) (a : Nat) : Nat → Nat → Prop
  | 0, j => Kid xs a j
  | n + 1, j => ∃ m, DescN xs a n m ∧ Kid xs m j
def Desc (xs : List Ino) (a j : Nat) : Prop := ∃ n, DescN xs a n j
theorem Desc.kid {xs : List Ino} {a j : Nat} (h : Kid xs a j) : Desc xs a j := ⟨0, h⟩
theorem Desc.step {xs : List Ino} {a m j : Nat} (h : Desc xs a m) (k : Kid xs m j) : Desc xs a j := by
  obtain ⟨n, hn⟩ := h
  exact ⟨n + 1, m, hn, k⟩
theorem Desc.parts {xs : List Ino} {a j : Nat} (h : Desc xs a j) : Kid xs a j ∨ ∃ m, Desc xs a m ∧ Kid xs m j := by
  obtain ⟨n, hn⟩ := h
  cases n with
  | zero => exact .inl hn
  | succ n =>
    obtain ⟨m, h1, h2⟩ := hn
    exact .inr ⟨m, ⟨n, h1⟩, h2⟩
theorem Desc.ind {xs : List Ino} {a : Nat} {C : Nat → Prop} (hk : ∀ j, Kid xs a j → C j) (hs : ∀ m j, Desc xs a m → Kid xs m j → C m → C j) : ∀ j, Desc xs a j → C j := by
  rintro j ⟨n, hn⟩
  induction n generalizing j with
  | zero => exact hk j hn
  | succ n ih =>
    obtain ⟨m, h1, h2⟩ := hn
    exact hs m j ⟨n, h1⟩ h2 (ih m h1)
theorem idx_lt {xs : List Ino} (hinc : xs.Pairwise (fun x y => x.id < y.id)) {i j : Nat} {x y : Ino} (hx : xs[i]? = some x) (hy : xs[j]? = some y) (h : x.id < y.id) : i < j := by
  obtain ⟨hi, rfl⟩ := List.getElem?_eq_some_iff.1 hx
  obtain ⟨hj, rfl⟩ := List.getElem?_eq_some_iff.1 hy
  have hp := List.pairwise_iff_getElem.1 hinc
  rcases Nat.lt_trichotomy i j with q | q | q
  · exact q
  · subst q; omega
  · have := hp j i hj hi q; omega
theorem idx_eq {xs : List Ino} (hinc : xs.Pairwise (fun x y => x.id < y.id)) {i j : Nat} {x y : Ino} (hx : xs[i]? = some x) (hy : xs[j]? = some y) (h : x.id = y.id) : i = j := by
  obtain ⟨hi, rfl⟩ := List.getElem?_eq_some_iff.1 hx
  obtain ⟨hj, rfl⟩ := List.getElem?_eq_some_iff.1 hy
  have hp := List.pairwise_iff_getElem.1 hinc
  rcases Nat.lt_trichotomy i j with q | q | q
  · have := hp i j hi hj q; omega
  · exact q
  · have := hp j i hj hi q; omega
theorem Kid.lt {p : PK} (hi : PInv p) {i j : Nat} (h : Kid p.xs i j) : i < j := by
  obtain ⟨x, y, hx, hy, hp, _⟩ := h
  refine idx_lt hi.incr hx hy ?_
  have := (hi.down y (List.mem_of_getElem? hy)).2
  omega
theorem Kid.uniq {p : PK} (hi : PInv p) {i i' j : Nat} (h : Kid p.xs i j) (h' : Kid p.xs i' j) : i = i' := by
  obtain ⟨x, y, hx, hy, hp, _⟩ := h
  obtain ⟨x', y', hx', hy', hp', _⟩ := h'
  rw [hy] at hy'
  obtain rfl := Option.some.inj hy'
  exact idx_eq hi.incr hx hx' (by omega)
theorem Kid.bound {xs : List Ino} {i j : Nat} (h : Kid xs i j) : i < xs.length ∧ j < xs.length := by
  obtain ⟨x, y, hx, hy, _⟩ := h
  exact ⟨(List.getElem?_eq_some_iff.1 hx).1, (List.getElem?_eq_some_iff.1 hy).1⟩
theorem Desc.lt {p : PK} (hi : PInv p) {a j : Nat} (h : Desc p.xs a j) : a < j := by
  refine Desc.ind (C := fun j => a < j) (fun j hk => hk.lt hi) (fun m j _ hk ih => ?_) j h
  have := hk.lt hi
  omega
theorem Desc.bound {xs : List Ino} {a j : Nat} (h : Desc xs a j) : j < xs.length := by
  rcases h.parts with hk | ⟨m, _, hk⟩
  · exact hk.bound.2
  · exact hk.bound.2
theorem Desc.head {xs : List Ino} {a j : Nat} (h : Desc xs a j) : ∃ c, Kid xs a c ∧ (c = j ∨ Desc xs c j) := by
  refine Desc.ind (C := fun j => ∃ c, Kid xs a c ∧ (c = j ∨ Desc xs c j)) (fun j hk => ⟨_, hk, .inl rfl⟩) (fun m j _ hk ih => ?_) j h
  obtain ⟨c, h1, h2⟩ := ih
  refine ⟨c, h1, .inr ?_⟩
  rcases h2 with rfl | h2
  · exact Desc.kid hk
  · exact Desc.step h2 hk
theorem Desc.cons {xs : List Ino} {a c j : Nat} (h : Kid xs a c) (h2 : Desc xs c j) : Desc xs a j := by
  exact Desc.ind (C := fun j => Desc xs a j) (fun j hk => Desc.step (Desc.kid h) hk) (fun m j _ hk ih => Desc.step ih hk) j h2
theorem Desc.chain {p : PK} (hi : PInv p) {a b j : Nat} (h : Desc p.xs a j) : Desc p.xs b j → a = b ∨ Desc p.xs a b ∨ Desc p.xs b a := by
  refine Desc.ind (C := fun j => Desc p.xs b j → a = b ∨ Desc p.xs a b ∨ Desc p.xs b a) (fun j hk h2 => ?_) (fun m j hm hk ih h2 => ?_) j h
  · rcases h2.parts with hk2 | ⟨m, hm, hk2⟩
    · exact .inl (hk.uniq hi hk2)
    · rw [hk.uniq hi hk2]; exact .inr (.inr hm)
  · rcases h2.parts with hk2 | ⟨m2, hm2, hk2⟩
    · rw [← hk.uniq hi hk2]; exact .inr (.inl hm)
    · rw [← hk.uniq hi hk2] at hm2; exact ih hm2
theorem no_sib {p : PK} (hi : PInv p) {i c c' : Nat} (h : Kid p.xs i c) (h' : Kid p.xs i c') : ¬ Desc p.xs c' c := by
  intro hd
  have hl := h'.lt hi
  rcases hd.parts with hk | ⟨m, hm, hk⟩
  · have := h.uniq hi hk
    omega
  · have e := h.uniq hi hk
    subst e
    have := hm.lt hi
    omega
theorem sib {p : PK} (hi : PInv p) {i c c' j : Nat} (h : Kid p.xs i c) (h' : Kid p.xs i c') (hc : j = c ∨ Desc p.xs c j) (hc' : j = c' ∨ Desc p.xs c' j) : c = c' := by
  rcases hc with rfl | hc
  · rcases hc' with rfl | hc'
    · rfl
    · exact (no_sib hi h h' hc').elim
  · rcases hc' with rfl | hc'
    · exact (no_sib hi h' h hc).elim
    · rcases hc.chain hi hc' with q | q | q
      · exact q
      · exact (no_sib hi h' h q).elim
      · exact (no_sib hi h h' q).elim
theorem parent_at {p : PK} (hi : PInv p) {j : Nat} {y : Ino} (hy : p.xs[j]? = some y) (hp : y.parent ≠ 0) : ∃ m x, p.xs[m]? = some x ∧ x.id = y.parent ∧ x.dir = true ∧ Kid p.xs m j := by
  obtain ⟨x, hx, h1, h2⟩ := hi.parents y (List.mem_of_getElem? hy) hp
  obtain ⟨m, hm⟩ := List.mem_iff_getElem?.1 hx
  exact ⟨m, x, hm, h1, h2, x, y, hm, hy, h1.symm, hp⟩
theorem root_desc {p : PK} (hi : PInv p) {x0 : Ino} (h0 : p.xs[0]? = some x0) (h01 : x0.id = 1) : ∀ (j : Nat), 0 < j → j < p.xs.length → Desc p.xs 0 j := by
  intro j
  induction j using Nat.strongRecOn with
  | ind j ih =>
    intro hj hl
    obtain ⟨y, hy⟩ : ∃ y, p.xs[j]? = some y := ⟨_, List.getElem?_eq_getElem hl⟩
    have hp : y.parent ≠ 0 := by
      intro e
      have h1 := (hi.root1 y (List.mem_of_getElem? hy) e).1
      have := idx_eq hi.incr h0 hy (by omega)
      omega
    obtain ⟨m, x, hm, _, _, hk⟩ := parent_at hi hy hp
    have hmj := hk.lt hi
    by_cases hm0 : m = 0
    · subst hm0; exact .kid hk
    · exact .step (ih m hmj (by omega) (by omega)) hk
theorem file_no_kid {p : PK} (hi : PInv p) {i j : Nat} {x : Ino} (hx : p.xs[i]? = some x) (hd : x.dir = false) : ¬ Kid p.xs i j := by
  rintro ⟨x', y, hx', hy, hp, hp0⟩
  rw [hx] at hx'
  obtain rfl := Option.some.inj hx'
  obtain ⟨m, z, hm, hz, hzd, hk⟩ := parent_at hi hy hp0
  have := idx_eq hi.incr hx hm (by omega)
  subst this
  rw [hx] at hm
  obtain rfl := Option.some.inj hm
  rw [hd] at hzd
  cases hzd

/-! ### Paths -/
theorem find_at {xs : List Ino} (hinc : xs.Pairwise (fun x y => x.id < y.id)) {i : Nat} {x : Ino} (hx : xs[i]? = some x) : xs.find? (fun y => y.id == x.id) = some x := by
  cases hf : xs.find? (fun y => y.id == x.id) with
  | none =>
    have := List.find?_eq_none.1 hf x (List.mem_of_getElem? hx)
    simp at this
  | some y =>
    obtain ⟨he, j, hj, hy, _⟩ := List.find?_eq_some_iff_getElem.1 hf
    have he' : y.id = x.id := by simpa using he
    have := idx_eq hinc (List.getElem?_eq_some_iff.2 ⟨hj, hy⟩) hx he'
    subst this
    rw [List.getElem?_eq_getElem hj, hy] at hx
    exact hx
theorem path_child {p : PK} (hi : PInv p) {j : Nat} {y : Ino} (hy : p.xs[j]? = some y) (hp : y.parent ≠ 0) : pathOf p.xs y.id = pathOf p.xs y.parent ++ (slashB ++ y.name) := by
  have hm := List.mem_of_getElem? hy
  have hd := hi.down y hm
  have hdn : ∀ x ∈ p.xs, x.parent < x.id := fun x hx => (hi.down x hx).2
  unfold pathOf
  rw [pathGo_up hdn (by omega) (by omega) (find_at hi.incr hy), pathGo_tail, pathGo_fuel hdn y.id.toNat y.parent.toNat y.parent _ (by omega) (by omega)]
  simp
theorem split_last : ∀ (A B n m : List UInt8), (∀ c ∈ n, c ≠ 47) → (∀ c ∈ m, c ≠ 47) → A ++ 47 :: n = B ++ 47 :: m → A = B ∧ n = m := by
  intro A B n m hn hm h
  rcases List.append_eq_append_iff.1 h with ⟨c, h1, h2⟩ | ⟨c, h1, h2⟩
  · cases c with
    | nil => simp at h1 h2; exact ⟨h1.symm, h2⟩
    | cons d r =>
      simp at h2
      have : (47 : UInt8) ∈ n := by rw [h2.2]; simp
      exact absurd rfl (hn 47 this)
  · cases c with
    | nil => simp at h1 h2; exact ⟨h1, h2.symm⟩
    | cons d r =>
      simp at h2
      have : (47 : UInt8) ∈ m := by rw [h2.2]; simp
      exact absurd rfl (hm 47 this)
theorem name_slash {s : ByteArray} (h : nameOk s = true) : ∀ c ∈ s.data.toList, c ≠ 47 := by
  intro c hc
  unfold nameOk at h
  simp only [Bool.and_eq_true] at h
  have := List.all_eq_true.1 h.2 c hc
  simp at this
  exact this.2
theorem path_list {p : PK} (hi : PInv p) {j : Nat} {y : Ino} (hy : p.xs[j]? = some y) (hp : y.parent ≠ 0) : (pathOf p.xs y.id).data.toList = (pathOf p.xs y.parent).data.toList ++ 47 :: y.name.data.toList := by
  rw [path_child hi hy hp]
  simp [slashB, ByteArray.data_append]
theorem path_root {p : PK} (hi : PInv p) {j : Nat} {y : Ino} (hy : p.xs[j]? = some y) (hp : y.parent = 0) : (pathOf p.xs y.id).data.toList = [] := by
  rw [pathOf_root (by rw [(hi.root1 y (List.mem_of_getElem? hy) hp).1]; omega)]
  rfl
theorem path_inj {p : PK} (hi : PInv p) : ∀ (i j : Nat) (x y : Ino), p.xs[i]? = some x → p.xs[j]? = some y → (pathOf p.xs x.id).data.toList = (pathOf p.xs y.id).data.toList → i = j := by
  intro i
  induction i using Nat.strongRecOn with
  | ind i ih =>
    intro j x y hx hy h
    by_cases hx0 : x.parent = 0
    · by_cases hy0 : y.parent = 0
      · exact idx_eq hi.incr hx hy (by rw [(hi.root1 x (List.mem_of_getElem? hx) hx0).1, (hi.root1 y (List.mem_of_getElem? hy) hy0).1])
      · rw [path_root hi hx hx0, path_list hi hy hy0] at h
        simp at h
    · by_cases hy0 : y.parent = 0
      · rw [path_root hi hy hy0, path_list hi hx hx0] at h
        simp at h
      · rw [path_list hi hx hx0, path_list hi hy hy0] at h
        obtain ⟨h1, h2⟩ := split_last _ _ _ _ (name_slash (hi.names x (List.mem_of_getElem? hx) hx0)) (name_slash (hi.names y (List.mem_of_getElem? hy) hy0)) h
        obtain ⟨a, xa, ha, ha1, _, hka⟩ := parent_at hi hx hx0
        obtain ⟨b, xb, hb, hb1, _, hkb⟩ := parent_at hi hy hy0
        rw [← ha1, ← hb1] at h1
        have hab := ih a (hka.lt hi) b xa xb ha hb h1
        subst hab
        rw [ha] at hb
        obtain rfl := Option.some.inj hb
        refine idx_eq hi.incr hx hy (hi.kids x (List.mem_of_getElem? hx) y (List.mem_of_getElem? hy) (by omega) hx0 ?_)
        rw [ByteArray.toList_eq, ByteArray.toList_eq]
        exact h2
/-- The child of that name. -/
theorem kid_of_map {p : PK} (hi : PInv p) {NB : List Nat} {i b : Nat} {x : Ino} {s : ByteArray} (hx : p.xs[i]? = some x) (h : kidOf p.xs NB x.id s = some b) : ∃ j y, Kid p.xs i j ∧ p.xs[j]? = some y ∧ y.name = s ∧ NB[j]? = some b := by
  unfold kidOf at h
  cases hf : p.xs.findIdx? (isChild x.id s) with
  | none => rw [hf] at h; cases h
  | some j =>
    rw [hf] at h
    obtain ⟨hj, he, _⟩ := List.findIdx?_eq_some_iff_getElem.1 hf
    unfold isChild at he
    simp only [Bool.and_eq_true, beq_iff_eq] at he
    have h1 := (hi.ids x (List.mem_of_getElem? hx)).1
    refine ⟨j, p.xs[j], ⟨x, p.xs[j], hx, List.getElem?_eq_getElem hj, he.1, by omega⟩, List.getElem?_eq_getElem hj, bytes_eq ?_, h⟩
    have h2 := he.2
    rw [ByteArray.toList_eq, ByteArray.toList_eq] at h2
    exact h2
theorem map_of_kid {p : PK} (hi : PInv p) {NB : List Nat} {i j : Nat} {x y : Ino} (hx : p.xs[i]? = some x) (hy : p.xs[j]? = some y) (hk : Kid p.xs i j) (hl : NB.length = p.xs.length) : kidOf p.xs NB x.id y.name = NB[j]? := by
  obtain ⟨x', y', hx', hy', hp, hp0⟩ := hk
  rw [hx] at hx'
  obtain rfl := Option.some.inj hx'
  rw [hy] at hy'
  obtain rfl := Option.some.inj hy'
  have hj := (List.getElem?_eq_some_iff.1 hy).1
  unfold kidOf
  cases hf : p.xs.findIdx? (isChild x.id y.name) with
  | none =>
    have := List.findIdx?_eq_none_iff.1 hf y (List.mem_of_getElem? hy)
    unfold isChild at this
    simp [hp] at this
  | some k =>
    obtain ⟨hk, he, _⟩ := List.findIdx?_eq_some_iff_getElem.1 hf
    unfold isChild at he
    simp only [Bool.and_eq_true, beq_iff_eq] at he
    have e : k = j := idx_eq hi.incr (List.getElem?_eq_getElem hk) hy (hi.kids _ (List.getElem_mem hk) y (List.mem_of_getElem? hy) (by omega) (by omega) he.2)
    rw [e]
end Go.Proofs.YtkokiefclmbgaaaGreatDoor

/- Files that are told, as they lie; bytes that are cloned. -/
namespace Go.Proofs.YtkokiefclmbgaaaGreatDoor
open Go Go.RowKit Go.Maps
set_option linter.unusedVariables false
set_option linter.unusedSimpArgs false

/-- The file at a place, as it is told. -/
def fileAt (p : PK) (j : Nat) : PFile := match p.xs[j]? with | some x => ⟨pathOf p.xs x.id, x.dir, p.cs.getD j []⟩ | none => ⟨ByteArray.empty, false, []⟩
theorem fileAt_eq {p : PK} {j : Nat} {x : Ino} {c : List Int} (hx : p.xs[j]? = some x) (hc : p.cs[j]? = some c) : fileAt p j = ⟨pathOf p.xs x.id, x.dir, c⟩ := by
  unfold fileAt
  rw [hx, List.getD_eq_getElem?_getD, hc]
  rfl
def elemVal (p : PK) (e : Nat × FLoc) : Value := .slice e.2.a (fileAt p e.1).bytes.length e.2.c
def elemRow (p : PK) (e : Nat × FLoc) : List Value := [.string (fileAt p e.1).path, .bool (fileAt p e.1).dir, elemVal p e]
def elemRows (p : PK) (EL : List (Nat × FLoc)) : List Value := EL.flatMap (elemRow p)
theorem elemRows_append (p : PK) (A B : List (Nat × FLoc)) : elemRows p (A ++ B) = elemRows p A ++ elemRows p B := by simp [elemRows]
theorem elemRows_length (p : PK) (EL : List (Nat × FLoc)) : (elemRows p EL).length = EL.length * 3 := by
  induction EL with
  | nil => rfl
  | cons a r ih =>
    have e : elemRows p (a :: r) = elemRow p a ++ elemRows p r := by simp [elemRows]
    rw [e, List.length_append, ih]
    simp [elemRow]
    omega
theorem elemRow_one (p : PK) (e : Nat × FLoc) : ∀ v ∈ elemRow p e, v.oneCell' = true := by
  intro v hv
  simp only [elemRow, elemVal, List.mem_cons, List.not_mem_nil, or_false] at hv
  rcases hv with rfl | rfl | rfl <;> rfl
theorem elemRows_one (p : PK) (EL : List (Nat × FLoc)) : ∀ v ∈ elemRows p EL, v.oneCell' = true := by
  intro v hv
  obtain ⟨e, _, he⟩ := List.mem_flatMap.1 hv
  exact elemRow_one p e v he
def blkOf (e : Nat × FLoc) : Option Nat := e.2.a.map Addr.block
theorem own_blk (p : PK) (e : Nat × FLoc) : (elemVal p e).ownBlock = blkOf e := by
  unfold elemVal blkOf Value.ownBlock
  cases e.2.a <;> rfl
/-- A list of files as it lies. -/
structure LRep (p : PK) (w : World) (B : Nat) (v : Value) (EL : List (Nat × FLoc)) : Prop where
  row : w.ownsRow B 44 3 v EL.length (elemRows p EL)
  each : ∀ e ∈ EL, w.ownsRow B 5 1 (elemVal p e) (fileAt p e.1).bytes.length (bytesRow (fileAt p e.1).bytes)
  apart : EL.Pairwise (fun e f => blkOf e ≠ none → blkOf e ≠ blkOf f)
  own : ∀ e ∈ EL, blkOf e ≠ none → v.ownBlock ≠ blkOf e
  nil : EL = [] → v = .slice none 0 0
theorem LRep.below {p : PK} {w w' : World} {B : Nat} {v : Value} {EL : List (Nat × FLoc)} (h : LRep p w B v EL) (hb : Below w.heap.size w w') : LRep p w' B v EL :=
  ⟨own_below h.row (hide hb), fun e he => own_below (h.each e he) (hide hb), h.apart, h.own, h.nil⟩
theorem LRep.base {p : PK} {w : World} {B B' : Nat} {v : Value} {EL : List (Nat × FLoc)} (h : LRep p w B v EL) (hB : B' ≤ B) : LRep p w B' v EL :=
  ⟨own_base h.row hB, fun e he => own_base (h.each e he) hB, h.apart, h.own, h.nil⟩
theorem LRep.empty (p : PK) (w : World) (B : Nat) : LRep p w B (.slice none 0 0) [] := ⟨World.ownsRow_nil _ _ _ _, fun e he => absurd he (by simp), List.Pairwise.nil, fun e he => absurd he (by simp), fun _ => rfl⟩
theorem LRep.blk {p : PK} {w : World} {B : Nat} {v : Value} {EL : List (Nat × FLoc)} (h : LRep p w B v EL) {e : Nat × FLoc} (he : e ∈ EL) {k : Nat} (hk : blkOf e = some k) : B ≤ k ∧ k < w.heap.size := (h.each e he).lt k (by rw [own_blk]; exact hk)
/-- More files behind them. -/
theorem LRep.app {p : PK} {w w' : World} {B B2 g cap : Nat} {v : Value} {EL EL2 : List (Nat × FLoc)} (h : LRep p w B v EL) (h2 : ∀ e ∈ EL2, w.ownsRow B2 5 1 (elemVal p e) (fileAt p e.1).bytes.length (bytesRow (fileAt p e.1).bytes)) (ha2 : EL2.Pairwise (fun e f => blkOf e ≠ none → blkOf e ≠ blkOf f)) (hB : B ≤ B2)
    (hv : ∀ k, v.ownBlock = some k → k < B2) (hE : ∀ e ∈ EL, ∀ k, blkOf e = some k → k < B2) (hne : EL2 ≠ [])
    (hown : w'.ownsRow B 44 3 (.slice (some ⟨g, 0, none⟩) (EL.length + EL2.length) cap) (EL.length + EL2.length) (elemRows p EL ++ elemRows p EL2)) (hg : w.grownBy w' v.ownBlock) (hat : v.ownBlock = some g ∨ w.heap.size ≤ g) :
    LRep p w' B (.slice (some ⟨g, 0, none⟩) (EL.length + EL2.length) cap) (EL ++ EL2) := by
  have hlt2 : ∀ e ∈ EL2, ∀ k, blkOf e = some k → B2 ≤ k ∧ k < w.heap.size := fun e he k hk => (h2 e he).lt k (by rw [own_blk]; exact hk)
  refine ⟨?_, fun e he => ?_, List.pairwise_append.2 ⟨h.apart, ha2, fun e he f hf hn => ?_⟩, fun e he hn => ?_, fun q => absurd (List.append_eq_nil_iff.1 q).2 hne⟩
  · rw [List.length_append, elemRows_append]; exact hown
  · rcases List.mem_append.1 he with he | he
    · refine (h.each e he).kept hg ?_
      by_cases hb : blkOf e = none
      · left
        rw [own_blk]; exact hb
      · right
        rw [own_blk]
        exact fun q => h.own e he hb q.symm
    · refine own_base ((h2 e he).kept hg ?_) hB
      by_cases hb : blkOf e = none
      · left
        rw [own_blk]; exact hb
      · right
        rw [own_blk]
        intro q
        obtain ⟨k, hk⟩ := Option.ne_none_iff_exists'.1 hb
        have h1 := hlt2 e he k hk
        have h3 := hv k (by rw [← q, hk])
        omega
  · obtain ⟨k, hk⟩ := Option.ne_none_iff_exists'.1 hn
    intro q
    have h1 := hE e he k hk
    have h3 := hlt2 f hf k (by rw [← q, hk])
    omega
  · show some g ≠ blkOf e
    obtain ⟨k, hk⟩ := Option.ne_none_iff_exists'.1 hn
    intro q
    rw [hk] at q
    have e1 : g = k := by simpa using q
    subst e1
    rcases List.mem_append.1 he with he | he
    · rcases hat with q | q
      · exact h.own e he hn (by rw [q, hk])
      · have := (h.blk he hk).2; omega
    · have h1 := hlt2 e he g hk
      rcases hat with q | q
      · have := hv g q; omega
      · omega
theorem nodup_len : ∀ (l m : List Nat), l.Nodup → (∀ x ∈ l, x ∈ m) → l.length ≤ m.length
  | [], m, _, _ => by simp
  | a :: r, m, hn, hs => by
    obtain ⟨h1, h2⟩ := List.nodup_cons.1 hn
    have ha : a ∈ m := hs a (by simp)
    have := nodup_len r (m.erase a) h2 (fun x hx => (List.mem_erase_of_ne (fun (e : x = a) => h1 (by rw [← e]; exact hx))).2 (hs x (by simp [hx])))
    rw [List.length_erase_of_mem ha] at this
    have : 0 < m.length := List.length_pos_of_mem ha
    simp
    omega
theorem u8Info : (Tryz.prog.info? 5).map (fun i => (i.zero, i.size, i.bytes)) = some (some (.int .u8 0), 1, 1) := by kernel_rfl
theorem clone_bytes {B : Nat} {v : Value} {c : List Int} (w : World) (hv : BytesIs w B v c) (hl : c.length ≤ 1000000) : Calls Tryz.prog 91 #[v] w fun e w' => ∃ a k, e = .returned (.slice a c.length k) ∧ w'.ownsRow w.heap.size 5 1 (.slice a c.length k) c.length (bytesRow c) ∧ Below w.heap.size w w' := by
  rcases hv with ⟨rfl, rfl⟩ | ⟨R, cp, T, rfl, hR, hcp, _, _⟩
  · refine (AnyE.slices_Clone_nil cloneBL 0 0 w).mono ?_
    rintro e w' ⟨rfl, rfl⟩
    exact ⟨none, 0, rfl, World.ownsRow_nil _ _ _ _, Below.refl _ _⟩
  · obtain ⟨i, hi, hz0, hz1, hz2⟩ := info_parts u8Info
    refine (AnyE.slices_Clone cloneBL i (.int .u8 0) 1 1 hi hz0 hz1 hz2 rfl (by decide) Tryz.sizeOf5 R 0 c.length cp (bytesRow c) w (by rw [bytesRow_length]; omega) (by unfold maxLen; omega) (by omega) (fun j u hj => ?_) (bytesRow_one c)).mono ?_
    · rw [Nat.zero_add]
      refine hR.cell ?_
      rw [bytesRow_append, List.getElem?_append_left (List.getElem?_eq_some_iff.1 hj).1]
      exact hj
    · rintro e w' ⟨v', rfl, ho, hn, hb⟩
      have ho : w'.ownsRow w.heap.size 5 1 v' c.length (bytesRow c) := ho
      rcases ho.2 with ⟨rfl, h0⟩ | ⟨g, cap, cur, hv', _⟩
      · exact absurd rfl hn
      · subst hv'
        exact ⟨_, _, rfl, ho, hb⟩
end Go.Proofs.YtkokiefclmbgaaaGreatDoor

/- The program's Find. -/
namespace Go.Proofs.YtkokiefclmbgaaaGreatDoor
open Go Go.RowKit Go.Maps
set_option linter.unusedVariables false
set_option linter.unusedSimpArgs false

/-- What stands against a file at a path: 0 is nothing. -/
def findCode (p : PK) (s : ByteArray) : Int := if (walkOf p.xs s).e ≠ 0 then (walkOf p.xs s).e else if (walkOf p.xs s).n = 0 then 9 else if dirOf p.xs (walkOf p.xs s).n = true then 11 else 0
def findErr (c : Int) : Ending := .returned (.tuple #[.pointer none, .iface 45 (.int .i64 c)])
def FindPost (p : PK) (NB : List Nat) (s : ByteArray) (w : World) (e : Ending) (w' : World) : Prop :=
  Below w.heap.size w w' ∧ (findCode p s ≠ 0 ∧ e = findErr (findCode p s) ∨ findCode p s = 0 ∧ ∃ (i : Nat) (x : Ino) (c : Nat), p.xs[i]? = some x ∧ x.id = (walkOf p.xs s).n ∧ NB[i]? = some c ∧ x.dir = false ∧ (walkOf p.xs s).e = 0 ∧ (walkOf p.xs s).n ≠ 0 ∧ e = .returned (.tuple #[.pointer (some ⟨c, 0, none⟩), .nilIface]))
set_option maxRecDepth 100000 in
set_option maxHeartbeats 1000000 in
theorem fsFind_any (p : PK) (B tb ab am : Nat) (used : Int) (NB MB : List Nat) (V : List Value) (s : ByteArray) (mm : Int) (w : World) (hr : TreeRep w B tb ab am p.li p.lb used p.xs NB MB V) (hi : PInv p) (hlen : p.xs.length ≤ 900000) (hli : 0 ≤ p.li ∧ p.li ≤ 1000000) (hu : 0 ≤ used ∧ used ≤ p.lb) (hlb : p.lb ≤ 1000000) (hs : s.size ≤ maxLen) (hm : w.cell? ⟨2, 0, none⟩ = some (.int .i64 mm)) (hml : 2 < w.heap.size) :
    Calls Tryz.prog 66 #[.pointer (some ⟨tb, 0, none⟩), .string s] w (FindPost p NB s w) := by
  have hne : p.xs ≠ [] := by obtain ⟨x, hx, _⟩ := hi.root; intro e; rw [e] at hx; cases hx
  have HFW := hide (fsFollow_any B tb ab am p.li p.lb used p.xs NB MB V s mm w hr (fun _ => hne) (fun x hx => (hi.ids x hx).1) hi.incr hs hm hml)
  have HR := hide hr
  have HI := hide hi
  have HLN := hide (show p.xs.length ≤ 900000 ∧ (0 ≤ p.li ∧ p.li ≤ 1000000) ∧ (0 ≤ used ∧ used ≤ p.lb) ∧ p.lb ≤ 1000000 from ⟨hlen, hli, hu, hlb⟩)
  clear hr hi hlen hli hu hlb hm hml hne hs
  go_enter Tryz.func66, Tryz.ntmps66
  go_wp2_with fail
  refine (unhide HFW).mono ?_
  rintro e w1 ⟨hb1, (⟨he, rfl⟩ | ⟨he, b, name, hpl, rfl⟩)⟩
  · have HP := hide (show FindPost p NB s w (findErr (walkOf p.xs s).e) (w1.alloc (Obj.cells #[.pointer none, .string ByteArray.empty, .string ByteArray.empty] 166)) from by
      have hc : findCode p s = (walkOf p.xs s).e := by unfold findCode; rw [if_pos he]
      exact ⟨hb1.alloc hb1.size _, .inl ⟨by rw [hc]; exact he, by rw [hc]⟩⟩)
    clear hb1 he HFW
    unfold placeErr
    go_wp2
    go_ret2
    exact unhide HP
  · obtain ⟨W2, hW2⟩ : ∃ W2, W2 = w1.alloc (Obj.cells #[.pointer (some ⟨b, 0, none⟩), .string name, .string s] 166) := ⟨_, rfl⟩
    have hb2 : Below w.heap.size w W2 := by rw [hW2]; exact hb1.alloc hb1.size _
    have hp2 : Holds W2 w1.heap.size 166 [.pointer (some ⟨b, 0, none⟩), .string name, .string s] := by rw [hW2]; exact Holds.new w1 166 _
    have hr2 := (unhide HR).below hb2
    obtain ⟨m, k, ff, dvs, hdn, hd2, hdd, hkk, hns, hBm, hcase⟩ := place_at hr2 (unhide HI) he hpl
    obtain ⟨dv, hdv, hcd⟩ : ∃ dv : Bool, (∀ c, ff name = some c → ∃ v0 vs, Holds W2 c 230 (v0 :: .bool dv :: vs)) ∧ (findCode p s = mayOf (ff name).isSome false (decide (p.li ≤ (p.xs.length : Int))) dv ∧ (findCode p s = 0 → ∃ (i : Nat) (x : Ino) (c : Nat), p.xs[i]? = some x ∧ x.id = (walkOf p.xs s).n ∧ NB[i]? = some c ∧ x.dir = false ∧ (walkOf p.xs s).e = 0 ∧ (walkOf p.xs s).n ≠ 0 ∧ ff name = some c)) := by
      rcases hcase with ⟨hn, i, x, c, y1, y2, y3, y4⟩ | ⟨hn, y, _⟩
      · obtain ⟨mi, hmi⟩ : ∃ mi, MB[i]? = some mi := ⟨_, List.getElem?_eq_getElem (by rw [hr2.len.2]; exact (List.getElem?_eq_some_iff.1 y1).1)⟩
        obtain ⟨qn, v1, mv1, z1, _⟩ := hr2.node i x c mi y1 y3 hmi
        have hdx : dirOf p.xs (walkOf p.xs s).n = x.dir := by rw [← y2]; exact dirOf_at (unhide HI).incr y1
        have hfc : findCode p s = if x.dir = true then 11 else 0 := by unfold findCode; rw [if_neg (by simpa using he), if_neg hn, hdx]
        refine ⟨x.dir, fun c' hc' => by rw [y4] at hc'; obtain rfl := Option.some.inj hc'; exact ⟨_, _, z1⟩, by rw [hfc, y4]; rfl, fun q => ⟨i, x, c, y1, y2, y3, ?_, he, hn, y4⟩⟩
        rw [hfc] at q
        cases hx : x.dir with
        | true => rw [hx] at q; exact absurd q (by decide)
        | false => rfl
      · have hfc : findCode p s = 9 := by unfold findCode; rw [if_neg (by simpa using he), if_pos hn]
        exact ⟨false, (fun c hc => by rw [y] at hc; cases hc), by rw [hfc, y]; rfl, fun q => by rw [hfc] at q; exact absurd q (by decide)⟩
    have hl := unhide HLN
    have HMO := hide (fsMayOpen_any tb ab b m k p.xs.length p.li used p.lb ff name s false dv dvs W2 hr2.tree ⟨by omega, by omega⟩ hl.2.1 hl.2.2.1 hl.2.2.2 hdn hd2 hdd (by omega) hdv)
    rw [← hcd.1] at HMO
    have HW2 := hide hW2
    have HB2 := hide hb2
    have HP2 := hide hp2
    have HDN := hide (And.intro hdn (And.intro hd2 (And.intro hdd hns)))
    have HCD := hide hcd.2
    obtain ⟨PB, hPB⟩ : ∃ PB, PB = w1.heap.size := ⟨_, rfl⟩
    obtain ⟨mc, hmc⟩ : ∃ mc, mc = findCode p s := ⟨_, rfl⟩
    rw [← hmc] at HMO HCD
    clear hb1 hW2 hb2 hp2 hr2 hdn hd2 hdd hkk hns hBm hcase he hpl hl hdv hcd HFW HR HI HLN
    unfold placeAt
    go_upto_region 4 with fail
    rw [← unhide HW2]
    rw [← hPB] at HP2 ⊢
    clear HW2 hPB
    have c0 : W2.cell? ⟨PB, 0, none⟩ = some (.pointer (some ⟨b, 0, none⟩)) := (unhide HP2).cell rfl
    have c1 : W2.cell? ⟨PB, 1, none⟩ = some (.string name) := (unhide HP2).cell rfl
    have c2 : W2.cell? ⟨PB, 2, none⟩ = some (.string s) := (unhide HP2).cell rfl
    have HMC := hide hmc
    clear hmc
    go_wp2_with fail
    refine (unhide HMO).mono ?_
    rintro e w3 ⟨rfl, hb3⟩
    have HB3 := hide ((unhide HB2).trans (hb3.mono (unhide HB2).size))
    have HP3 := hide ((unhide HP2).below hb3 (unhide HP2).lt)
    have HB23 := hide hb3
    clear hb3 HMO c0 c1 c2
    by_cases hz : mc = 0
    · obtain ⟨i, x, c, y1, y2, y3, y4, y5, y6, y7⟩ := unhide HCD hz
      subst hz
      have hd := unhide HDN
      have HND := hide (fsNode_any b m k name s ff w3 (by unfold maxLen; omega) ((hd.1.below (unhide HB23) hd.1.lt).cell hd.2.1) (hd.2.2.1.kept (grown_below (unhide HB23)) (by simp)))
      have HY := hide (show findCode p s = 0 ∧ ∃ (i : Nat) (x : Ino), p.xs[i]? = some x ∧ x.id = (walkOf p.xs s).n ∧ NB[i]? = some c ∧ x.dir = false ∧ (walkOf p.xs s).e = 0 ∧ (walkOf p.xs s).n ≠ 0 from ⟨(unhide HMC).symm, i, x, y1, y2, y3, y4, y5, y6⟩)
      rw [y7] at HND
      have c0 : w3.cell? ⟨PB, 0, none⟩ = some (.pointer (some ⟨b, 0, none⟩)) := (unhide HP3).cell rfl
      have c1 : w3.cell? ⟨PB, 1, none⟩ = some (.string name) := (unhide HP3).cell rfl
      have c2 : w3.cell? ⟨PB, 2, none⟩ = some (.string s) := (unhide HP3).cell rfl
      clear y1 y2 y3 y4 y5 y6 y7 hd HMC HCD HDN
      rw [show errRet 0 = .returned .nilIface from rfl]
      go_wp2_with fail
      refine (unhide HND).mono ?_
      rintro e w4 ⟨rfl, hb4⟩
      have HB4 := hide ((unhide HB3).trans (hb4.mono (unhide HB3).size))
      clear hb4 HND c0 c1 c2
      unfold nodePtr
      go_wp2
      go_ret2
      obtain ⟨q1, i, x, q2, q3, q4, q5, q6, q7⟩ := unhide HY
      exact ⟨unhide HB4, .inr ⟨q1, i, x, c, q2, q3, q4, q5, q6, q7, rfl⟩⟩
    · have HP := hide (show FindPost p NB s w (findErr mc) w3 from ⟨unhide HB3, .inl ⟨by rw [← unhide HMC]; exact hz, by rw [← unhide HMC]⟩⟩)
      rw [show errRet mc = errnoRet mc from by unfold errRet; rw [if_neg hz]]
      clear hz HMC HCD
      unfold errnoRet
      go_wp2
      go_ret2
      exact unhide HP
end Go.Proofs.YtkokiefclmbgaaaGreatDoor

/- The program's processes by their numbers, where there is one: all. -/
namespace Go.Proofs.YtkokiefclmbgaaaGreatDoor
open Go Go.RowKit Go.Maps Go.Sort Go.Shelf
set_option linter.unusedVariables false
set_option linter.unusedSimpArgs false

theorem sortsInt (m : Nat) : AnyZI.SortsIn Tryz.prog sortedL_ren Fence.wide m :=
  ⟨fun blk off cap ss W hH hblk hsz => callsIn_wide.2 (AnyM.slices_Sort_int sortIntL blk off cap ss W hH hblk hsz),
   fun p cap W => callsIn_wide.2 (AnyM.slices_Sort_int_none sortIntL p cap W)⟩
theorem keys_call (pm : Nat) (w : World) : Calls Tryz.prog 83 #[.map (some pm)] w fun e w' => e = .returned (.func (.func 111) #[] #[.pointer (some ⟨w.heap.size, 0, none⟩)]) ∧ w' = w.alloc (.cells #[.map (some pm)] 119) :=
  callsIn_wide.1 (AnyZI.keys_in keysL Fence.wide 5 trivial rfl (some pm) w)
theorem sorted_call {H : Type} (b nn : Nat) (D0 : DataW H) (R : Value → Option (DataW H × List MemPlace)) (w : World) (hown : w.ownsMap Tryz.prog 3 R b nn D0) (hmax : Maps.size D0 ≤ maxLen) (hbytes : Maps.size D0 * 8 ≤ 140737488355328) :
    Calls Tryz.prog 82 #[.func (.func 111) #[] #[.pointer (some ⟨w.heap.size, 0, none⟩)]] (w.alloc (.cells #[.map (some b)] 119)) fun e w' => ∃ (v : Value) (ss : List Int), e = .returned v ∧ ss.Perm (intKeys D0) ∧
      w'.ownsRow w.heap.size 3 1 v ss.length ((ss.mergeSort (fun x y => decide (x ≤ y))).map encZ) ∧ Below w.heap.size w w' := by
  have hbl := hown.lt
  have hseq : SeqGives Fence.wide 2 Tryz.prog 111 #[.pointer (some ⟨w.heap.size, 0, none⟩)] encZ (fun ss => ss.Perm (intKeys D0)) (Maps.size D0) (w.alloc (.cells #[.map (some b)] 119)) :=
    AnyZI.keys_gives (ρ := keysL_ren) { keysL with } Fence.wide _ trivial rfl (by omega) w.heap.size b nn D0 _ (by simp) (by simp) (by
      obtain ⟨es, clock, hb, Ft, hs, hD⟩ := hown
      exact ⟨es, clock, (Below.heap_alloc _ _ b hbl).trans hb, Ft, hs, hD⟩)
  have cS := AnyZI.sorted_in sortedL Fence.wide 5 trivial trivial trivial trivial rfl (by omega) (sortsInt _) (enters_of Tryz.func110 (by kernel_rfl) rfl) 111 #[.pointer (some ⟨w.heap.size, 0, none⟩)] trivial (enters_of Tryz.func111 (by kernel_rfl) rfl) _ _ hmax hbytes _ hseq
  refine (callsIn_wide.1 cS).mono ?_
  rintro e w' ⟨v, ss, rfl, hS, hrow, _, hb⟩
  exact ⟨v, ss, rfl, hS, ownsRow_base_a hrow (by simp), ((Below.refl _ w).alloc (Nat.le_refl _) _).trans (hb.mono (by simp))⟩
theorem one_len {w : World} {pm pb : Nat} (h : OneProc w pm pb) (ty : TypeId) : (Builtin.len_ #[119] ty #[.map (some pm)]).run Tryz.prog w = .ok (.int .i64 1) w := World.ownsMap.len h Tryz.underlying119 ty
theorem procZero (w : World) : (zeroValue 130).run Tryz.prog w = .ok (.pointer none) w := by kernel_rfl
theorem one_look {w : World} {pm pb : Nat} (h : OneProc w pm pb) : (Instr.lookup 119 (.map (some pm)) (.int .i64 1) false).run Tryz.prog w = .ok (.pointer (some ⟨pb, 0, none⟩)) w := by
  obtain ⟨v, ps, hrun, hv⟩ := World.ownsMap.lookup h intKeyed Tryz.underlying119 (procZero w) (show ptrElem (.pointer none) = some (.nil, []) from rfl) (Go.Maps.keyOf_int_mk Tryz.underlying3 (a := 1) (by decide))
  have hv : ptrElem v = some (nodeDatum (some pb), ps) := hv
  rw [ptrElem_inv hv] at hrun
  exact hrun
theorem procPtrInfo : (Tryz.prog.info? 130).map (fun i => (i.zero, i.size, i.bytes)) = some (some (.pointer none), 1, 8) := by kernel_rfl
theorem makePtr (w : World) : ∃ cur : Array Value, cur.size = 1 * 1 ∧ (Instr.makeSlice 115 (.int .i64 0) (.int .i64 1)).run Tryz.prog w = .ok (.slice (some ⟨w.heap.size, 0, none⟩) 0 1) (w.alloc (.cells cur 130)) := by
  obtain ⟨i, hi, hz, hs, hb⟩ := info_parts procPtrInfo
  have hr := run_make (P := Tryz.prog) w 115 130 i _ Tryz.underlying115 hi hz .i64 .i64 0 1 (by omega) (by omega) (by rw [hb]; omega) (by omega)
  rw [hs] at hr
  exact ⟨_, by simp [madeCells], hr⟩
theorem perm_one {ss : List Int} (h : ss.Perm [1]) : ss = [1] := List.perm_singleton.1 h
set_option maxRecDepth 100000 in
set_option maxHeartbeats 2000000 in
theorem all_one (kb pm pb : Nat) (w : World) (hk : w.cell? ⟨kb, 9, none⟩ = some (.map (some pm))) (hkl : kb < w.heap.size) (hm : OneProc w pm pb) :
    Calls Tryz.prog 51 #[.pointer (some ⟨kb, 0, none⟩)] w fun e w' => ∃ v, e = .returned v ∧ w'.ownsRow w.heap.size 130 1 v 1 [.pointer (some ⟨pb, 0, none⟩)] ∧ Below w.heap.size w w' := by
  obtain ⟨cur, hcur, hmk⟩ := makePtr w
  have hln := one_len hm
  obtain ⟨W1, hW1⟩ : ∃ W1, W1 = w.alloc (.cells cur 130) := ⟨_, rfl⟩
  have hb1 : Below w.heap.size w W1 := by rw [hW1]; exact (Below.refl _ _).alloc (Nat.le_refl _) _
  have ho1 : W1.ownsRow w.heap.size 130 1 (.slice (some ⟨w.heap.size, 0, none⟩) 0 1) 0 [] := by rw [hW1]; exact World.ownsRow_made w cur 1 (Nat.le_refl _) (by unfold maxLen; omega) hcur
  have k1 : W1.cell? ⟨kb, 9, none⟩ = some (.map (some pm)) := by rw [hb1.cell (p := ⟨kb, 9, none⟩) hkl]; exact hk
  have hm1 : OneProc W1 pm pb := hm.kept (grown_below hb1) (by simp)
  have HKY := hide (keys_call pm W1)
  have HST := hide (sorted_call pm 1 (procD pb) ptrElem W1 hm1 (by show 1 ≤ maxLen; unfold maxLen; omega) (by show 1 * 8 ≤ _; omega))
  have HM := hide hm
  have HB1 := hide hb1
  have HO1 := hide ho1
  have HW1 := hide hW1
  obtain ⟨ip, hip, hpz0, hpz1, hpz2⟩ := info_parts procPtrInfo
  have HIP := hide (And.intro hip (And.intro hpz0 (And.intro hpz1 hpz2)))
  clear hm hb1 ho1 hW1 hcur hip hpz0 hpz1 hpz2 hm1
  go_enter Tryz.func51, Tryz.ntmps51
  go_upto_region 2 with fail
  rw [← unhide HW1]
  clear hmk hln
  go_wp2_with fail
  refine (unhide HKY).mono ?_
  rintro e w2 ⟨rfl, rfl⟩
  clear HKY k1
  go_wp2_with fail
  refine (unhide HST).mono ?_
  rintro e w3 ⟨v, ss, rfl, hss, hrow, hb3⟩
  obtain rfl := perm_one (show ss.Perm [1] from hss)
  obtain ⟨gs, cs, rfl, hgs, hgl⟩ := hrow.form (show 0 < [(1 : Int)].length by decide)
  have hrow : w3.ownsRow W1.heap.size 3 1 (.slice (some ⟨gs, 0, none⟩) 1 cs) 1 [.int .i64 1] := by
    have h := hrow
    rw [List.mergeSort_singleton] at h
    exact h
  have s0 : w3.cell? ⟨gs, 0, none⟩ = some (.int .i64 1) := hrow.cellAt 0 (by omega)
  have hb3w := (unhide HB1).trans (hb3.mono (unhide HB1).size)
  have ho3 := own_below (unhide HO1) (hide hb3)
  have HB3 := hide hb3w
  have HO3 := hide ho3
  have hm3 : OneProc w3 pm pb := (unhide HM).kept (grown_below hb3w) (by simp)
  have hlk := one_look hm3
  have k3 : w3.cell? ⟨kb, 9, none⟩ = some (.map (some pm)) := by rw [hb3w.cell (p := ⟨kb, 9, none⟩) hkl]; exact hk
  have HL := hide (show w.heap.size ≤ w3.heap.size from hb3w.size)
  clear hss hrow hgs hgl hb3 hb3w ho3 hm3 HST hk
  go_wp2
  go_loopw [3, 19] (fun v i wr => ∃ k : Nat, k ≤ 1 ∧ i = .int .i64 k ∧ (k = 0 → v = .slice (some ⟨w.heap.size, 0, none⟩) 0 1 ∧ wr = w3) ∧ (k = 1 → Hid (wr.ownsRow w.heap.size 130 1 v 1 [.pointer (some ⟨pb, 0, none⟩)] ∧ Below w.heap.size w wr))) (fun _ i _ => 1 - (intOf i).toNat)
  case atStart => exact ⟨0, by omega, rfl, fun _ => ⟨rfl, rfl⟩, fun h => by omega⟩
  case round =>
    obtain ⟨k, hk, rfl, h0, h1⟩ := hrel
    have h2 : k = 0 ∨ k = 1 := by omega
    rcases h2 with rfl | rfl
    · obtain ⟨rfl, rfl⟩ := h0 rfl
      have hb4 : Below wr.heap.size wr (wr.alloc (Obj.cells #[.pointer (some ⟨pb, 0, none⟩)] 130)) := (Below.refl _ _).alloc (Nat.le_refl _) _
      have HA := hide (own_below (unhide HO3) (hide hb4))
      have HB4 := hide ((unhide HB3).trans (hb4.mono (unhide HB3).size))
      have hl := unhide HL
      clear h0 h1 hb4
      go_wp2_with (at_builtin; refine wpList_append_lies _ (by rfl) _ _ 115 (by rfl) w.heap.size 130 ip _ 1 8 Tryz.underlying115 (unhide HIP).1 (unhide HIP).2.1 (unhide HIP).2.2.1 (unhide HIP).2.2.2 rfl (by decide) _ 0 [] (by rfl) (unhide HA) ⟨wr.heap.size, 0, none⟩ 1 1 [.pointer (some ⟨pb, 0, none⟩)] (by rfl) (by rfl) (news1 wr _ _) (by intro u hu; simp only [List.mem_cons, List.not_mem_nil, or_false] at hu; subst hu; rfl) (by omega) (by unfold maxLen; omega) (by omega) (by simp; omega) (wr.heap.size + 1) (by simp) ?_; intro g8 c8 w8 hown8 hgrow8 hat8 hlt8)
      refine ⟨⟨1, by omega, by simp, fun h => by omega, fun _ => hide ⟨hown8, (unhide HB4).trans ⟨hgrow8.os, hgrow8.tape, hgrow8.output, hgrow8.size, fun q hq => hgrow8.block q (by simp; omega) (fun e => ?_)⟩⟩⟩, by simp [intOf]⟩
      have := (unhide HA).lt q e.symm
      omega
    · have HF := h1 rfl
      clear h0 h1
      go_wp2
      go_ret
      exact ⟨_, rfl, (unhide HF).1, (unhide HF).2⟩
end Go.Proofs.YtkokiefclmbgaaaGreatDoor
