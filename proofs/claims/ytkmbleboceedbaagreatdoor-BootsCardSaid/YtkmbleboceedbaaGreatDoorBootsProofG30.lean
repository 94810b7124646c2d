import Derived.Test.YtkmbleboceedbaaGreatDoorBootsProofG25
import Derived.Test.YtkmbleboceedbaaGreatDoorBootsProofG28
import Derived.Test.YtkmbleboceedbaaGreatDoorBootsProofG29
import Derived.Test.YtkmbleboceedbaaGreatDoorBootsProofG13
import Derived.Test.YtkmbleboceedbaaGreatDoorBootsProofG08
import Derived.Test.YtkmbleboceedbaaGreatDoorBootsProofG09
import Derived.Test.YtkmbleboceedbaaGreatDoorBootsProofG14
import Derived.Test.YtkmbleboceedbaaGreatDoorBootsProofG10
/- Files that are told, as they lie; bytes that are cloned. -/
namespace Go.Proofs.YtkmbleboceedbaaGreatDoor
open Go Go.RowKit Go.Maps
set_option linter.unusedVariables false
set_option linter.unusedSimpArgs false

/-- The file at a place, as it is told. -/
def fileAt (p : PK) (j : Nat) : PFile := match p.xs[j]? with | some x => ⟨pathOf p.xs x.id, x.dir, p.cs.getD j []⟩ | none => ⟨ByteArray.empty, false, []⟩
theorem fileAt_eq {p : PK} {j : Nat} {x : Ino} {c : List Int} (hx : p.xs[j]? = some x) (hc : p.cs[j]? = some c) : fileAt p j = ⟨pathOf p.xs x.id, x.dir, c⟩ := by
  unfold fileAt
  rw [hx, List.getD_eq_getElem?_getD, hc]
  rfl
def elemVal (p : PK) (e : Nat × FLoc) : Value := .slice e.2.a (fileAt p e.1).bytes.length e.2.c
def elemRow (p : PK) (e : Nat × FLoc) : List Value := [.string (fileAt p e.1).path, .bool (fileAt p e.1).dir, elemVal p e]
def elemRows (p : PK) (EL : List (Nat × FLoc)) : List Value := EL.flatMap (elemRow p)
theorem elemRows_append (p : PK) (A B : List (Nat × FLoc)) : elemRows p (A ++ B) = elemRows p A ++ elemRows p B := by simp [elemRows]
theorem elemRows_length (p : PK) (EL : List (Nat × FLoc)) : (elemRows p EL).length = EL.length * 3 := by
  induction EL with
  | nil => rfl
  | cons a r ih =>
    have e : elemRows p (a :: r) = elemRow p a ++ elemRows p r := by simp [elemRows]
    rw [e, List.length_append, ih]
    simp [elemRow]
    omega
theorem elemRow_one (p : PK) (e : Nat × FLoc) : ∀ v ∈ elemRow p e, v.oneCell' = true := by
  intro v hv
  simp only [elemRow, elemVal, List.mem_cons, List.not_mem_nil, or_false] at hv
  rcases hv with rfl | rfl | rfl <;> rfl
theorem elemRows_one (p : PK) (EL : List (Nat × FLoc)) : ∀ v ∈ elemRows p EL, v.oneCell' = true := by
  intro v hv
  obtain ⟨e, _, he⟩ := List.mem_flatMap.1 hv
  exact elemRow_one p e v he
def blkOf (e : Nat × FLoc) : Option Nat := e.2.a.map Addr.block
theorem own_blk (p : PK) (e : Nat × FLoc) : (elemVal p e).ownBlock = blkOf e := by
  unfold elemVal blkOf Value.ownBlock
  cases e.2.a <;> rfl
/-- A list of files as it lies. -/
structure LRep (p : PK) (w : World) (B : Nat) (v : Value) (EL : List (Nat × FLoc)) : Prop where
  row : w.ownsRow B 44 3 v EL.length (elemRows p EL)
  each : ∀ e ∈ EL, w.ownsRow B 5 1 (elemVal p e) (fileAt p e.1).bytes.length (bytesRow (fileAt p e.1).bytes)
  apart : EL.Pairwise (fun e f => blkOf e ≠ none → blkOf e ≠ blkOf f)
  own : ∀ e ∈ EL, blkOf e ≠ none → v.ownBlock ≠ blkOf e
  nil : EL = [] → v = .slice none 0 0
theorem LRep.below {p : PK} {w w' : World} {B : Nat} {v : Value} {EL : List (Nat × FLoc)} (h : LRep p w B v EL) (hb : Below w.heap.size w w') : LRep p w' B v EL :=
  ⟨own_below h.row (hide hb), fun e he => own_below (h.each e he) (hide hb), h.apart, h.own, h.nil⟩
theorem LRep.base {p : PK} {w : World} {B B' : Nat} {v : Value} {EL : List (Nat × FLoc)} (h : LRep p w B v EL) (hB : B' ≤ B) : LRep p w B' v EL :=
  ⟨own_base h.row hB, fun e he => own_base (h.each e he) hB, h.apart, h.own, h.nil⟩
theorem LRep.empty (p : PK) (w : World) (B : Nat) : LRep p w B (.slice none 0 0) [] := ⟨World.ownsRow_nil _ _ _ _, fun e he => absurd he (by simp), List.Pairwise.nil, fun e he => absurd he (by simp), fun _ => rfl⟩
theorem LRep.blk {p : PK} {w : World} {B : Nat} {v : Value} {EL : List (Nat × FLoc)} (h : LRep p w B v EL) {e : Nat × FLoc} (he : e ∈ EL) {k : Nat} (hk : blkOf e = some k) : B ≤ k ∧ k < w.heap.size := (h.each e he).lt k (by rw [own_blk]; exact hk)
/-- More files behind them. -/
theorem LRep.app {p : PK} {w w' : World} {B B2 g cap : Nat} {v : Value} {EL EL2 : List (Nat × FLoc)} (h : LRep p w B v EL) (h2 : ∀ e ∈ EL2, w.ownsRow B2 5 1 (elemVal p e) (fileAt p e.1).bytes.length (bytesRow (fileAt p e.1).bytes)) (ha2 : EL2.Pairwise (fun e f => blkOf e ≠ none → blkOf e ≠ blkOf f)) (hB : B ≤ B2)
    (hv : ∀ k, v.ownBlock = some k → k < B2) (hE : ∀ e ∈ EL, ∀ k, blkOf e = some k → k < B2) (hne : EL2 ≠ [])
    (hown : w'.ownsRow B 44 3 (.slice (some ⟨g, 0, none⟩) (EL.length + EL2.length) cap) (EL.length + EL2.length) (elemRows p EL ++ elemRows p EL2)) (hg : w.grownBy w' v.ownBlock) (hat : v.ownBlock = some g ∨ w.heap.size ≤ g) :
    LRep p w' B (.slice (some ⟨g, 0, none⟩) (EL.length + EL2.length) cap) (EL ++ EL2) := by
  have hlt2 : ∀ e ∈ EL2, ∀ k, blkOf e = some k → B2 ≤ k ∧ k < w.heap.size := fun e he k hk => (h2 e he).lt k (by rw [own_blk]; exact hk)
  refine ⟨?_, fun e he => ?_, List.pairwise_append.2 ⟨h.apart, ha2, fun e he f hf hn => ?_⟩, fun e he hn => ?_, fun q => absurd (List.append_eq_nil_iff.1 q).2 hne⟩
  · rw [List.length_append, elemRows_append]; exact hown
  · rcases List.mem_append.1 he with he | he
    · refine (h.each e he).kept hg ?_
      by_cases hb : blkOf e = none
      · left
        rw [own_blk]; exact hb
      · right
        rw [own_blk]
        exact fun q => h.own e he hb q.symm
    · refine own_base ((h2 e he).kept hg ?_) hB
      by_cases hb : blkOf e = none
      · left
        rw [own_blk]; exact hb
      · right
        rw [own_blk]
        intro q
        obtain ⟨k, hk⟩ := Option.ne_none_iff_exists'.1 hb
        have h1 := hlt2 e he k hk
        have h3 := hv k (by rw [← q, hk])
        omega
  · obtain ⟨k, hk⟩ := Option.ne_none_iff_exists'.1 hn
    intro q
    have h1 := hE e he k hk
    have h3 := hlt2 f hf k (by rw [← q, hk])
    omega
  · show some g ≠ blkOf e
    obtain ⟨k, hk⟩ := Option.ne_none_iff_exists'.1 hn
    intro q
    rw [hk] at q
    have e1 : g = k := by simpa using q
    subst e1
    rcases List.mem_append.1 he with he | he
    · rcases hat with q | q
      · exact h.own e he hn (by rw [q, hk])
      · have := (h.blk he hk).2; omega
    · have h1 := hlt2 e he g hk
      rcases hat with q | q
      · have := hv g q; omega
      · omega
theorem nodup_len : ∀ (l m : List Nat), l.Nodup → (∀ x ∈ l, x ∈ m) → l.length ≤ m.length
  | [], m, _, _ => by simp
  | a :: r, m, hn, hs => by
    obtain ⟨h1, h2⟩ := List.nodup_cons.1 hn
    have ha : a ∈ m := hs a (by simp)
    have := nodup_len r (m.erase a) h2 (fun x hx => (List.mem_erase_of_ne (fun (e : x = a) => h1 (by rw [← e]; exact hx))).2 (hs x (by simp [hx])))
    rw [List.length_erase_of_mem ha] at this
    have : 0 < m.length := List.length_pos_of_mem ha
    simp
    omega
theorem u8Info : (Tryz.prog.info? 5).map (fun i => (i.zero, i.size, i.bytes)) = some (some (.int .u8 0), 1, 1) := by kernel_rfl
theorem clone_bytes {B : Nat} {v : Value} {c : List Int} (w : World) (hv : BytesIs w B v c) (hl : c.length ≤ 1000000) : Calls Tryz.prog 91 #[v] w fun e w' => ∃ a k, e = .returned (.slice a c.length k) ∧ w'.ownsRow w.heap.size 5 1 (.slice a c.length k) c.length (bytesRow c) ∧ Below w.heap.size w w' := by
  rcases hv with ⟨rfl, rfl⟩ | ⟨R, cp, T, rfl, hR, hcp, _, _⟩
  · refine (AnyE.slices_Clone_nil cloneBL 0 0 w).mono ?_
    rintro e w' ⟨rfl, rfl⟩
    exact ⟨none, 0, rfl, World.ownsRow_nil _ _ _ _, Below.refl _ _⟩
  · obtain ⟨i, hi, hz0, hz1, hz2⟩ := info_parts u8Info
    refine (AnyE.slices_Clone cloneBL i (.int .u8 0) 1 1 hi hz0 hz1 hz2 rfl (by decide) Tryz.sizeOf5 R 0 c.length cp (bytesRow c) w (by rw [bytesRow_length]; omega) (by unfold maxLen; omega) (by omega) (fun j u hj => ?_) (bytesRow_one c)).mono ?_
    · rw [Nat.zero_add]
      refine hR.cell ?_
      rw [bytesRow_append, List.getElem?_append_left (List.getElem?_eq_some_iff.1 hj).1]
      exact hj
    · rintro e w' ⟨v', rfl, ho, hn, hb⟩
      have ho : w'.ownsRow w.heap.size 5 1 v' c.length (bytesRow c) := ho
      rcases ho.2 with ⟨rfl, h0⟩ | ⟨g, cap, cur, hv', _⟩
      · exact absurd rfl hn
      · subst hv'
        exact ⟨_, _, rfl, ho, hb⟩
end Go.Proofs.YtkmbleboceedbaaGreatDoor

/- The program's address spaces: the cells of one, Count. -/
namespace Go.Proofs.YtkmbleboceedbaaGreatDoor
open Go Go.RowKit
set_option linter.unusedVariables false
set_option linter.unusedSimpArgs false

def isZ : Value → Bool
  | .int .u8 0 => true
  | _ => false
def allZ : List Value → Bool
  | [] => true
  | v :: r => match isZ v with | true => allZ r | false => false
theorem isZ_eq {v : Value} (h : isZ v = true) : v = .int .u8 0 := by
  unfold isZ at h
  split at h
  · rfl
  · cases h
theorem allZ_rep : ∀ (l : List Value), allZ l = true → l = List.replicate l.length (.int .u8 0)
  | [], _ => rfl
  | v :: r, h => by
    unfold allZ at h
    split at h
    · rename_i hv
      rw [isZ_eq hv, List.length_cons, List.replicate_succ, ← allZ_rep r h]
    · cases h
set_option maxRecDepth 1000000 in
theorem space_z : allZ Tryz.zeroCells176.toList = true := by kernel_rfl
def zeroSpace : List Value := List.replicate 65792 (.int .u8 0)
theorem space_zero : Tryz.zeroCells176 = zeroSpace.toArray := by
  have h := allZ_rep _ space_z
  have hl : Tryz.zeroCells176.toList.length = 65792 := by rw [Array.length_toList]; exact Tryz.zeroCells176_size
  rw [hl] at h
  unfold zeroSpace
  rw [← h]

/-! ### Rows of rows -/
theorem flat_congr' {α : Type} {l : List Nat} {f g : Nat → List α} (h : ∀ a ∈ l, f a = g a) : l.flatMap f = l.flatMap g := by
  induction l with
  | nil => rfl
  | cons a r ih => rw [List.flatMap_cons, List.flatMap_cons, h a (by simp), ih (fun b hb => h b (by simp [hb]))]
theorem range_split (n N : Nat) (h : n < N) : List.range N = List.range n ++ n :: List.range' (n + 1) (N - n - 1) := by
  rw [List.range_eq_range', List.range_eq_range', show N = n + (N - n - 1 + 1) by omega, ← List.range'_append_1, Nat.zero_add, List.range'_succ]
  congr 3
  omega
theorem flat_len {α : Type} (f : Nat → List α) (m : Nat) : ∀ (l : List Nat), (∀ j ∈ l, (f j).length = m) → (l.flatMap f).length = l.length * m
  | [], _ => by simp
  | a :: r, h => by
    rw [List.flatMap_cons, List.length_append, h a (by simp), flat_len f m r (fun j hj => h j (by simp [hj])), List.length_cons, Nat.succ_mul, Nat.add_comm]
theorem flat_get {α : Type} (f : Nat → List α) (m N : Nat) (hf : ∀ j, j < N → (f j).length = m) (j k : Nat) (hj : j < N) (hk : k < m) : ((List.range N).flatMap f)[j * m + k]? = (f j)[k]? := by
  rw [range_split j N hj, List.flatMap_append, List.flatMap_cons]
  have hl : ((List.range j).flatMap f).length = j * m := by rw [flat_len f m _ (fun i hi => hf i (by have := List.mem_range.1 hi; omega)), List.length_range]
  rw [List.getElem?_append_right (by omega), hl, Nat.add_sub_cancel_left, List.getElem?_append_left (by rw [hf j hj]; exact hk)]
theorem flat_splice {α : Type} (f g : Nat → List α) (m N n : Nat) (r : List α) (hf : ∀ j, j < N → (f j).length = m) (hr : r.length = m) (hn : n < N) (hg : g n = r) (ho : ∀ j, j < N → j ≠ n → g j = f j) : splice ((List.range N).flatMap f) (n * m) r = (List.range N).flatMap g := by
  rw [range_split n N hn, List.flatMap_append, List.flatMap_cons, List.flatMap_append, List.flatMap_cons]
  have hl : ((List.range n).flatMap f).length = n * m := by rw [flat_len f m _ (fun i hi => hf i (by have := List.mem_range.1 hi; omega)), List.length_range]
  have e1 : (List.range n).flatMap g = (List.range n).flatMap f := by
    refine flat_congr' (fun j hj => ho j ?_ ?_) <;> have := List.mem_range.1 hj <;> omega
  have e2 : (List.range' (n + 1) (N - n - 1)).flatMap g = (List.range' (n + 1) (N - n - 1)).flatMap f := by
    refine flat_congr' (fun j hj => ho j ?_ ?_) <;> have := List.mem_range'_1.1 hj <;> omega
  rw [e1, e2, hg]
  unfold splice
  rw [List.take_left' hl, hr]
  congr 2
  rw [← List.append_assoc, List.drop_left' (by rw [List.length_append, hl, hf n hn])]

/-! ### A space -/
def pageCells (p : Pg) : List Value := .int .u8 p.perm :: bytesRow p.bytes
def noPage : List Value := List.replicate 257 (.int .u8 0)
def spacePage (PS : List Pg) (j : Nat) : List Value := match PS.find? (fun p => p.num == (j : Int)) with | some p => pageCells p | none => noPage
/-- The cells of an address space with these pages. -/
def spaceRow (PS : List Pg) : List Value := (List.range 256).flatMap (spacePage PS)
/-- Pages by their numbers, all below 256, which may be used for something, of 256 bytes. -/
structure PgsOk (PS : List Pg) : Prop where
  sorted : PS.Pairwise (fun p q => p.num < q.num)
  each : ∀ p ∈ PS, 0 ≤ p.num ∧ p.num < 256 ∧ 1 ≤ p.perm ∧ p.perm ≤ 255 ∧ p.bytes.length = 256
theorem PgsOk.pre {PS QS : List Pg} (h : PgsOk (PS ++ QS)) : PgsOk PS := ⟨(List.pairwise_append.1 h.sorted).1, fun p hp => h.each p (List.mem_append_left _ hp)⟩
theorem pageCells_length {p : Pg} (h : p.bytes.length = 256) : (pageCells p).length = 257 := by unfold pageCells; rw [List.length_cons, bytesRow_length, h]
theorem spacePage_length {PS : List Pg} (h : ∀ p ∈ PS, p.bytes.length = 256) (j : Nat) : (spacePage PS j).length = 257 := by
  unfold spacePage
  split
  · rename_i p hp
    exact pageCells_length (h p (List.mem_of_find?_eq_some hp))
  · unfold noPage; exact List.length_replicate
theorem spaceRow_length {PS : List Pg} (h : ∀ p ∈ PS, p.bytes.length = 256) : (spaceRow PS).length = 65792 := by
  unfold spaceRow
  rw [flat_len _ 257 _ (fun j _ => spacePage_length h j), List.length_range]
theorem flat_const (z : Value) (m : Nat) : ∀ (l : List Nat), (l.flatMap fun _ => List.replicate m z) = List.replicate (l.length * m) z
  | [] => by simp
  | a :: r => by rw [List.flatMap_cons, flat_const z m r, List.length_cons, Nat.succ_mul, Nat.add_comm (r.length * m), List.replicate_append_replicate]
theorem space_nil : spaceRow [] = zeroSpace := by
  show (List.range 256).flatMap (fun _ => List.replicate 257 (Value.int .u8 0)) = zeroSpace
  rw [flat_const, List.length_range]
  rfl
theorem space_get {PS : List Pg} (h : ∀ p ∈ PS, p.bytes.length = 256) (j k : Nat) (hj : j < 256) (hk : k < 257) : (spaceRow PS)[j * 257 + k]? = (spacePage PS j)[k]? := flat_get _ 257 256 (fun j _ => spacePage_length h j) j k hj hk
theorem space_step {PS : List Pg} {p : Pg} (h : PgsOk (PS ++ [p])) (n : Nat) (hn : p.num = n) : splice (spaceRow PS) (n * 257) (pageCells p) = spaceRow (PS ++ [p]) := by
  have hp := h.each p (by simp)
  have hb : ∀ q ∈ PS, q.bytes.length = 256 := fun q hq => (h.each q (by simp [hq])).2.2.2.2
  have hlt : ∀ q ∈ PS, q.num < p.num := fun q hq => (List.pairwise_append.1 h.sorted).2.2 q hq p (by simp)
  refine flat_splice _ _ 257 256 n _ (fun j _ => spacePage_length hb j) (pageCells_length hp.2.2.2.2) (by omega) ?_ (fun j hj hne => ?_)
  · unfold spacePage
    rw [List.find?_append, show PS.find? (fun q => q.num == (n : Int)) = none from List.find?_eq_none.2 (fun q hq => by have := hlt q hq; simp; omega)]
    simp [hn]
  · unfold spacePage
    rw [List.find?_append]
    cases hf : PS.find? (fun q => q.num == (j : Int)) with
    | some q => rfl
    | none =>
      have : ([p].find? (fun q => q.num == (j : Int))) = none := List.find?_eq_none.2 (fun q hq => by simp at hq; subst hq; simp; omega)
      rw [this]; rfl
/-- The pages below a number. -/
def pgsTo (PS : List Pg) (n : Nat) : List Pg := (List.range n).filterMap (fun j : Nat => PS.find? (fun p => p.num == (j : Int)))
theorem pgsTo_succ (PS : List Pg) (n : Nat) : pgsTo PS (n + 1) = pgsTo PS n ++ (PS.find? (fun p => p.num == (n : Int))).toList := by
  unfold pgsTo
  rw [List.range_succ, List.filterMap_append]
  cases h : PS.find? (fun p => p.num == (n : Int)) <;> simp [h]
theorem pgsTo_take {PS : List Pg} (h : PgsOk PS) : ∀ n : Nat, pgsTo PS n = PS.filter (fun p => decide (p.num < (n : Int)))
  | 0 => by
    unfold pgsTo
    simp only [List.range_zero, List.filterMap_nil]
    symm
    rw [List.filter_eq_nil_iff]
    intro p hp
    have := (h.each p hp).1
    simp; omega
  | n + 1 => by
    rw [pgsTo_succ, pgsTo_take h n]
    clear pgsTo_take
    have hs := h.sorted
    have h0 : ∀ p ∈ PS, 0 ≤ p.num := fun p hp => (h.each p hp).1
    clear h
    induction PS with
    | nil => rfl
    | cons a r ih =>
      obtain ⟨ha, hr⟩ := List.pairwise_cons.1 hs
      have ih := ih hr (fun p hp => h0 p (by simp [hp]))
      by_cases hlt : a.num < (n : Int)
      · rw [List.filter_cons_of_pos (by simpa using hlt), List.filter_cons_of_pos (by simp; omega), List.find?_cons_of_neg (by simp; omega), List.cons_append, ih]
      · have hrn : ∀ q ∈ r, ¬ q.num < (n : Int) := fun q hq => by have := ha q hq; omega
        by_cases heq : a.num = (n : Int)
        · rw [List.filter_cons_of_neg (by simpa using hlt), List.filter_cons_of_pos (by simp; omega), List.find?_cons_of_pos (by simpa using heq)]
          have e1 : r.filter (fun p => decide (p.num < (n : Int))) = [] := List.filter_eq_nil_iff.2 (fun q hq => by have := hrn q hq; simpa using this)
          have e2 : r.filter (fun p => decide (p.num < ((n + 1 : Nat) : Int))) = [] := List.filter_eq_nil_iff.2 (fun q hq => by have := ha q hq; simp; omega)
          rw [e1, e2]; rfl
        · rw [List.filter_cons_of_neg (by simpa using hlt), List.filter_cons_of_neg (by simp; omega), List.find?_cons_of_neg (by simpa using heq)]
          exact ih
theorem pgsTo_all {PS : List Pg} (h : PgsOk PS) : pgsTo PS 256 = PS := by
  rw [pgsTo_take h]
  exact List.filter_eq_self.2 (fun p hp => by have := (h.each p hp).2.1; simp; omega)
theorem pgsTo_len (PS : List Pg) : ∀ n, (pgsTo PS n).length ≤ n
  | 0 => by simp [pgsTo]
  | n + 1 => by
    have := pgsTo_len PS n
    rw [pgsTo_succ, List.length_append]
    cases h : PS.find? (fun p => p.num == (n : Int)) <;> simp <;> omega
def permAt (PS : List Pg) (j : Nat) : Int := match PS.find? (fun p => p.num == (j : Int)) with | some p => p.perm | none => 0
theorem spacePage_perm (PS : List Pg) (j : Nat) : (spacePage PS j)[0]? = some (.int .u8 (permAt PS j)) := by
  unfold spacePage permAt
  split <;> rfl
end Go.Proofs.YtkmbleboceedbaaGreatDoor

/- The program's Count of an address space. -/
namespace Go.Proofs.YtkmbleboceedbaaGreatDoor
open Go Go.RowKit
set_option linter.unusedVariables false
set_option linter.unusedSimpArgs false

theorem permAt_found {PS : List Pg} (h : PgsOk PS) (j : Nat) : permAt PS j = 0 ∧ PS.find? (fun p => p.num == (j : Int)) = none ∨ 1 ≤ permAt PS j ∧ ∃ p, p ∈ PS ∧ PS.find? (fun p => p.num == (j : Int)) = some p ∧ permAt PS j = p.perm := by
  unfold permAt
  cases hf : PS.find? (fun p => p.num == (j : Int)) with
  | none => exact .inl ⟨rfl, rfl⟩
  | some p => exact .inr ⟨(h.each p (List.mem_of_find?_eq_some hf)).2.2.1, p, List.mem_of_find?_eq_some hf, rfl, rfl⟩
set_option maxRecDepth 100000 in
set_option maxHeartbeats 1000000 in
theorem count_any (pb so : Nat) (PS : List Pg) (w : World) (hok : PgsOk PS) (hc : ∀ j : Nat, j < 256 → w.cell? ⟨pb, so + j * 257, none⟩ = some (.int .u8 (permAt PS j))) :
    Calls Tryz.prog 71 #[.pointer (some ⟨pb, so, none⟩)] w fun e w' => e = .returned (.int .i64 (PS.length : Nat)) ∧ w' = w := by
  have HC := hide hc
  have HOK := hide hok
  clear hc hok
  go_enter Tryz.func71, Tryz.ntmps71
  go_wp2
  go_loopw [3, 5] (fun c i wr => ∃ j : Nat, j ≤ 256 ∧ i = .int .i64 j ∧ c = .int .i64 ((pgsTo PS j).length : Nat) ∧ wr = w) (fun _ i _ => 256 - (intOf i).toNat)
  case atStart => exact ⟨0, by omega, rfl, rfl, rfl⟩
  case round =>
    obtain ⟨j, hj, rfl, rfl, rfl⟩ := hrel
    by_cases hlt : j < 256
    · have hcell := unhide HC j hlt
      have hj0 : (0 : Int) ≤ (j : Int) := by omega
      have hj1 : (j : Int) < 256 := by omega
      have hl := pgsTo_len PS j
      have hs := pgsTo_succ PS j
      obtain ⟨n, hn⟩ : ∃ n, n = (pgsTo PS j).length := ⟨_, rfl⟩
      obtain ⟨v, hv⟩ : ∃ v, v = permAt PS j := ⟨_, rfl⟩
      rw [← hn] at hl ⊢
      rw [← hv] at hcell
      have hn2 : (n : Int) ≤ 256 := by omega
      rcases permAt_found (unhide HOK) j with ⟨h1, h2⟩ | ⟨h1, p, _, h2, _⟩
      · have HE := hide (show (pgsTo PS (j + 1)).length = n by rw [hs, h2, hn]; simp)
        have k0 : v = 0 := by omega
        subst k0
        clear hs hn hv h1 h2 hl
        go_wp2
        exact ⟨⟨j + 1, by omega, by simp, by rw [unhide HE], trivial⟩, by simp only [intOf]; omega⟩
      · have HE := hide (show (pgsTo PS (j + 1)).length = n + 1 by rw [hs, h2, hn]; simp)
        have k0 : (v == 0) = false := by simp; omega
        clear hs hn h1 h2 hl
        clear hv
        go_wp2
        exact ⟨⟨j + 1, by omega, by simp, by rw [unhide HE]; simp, trivial⟩, by simp only [intOf]; omega⟩
    · have : j = 256 := by omega
      subst this
      rw [pgsTo_all (unhide HOK)]
      go_wp2
      go_ret
      exact ⟨rfl, rfl⟩
end Go.Proofs.YtkmbleboceedbaaGreatDoor

/- Great structs of the program: what is built, laid, loaded. -/
namespace Go.Proofs.YtkmbleboceedbaaGreatDoor
open Go Go.RowKit
set_option linter.unusedVariables false
set_option linter.unusedSimpArgs false

theorem splice_cons {α : Type} (L : List α) (o : Nat) (v : α) (r : List α) (h : o + (r.length + 1) ≤ L.length) : splice (L.set o v) (o + 1) r = splice L o (v :: r) := by
  have a := splice_set L o [v] 0 v rfl (by simp; omega)
  simp only [List.take_zero, splice_nil, Nat.add_zero, Nat.zero_add] at a
  rw [a, show (List.take 1 [v]) = [v] from rfl]
  exact splice_splice L o [v] r (by simp; omega)
theorem fold_splice (off : Nat) : ∀ (vs : List Value) (k : Nat) (L : List Value), off + k + vs.length ≤ L.length → (vs.zipIdx k).foldl (fun cs (x : Value × Nat) => cs.setIfInBounds (off + x.2) x.1) L.toArray = (splice L (off + k) vs).toArray
  | [], k, L, _ => by rw [splice_nil]; rfl
  | v :: r, k, L, h => by
    have h' : off + k + (r.length + 1) ≤ L.length := h
    rw [List.zipIdx_cons, List.foldl_cons]
    show (r.zipIdx (k + 1)).foldl _ (L.toArray.setIfInBounds (off + k) v) = _
    rw [List.setIfInBounds_toArray, fold_splice off r (k + 1) (L.set (off + k) v) (by rw [List.length_set]; omega), ← Nat.add_assoc, splice_cons L (off + k) v r h']
/-- One part more of a struct that is built. -/
theorem fill_part (place : Nat → Option (Nat × Nat)) (L : List Value) (i off size : Nat) (v : Value) (rest : List (Nat × Value)) (hp : place i = some (off, size)) (hs : v.cells.size = size) (hle : off + size ≤ L.length) :
    Instr.fill place L.toArray ((i, v) :: rest) = Instr.fill place (splice L off v.cells.toList).toArray rest := by
  rw [Instr.fill]
  simp only [hp]
  rw [if_neg (by simp [hs]; omega)]
  congr 1
  have h := fold_splice off v.cells.toList 0 L (by rw [Array.length_toList, hs]; omega)
  rw [Nat.add_zero] at h
  rw [← h, ← Array.foldl_toList, Array.toList_zipIdx]
theorem page_fields (w : World) : ((#[{ name := "perm", type := 84, offset := 0, embedded := false, tag := "", pkgPath := "tinyos/mem", byteOffset := 0 }, { name := "bytes", type := 85, offset := 1, embedded := false, tag := "", pkgPath := "tinyos/mem", byteOffset := 1 }] : Array Field).mapM fun f => (do pure (f.offset, ← sizeOf f.type) : Sem (Nat × Nat))).run Tryz.prog w = .ok #[(0, 1), (1, 256)] w := by kernel_rfl
theorem page_built (perm : Int) (bytes : List Int) (hb : bytes.length = 256) (w : World) : (Instr.build 173 #[(0, .int .u8 perm), (1, .agg (bytesRow bytes).toArray)]).run Tryz.prog w = .ok (.agg (pageCells ⟨0, perm, bytes⟩).toArray) w := by
  have hzv := Tryz.zeroValue173 w
  have hl : Tryz.zeroCells173.toList.length = 257 := by rw [Array.length_toList]; exact Tryz.zeroCells173_size
  generalize Tryz.zeroCells173 = ZA at hzv hl
  obtain ⟨Z⟩ := ZA
  have hl : Z.length = 257 := hl
  have hff : Instr.fill (fun i => (#[(0, 1), (1, 256)] : Array (Nat × Nat))[i]?) (Value.agg Z.toArray).cells [(0, Value.int .u8 perm), (1, Value.agg (bytesRow bytes).toArray)] = some (pageCells ⟨0, perm, bytes⟩).toArray := by
    show Instr.fill _ Z.toArray _ = _
    rw [fill_part _ _ 0 0 1 _ _ rfl rfl (by rw [hl]; omega), fill_part _ _ 1 1 256 _ _ rfl (by simp [Value.cells, bytesRow_length, hb]) (by rw [splice_length _ _ _ (by simp [Value.cells, hl])]; omega)]
    refine congrArg some (congrArg List.toArray ?_)
    cases Z with
    | nil => simp at hl
    | cons z r =>
      have hr : r.length = 256 := by simpa using hl
      unfold splice pageCells
      simp [Value.cells, bytesRow_length, hb, hr]
  unfold Instr.build
  simp only [Sem.run_bind, hzv, Result.andThen_ok, run_underlying Tryz.underlying173, page_fields, hff]
  rfl
/-- What the walk makes of a page that is built. -/
theorem page_fold (p : Pg) (hb : p.bytes.length = 256) : List.foldl (fun (cs : Array Value) (x : Value × Nat) => cs.setIfInBounds (1 + x.snd) x.fst) (Tryz.zeroCells173.setIfInBounds 0 (.int .u8 p.perm)) (bytesRow p.bytes).zipIdx = (pageCells p).toArray := by
  have hl : Tryz.zeroCells173.toList.length = 257 := by rw [Array.length_toList]; exact Tryz.zeroCells173_size
  generalize Tryz.zeroCells173 = ZA at hl
  obtain ⟨Z⟩ := ZA
  have hl : Z.length = 257 := hl
  rw [List.setIfInBounds_toArray, fold_splice 1 (bytesRow p.bytes) 0 _ (by rw [List.length_set, bytesRow_length, hb, hl]; omega)]
  refine congrArg List.toArray ?_
  cases Z with
  | nil => simp at hl
  | cons z r =>
    have hr : r.length = 256 := by simpa using hl
    unfold splice pageCells
    simp [bytesRow_length, hb, hr]
end Go.Proofs.YtkmbleboceedbaaGreatDoor
