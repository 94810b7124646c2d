import Derived.Test.YtkmbleboceedbaaGreatDoorBootsProofG02
import Derived.Deep.MidRow
import Derived.Deep.QuietTactic
import Derived.BigQuiet
/- The program's names of a path. -/
namespace Go.Proofs.YtkmbleboceedbaaGreatDoor
open Go Go.RowKit
set_option linter.unusedVariables false
set_option linter.unusedSimpArgs false

def FsNamesPost (s : ByteArray) (w : World) (e : Ending) (w' : World) : Prop :=
  Below w.heap.size w w' ∧ (namesOf s = none ∧ e = .returned (.tuple #[.slice none 0 0, .iface 45 (.int .i64 8)]) ∨ ∃ l, namesOf s = some l ∧ l.length ≤ 100 ∧ e = .returned (.tuple #[.slice (some ⟨w.heap.size, 0, none⟩) (l.length + 1) (l.length + 1), .nilIface]) ∧ Holds w' w.heap.size 9 (strsRow (ByteArray.empty :: l)))
theorem prefix_slash (l : List UInt8) : Lib.hasPrefix l [47] = (l[0]? == some 47) := by
  cases l with
  | nil => rfl
  | cons c r =>
    show [47].isPrefixOf (c :: r) = _
    by_cases h : c = 47
    · subst h; simp
    · have e : ((47 : UInt8) == c) = false := by
        rw [beq_eq_false_iff_ne]
        intro e
        exact h e.symm
      have e2 : ((c :: r)[0]? == some 47) = false := by
        rw [beq_eq_false_iff_ne]
        intro e
        exact h (Option.some.inj e)
      rw [e2]
      simp [List.isPrefixOf, e]
theorem names_bound {s : ByteArray} (h : s.size ≤ 60) : (pathParts s).length ≤ 100 := by
  unfold pathParts
  rw [List.length_map]
  have := parts_count (s.data.toList.drop 1) []
  have h2 : s.data.toList.length = s.size := Array.length_toList
  have h3 := List.length_drop (l := s.data.toList) (i := 1)
  omega
where
  parts_count : ∀ (l word : List UInt8), (parts l word).length ≤ l.length + 1
    | [], word => by simp [parts]
    | c :: r, word => by
      unfold parts
      split
      · have := parts_count r []; simp; omega
      · have := parts_count r (word ++ [c]); simp; omega

theorem parts_len_le : ∀ (l word p : List UInt8), p ∈ parts l word → p.length ≤ l.length + word.length
  | [], word, p, h => by
    have : p = word := by simpa [parts] using h
    subst this; simp
  | c :: r, word, p, h => by
    unfold parts at h
    split at h
    · rcases List.mem_cons.1 h with rfl | h
      · rw [List.length_cons]; omega
      · have := parts_len_le r [] p h; rw [List.length_nil] at this; rw [List.length_cons]; omega
    · have := parts_len_le r (word ++ [c]) p h; simp at this ⊢; omega
theorem part_size {s q : ByteArray} (h : s.size ≤ 60) (hq : q ∈ pathParts s) : q.size ≤ maxLen := by
  obtain ⟨p, hp, rfl⟩ := List.mem_map.1 hq
  have h1 := parts_len_le _ [] p hp
  have h2 : s.data.toList.length = s.size := Array.length_toList
  have h3 := List.length_drop (l := s.data.toList) (i := 1)
  have h4 : (strOf p).size = p.length := by simp [strOf, ByteArray.size]
  unfold maxLen
  simp at h1
  omega
set_option maxRecDepth 100000 in
set_option maxHeartbeats 4000000 in
theorem fsNames_any (s : ByteArray) (m : Int) (w : World) (hs : s.size ≤ maxLen) (hm : w.cell? ⟨2, 0, none⟩ = some (.int .i64 m)) : Calls Tryz.prog 94 #[.string s] w (FsNamesPost s w) := by
  have HPX := hide (show Calls Tryz.prog 115 #[.string s, .string ⟨#[47]⟩] w fun e w' => e = .returned (.bool (Lib.hasPrefix s.data.toList [47])) ∧ w' = w from Go.Proofs.Any.strings_HasPrefix hasPrefix s ⟨#[47]⟩ w)
  rw [prefix_slash] at HPX
  have hmx : (s.size : Int) ≤ 9223372036854775807 := by unfold maxLen at hs; omega
  have HBR := hide (Below.refl w.heap.size w)
  by_cases h1 : s.size ≤ 60
  case neg =>
    have HR := hide (show namesOf s = none by unfold namesOf; rw [if_pos (.inl (by omega))])
    have i1 : (60 : Int) < (s.size : Int) := by omega
    clear h1 hs
    go_enter Tryz.func94, Tryz.ntmps94
    go_wp2
    go_ret2
    exact ⟨unhide HBR, .inl ⟨unhide HR, rfl⟩⟩
  have i1 : ¬ (60 : Int) < (s.size : Int) := by omega
  by_cases h2 : s.data.toList[0]? = some 47
  case neg =>
    have HR := hide (show namesOf s = none by unfold namesOf; rw [if_pos (.inr (.inr h2))])
    have e2 : (s.data.toList[0]? == some 47) = false := by simpa using h2
    rw [e2] at HPX
    clear h1 hs h2 e2
    go_enter Tryz.func94, Tryz.ntmps94
    go_wp2_with fail
    refine (unhide HPX).mono ?_
    rintro e w' ⟨rfl, rfl⟩
    go_wp2
    go_ret2
    exact ⟨unhide HBR, .inl ⟨unhide HR, rfl⟩⟩
  have e2 : (s.data.toList[0]? == some 47) = true := by simpa using h2
  rw [e2] at HPX
  have hpos : 0 < s.size := by
    have h9 := (List.getElem?_eq_some_iff.1 h2).1
    have h8 : s.data.toList.length = s.size := Array.length_toList
    omega
  by_cases h5 : s.size = 1
  · have HR := hide (show namesOf s = some [] by unfold namesOf; rw [if_neg (by rintro (h | h | h); omega; omega; exact h h2), if_pos h5])
    have g2 := root_eq h5 h2
    have HN := hide (Holds.new w 9 [.string ByteArray.empty])
    have HB2 := hide ((Below.refl w.heap.size w).alloc (Nat.le_refl _) (Obj.cells #[.string ByteArray.empty] 9))
    clear h1 hs h2 e2 h5
    go_enter Tryz.func94, Tryz.ntmps94
    go_wp2_with fail
    refine (unhide HPX).mono ?_
    rintro e w' ⟨rfl, rfl⟩
    go_wp2
    go_ret2
    exact ⟨unhide HB2, .inr ⟨[], unhide HR, by simp, rfl, unhide HN⟩⟩
  have g2 := root_ne h5
  have hsp := split_slash h2
  have HSP := hide (show Calls Tryz.prog 116 #[.string s, .string ⟨#[47]⟩] w fun e w' => e = .returned (.slice (some ⟨w.heap.size, 0, none⟩) ((pathParts s).length + 1) ((pathParts s).length + 1)) ∧ w' = w.alloc (.cells (strsRow (ByteArray.empty :: pathParts s)).toArray 9) from by
    have h := Go.Proofs.Any.strings_Split split (by kernel_rfl) s ⟨#[47]⟩ m w (by omega) hm (by decide)
    have hl := Lib.splitB_all ⟨#[47]⟩ (by decide) 0 _ s rfl
    rw [hsp] at hl
    have hl' : (pathParts s).length + 1 = Lib.countB s ⟨#[47]⟩ + 1 := hl
    rw [hsp, ← hl'] at h
    exact h)
  have HNP := hide (show ∀ q ∈ pathParts s, isNameP q = nameOk q from fun q hq => part_isName hq)
  have hpl := names_bound h1
  have HNO := hide (show namesOf s = if (pathParts s).all nameOk = true then some (pathParts s) else none by unfold namesOf; rw [if_neg (by rintro (h | h | h); omega; omega; exact h h2), if_neg h5])
  have HSZ := hide (show ∀ q ∈ pathParts s, q.size ≤ maxLen from fun q hq => part_size h1 hq)
  have hl0 : 0 < (pathParts s).length := by
    obtain ⟨h, t, he⟩ := parts_some (s.data.toList.drop 1) []
    unfold pathParts
    rw [he]; simp
  obtain ⟨L, hL⟩ : ∃ L, L = pathParts s := ⟨_, rfl⟩
  rw [← hL] at HSP HNP HNO HSZ hpl hl0
  obtain ⟨W1, hW1⟩ : ∃ W1, W1 = w.alloc (.cells (strsRow (ByteArray.empty :: L)).toArray 9) := ⟨_, rfl⟩
  rw [← hW1] at HSP
  have HN1 := hide (show Holds W1 w.heap.size 9 (strsRow (ByteArray.empty :: L)) from by rw [hW1]; exact Holds.new w 9 _)
  have HB1 := hide (show Below w.heap.size w W1 from by rw [hW1]; exact (Below.refl _ _).alloc (Nat.le_refl _) _)
  clear h1 hs h2 e2 h5 hsp hL hW1
  go_enter Tryz.func94, Tryz.ntmps94
  go_wp2_with fail
  refine (unhide HPX).mono ?_
  rintro e w' ⟨rfl, rfl⟩
  go_wp2_with fail
  refine (unhide HSP).mono ?_
  rintro e w2 ⟨rfl, rfl⟩
  have k1 : (1 : Int) ≤ (L.length : Int) + 1 := by omega
  have k2 : L.length ≠ 0 := by omega
  go_wp2
  go_loop [24] (fun i => ∃ k : Nat, k ≤ L.length ∧ i = .int .i64 k ∧ Hid (∀ j q, j < k → L[j]? = some q → nameOk q = true)) (fun i => L.length - (intOf i).toNat)
  case atStart => exact ⟨0, by omega, rfl, hide (fun j q hj => by omega)⟩
  case round =>
    obtain ⟨k, hk, rfl, HA⟩ := hrel
    by_cases hlt : k < L.length
    · obtain ⟨q, hq⟩ : ∃ q, L[k]? = some q := ⟨_, List.getElem?_eq_getElem hlt⟩
      have c0 : w2.cell? ⟨w'.heap.size, 1 + k, none⟩ = some (.string q) := (unhide HN1).cell (by rw [Nat.add_comm]; show (strsRow L)[k]? = _; simp [strsRow, hq])
      have hqm := List.mem_of_getElem? hq
      have HNM := hide (fsIsName_any q w2 (unhide HSZ q hqm))
      rw [unhide HNP q hqm] at HNM
      have hk0 : (0 : Int) ≤ (k : Int) := by omega
      have hk1 : (k : Int) < (L.length : Int) := by omega
      cases hb : nameOk q with
      | false =>
        rw [hb] at HNM
        have HR := hide (show namesOf s = none by
          rw [unhide HNO, if_neg]
          intro hall
          have := List.all_eq_true.1 hall q hqm
          rw [hb] at this
          cases this)
        clear hq hqm hb
        go_wp2_with fail
        refine (unhide HNM).mono ?_
        rintro e w3 ⟨rfl, rfl⟩
        go_wp2
        go_ret2
        exact ⟨unhide HB1, .inl ⟨unhide HR, rfl⟩⟩
      | true =>
        rw [hb] at HNM
        have HN : Hid (∀ j q, j < k + 1 → L[j]? = some q → nameOk q = true) := hide (fun j p hj hp => by
          rcases Nat.lt_succ_iff_lt_or_eq.1 hj with h | h
          · exact unhide HA j p h hp
          · subst h
            rw [hq] at hp
            obtain rfl := Option.some.inj hp
            exact hb)
        clear hq hqm hb
        go_wp2_with fail
        refine (unhide HNM).mono ?_
        rintro e w3 ⟨rfl, rfl⟩
        go_wp2
        go_round
        case rel => exact ⟨k + 1, by omega, by go_num, HN⟩
        case measure => simp [intOf]; omega
    · have HR := hide (show namesOf s = some L by
        rw [unhide HNO, if_pos]
        refine List.all_eq_true.2 (fun q hq => ?_)
        obtain ⟨j, hj⟩ := List.mem_iff_getElem?.1 hq
        exact unhide HA j q (by have := (List.getElem?_eq_some_iff.1 hj).1; omega) hj)
      go_wp2
      go_ret2
      exact ⟨unhide HB1, .inr ⟨L, unhide HR, hpl, rfl, unhide HN1⟩⟩
end Go.Proofs.YtkmbleboceedbaaGreatDoor

/- tinyosref: child, inode, walk. -/
namespace Go.Proofs.YtkmbleboceedbaaGreatDoor
open Go.RowKit
set_option linter.unusedVariables false
set_option linter.unusedSimpArgs false

/-- An inode of the document's kernel; the slice of its bytes as it lies. -/
structure Ino where
  id : Int
  parent : Int
  name : ByteArray
  dir : Bool
  bytes : Value
def inoCells (x : Ino) : List Value := [.int .i64 x.id, .int .i64 x.parent, .string x.name, .bool x.dir, x.bytes]
def inoRow (xs : List Ino) : List Value := xs.flatMap inoCells
theorem inoRow_get : ∀ (xs : List Ino) (j i : Nat) (x : Ino) (v : Value), xs[j]? = some x → i < 5 → (inoCells x)[i]? = some v → (inoRow xs)[j * 5 + i]? = some v
  | [], j, i, x, v, h, _, _ => by simp at h
  | a :: r, 0, i, x, v, h, hi, hv => by
    have e : a = x := by simpa using h
    subst e
    rw [inoRow, List.flatMap_cons, List.getElem?_append_left (by simp [inoCells]; omega), Nat.zero_mul, Nat.zero_add]; exact hv
  | a :: r, j + 1, i, x, v, h, hi, hv => by
    have ih := inoRow_get r j i x v (by simpa using h) hi hv
    have e : (j + 1) * 5 + i - 5 = j * 5 + i := by omega
    have e2 : inoRow (a :: r) = inoCells a ++ inoRow r := by rw [inoRow, List.flatMap_cons]; rfl
    rw [e2, List.getElem?_append_right (by simp [inoCells]; omega), show (inoCells a).length = 5 from rfl, e]
    exact ih
/-- The kernel's inodes lie so: the slice at its field, the row where it points. -/
def InosAt (w : World) (kb g cap : Nat) (xs : List Ino) : Prop := w.cell? ⟨kb, 7, none⟩ = some (.slice (some ⟨g, 0, none⟩) xs.length cap) ∧ w.rangeAt g 0 (inoRow xs)
theorem InosAt.cell {w : World} {kb g cap : Nat} {xs : List Ino} (h : InosAt w kb g cap xs) {j : Nat} {x : Ino} (hx : xs[j]? = some x) {i : Nat} (hi : i < 5) {v : Value} (hv : (inoCells x)[i]? = some v) : w.cell? ⟨g, j * 5 + i, none⟩ = some v := by
  have := h.2 (j * 5 + i) v (inoRow_get xs j i x v hx hi hv)
  rwa [Nat.zero_add] at this
/-- The place of an inode by its number. -/
def placeOf (xs : List Ino) (id : Int) : Int := match xs.findIdx? (fun x => x.id == id) with | some i => i | none => -1

theorem place_none {xs : List Ino} {id : Int} (h : ∀ (j : Nat) (x : Ino), xs[j]? = some x → (x.id == id) = false) : placeOf xs id = -1 := by
  unfold placeOf
  rw [List.findIdx?_eq_none_iff.2 (fun x hx => by obtain ⟨j, hj, rfl⟩ := List.mem_iff_getElem.1 hx; exact h j _ (List.getElem?_eq_getElem hj))]
theorem place_some {xs : List Ino} {id : Int} {k : Nat} {x : Ino} (hx : xs[k]? = some x) (he : (x.id == id) = true) (h : ∀ j (x : Ino), j < k → xs[j]? = some x → (x.id == id) = false) : placeOf xs id = k := by
  unfold placeOf
  have hk := (List.getElem?_eq_some_iff.1 hx).1
  have : xs.findIdx? (fun x => x.id == id) = some k := by
    rw [List.findIdx?_eq_some_iff_getElem]
    refine ⟨hk, ?_, fun j hj => ?_⟩
    · rw [List.getElem?_eq_getElem hk] at hx
      rw [Option.some.inj hx]; exact he
    · rw [h j _ hj (List.getElem?_eq_getElem (by omega))]; simp
  rw [this]

set_option maxRecDepth 100000 in
set_option maxHeartbeats 1000000 in
theorem refInode_any (kb g cap : Nat) (xs : List Ino) (id : Int) (w : World) (h : InosAt w kb g cap xs) (hn : xs.length ≤ 1000000) :
    Calls Tryz.prog 34 #[.pointer (some ⟨kb, 0, none⟩), .int .i64 id] w fun e w' => e = .returned (.int .i64 (placeOf xs id)) ∧ w' = w := by
  have c7 := h.1
  have H := hide h
  clear h
  go_enter Tryz.func34, Tryz.ntmps34
  go_wp2
  go_loop [5] (fun i => ∃ k : Nat, k ≤ xs.length ∧ i = .int .i64 k ∧ Hid (∀ j x, j < k → xs[j]? = some x → (x.id == id) = false)) (fun i => xs.length - (intOf i).toNat)
  case atStart => exact ⟨0, by omega, rfl, hide (fun j x hj => by omega)⟩
  case round =>
    obtain ⟨k, hk, rfl, HA⟩ := hrel
    by_cases hlt : k < xs.length
    · obtain ⟨x, hx⟩ : ∃ x, xs[k]? = some x := ⟨_, List.getElem?_eq_getElem hlt⟩
      have c0 : w.cell? ⟨g, k * 5, none⟩ = some (.int .i64 x.id) := by have := (unhide H).cell hx (i := 0) (by omega) rfl; rwa [Nat.add_zero] at this
      have hk0 : (0 : Int) ≤ (k : Int) := by omega
      have hk1 : (k : Int) < (xs.length : Int) := by omega
      by_cases t : x.id = id
      · have g1 : (x.id == id) = true := by simpa using t
        have HR := hide (place_some hx g1 (unhide HA))
        generalize x.id = X at c0 g1
        clear hx t
        go_wp2
        go_ret
        exact ⟨by rw [unhide HR]; rfl, rfl⟩
      · have g1 : (x.id == id) = false := by simpa using t
        have HN : Hid (∀ j x, j < k + 1 → xs[j]? = some x → (x.id == id) = false) := hide (fun j y hj hy => by
          rcases Nat.lt_succ_iff_lt_or_eq.1 hj with h | h
          · exact unhide HA j y h hy
          · subst h
            rw [hx] at hy
            obtain rfl := Option.some.inj hy
            exact g1)
        generalize x.id = X at c0 g1
        clear hx t
        go_wp2
        go_round
        case rel => exact ⟨k + 1, by omega, by go_num, HN⟩
        case measure => simp [intOf]; omega
    · have HR := hide (place_none (xs := xs) (id := id) (fun j x hx => unhide HA j x (by have := (List.getElem?_eq_some_iff.1 hx).1; omega) hx))
      go_wp2
      go_ret
      exact ⟨by rw [unhide HR]; rfl, rfl⟩

/-- The number of an inode in a directory, by its name; 0: there is none. -/
def isChild (dir : Int) (name : ByteArray) (x : Ino) : Bool := x.parent == dir && x.name.toList == name.toList
def childOf (xs : List Ino) (dir : Int) (name : ByteArray) : Int := match xs.find? (isChild dir name) with | some x => x.id | none => 0

theorem child_none {xs : List Ino} {dir : Int} {name : ByteArray} (h : ∀ (j : Nat) (x : Ino), xs[j]? = some x → isChild dir name x = false) : childOf xs dir name = 0 := by
  unfold childOf
  rw [List.find?_eq_none.2 (fun x hx => by obtain ⟨j, hj, rfl⟩ := List.mem_iff_getElem.1 hx; rw [h j _ (List.getElem?_eq_getElem hj)]; decide)]
theorem child_some {xs : List Ino} {dir : Int} {name : ByteArray} {k : Nat} {x : Ino} (hx : xs[k]? = some x) (he : isChild dir name x = true) (h : ∀ j (x : Ino), j < k → xs[j]? = some x → isChild dir name x = false) : childOf xs dir name = x.id := by
  unfold childOf
  have hk := (List.getElem?_eq_some_iff.1 hx).1
  have hxe : xs[k] = x := by rw [List.getElem?_eq_getElem hk] at hx; exact Option.some.inj hx
  have : xs.find? (isChild dir name) = some x := by
    rw [List.find?_eq_some_iff_getElem]
    refine ⟨he, k, hk, hxe, fun j hj => ?_⟩
    rw [h j _ hj (List.getElem?_eq_getElem (by omega))]; rfl
  rw [this]

set_option maxRecDepth 100000 in
set_option maxHeartbeats 1000000 in
theorem refChild_any (kb g cap : Nat) (xs : List Ino) (dir : Int) (name : ByteArray) (w : World) (h : InosAt w kb g cap xs) (hn : xs.length ≤ 1000000) :
    Calls Tryz.prog 77 #[.pointer (some ⟨kb, 0, none⟩), .int .i64 dir, .string name] w fun e w' => e = .returned (.int .i64 (childOf xs dir name)) ∧ w' = w := by
  have c7 := h.1
  have H := hide h
  clear h
  go_enter Tryz.func77, Tryz.ntmps77
  go_wp2
  go_loop [7] (fun i => ∃ k : Nat, k ≤ xs.length ∧ i = .int .i64 k ∧ Hid (∀ j x, j < k → xs[j]? = some x → isChild dir name x = false)) (fun i => xs.length - (intOf i).toNat)
  case atStart => exact ⟨0, by omega, rfl, hide (fun j x hj => by omega)⟩
  case round =>
    obtain ⟨k, hk, rfl, HA⟩ := hrel
    by_cases hlt : k < xs.length
    · obtain ⟨x, hx⟩ : ∃ x, xs[k]? = some x := ⟨_, List.getElem?_eq_getElem hlt⟩
      have c0 : w.cell? ⟨g, k * 5, none⟩ = some (.int .i64 x.id) := by have := (unhide H).cell hx (i := 0) (by omega) rfl; rwa [Nat.add_zero] at this
      have c1 : w.cell? ⟨g, k * 5 + 1, none⟩ = some (.int .i64 x.parent) := (unhide H).cell hx (i := 1) (by omega) rfl
      have c2 : w.cell? ⟨g, k * 5 + 2, none⟩ = some (.string x.name) := (unhide H).cell hx (i := 2) (by omega) rfl
      have hk0 : (0 : Int) ≤ (k : Int) := by omega
      have hk1 : (k : Int) < (xs.length : Int) := by omega
      by_cases hc : isChild dir name x = true
      · have HR := hide (child_some hx hc (unhide HA))
        have hc2 := hc
        unfold isChild at hc2
        rw [Bool.and_eq_true] at hc2
        obtain ⟨g1, g2⟩ := hc2
        generalize x.id = X at c0 HR
        generalize x.parent = Y at c1 g1
        generalize x.name = Z at c2 g2
        clear hx hc
        go_wp2
        go_ret
        exact ⟨by rw [unhide HR]; rfl, rfl⟩
      · have hc' : isChild dir name x = false := by simpa using hc
        have HN : Hid (∀ j x, j < k + 1 → xs[j]? = some x → isChild dir name x = false) := hide (fun j y hj hy => by
          rcases Nat.lt_succ_iff_lt_or_eq.1 hj with h | h
          · exact unhide HA j y h hy
          · subst h
            rw [hx] at hy
            obtain rfl := Option.some.inj hy
            exact hc')
        by_cases g1 : (x.parent == dir) = true
        · have g2 : (x.name.toList == name.toList) = false := by
            unfold isChild at hc'
            rw [g1, Bool.true_and] at hc'
            exact hc'
          generalize x.id = X at c0
          generalize x.parent = Y at c1 g1
          generalize x.name = Z at c2 g2
          clear hx hc hc'
          go_wp2
          go_round
          case rel => exact ⟨k + 1, by omega, by go_num, HN⟩
          case measure => simp [intOf]; omega
        · have g1' : (x.parent == dir) = false := by simpa using g1
          generalize x.id = X at c0
          generalize x.parent = Y at c1 g1'
          generalize x.name = Z at c2
          clear hx hc hc' g1
          go_wp2
          go_round
          case rel => exact ⟨k + 1, by omega, by go_num, HN⟩
          case measure => simp [intOf]; omega
    · have HR := hide (child_none (xs := xs) (dir := dir) (name := name) (fun j x hx => unhide HA j x (by have := (List.getElem?_eq_some_iff.1 hx).1; omega) hx))
      go_wp2
      go_ret
      exact ⟨by rw [unhide HR]; rfl, rfl⟩
end Go.Proofs.YtkmbleboceedbaaGreatDoor

/- tinyosref: walk. -/
namespace Go.Proofs.YtkmbleboceedbaaGreatDoor
open Go.RowKit
set_option linter.unusedVariables false
set_option linter.unusedSimpArgs false

/-- Is the inode of this number a directory? -/
def dirOf (xs : List Ino) (n : Int) : Bool := match xs.find? (fun x => x.id == n) with | some x => x.dir | none => false
structure Walked where
  dir : Int
  name : ByteArray
  n : Int
  e : Int
def walkErr (e : Int) : Walked := ⟨0, ByteArray.empty, 0, e⟩
/-- Names followed from a directory on. -/
def follow (xs : List Ino) : Int → List ByteArray → Walked
  | _, [] => walkErr 0
  | dir, [name] => ⟨dir, name, childOf xs dir name, 0⟩
  | dir, name :: b :: r => if childOf xs dir name = 0 then walkErr 9 else if dirOf xs (childOf xs dir name) = true then follow xs (childOf xs dir name) (b :: r) else walkErr 11
def walkOf (xs : List Ino) (s : ByteArray) : Walked := match namesOf s with
  | none => walkErr 8
  | some [] => ⟨0, ByteArray.empty, 1, 0⟩
  | some (a :: r) => follow xs 1 (a :: r)
def walkRet (r : Walked) : Ending := .returned (.tuple #[.int .i64 r.dir, .string r.name, .int .i64 r.n, .int .i64 r.e])

theorem place_of_mem {xs : List Ino} {n : Int} {x : Ino} (h : xs.find? (fun x => x.id == n) = some x) : ∃ k : Nat, placeOf xs n = k ∧ xs[k]? = some x := by
  obtain ⟨he, k, hk, hx, hlt⟩ := List.find?_eq_some_iff_getElem.1 h
  refine ⟨k, place_some (x := x) (by rw [List.getElem?_eq_getElem hk, hx]) he (fun j y hj hy => ?_), by rw [List.getElem?_eq_getElem hk, hx]⟩
  have h1 := hlt j hj
  have hj2 : j < xs.length := by omega
  rw [List.getElem?_eq_getElem hj2] at hy
  rw [← Option.some.inj hy]
  simpa using h1
theorem child_mem {xs : List Ino} {dir : Int} {name : ByteArray} (h : childOf xs dir name ≠ 0) : ∃ x, xs.find? (fun x => x.id == childOf xs dir name) = some x := by
  have : ∃ y ∈ xs, y.id = childOf xs dir name := by
    unfold childOf at h ⊢
    cases hf : xs.find? (isChild dir name) with
    | none => rw [hf] at h; exact absurd rfl h
    | some y => exact ⟨y, List.mem_of_find?_eq_some hf, rfl⟩
  obtain ⟨y, hy, he⟩ := this
  cases hf : xs.find? (fun x => x.id == childOf xs dir name) with
  | some x => exact ⟨x, rfl⟩
  | none =>
    have := List.find?_eq_none.1 hf y hy
    simp [he] at this
theorem InosAt.below {w w' : World} {kb g cap : Nat} {xs : List Ino} (h : InosAt w kb g cap xs) (hb : Below w.heap.size w w') (h1 : kb < w.heap.size) (h2 : g < w.heap.size) : InosAt w' kb g cap xs :=
  ⟨by rw [hb.cell (p := ⟨kb, 7, none⟩) h1]; exact h.1, fun j v hj => by rw [hb.cell (p := ⟨g, 0 + j, none⟩) h2]; exact h.2 j v hj⟩
theorem InosAt.heap {w w' : World} {kb g cap : Nat} {xs : List Ino} (h : InosAt w kb g cap xs) (hh : w'.heap = w.heap) : InosAt w' kb g cap xs := by
  have hc : ∀ a, w'.cell? a = w.cell? a := fun a => by unfold World.cell?; rw [hh]
  exact ⟨by rw [hc]; exact h.1, fun j v hj => by rw [hc]; exact h.2 j v hj⟩
theorem drop_two {α : Type} {l : List α} {k : Nat} (h : k + 1 < l.length) : ∃ a b r, l[k]? = some a ∧ l.drop k = a :: b :: r ∧ l.drop (k + 1) = b :: r := by
  refine ⟨l[k], l[k + 1], l.drop (k + 2), List.getElem?_eq_getElem (by omega), ?_, ?_⟩
  · rw [List.drop_eq_getElem_cons (by omega), List.drop_eq_getElem_cons h]
  · rw [List.drop_eq_getElem_cons h]
theorem parts_len (l : List UInt8) : ∀ word, (parts l word).length ≤ l.length + 1 := by
  induction l with
  | nil => intro word; simp [parts]
  | cons c r ih =>
    intro word
    unfold parts
    split
    · have := ih []; simp; omega
    · have := ih (word ++ [c]); simp; omega
theorem names_len {s : ByteArray} {l : List ByteArray} (h : namesOf s = some l) : l.length ≤ 100 := by
  unfold namesOf at h
  split at h
  · cases h
  rename_i hc
  split at h
  · obtain rfl := Option.some.inj h; simp
  split at h
  · obtain rfl := Option.some.inj h
    have h1 : s.size ≤ 60 := by
      apply Classical.byContradiction
      intro hx
      exact hc (.inl (by omega))
    have h2 := parts_len (s.data.toList.drop 1) []
    have h3 : (s.data.toList.drop 1).length ≤ s.size := by simp
    rw [pathParts, List.length_map]; omega
  · cases h
theorem strsRow_get {l : List ByteArray} {k : Nat} {a : ByteArray} (h : l[k]? = some a) : (strsRow l)[k]? = some (.string a) := by simp [strsRow, h]

set_option maxRecDepth 100000 in
set_option maxHeartbeats 2000000 in
theorem refWalk_any (kb g cap : Nat) (xs : List Ino) (s : ByteArray) (w : World) (h : InosAt w kb g cap xs) (h1 : kb < w.heap.size) (h2 : g < w.heap.size) (hn : xs.length ≤ 1000000) (hs : s.size ≤ maxLen) :
    Calls Tryz.prog 47 #[.pointer (some ⟨kb, 0, none⟩), .string s] w fun e w' => e = walkRet (walkOf xs s) ∧ Below w.heap.size w w' := by
  have H := hide h
  have HN := hide (refNames_any s w hs)
  clear h hs
  go_enter Tryz.func47, Tryz.ntmps47
  go_wp2_with fail
  refine (unhide HN).mono ?_
  rintro e w1 ⟨(⟨hno, rfl⟩ | ⟨l, hl, v, rfl, how⟩), hb1⟩
  · have HR := hide (show walkOf xs s = walkErr 8 by unfold walkOf; rw [hno])
    have HB1 := hide hb1
    clear hno hb1
    go_wp2
    exact bodyPost_ret (v := .tuple #[.int .i64 0, .string ByteArray.empty, .int .i64 0, .int .i64 8]) (by simp [results, Tryz.results47, go_sem]; rfl) rfl ⟨by rw [unhide HR]; rfl, unhide HB1⟩
  have HB1 := hide hb1
  have HI1 := hide ((unhide H).below hb1 h1 h2)
  have hs1 := hb1.size
  clear hb1
  cases l with
  | nil =>
    have HR := hide (show walkOf xs s = ⟨0, ByteArray.empty, 1, 0⟩ by unfold walkOf; rw [hl])
    have hv : ∃ a c, v = .slice a 0 c := by
      rcases how.2 with ⟨hv, _⟩ | ⟨gg, cc, cur, hv, _⟩
      · exact ⟨none, 0, hv⟩
      · exact ⟨_, _, hv⟩
    obtain ⟨a, c, rfl⟩ := hv
    clear hl how
    go_wp2
    exact bodyPost_ret (v := .tuple #[.int .i64 0, .string ByteArray.empty, .int .i64 1, .int .i64 0]) (by simp [results, Tryz.results47, go_sem]; rfl) rfl ⟨by rw [unhide HR]; rfl, unhide HB1⟩
  | cons a0 r0 =>
    have hr : walkOf xs s = follow xs 1 (a0 :: r0) := by unfold walkOf; rw [hl]
    obtain ⟨l, hlL⟩ : ∃ l, l = a0 :: r0 := ⟨_, rfl⟩
    rw [← hlL] at how hr hl
    have hlen : 1 ≤ l.length := by rw [hlL]; simp
    have hl60 : l.length ≤ 100 := names_len hl
    obtain ⟨gl, cl, rfl, hgl, hgs⟩ := how.form (by omega)
    have HR := hide hr
    have HOW := hide how
    have hq0 : ((l.length : Int) == 0) = false := by rw [beq_eq_false_iff_ne]; omega
    clear hl how hlL hr
    go_wp2
    go_loopw [10, 11] (fun dv i wr => ∃ k : Nat, ∃ D : Int, k + 1 ≤ l.length ∧ i = .int .i64 k ∧ dv = .int .i64 D ∧ Hid (walkOf xs s = follow xs D (l.drop k)) ∧ Hid (wr.heap = w1.heap) ∧ Hid (Below w.heap.size w wr)) (fun _ i _ => l.length - (intOf i).toNat)
    case atStart => exact ⟨0, 1, by omega, rfl, rfl, HR, hide rfl, HB1⟩
    case round =>
      obtain ⟨k, D, hk, rfl, rfl, HF, HHE, HBL⟩ := hrel
      have hcells : ∀ a, wr.cell? a = w1.cell? a := fun a => by unfold World.cell?; rw [unhide HHE]
      have HIr := hide ((unhide HI1).heap (unhide HHE))
      by_cases hlt : k + 1 < l.length
      · obtain ⟨a, b, r, ha, hd1, hd2⟩ := drop_two hlt
        have c0 : wr.cell? ⟨gl, k, none⟩ = some (.string a) := by
          rw [hcells, (unhide HOW).cellAt _ (by omega)]; exact strsRow_get ha
        have hf := unhide HF
        rw [hd1] at hf
        unfold follow at hf
        have HF1 := hide hf
        have HD2 := hide hd2
        have HCH := hide (fun w' (hh : w'.heap = w1.heap) => refChild_any kb g cap xs D a w' ((unhide HI1).heap hh) hn)
        obtain ⟨n, hnn⟩ : ∃ n, n = childOf xs D a := ⟨_, rfl⟩
        rw [← hnn] at HF1 HCH
        have hk0 : (0 : Int) ≤ (k : Int) := by omega
        have hk1 : (k : Int) < (l.length : Int) := by omega
        have hk2 : (k : Int) < (l.length : Int) - 1 := by omega
        have HNN := hide hnn
        clear hcells ha hd1 hd2 hf hnn
        go_wp2_with fail
        refine (unhide HCH wr (unhide HHE)).mono ?_
        rintro e w2 ⟨rfl, hw2⟩
        subst hw2
        by_cases hz : n = 0
        · have g1 : (n == 0) = true := by simpa using hz
          have HR2 := hide (show walkOf xs s = walkErr 9 by rw [unhide HF1, if_pos hz])
          clear hz
          go_wp2
          exact bodyPost_ret (v := .tuple #[.int .i64 0, .string ByteArray.empty, .int .i64 0, .int .i64 9]) (by simp [results, Tryz.results47, go_sem]; try rfl) rfl ⟨by rw [unhide HR2]; rfl, unhide HBL⟩
        · have g1 : (n == 0) = false := by simpa using hz
          obtain ⟨x, hx⟩ := child_mem (xs := xs) (dir := D) (name := a) (by rw [← unhide HNN]; exact hz)
          rw [← unhide HNN] at hx
          obtain ⟨K, hK, hKx⟩ := place_of_mem hx
          have hKl := (List.getElem?_eq_some_iff.1 hKx).1
          have HIN := hide (refInode_any kb g cap xs n w2 (unhide HIr) hn)
          rw [hK] at HIN
          have hdf : dirOf xs n = x.dir := by unfold dirOf; rw [hx]
          have c3 : w2.cell? ⟨g, K * 5 + 3, none⟩ = some (.bool x.dir) := (unhide HIr).cell hKx (i := 3) (by omega) rfl
          have c7 := (unhide HIr).1
          have hf1 := unhide HF1
          rw [if_neg hz, hdf] at hf1
          have HF2 := hide hf1
          have hK0 : (0 : Int) ≤ (K : Int) := by omega
          have hK1 : (K : Int) < (xs.length : Int) := by omega
          generalize x.dir = DD at c3 HF2
          clear hz hx hK hKx hdf hf1
          go_wp2_with fail
          refine (unhide HIN).mono ?_
          rintro e w3 ⟨rfl, hw3⟩
          subst hw3
          cases DD
          · have HR2 := hide (show walkOf xs s = walkErr 11 by rw [unhide HF2]; rfl)
            go_wp2
            exact bodyPost_ret (v := .tuple #[.int .i64 0, .string ByteArray.empty, .int .i64 0, .int .i64 11]) (by simp [results, Tryz.results47, go_sem]; try rfl) rfl ⟨by rw [unhide HR2]; rfl, unhide HBL⟩
          · have HR2 := hide (show walkOf xs s = follow xs n (l.drop (k + 1)) by rw [unhide HF2, unhide HD2]; rfl)
            go_wp2
            go_roundw
            case rel => exact ⟨k + 1, n, by omega, by go_num, rfl, HR2, HHE, HBL⟩
            case measure => simp [intOf]; omega
      · have hke : k + 1 = l.length := by omega
        obtain ⟨a, ha⟩ : ∃ a, l[k]? = some a := ⟨_, List.getElem?_eq_getElem (by omega)⟩
        have hdr : l.drop k = [a] := by
          have hkl : k < l.length := by omega
          rw [List.drop_eq_getElem_cons hkl, List.drop_eq_nil_of_le (by omega)]
          rw [List.getElem?_eq_getElem hkl] at ha
          rw [Option.some.inj ha]
        have c0 : wr.cell? ⟨gl, k, none⟩ = some (.string a) := by
          rw [hcells, (unhide HOW).cellAt _ (by omega)]; exact strsRow_get ha
        have hf := unhide HF
        rw [hdr] at hf
        have HR2 := hide (show walkOf xs s = ⟨D, a, childOf xs D a, 0⟩ from hf)
        have HCH := hide (refChild_any kb g cap xs D a wr (unhide HIr) hn)
        have e1 : (l.length : Int) - 1 = (k : Int) := by omega
        have hk0 : (0 : Int) ≤ (k : Int) := by omega
        have hk1 : (k : Int) < (l.length : Int) := by omega
        generalize childOf xs D a = n at HR2 HCH
        clear hcells ha hdr hf hlt
        go_wp2_with fail
        refine (unhide HCH).mono ?_
        rintro e w2 ⟨rfl, hw2⟩
        subst hw2
        go_wp2
        exact bodyPost_ret (v := .tuple #[.int .i64 D, .string a, .int .i64 n, .int .i64 0]) (by simp [results, Tryz.results47, go_sem]; try rfl) rfl ⟨by rw [unhide HR2]; rfl, unhide HBL⟩
end Go.Proofs.YtkmbleboceedbaaGreatDoor
