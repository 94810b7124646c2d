import Derived.Test.YtkokiefclmbgaaaGreatDoorBootsProofG05
import Derived.Test.YtkokiefclmbgaaaGreatDoorBootsProofG02
import Derived.Lib.IndexBytes
import Derived.Lib.SplitLaws
import Derived.Deep.MidRow
import Derived.Deep.QuietTactic
import Derived.BigQuiet
/- The program's names: isName, names, beside the document's. -/
namespace Go.Proofs.YtkokiefclmbgaaaGreatDoor
open Go Go.RowKit
set_option linter.unusedVariables false
set_option linter.unusedSimpArgs false

theorem parts_some : ∀ (l word : List UInt8), ∃ h t, parts l word = h :: t
  | [], word => ⟨word, [], rfl⟩
  | c :: r, word => by
    unfold parts
    split
    · exact ⟨word, parts r [], rfl⟩
    · exact parts_some r (word ++ [c])
theorem parts_word : ∀ (l u v h : List UInt8) (t : List (List UInt8)), parts l v = h :: t → parts l (u ++ v) = (u ++ h) :: t
  | [], u, v, h, t, e => by
    have e1 : v = h ∧ [] = t := by simpa [parts] using e
    obtain ⟨rfl, rfl⟩ := e1
    rfl
  | c :: r, u, v, h, t, e => by
    unfold parts at e ⊢
    split
    · rename_i hc
      rw [if_pos hc] at e
      have e1 : v = h ∧ parts r [] = t := by simpa using e
      obtain ⟨rfl, rfl⟩ := e1
      rfl
    · rename_i hc
      rw [if_neg hc] at e
      rw [List.append_assoc]
      exact parts_word r u (v ++ [c]) h t e
theorem index_there : ∀ l : List UInt8, (47 : UInt8) ∈ l → Lib.indexByte l 47 = -1 → False
  | [], h, _ => by simp at h
  | b :: l, h, hi => by
    unfold Lib.indexByte at hi
    split at hi
    · exact absurd hi (by decide)
    · rename_i hb
      split at hi
      · rename_i h1
        have : (47 : UInt8) ∈ l := by
          rcases List.mem_cons.1 h with e | e
          · exact absurd (by simp [e]) hb
          · exact e
        exact index_there l this (by simpa using h1)
      · rename_i h1
        have hge := Lib.indexByte_ge l 47
        have : ¬ Lib.indexByte l 47 = -1 := by simpa using h1
        omega
theorem split_parts : ∀ l : List UInt8, Lib.splitK [47] 0 (l.count 47) l = parts l []
  | [] => rfl
  | b :: l => by
    have ih := split_parts l
    by_cases hb : b = 47
    · subst hb
      have hc : List.count (47 : UInt8) (47 :: l) = List.count 47 l + 1 := by simp
      rw [hc]
      unfold Lib.splitK
      have hi : Lib.index (47 :: l) [47] = 0 := by rw [Lib.index_one]; simp [Lib.indexByte]
      rw [hi, if_neg (by decide)]
      show [] :: Lib.splitK [47] 0 (List.count 47 l) l = _
      rw [ih]
      conv => rhs; unfold parts
      rw [if_pos rfl]
    · have hc : List.count (47 : UInt8) (b :: l) = List.count 47 l := List.count_cons_of_ne hb
      rw [hc]
      obtain ⟨h, t, he⟩ := parts_some l []
      have hp : parts (b :: l) [] = (b :: h) :: t := by
        conv => lhs; unfold parts
        rw [if_neg hb]
        have := parts_word l [b] [] h t he
        simpa using this
      rw [hp]
      rw [he] at ih
      cases hk : List.count (47 : UInt8) l with
      | zero =>
        rw [hk] at ih
        have e1 : l = h ∧ [] = t := by simpa [Lib.splitK] using ih
        obtain ⟨rfl, rfl⟩ := e1
        rfl
      | succ k =>
        rw [hk] at ih
        unfold Lib.splitK at ih ⊢
        have hge := Lib.indexByte_ge l 47
        rw [Lib.index_one] at ih
        have hib : Lib.index (b :: l) [47] = if Lib.indexByte l 47 == -1 then -1 else Lib.indexByte l 47 + 1 := by
          rw [Lib.index_one]
          conv => lhs; unfold Lib.indexByte
          rw [if_neg (by simpa using hb)]
        rw [hib]
        split at ih
        · rename_i h1
          exfalso
          have hno : Lib.indexByte l 47 = -1 := by simpa using h1
          have hm : (47 : UInt8) ∈ l := List.count_pos_iff.1 (by omega)
          exact index_there l hm hno
        · rename_i h1
          rw [if_neg h1]
          have hn1 : ¬ Lib.indexByte l 47 = -1 := by simpa using h1
          obtain ⟨i, hi⟩ : ∃ i : Nat, Lib.indexByte l 47 = i := ⟨(Lib.indexByte l 47).toNat, by omega⟩
          rw [hi] at ih ⊢
          rw [if_neg (by simp; omega)]
          have e1 : l.take i = h ∧ Lib.splitK [47] 0 k (l.drop (i + 1)) = t := by simpa using ih
          obtain ⟨rfl, rfl⟩ := e1
          have e2 : ((i : Int) + 1).toNat = i + 1 := by omega
          rw [e2]
          rfl
theorem strOf_back (b : ByteArray) : strOf b.data.toList = b := by
  cases b; simp [strOf]
theorem split_slash {s : ByteArray} (h0 : s.data.toList[0]? = some 47) : Lib.splitB ⟨#[47]⟩ 0 (Lib.countB s ⟨#[47]⟩) s = ByteArray.empty :: pathParts s := by
  have h1 := Lib.splitB_data ⟨#[47]⟩ 0 (Lib.countB s ⟨#[47]⟩) s
  have h2 : Lib.countB s ⟨#[47]⟩ = s.data.toList.count 47 := Lib.count_one 47 s.data.toList
  rw [h2] at h1 ⊢
  have h3 : Lib.splitK [47] 0 (s.data.toList.count 47) s.data.toList = parts s.data.toList [] := split_parts _
  have h4 : (Lib.splitB ⟨#[47]⟩ 0 (s.data.toList.count 47) s).map (·.data.toList) = parts s.data.toList [] := h1.trans h3
  have h5 := congrArg (List.map strOf) h4
  rw [List.map_map, show strOf ∘ (fun b : ByteArray => b.data.toList) = id from by funext b; exact strOf_back b, List.map_id] at h5
  rw [h5]
  unfold pathParts
  cases hl : s.data.toList with
  | nil => rw [hl] at h0; cases h0
  | cons c r =>
    rw [hl] at h0
    obtain rfl : c = 47 := by simpa using h0
    conv => lhs; unfold parts
    rw [if_pos rfl]
    rfl
theorem parts_clean : ∀ (l word : List UInt8), (∀ c ∈ word, c ≠ 47) → ∀ p ∈ parts l word, ∀ c ∈ p, c ≠ 47
  | [], word, h, p, hp, c, hc => by
    have : p = word := by simpa [parts] using hp
    subst this
    exact h c hc
  | d :: r, word, h, p, hp, c, hc => by
    unfold parts at hp
    split at hp
    · rcases List.mem_cons.1 hp with rfl | hp
      · exact h c hc
      · exact parts_clean r [] (by simp) p hp c hc
    · rename_i hd
      refine parts_clean r (word ++ [d]) (fun x hx => ?_) p hp c hc
      rcases List.mem_append.1 hx with h1 | h1
      · exact h x h1
      · have : x = d := by simpa using h1
        subst this; exact hd
/-- As the program asks it. -/
def isNameP (s : ByteArray) : Bool := decide (1 ≤ s.size) && decide (s.size ≤ 14) && !(s.toList == [46]) && !(s.toList == [46, 46]) && decide (Lib.indexByte s.data.toList 0 < 0)
theorem index_zero : ∀ l : List UInt8, decide (Lib.indexByte l 0 < 0) = l.all (fun c => c != 0)
  | [] => rfl
  | b :: l => by
    have ih := index_zero l
    have hge := Lib.indexByte_ge l 0
    unfold Lib.indexByte
    rw [List.all_cons, ← ih]
    by_cases hb : b = 0
    · subst hb; rfl
    · rw [if_neg (by simpa using hb)]
      have e : (b != 0) = true := by simpa using hb
      rw [e, Bool.true_and]
      split
      · rename_i h1
        have : Lib.indexByte l 0 = -1 := by simpa using h1
        rw [this]
      · rename_i h1
        have : ¬ Lib.indexByte l 0 = -1 := by simpa using h1
        exact decide_eq_decide.2 (by omega)
theorem isNameP_eq {s : ByteArray} (h : ∀ c ∈ s.data.toList, c ≠ 47) : isNameP s = nameOk s := by
  unfold isNameP nameOk noSlash
  rw [index_zero]
  congr 1
  apply Bool.eq_iff_iff.2
  simp only [List.all_eq_true, Bool.and_eq_true, bne_iff_ne]
  exact ⟨fun h1 c hc => ⟨h1 c hc, h c hc⟩, fun h1 c hc => (h1 c hc).1⟩
theorem part_isName {s p : ByteArray} (h : p ∈ pathParts s) : isNameP p = nameOk p := by
  refine isNameP_eq (fun c hc => ?_)
  obtain ⟨q, hq, rfl⟩ := List.mem_map.1 h
  exact parts_clean _ [] (by simp) q hq c (by simpa [strOf] using hc)

set_option maxRecDepth 100000 in
set_option maxHeartbeats 4000000 in
theorem fsIsName_any (s : ByteArray) (w : World) (hs : s.size ≤ maxLen) : Calls Tryz.prog 119 #[.string s] w fun e w' => e = .returned (.bool (isNameP s)) ∧ w' = w := by
  have HX := hide (show Calls Tryz.prog 124 #[.string s, .int .u8 0] w fun e w' => e = .returned (.int .i64 (Lib.indexByte s.data.toList 0)) ∧ w' = w from Go.Proofs.Any.strings_IndexByte indexByte s 0 w)
  unfold isNameP
  obtain ⟨I, hI⟩ : ∃ I, I = Lib.indexByte s.data.toList 0 := ⟨_, rfl⟩
  rw [← hI] at HX ⊢
  clear hI
  have hmx : (s.size : Int) ≤ 9223372036854775807 := by unfold maxLen at hs; omega
  by_cases h1 : 1 ≤ s.size
  case neg =>
    have e1 : decide (1 ≤ s.size) = false := decide_eq_false h1
    have e2 : ¬ (1 : Int) ≤ (s.size : Int) := by omega
    rw [e1]
    clear h1 hs e1
    go_enter Tryz.func119, Tryz.ntmps119
    go_wp2
    go_ret
    exact ⟨rfl, rfl⟩
  have e1 : decide (1 ≤ s.size) = true := decide_eq_true h1
  have i1 : (1 : Int) ≤ (s.size : Int) := by omega
  by_cases h2 : s.size ≤ 14
  case neg =>
    have e2 : decide (s.size ≤ 14) = false := decide_eq_false h2
    have i2 : ¬ (s.size : Int) ≤ 14 := by omega
    rw [e1, e2]
    clear h1 h2 hs e1 e2
    go_enter Tryz.func119, Tryz.ntmps119
    go_wp2
    go_ret
    exact ⟨rfl, rfl⟩
  have e2 : decide (s.size ≤ 14) = true := decide_eq_true h2
  have i2 : (s.size : Int) ≤ 14 := by omega
  rw [e1, e2]
  cases h3 : (s.toList == [46]) with
  | true =>
    clear h1 h2 hs e1 e2
    go_enter Tryz.func119, Tryz.ntmps119
    go_wp2
    go_ret
    exact ⟨rfl, rfl⟩
  | false =>
    cases h4 : (s.toList == [46, 46]) with
    | true =>
      clear h1 h2 hs e1 e2
      go_enter Tryz.func119, Tryz.ntmps119
      go_wp2
      go_ret
      exact ⟨rfl, rfl⟩
    | false =>
      clear h1 h2 hs e1 e2
      go_enter Tryz.func119, Tryz.ntmps119
      go_wp2_with fail
      refine (unhide HX).mono ?_
      rintro e w' ⟨rfl, rfl⟩
      go_wp2
      go_ret
      exact ⟨rfl, rfl⟩
end Go.Proofs.YtkokiefclmbgaaaGreatDoor

/- tinyosref: child, inode, walk. -/
namespace Go.Proofs.YtkokiefclmbgaaaGreatDoor
open Go.RowKit
set_option linter.unusedVariables false
set_option linter.unusedSimpArgs false

/-- An inode of the document's kernel; the slice of its bytes as it lies. -/
structure Ino where
  id : Int
  parent : Int
  name : ByteArray
  dir : Bool
  bytes : Value
def inoCells (x : Ino) : List Value := [.int .i64 x.id, .int .i64 x.parent, .string x.name, .bool x.dir, x.bytes]
def inoRow (xs : List Ino) : List Value := xs.flatMap inoCells
theorem inoRow_get : ∀ (xs : List Ino) (j i : Nat) (x : Ino) (v : Value), xs[j]? = some x → i < 5 → (inoCells x)[i]? = some v → (inoRow xs)[j * 5 + i]? = some v
  | [], j, i, x, v, h, _, _ => by simp at h
  | a :: r, 0, i, x, v, h, hi, hv => by
    have e : a = x := by simpa using h
    subst e
    rw [inoRow, List.flatMap_cons, List.getElem?_append_left (by simp [inoCells]; omega), Nat.zero_mul, Nat.zero_add]; exact hv
  | a :: r, j + 1, i, x, v, h, hi, hv => by
    have ih := inoRow_get r j i x v (by simpa using h) hi hv
    have e : (j + 1) * 5 + i - 5 = j * 5 + i := by omega
    have e2 : inoRow (a :: r) = inoCells a ++ inoRow r := by rw [inoRow, List.flatMap_cons]; rfl
    rw [e2, List.getElem?_append_right (by simp [inoCells]; omega), show (inoCells a).length = 5 from rfl, e]
    exact ih
/-- The kernel's inodes lie so: the slice at its field, the row where it points. -/
def InosAt (w : World) (kb g cap : Nat) (xs : List Ino) : Prop := w.cell? ⟨kb, 7, none⟩ = some (.slice (some ⟨g, 0, none⟩) xs.length cap) ∧ w.rangeAt g 0 (inoRow xs)
theorem InosAt.cell {w : World} {kb g cap : Nat} {xs : List Ino} (h : InosAt w kb g cap xs) {j : Nat} {x : Ino} (hx : xs[j]? = some x) {i : Nat} (hi : i < 5) {v : Value} (hv : (inoCells x)[i]? = some v) : w.cell? ⟨g, j * 5 + i, none⟩ = some v := by
  have := h.2 (j * 5 + i) v (inoRow_get xs j i x v hx hi hv)
  rwa [Nat.zero_add] at this
/-- The place of an inode by its number. -/
def placeOf (xs : List Ino) (id : Int) : Int := match xs.findIdx? (fun x => x.id == id) with | some i => i | none => -1

theorem place_none {xs : List Ino} {id : Int} (h : ∀ (j : Nat) (x : Ino), xs[j]? = some x → (x.id == id) = false) : placeOf xs id = -1 := by
  unfold placeOf
  rw [List.findIdx?_eq_none_iff.2 (fun x hx => by obtain ⟨j, hj, rfl⟩ := List.mem_iff_getElem.1 hx; exact h j _ (List.getElem?_eq_getElem hj))]
theorem place_some {xs : List Ino} {id : Int} {k : Nat} {x : Ino} (hx : xs[k]? = some x) (he : (x.id == id) = true) (h : ∀ j (x : Ino), j < k → xs[j]? = some x → (x.id == id) = false) : placeOf xs id = k := by
  unfold placeOf
  have hk := (List.getElem?_eq_some_iff.1 hx).1
  have : xs.findIdx? (fun x => x.id == id) = some k := by
    rw [List.findIdx?_eq_some_iff_getElem]
    refine ⟨hk, ?_, fun j hj => ?_⟩
    · rw [List.getElem?_eq_getElem hk] at hx
      rw [Option.some.inj hx]; exact he
    · rw [h j _ hj (List.getElem?_eq_getElem (by omega))]; simp
  rw [this]

set_option maxRecDepth 100000 in
set_option maxHeartbeats 1000000 in
theorem refInode_any (kb g cap : Nat) (xs : List Ino) (id : Int) (w : World) (h : InosAt w kb g cap xs) (hn : xs.length ≤ 1000000) :
    Calls Tryz.prog 34 #[.pointer (some ⟨kb, 0, none⟩), .int .i64 id] w fun e w' => e = .returned (.int .i64 (placeOf xs id)) ∧ w' = w := by
  have c7 := h.1
  have H := hide h
  clear h
  go_enter Tryz.func34, Tryz.ntmps34
  go_wp2
  go_loop [5] (fun i => ∃ k : Nat, k ≤ xs.length ∧ i = .int .i64 k ∧ Hid (∀ j x, j < k → xs[j]? = some x → (x.id == id) = false)) (fun i => xs.length - (intOf i).toNat)
  case atStart => exact ⟨0, by omega, rfl, hide (fun j x hj => by omega)⟩
  case round =>
    obtain ⟨k, hk, rfl, HA⟩ := hrel
    by_cases hlt : k < xs.length
    · obtain ⟨x, hx⟩ : ∃ x, xs[k]? = some x := ⟨_, List.getElem?_eq_getElem hlt⟩
      have c0 : w.cell? ⟨g, k * 5, none⟩ = some (.int .i64 x.id) := by have := (unhide H).cell hx (i := 0) (by omega) rfl; rwa [Nat.add_zero] at this
      have hk0 : (0 : Int) ≤ (k : Int) := by omega
      have hk1 : (k : Int) < (xs.length : Int) := by omega
      by_cases t : x.id = id
      · have g1 : (x.id == id) = true := by simpa using t
        have HR := hide (place_some hx g1 (unhide HA))
        generalize x.id = X at c0 g1
        clear hx t
        go_wp2
        go_ret
        exact ⟨by rw [unhide HR]; rfl, rfl⟩
      · have g1 : (x.id == id) = false := by simpa using t
        have HN : Hid (∀ j x, j < k + 1 → xs[j]? = some x → (x.id == id) = false) := hide (fun j y hj hy => by
          rcases Nat.lt_succ_iff_lt_or_eq.1 hj with h | h
          · exact unhide HA j y h hy
          · subst h
            rw [hx] at hy
            obtain rfl := Option.some.inj hy
            exact g1)
        generalize x.id = X at c0 g1
        clear hx t
        go_wp2
        go_round
        case rel => exact ⟨k + 1, by omega, by go_num, HN⟩
        case measure => simp [intOf]; omega
    · have HR := hide (place_none (xs := xs) (id := id) (fun j x hx => unhide HA j x (by have := (List.getElem?_eq_some_iff.1 hx).1; omega) hx))
      go_wp2
      go_ret
      exact ⟨by rw [unhide HR]; rfl, rfl⟩

/-- The number of an inode in a directory, by its name; 0: there is none. -/
def isChild (dir : Int) (name : ByteArray) (x : Ino) : Bool := x.parent == dir && x.name.toList == name.toList
def childOf (xs : List Ino) (dir : Int) (name : ByteArray) : Int := match xs.find? (isChild dir name) with | some x => x.id | none => 0

theorem child_none {xs : List Ino} {dir : Int} {name : ByteArray} (h : ∀ (j : Nat) (x : Ino), xs[j]? = some x → isChild dir name x = false) : childOf xs dir name = 0 := by
  unfold childOf
  rw [List.find?_eq_none.2 (fun x hx => by obtain ⟨j, hj, rfl⟩ := List.mem_iff_getElem.1 hx; rw [h j _ (List.getElem?_eq_getElem hj)]; decide)]
theorem child_some {xs : List Ino} {dir : Int} {name : ByteArray} {k : Nat} {x : Ino} (hx : xs[k]? = some x) (he : isChild dir name x = true) (h : ∀ j (x : Ino), j < k → xs[j]? = some x → isChild dir name x = false) : childOf xs dir name = x.id := by
  unfold childOf
  have hk := (List.getElem?_eq_some_iff.1 hx).1
  have hxe : xs[k] = x := by rw [List.getElem?_eq_getElem hk] at hx; exact Option.some.inj hx
  have : xs.find? (isChild dir name) = some x := by
    rw [List.find?_eq_some_iff_getElem]
    refine ⟨he, k, hk, hxe, fun j hj => ?_⟩
    rw [h j _ hj (List.getElem?_eq_getElem (by omega))]; rfl
  rw [this]

set_option maxRecDepth 100000 in
set_option maxHeartbeats 1000000 in
theorem refChild_any (kb g cap : Nat) (xs : List Ino) (dir : Int) (name : ByteArray) (w : World) (h : InosAt w kb g cap xs) (hn : xs.length ≤ 1000000) :
    Calls Tryz.prog 77 #[.pointer (some ⟨kb, 0, none⟩), .int .i64 dir, .string name] w fun e w' => e = .returned (.int .i64 (childOf xs dir name)) ∧ w' = w := by
  have c7 := h.1
  have H := hide h
  clear h
  go_enter Tryz.func77, Tryz.ntmps77
  go_wp2
  go_loop [7] (fun i => ∃ k : Nat, k ≤ xs.length ∧ i = .int .i64 k ∧ Hid (∀ j x, j < k → xs[j]? = some x → isChild dir name x = false)) (fun i => xs.length - (intOf i).toNat)
  case atStart => exact ⟨0, by omega, rfl, hide (fun j x hj => by omega)⟩
  case round =>
    obtain ⟨k, hk, rfl, HA⟩ := hrel
    by_cases hlt : k < xs.length
    · obtain ⟨x, hx⟩ : ∃ x, xs[k]? = some x := ⟨_, List.getElem?_eq_getElem hlt⟩
      have c0 : w.cell? ⟨g, k * 5, none⟩ = some (.int .i64 x.id) := by have := (unhide H).cell hx (i := 0) (by omega) rfl; rwa [Nat.add_zero] at this
      have c1 : w.cell? ⟨g, k * 5 + 1, none⟩ = some (.int .i64 x.parent) := (unhide H).cell hx (i := 1) (by omega) rfl
      have c2 : w.cell? ⟨g, k * 5 + 2, none⟩ = some (.string x.name) := (unhide H).cell hx (i := 2) (by omega) rfl
      have hk0 : (0 : Int) ≤ (k : Int) := by omega
      have hk1 : (k : Int) < (xs.length : Int) := by omega
      by_cases hc : isChild dir name x = true
      · have HR := hide (child_some hx hc (unhide HA))
        have hc2 := hc
        unfold isChild at hc2
        rw [Bool.and_eq_true] at hc2
        obtain ⟨g1, g2⟩ := hc2
        generalize x.id = X at c0 HR
        generalize x.parent = Y at c1 g1
        generalize x.name = Z at c2 g2
        clear hx hc
        go_wp2
        go_ret
        exact ⟨by rw [unhide HR]; rfl, rfl⟩
      · have hc' : isChild dir name x = false := by simpa using hc
        have HN : Hid (∀ j x, j < k + 1 → xs[j]? = some x → isChild dir name x = false) := hide (fun j y hj hy => by
          rcases Nat.lt_succ_iff_lt_or_eq.1 hj with h | h
          · exact unhide HA j y h hy
          · subst h
            rw [hx] at hy
            obtain rfl := Option.some.inj hy
            exact hc')
        by_cases g1 : (x.parent == dir) = true
        · have g2 : (x.name.toList == name.toList) = false := by
            unfold isChild at hc'
            rw [g1, Bool.true_and] at hc'
            exact hc'
          generalize x.id = X at c0
          generalize x.parent = Y at c1 g1
          generalize x.name = Z at c2 g2
          clear hx hc hc'
          go_wp2
          go_round
          case rel => exact ⟨k + 1, by omega, by go_num, HN⟩
          case measure => simp [intOf]; omega
        · have g1' : (x.parent == dir) = false := by simpa using g1
          generalize x.id = X at c0
          generalize x.parent = Y at c1 g1'
          generalize x.name = Z at c2
          clear hx hc hc' g1
          go_wp2
          go_round
          case rel => exact ⟨k + 1, by omega, by go_num, HN⟩
          case measure => simp [intOf]; omega
    · have HR := hide (child_none (xs := xs) (dir := dir) (name := name) (fun j x hx => unhide HA j x (by have := (List.getElem?_eq_some_iff.1 hx).1; omega) hx))
      go_wp2
      go_ret
      exact ⟨by rw [unhide HR]; rfl, rfl⟩
end Go.Proofs.YtkokiefclmbgaaaGreatDoor

/- exe.overlap and exe.isEntry. -/
namespace Go.Proofs.YtkokiefclmbgaaaGreatDoor
open Go.RowKit
set_option linter.unusedVariables false
set_option linter.unusedSimpArgs false

def Seg.first (s : Seg) : Int := s.addr / 256
def Seg.last (s : Seg) : Int := (s.addr + s.mem - 1) / 256
/-- Neighbours that share a page. -/
def ovAt (ss : List Seg) (i : Nat) : Prop := (ss.getD (i + 1) seg0).first ≤ (ss.getD i seg0).last
theorem seg_cell {w : World} {g : Nat} {t : TypeId} {b off cap : Nat} {ss : List Seg} (h : Holds w g t (segsRow b off cap ss)) (i : Nat) (hi : i < ss.length) (j : Nat) (v : Value) (hj : j < 5) (hv : (segCells b off cap (ss.getD i seg0))[j]? = some v) : w.cell? ⟨g, i * 5 + j, none⟩ = some v := by
  refine h.cell ?_
  rw [segsRow_get b off cap ss i j (ss.getD i seg0) hj (by simp [List.getD, List.getElem?_eq_getElem hi])]
  exact hv

set_option maxRecDepth 100000 in
set_option maxHeartbeats 1000000 in
theorem overlap_any (b off cap g c : Nat) (ss : List Seg) (w : World) (h : Holds w g 245 (segsRow b off cap ss)) (h8 : ss.length ≤ 8) (h1 : 1 ≤ ss.length) :
    Calls Tryz.prog 102 #[.slice (some ⟨g, 0, none⟩) ss.length c] w fun e w' =>
      ((∃ i, i + 1 < ss.length ∧ ovAt ss i) ∧ e = .returned (.bool true) ∨ (∀ i, i + 1 < ss.length → ¬ ovAt ss i) ∧ e = .returned (.bool false)) ∧ w'.heap = w.heap ∧ Below w.heap.size w w' := by
  have H := hide h
  clear h
  go_enter Tryz.func102, Tryz.ntmps102
  go_wp2
  go_loopw [3] (fun i wr => ∃ k : Nat, k + 1 ≤ ss.length ∧ i = .int .i64 ((k + 1 : Nat) : Int) ∧ Hid (∀ j, j < k → ¬ ovAt ss j) ∧ wr.heap = w.heap ∧ Below w.heap.size w wr) (fun i _ => ss.length - (intOf i).toNat)
  case atStart => exact ⟨0, by omega, rfl, fun j hj => by omega, rfl, Below.refl _ _⟩
  case round =>
    obtain ⟨k, hk, rfl, HN, hh, hbl⟩ := hrel
    obtain ⟨q, hq⟩ : ∃ q, q = k + 1 := ⟨_, rfl⟩
    rw [← hq]
    have HQ := hide hq
    have HBL := hide hbl
    have hho := (unhide H).heap hh
    have HH := hide hh
    by_cases hlt : q < ss.length
    · have c1 : wr.cell? ⟨g, q * 5 + 3, none⟩ = some (.int .i64 (ss.getD q seg0).first) := seg_cell hho q hlt 3 _ (by omega) rfl
      have c2 : wr.cell? ⟨g, k * 5 + 4, none⟩ = some (.int .i64 (ss.getD k seg0).last) := seg_cell hho k (by omega) 4 _ (by omega) rfl
      have e1 : (q : Int) - 1 = (k : Int) := by omega
      have hq0 : (0 : Int) ≤ (q : Int) := by omega
      have hq1 : (q : Int) < (ss.length : Int) := by omega
      have hk0 : (0 : Int) ≤ (k : Int) := by omega
      have hk1 : (k : Int) < (ss.length : Int) := by omega
      have hqe : (q : Int) ≤ 8 := by omega
      have hov : ovAt ss k ↔ (ss.getD q seg0).first ≤ (ss.getD k seg0).last := by rw [hq]; rfl
      have HOV := hide hov
      generalize (ss.getD q seg0).first = F at c1 HOV
      generalize (ss.getD k seg0).last = L at c2 HOV
      clear hho hh hbl hq hov
      by_cases hfl : F ≤ L
      · go_wp2
        go_quiet (fail)
        go_wp2
        go_ret
        exact ⟨.inl ⟨⟨k, by omega, (unhide HOV).2 hfl⟩, rfl⟩, unhide HH, ⟨(unhide HBL).os, (unhide HBL).tape, (unhide HBL).output, (unhide HBL).size, (unhide HBL).block⟩⟩
      · go_wp2
        go_quiet (fail)
        go_wp2
        go_roundw
        case rel => exact ⟨q, by omega, by go_num, hide (by rw [unhide HQ]; exact upTo_step (unhide HN) (fun ho => by (have := (unhide HOV).1 ho; omega))), unhide HH, ⟨(unhide HBL).os, (unhide HBL).tape, (unhide HBL).output, (unhide HBL).size, (unhide HBL).block⟩⟩
        case measure => simp [intOf]; omega
    · have hq1 : ¬ (q : Int) < (ss.length : Int) := by omega
      clear hho hh hbl hq
      go_wp2
      go_ret
      exact ⟨.inr ⟨fun i hi => (unhide HN) i (by have := unhide HQ; omega), rfl⟩, unhide HH, unhide HBL⟩

/-- A segment in whose pages the entry lies, and that may be executed. -/
def entSeg (E : Int) (s : Seg) : Prop := bits BinOp.and IntKind.u8 s.perm 1 ≠ 0 ∧ s.first ≤ E / 256 ∧ E / 256 ≤ s.last
def entOk (E : Int) (ss : List Seg) : Prop := E % 4 = 0 ∧ E < 65024 ∧ ∃ i, i < ss.length ∧ entSeg E (ss.getD i seg0)
theorem ent_i64 (n : Int) (h0 : 0 ≤ n) (h1 : n < 1000000) : IntKind.i64.wrap n = n := by
  simp [IntKind.wrap, IntKind.bits, IntKind.signed]; split <;> omega

set_option maxRecDepth 100000 in
set_option maxHeartbeats 1000000 in
theorem isEntry_any (b off cap g c : Nat) (E : Int) (ss : List Seg) (w : World) (h : Holds w g 245 (segsRow b off cap ss)) (h8 : ss.length ≤ 8) (E0 : 0 ≤ E) :
    Calls Tryz.prog 104 #[.int .u64 E, .slice (some ⟨g, 0, none⟩) ss.length c] w fun e w' =>
      (entOk E ss ∧ e = .returned (.bool true) ∨ ¬ entOk E ss ∧ e = .returned (.bool false)) ∧ Below w.heap.size w w' := by
  have H := hide h
  have hgl := h.lt
  clear h
  by_cases q1 : E % 4 = 0
  case neg =>
    have f1 : (E % 4 != 0) = true := by simpa using q1
    have Q1 := hide q1
    clear q1
    go_enter Tryz.func104, Tryz.ntmps104
    go_wp2
    go_ret
    exact ⟨.inr ⟨fun ho => unhide Q1 ho.1, rfl⟩, Below.refl _ _⟩
  have f1 : (E % 4 != 0) = false := by simpa using q1
  have Q1 := hide q1
  clear q1
  by_cases q2 : E < 65024
  case neg =>
    go_enter Tryz.func104, Tryz.ntmps104
    go_wp2
    go_ret
    exact ⟨.inr ⟨fun ho => by (have := ho.2.1; omega), rfl⟩, Below.refl _ _⟩
  obtain ⟨P, hP⟩ : ∃ P, P = E / 256 := ⟨_, rfl⟩
  have y1 : IntKind.i64.wrap (E / 256) = P := by rw [ent_i64 _ (by omega) (by omega)]; exact hP.symm
  have HP := hide hP
  clear hP
  go_enter Tryz.func104, Tryz.ntmps104
  go_wp2
  go_loopw [20] (fun i wr => ∃ k : Nat, k ≤ ss.length ∧ i = .int .i64 k ∧ Hid (∀ j, j < k → ¬ entSeg E (ss.getD j seg0)) ∧ Below w.heap.size w wr) (fun i _ => ss.length - (intOf i).toNat)
  case atStart => exact ⟨0, by omega, rfl, fun j hj => by omega, Below.refl _ _⟩
  case round =>
    obtain ⟨k, hk, rfl, HN, hbl⟩ := hrel
    have HBL := hide hbl
    have hho := (unhide H).below hbl hgl
    have hsz := hbl.size
    by_cases hlt : k < ss.length
    · obtain ⟨s, hs⟩ : ∃ s, s = ss.getD k seg0 := ⟨_, rfl⟩
      have c0 : wr.cell? ⟨g, k * 5, none⟩ = some (.int .u8 s.perm) := by rw [hs]; exact seg_cell hho k hlt 0 _ (by omega) rfl
      have c1 : wr.cell? ⟨g, k * 5 + 1, none⟩ = some (.int .u64 s.addr) := by rw [hs]; exact seg_cell hho k hlt 1 _ (by omega) rfl
      have c2 : wr.cell? ⟨g, k * 5 + 2, none⟩ = some (.slice (some ⟨b, segPtr off cap s, none⟩) s.inFile.toNat (cap - s.offs.toNat)) := by rw [hs]; exact seg_cell hho k hlt 2 _ (by omega) rfl
      have c3 : wr.cell? ⟨g, k * 5 + 3, none⟩ = some (.int .i64 s.first) := by rw [hs]; exact seg_cell hho k hlt 3 _ (by omega) rfl
      have c4 : wr.cell? ⟨g, k * 5 + 4, none⟩ = some (.int .i64 s.last) := by rw [hs]; exact seg_cell hho k hlt 4 _ (by omega) rfl
      have hk0 : (0 : Int) ≤ (k : Int) := by omega
      have hk1 : (k : Int) < (ss.length : Int) := by omega
      have hent : entSeg E (ss.getD k seg0) ↔ (bits BinOp.and IntKind.u8 s.perm 1 ≠ 0 ∧ s.first ≤ P ∧ P ≤ s.last) := by rw [← hs, unhide HP]; rfl
      have HE := hide hent
      obtain ⟨X, hX⟩ : ∃ X, X = bits BinOp.and IntKind.u8 s.perm 1 := ⟨_, rfl⟩
      rw [← hX] at HE
      have hX' := hX.symm
      generalize s.first = F at c3 HE
      generalize s.last = L at c4 HE
      generalize s.addr = A at c1
      generalize s.inFile.toNat = FL at c2
      generalize s.offs.toNat = OF at c2
      clear hho hbl hs hent hX
      by_cases t1 : X = 0
      · have g1 : (X != 0) = false := by simpa using t1
        clear t1
        go_wp2
        go_roundw
        case rel => exact ⟨k + 1, by omega, by go_num, hide (upTo_step (unhide HN) (fun ho => by (have := ((unhide HE).1 ho).1; simp at g1; exact this g1))), (unhide HBL).alloc hsz _⟩
        case measure => simp [intOf]; omega
      · have g1 : (X != 0) = true := by simpa using t1
        have T1 := hide t1
        clear t1
        by_cases t2 : F ≤ P
        · by_cases t3 : P ≤ L
          · go_wp2
            go_ret
            exact ⟨.inl ⟨⟨unhide Q1, q2, k, hlt, (unhide HE).2 ⟨unhide T1, t2, t3⟩⟩, rfl⟩, (unhide HBL).alloc hsz _⟩
          · go_wp2
            go_roundw
            case rel => exact ⟨k + 1, by omega, by go_num, hide (upTo_step (unhide HN) (fun ho => by (have := ((unhide HE).1 ho).2.2; omega))), (unhide HBL).alloc hsz _⟩
            case measure => simp [intOf]; omega
        · go_wp2
          go_roundw
          case rel => exact ⟨k + 1, by omega, by go_num, hide (upTo_step (unhide HN) (fun ho => by (have := ((unhide HE).1 ho).2.1; omega))), (unhide HBL).alloc hsz _⟩
          case measure => simp [intOf]; omega
    · clear hho hbl
      go_wp2
      go_ret
      exact ⟨.inr ⟨fun ho => by (obtain ⟨_, _, i, hi, he⟩ := ho; exact (unhide HN) i (by omega) he), rfl⟩, unhide HBL⟩
end Go.Proofs.YtkokiefclmbgaaaGreatDoor
