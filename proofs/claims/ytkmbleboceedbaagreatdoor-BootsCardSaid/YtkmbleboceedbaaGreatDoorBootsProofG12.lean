import Derived.Test.YtkmbleboceedbaaGreatDoorBootsProofG11
import Derived.Test.YtkmbleboceedbaaGreatDoorBootsProofG02
import Derived.Lib.IndexBytes
import Derived.Lib.SplitLaws
import Derived.Test.YtkmbleboceedbaaGreatDoorBootsProofG10
/- The program's names: isName, names, beside the document's. -/
namespace Go.Proofs.YtkmbleboceedbaaGreatDoor
open Go Go.RowKit
set_option linter.unusedVariables false
set_option linter.unusedSimpArgs false

theorem parts_some : ∀ (l word : List UInt8), ∃ h t, parts l word = h :: t
  | [], word => ⟨word, [], rfl⟩
  | c :: r, word => by
    unfold parts
    split
    · exact ⟨word, parts r [], rfl⟩
    · exact parts_some r (word ++ [c])
theorem parts_word : ∀ (l u v h : List UInt8) (t : List (List UInt8)), parts l v = h :: t → parts l (u ++ v) = (u ++ h) :: t
  | [], u, v, h, t, e => by
    have e1 : v = h ∧ [] = t := by simpa [parts] using e
    obtain ⟨rfl, rfl⟩ := e1
    rfl
  | c :: r, u, v, h, t, e => by
    unfold parts at e ⊢
    split
    · rename_i hc
      rw [if_pos hc] at e
      have e1 : v = h ∧ parts r [] = t := by simpa using e
      obtain ⟨rfl, rfl⟩ := e1
      rfl
    · rename_i hc
      rw [if_neg hc] at e
      rw [List.append_assoc]
      exact parts_word r u (v ++ [c]) h t e
theorem index_there : ∀ l : List UInt8, (47 : UInt8) ∈ l → Lib.indexByte l 47 = -1 → False
  | [], h, _ => by simp at h
  | b :: l, h, hi => by
    unfold Lib.indexByte at hi
    split at hi
    · exact absurd hi (by decide)
    · rename_i hb
      split at hi
      · rename_i h1
        have : (47 : UInt8) ∈ l := by
          rcases List.mem_cons.1 h with e | e
          · exact absurd (by simp [e]) hb
          · exact e
        exact index_there l this (by simpa using h1)
      · rename_i h1
        have hge := Lib.indexByte_ge l 47
        have : ¬ Lib.indexByte l 47 = -1 := by simpa using h1
        omega
theorem split_parts : ∀ l : List UInt8, Lib.splitK [47] 0 (l.count 47) l = parts l []
  | [] => rfl
  | b :: l => by
    have ih := split_parts l
    by_cases hb : b = 47
    · subst hb
      have hc : List.count (47 : UInt8) (47 :: l) = List.count 47 l + 1 := by simp
      rw [hc]
      unfold Lib.splitK
      have hi : Lib.index (47 :: l) [47] = 0 := by rw [Lib.index_one]; simp [Lib.indexByte]
      rw [hi, if_neg (by decide)]
      show [] :: Lib.splitK [47] 0 (List.count 47 l) l = _
      rw [ih]
      conv => rhs; unfold parts
      rw [if_pos rfl]
    · have hc : List.count (47 : UInt8) (b :: l) = List.count 47 l := List.count_cons_of_ne hb
      rw [hc]
      obtain ⟨h, t, he⟩ := parts_some l []
      have hp : parts (b :: l) [] = (b :: h) :: t := by
        conv => lhs; unfold parts
        rw [if_neg hb]
        have := parts_word l [b] [] h t he
        simpa using this
      rw [hp]
      rw [he] at ih
      cases hk : List.count (47 : UInt8) l with
      | zero =>
        rw [hk] at ih
        have e1 : l = h ∧ [] = t := by simpa [Lib.splitK] using ih
        obtain ⟨rfl, rfl⟩ := e1
        rfl
      | succ k =>
        rw [hk] at ih
        unfold Lib.splitK at ih ⊢
        have hge := Lib.indexByte_ge l 47
        rw [Lib.index_one] at ih
        have hib : Lib.index (b :: l) [47] = if Lib.indexByte l 47 == -1 then -1 else Lib.indexByte l 47 + 1 := by
          rw [Lib.index_one]
          conv => lhs; unfold Lib.indexByte
          rw [if_neg (by simpa using hb)]
        rw [hib]
        split at ih
        · rename_i h1
          exfalso
          have hno : Lib.indexByte l 47 = -1 := by simpa using h1
          have hm : (47 : UInt8) ∈ l := List.count_pos_iff.1 (by omega)
          exact index_there l hm hno
        · rename_i h1
          rw [if_neg h1]
          have hn1 : ¬ Lib.indexByte l 47 = -1 := by simpa using h1
          obtain ⟨i, hi⟩ : ∃ i : Nat, Lib.indexByte l 47 = i := ⟨(Lib.indexByte l 47).toNat, by omega⟩
          rw [hi] at ih ⊢
          rw [if_neg (by simp; omega)]
          have e1 : l.take i = h ∧ Lib.splitK [47] 0 k (l.drop (i + 1)) = t := by simpa using ih
          obtain ⟨rfl, rfl⟩ := e1
          have e2 : ((i : Int) + 1).toNat = i + 1 := by omega
          rw [e2]
          rfl
theorem strOf_back (b : ByteArray) : strOf b.data.toList = b := by
  cases b; simp [strOf]
theorem split_slash {s : ByteArray} (h0 : s.data.toList[0]? = some 47) : Lib.splitB ⟨#[47]⟩ 0 (Lib.countB s ⟨#[47]⟩) s = ByteArray.empty :: pathParts s := by
  have h1 := Lib.splitB_data ⟨#[47]⟩ 0 (Lib.countB s ⟨#[47]⟩) s
  have h2 : Lib.countB s ⟨#[47]⟩ = s.data.toList.count 47 := Lib.count_one 47 s.data.toList
  rw [h2] at h1 ⊢
  have h3 : Lib.splitK [47] 0 (s.data.toList.count 47) s.data.toList = parts s.data.toList [] := split_parts _
  have h4 : (Lib.splitB ⟨#[47]⟩ 0 (s.data.toList.count 47) s).map (·.data.toList) = parts s.data.toList [] := h1.trans h3
  have h5 := congrArg (List.map strOf) h4
  rw [List.map_map, show strOf ∘ (fun b : ByteArray => b.data.toList) = id from by funext b; exact strOf_back b, List.map_id] at h5
  rw [h5]
  unfold pathParts
  cases hl : s.data.toList with
  | nil => rw [hl] at h0; cases h0
  | cons c r =>
    rw [hl] at h0
    obtain rfl : c = 47 := by simpa using h0
    conv => lhs; unfold parts
    rw [if_pos rfl]
    rfl
theorem parts_clean : ∀ (l word : List UInt8), (∀ c ∈ word, c ≠ 47) → ∀ p ∈ parts l word, ∀ c ∈ p, c ≠ 47
  | [], word, h, p, hp, c, hc => by
    have : p = word := by simpa [parts] using hp
    subst this
    exact h c hc
  | d :: r, word, h, p, hp, c, hc => by
    unfold parts at hp
    split at hp
    · rcases List.mem_cons.1 hp with rfl | hp
      · exact h c hc
      · exact parts_clean r [] (by simp) p hp c hc
    · rename_i hd
      refine parts_clean r (word ++ [d]) (fun x hx => ?_) p hp c hc
      rcases List.mem_append.1 hx with h1 | h1
      · exact h x h1
      · have : x = d := by simpa using h1
        subst this; exact hd
/-- As the program asks it. -/
def isNameP (s : ByteArray) : Bool := decide (1 ≤ s.size) && decide (s.size ≤ 14) && !(s.toList == [46]) && !(s.toList == [46, 46]) && decide (Lib.indexByte s.data.toList 0 < 0)
theorem index_zero : ∀ l : List UInt8, decide (Lib.indexByte l 0 < 0) = l.all (fun c => c != 0)
  | [] => rfl
  | b :: l => by
    have ih := index_zero l
    have hge := Lib.indexByte_ge l 0
    unfold Lib.indexByte
    rw [List.all_cons, ← ih]
    by_cases hb : b = 0
    · subst hb; rfl
    · rw [if_neg (by simpa using hb)]
      have e : (b != 0) = true := by simpa using hb
      rw [e, Bool.true_and]
      split
      · rename_i h1
        have : Lib.indexByte l 0 = -1 := by simpa using h1
        rw [this]
      · rename_i h1
        have : ¬ Lib.indexByte l 0 = -1 := by simpa using h1
        exact decide_eq_decide.2 (by omega)
theorem isNameP_eq {s : ByteArray} (h : ∀ c ∈ s.data.toList, c ≠ 47) : isNameP s = nameOk s := by
  unfold isNameP nameOk noSlash
  rw [index_zero]
  congr 1
  apply Bool.eq_iff_iff.2
  simp only [List.all_eq_true, Bool.and_eq_true, bne_iff_ne]
  exact ⟨fun h1 c hc => ⟨h1 c hc, h c hc⟩, fun h1 c hc => (h1 c hc).1⟩
theorem part_isName {s p : ByteArray} (h : p ∈ pathParts s) : isNameP p = nameOk p := by
  refine isNameP_eq (fun c hc => ?_)
  obtain ⟨q, hq, rfl⟩ := List.mem_map.1 h
  exact parts_clean _ [] (by simp) q hq c (by simpa [strOf] using hc)

set_option maxRecDepth 100000 in
set_option maxHeartbeats 4000000 in
theorem fsIsName_any (s : ByteArray) (w : World) (hs : s.size ≤ maxLen) : Calls Tryz.prog 117 #[.string s] w fun e w' => e = .returned (.bool (isNameP s)) ∧ w' = w := by
  have HX := hide (show Calls Tryz.prog 122 #[.string s, .int .u8 0] w fun e w' => e = .returned (.int .i64 (Lib.indexByte s.data.toList 0)) ∧ w' = w from Go.Proofs.Any.strings_IndexByte indexByte s 0 w)
  unfold isNameP
  obtain ⟨I, hI⟩ : ∃ I, I = Lib.indexByte s.data.toList 0 := ⟨_, rfl⟩
  rw [← hI] at HX ⊢
  clear hI
  have hmx : (s.size : Int) ≤ 9223372036854775807 := by unfold maxLen at hs; omega
  by_cases h1 : 1 ≤ s.size
  case neg =>
    have e1 : decide (1 ≤ s.size) = false := decide_eq_false h1
    have e2 : ¬ (1 : Int) ≤ (s.size : Int) := by omega
    rw [e1]
    clear h1 hs e1
    go_enter Tryz.func117, Tryz.ntmps117
    go_wp2
    go_ret
    exact ⟨rfl, rfl⟩
  have e1 : decide (1 ≤ s.size) = true := decide_eq_true h1
  have i1 : (1 : Int) ≤ (s.size : Int) := by omega
  by_cases h2 : s.size ≤ 14
  case neg =>
    have e2 : decide (s.size ≤ 14) = false := decide_eq_false h2
    have i2 : ¬ (s.size : Int) ≤ 14 := by omega
    rw [e1, e2]
    clear h1 h2 hs e1 e2
    go_enter Tryz.func117, Tryz.ntmps117
    go_wp2
    go_ret
    exact ⟨rfl, rfl⟩
  have e2 : decide (s.size ≤ 14) = true := decide_eq_true h2
  have i2 : (s.size : Int) ≤ 14 := by omega
  rw [e1, e2]
  cases h3 : (s.toList == [46]) with
  | true =>
    clear h1 h2 hs e1 e2
    go_enter Tryz.func117, Tryz.ntmps117
    go_wp2
    go_ret
    exact ⟨rfl, rfl⟩
  | false =>
    cases h4 : (s.toList == [46, 46]) with
    | true =>
      clear h1 h2 hs e1 e2
      go_enter Tryz.func117, Tryz.ntmps117
      go_wp2
      go_ret
      exact ⟨rfl, rfl⟩
    | false =>
      clear h1 h2 hs e1 e2
      go_enter Tryz.func117, Tryz.ntmps117
      go_wp2_with fail
      refine (unhide HX).mono ?_
      rintro e w' ⟨rfl, rfl⟩
      go_wp2
      go_ret
      exact ⟨rfl, rfl⟩
end Go.Proofs.YtkmbleboceedbaaGreatDoor

/- The program's names of a path. -/
namespace Go.Proofs.YtkmbleboceedbaaGreatDoor
open Go Go.RowKit
set_option linter.unusedVariables false
set_option linter.unusedSimpArgs false

def FsNamesPost (s : ByteArray) (w : World) (e : Ending) (w' : World) : Prop :=
  Below w.heap.size w w' ∧ (namesOf s = none ∧ e = .returned (.tuple #[.slice none 0 0, .iface 45 (.int .i64 8)]) ∨ ∃ l, namesOf s = some l ∧ l.length ≤ 100 ∧ e = .returned (.tuple #[.slice (some ⟨w.heap.size, 0, none⟩) (l.length + 1) (l.length + 1), .nilIface]) ∧ Holds w' w.heap.size 9 (strsRow (ByteArray.empty :: l)))
theorem prefix_slash (l : List UInt8) : Lib.hasPrefix l [47] = (l[0]? == some 47) := by
  cases l with
  | nil => rfl
  | cons c r =>
    show [47].isPrefixOf (c :: r) = _
    by_cases h : c = 47
    · subst h; simp
    · have e : ((47 : UInt8) == c) = false := by
        rw [beq_eq_false_iff_ne]
        intro e
        exact h e.symm
      have e2 : ((c :: r)[0]? == some 47) = false := by
        rw [beq_eq_false_iff_ne]
        intro e
        exact h (Option.some.inj e)
      rw [e2]
      simp [List.isPrefixOf, e]
theorem parts_count : ∀ (l word : List UInt8), (parts l word).length ≤ l.length + 1
  | [], word => by simp [parts]
  | c :: r, word => by
    unfold parts
    split
    · have := parts_count r []; simp; omega
    · have := parts_count r (word ++ [c]); simp; omega

theorem names_bound {s : ByteArray} (h : s.size ≤ 60) : (pathParts s).length ≤ 100 := by
  unfold pathParts
  rw [List.length_map]
  have := parts_count (s.data.toList.drop 1) []
  have h2 : s.data.toList.length = s.size := Array.length_toList
  have h3 := List.length_drop (l := s.data.toList) (i := 1)
  omega
theorem parts_len_le : ∀ (l word p : List UInt8), p ∈ parts l word → p.length ≤ l.length + word.length
  | [], word, p, h => by
    have : p = word := by simpa [parts] using h
    subst this; simp
  | c :: r, word, p, h => by
    unfold parts at h
    split at h
    · rcases List.mem_cons.1 h with rfl | h
      · rw [List.length_cons]; omega
      · have := parts_len_le r [] p h; rw [List.length_nil] at this; rw [List.length_cons]; omega
    · have := parts_len_le r (word ++ [c]) p h; simp at this ⊢; omega
theorem part_size {s q : ByteArray} (h : s.size ≤ 60) (hq : q ∈ pathParts s) : q.size ≤ maxLen := by
  obtain ⟨p, hp, rfl⟩ := List.mem_map.1 hq
  have h1 := parts_len_le _ [] p hp
  have h2 : s.data.toList.length = s.size := Array.length_toList
  have h3 := List.length_drop (l := s.data.toList) (i := 1)
  have h4 : (strOf p).size = p.length := by simp [strOf, ByteArray.size]
  unfold maxLen
  simp at h1
  omega
set_option maxRecDepth 100000 in
set_option maxHeartbeats 4000000 in
theorem fsNames_any (s : ByteArray) (m : Int) (w : World) (hs : s.size ≤ maxLen) (hm : w.cell? ⟨2, 0, none⟩ = some (.int .i64 m)) : Calls Tryz.prog 94 #[.string s] w (FsNamesPost s w) := by
  have HPX := hide (show Calls Tryz.prog 115 #[.string s, .string ⟨#[47]⟩] w fun e w' => e = .returned (.bool (Lib.hasPrefix s.data.toList [47])) ∧ w' = w from Go.Proofs.Any.strings_HasPrefix hasPrefix s ⟨#[47]⟩ w)
  rw [prefix_slash] at HPX
  have hmx : (s.size : Int) ≤ 9223372036854775807 := by unfold maxLen at hs; omega
  have HBR := hide (Below.refl w.heap.size w)
  by_cases h1 : s.size ≤ 60
  case neg =>
    have HR := hide (show namesOf s = none by unfold namesOf; rw [if_pos (.inl (by omega))])
    have i1 : (60 : Int) < (s.size : Int) := by omega
    clear h1 hs
    go_enter Tryz.func94, Tryz.ntmps94
    go_wp2
    go_ret2
    exact ⟨unhide HBR, .inl ⟨unhide HR, rfl⟩⟩
  have i1 : ¬ (60 : Int) < (s.size : Int) := by omega
  by_cases h2 : s.data.toList[0]? = some 47
  case neg =>
    have HR := hide (show namesOf s = none by unfold namesOf; rw [if_pos (.inr (.inr h2))])
    have e2 : (s.data.toList[0]? == some 47) = false := by simpa using h2
    rw [e2] at HPX
    clear h1 hs h2 e2
    go_enter Tryz.func94, Tryz.ntmps94
    go_wp2_with fail
    refine (unhide HPX).mono ?_
    rintro e w' ⟨rfl, rfl⟩
    go_wp2
    go_ret2
    exact ⟨unhide HBR, .inl ⟨unhide HR, rfl⟩⟩
  have e2 : (s.data.toList[0]? == some 47) = true := by simpa using h2
  rw [e2] at HPX
  have hpos : 0 < s.size := by
    have h9 := (List.getElem?_eq_some_iff.1 h2).1
    have h8 : s.data.toList.length = s.size := Array.length_toList
    omega
  by_cases h5 : s.size = 1
  · have HR := hide (show namesOf s = some [] by unfold namesOf; rw [if_neg (by rintro (h | h | h); omega; omega; exact h h2), if_pos h5])
    have g2 := root_eq h5 h2
    have HN := hide (Holds.new w 9 [.string ByteArray.empty])
    have HB2 := hide ((Below.refl w.heap.size w).alloc (Nat.le_refl _) (Obj.cells #[.string ByteArray.empty] 9))
    clear h1 hs h2 e2 h5
    go_enter Tryz.func94, Tryz.ntmps94
    go_wp2_with fail
    refine (unhide HPX).mono ?_
    rintro e w' ⟨rfl, rfl⟩
    go_wp2
    go_ret2
    exact ⟨unhide HB2, .inr ⟨[], unhide HR, by simp, rfl, unhide HN⟩⟩
  have g2 := root_ne h5
  have hsp := split_slash h2
  have HSP := hide (show Calls Tryz.prog 116 #[.string s, .string ⟨#[47]⟩] w fun e w' => e = .returned (.slice (some ⟨w.heap.size, 0, none⟩) ((pathParts s).length + 1) ((pathParts s).length + 1)) ∧ w' = w.alloc (.cells (strsRow (ByteArray.empty :: pathParts s)).toArray 9) from by
    have h := Go.Proofs.Any.strings_Split split (by kernel_rfl) s ⟨#[47]⟩ m w (by omega) hm (by decide)
    have hl := Lib.splitB_all ⟨#[47]⟩ (by decide) 0 _ s rfl
    rw [hsp] at hl
    have hl' : (pathParts s).length + 1 = Lib.countB s ⟨#[47]⟩ + 1 := hl
    rw [hsp, ← hl'] at h
    exact h)
  have HNP := hide (show ∀ q ∈ pathParts s, isNameP q = nameOk q from fun q hq => part_isName hq)
  have hpl := names_bound h1
  have HNO := hide (show namesOf s = if (pathParts s).all nameOk = true then some (pathParts s) else none by unfold namesOf; rw [if_neg (by rintro (h | h | h); omega; omega; exact h h2), if_neg h5])
  have HSZ := hide (show ∀ q ∈ pathParts s, q.size ≤ maxLen from fun q hq => part_size h1 hq)
  have hl0 : 0 < (pathParts s).length := by
    obtain ⟨h, t, he⟩ := parts_some (s.data.toList.drop 1) []
    unfold pathParts
    rw [he]; simp
  obtain ⟨L, hL⟩ : ∃ L, L = pathParts s := ⟨_, rfl⟩
  rw [← hL] at HSP HNP HNO HSZ hpl hl0
  obtain ⟨W1, hW1⟩ : ∃ W1, W1 = w.alloc (.cells (strsRow (ByteArray.empty :: L)).toArray 9) := ⟨_, rfl⟩
  rw [← hW1] at HSP
  have HN1 := hide (show Holds W1 w.heap.size 9 (strsRow (ByteArray.empty :: L)) from by rw [hW1]; exact Holds.new w 9 _)
  have HB1 := hide (show Below w.heap.size w W1 from by rw [hW1]; exact (Below.refl _ _).alloc (Nat.le_refl _) _)
  clear h1 hs h2 e2 h5 hsp hL hW1
  go_enter Tryz.func94, Tryz.ntmps94
  go_wp2_with fail
  refine (unhide HPX).mono ?_
  rintro e w' ⟨rfl, rfl⟩
  go_wp2_with fail
  refine (unhide HSP).mono ?_
  rintro e w2 ⟨rfl, rfl⟩
  have k1 : (1 : Int) ≤ (L.length : Int) + 1 := by omega
  have k2 : L.length ≠ 0 := by omega
  go_wp2
  go_loop [24] (fun i => ∃ k : Nat, k ≤ L.length ∧ i = .int .i64 k ∧ Hid (∀ j q, j < k → L[j]? = some q → nameOk q = true)) (fun i => L.length - (intOf i).toNat)
  case atStart => exact ⟨0, by omega, rfl, hide (fun j q hj => by omega)⟩
  case round =>
    obtain ⟨k, hk, rfl, HA⟩ := hrel
    by_cases hlt : k < L.length
    · obtain ⟨q, hq⟩ : ∃ q, L[k]? = some q := ⟨_, List.getElem?_eq_getElem hlt⟩
      have c0 : w2.cell? ⟨w'.heap.size, 1 + k, none⟩ = some (.string q) := (unhide HN1).cell (by rw [Nat.add_comm]; show (strsRow L)[k]? = _; simp [strsRow, hq])
      have hqm := List.mem_of_getElem? hq
      have HNM := hide (fsIsName_any q w2 (unhide HSZ q hqm))
      rw [unhide HNP q hqm] at HNM
      have hk0 : (0 : Int) ≤ (k : Int) := by omega
      have hk1 : (k : Int) < (L.length : Int) := by omega
      cases hb : nameOk q with
      | false =>
        rw [hb] at HNM
        have HR := hide (show namesOf s = none by
          rw [unhide HNO, if_neg]
          intro hall
          have := List.all_eq_true.1 hall q hqm
          rw [hb] at this
          cases this)
        clear hq hqm hb
        go_wp2_with fail
        refine (unhide HNM).mono ?_
        rintro e w3 ⟨rfl, rfl⟩
        go_wp2
        go_ret2
        exact ⟨unhide HB1, .inl ⟨unhide HR, rfl⟩⟩
      | true =>
        rw [hb] at HNM
        have HN : Hid (∀ j q, j < k + 1 → L[j]? = some q → nameOk q = true) := hide (fun j p hj hp => by
          rcases Nat.lt_succ_iff_lt_or_eq.1 hj with h | h
          · exact unhide HA j p h hp
          · subst h
            rw [hq] at hp
            obtain rfl := Option.some.inj hp
            exact hb)
        clear hq hqm hb
        go_wp2_with fail
        refine (unhide HNM).mono ?_
        rintro e w3 ⟨rfl, rfl⟩
        go_wp2
        go_round
        case rel => exact ⟨k + 1, by omega, by go_num, HN⟩
        case measure => simp [intOf]; omega
    · have HR := hide (show namesOf s = some L by
        rw [unhide HNO, if_pos]
        refine List.all_eq_true.2 (fun q hq => ?_)
        obtain ⟨j, hj⟩ := List.mem_iff_getElem?.1 hq
        exact unhide HA j q (by have := (List.getElem?_eq_some_iff.1 hj).1; omega) hj)
      go_wp2
      go_ret2
      exact ⟨unhide HB1, .inr ⟨L, unhide HR, hpl, rfl, unhide HN1⟩⟩
end Go.Proofs.YtkmbleboceedbaaGreatDoor

/- slices.SortFunc at segments, by their addresses. -/
namespace Go.Proofs.YtkmbleboceedbaaGreatDoor
open Go.RowKit
set_option linter.unusedVariables false
set_option linter.unusedSimpArgs false

abbrev seg0 : Seg := ⟨0, 0, 0, 0, 0⟩
def addrCmp (x y : Seg) : Int := if x.addr < y.addr then -1 else if y.addr < x.addr then 1 else 0
theorem addrCmp_neg (x y : Seg) : addrCmp x y < 0 ↔ x.addr < y.addr := by
  unfold addrCmp
  split
  · simp [*]
  · split <;> simp [*]

set_option maxHeartbeats 400000 in
theorem isNaN_no (x : Int) (w : World) : Calls Tryz.prog 120 #[.int .u64 x] w fun e w' => e = .returned (.bool false) ∧ w' = w := by
  have h : (x != x) = false := by simp
  go_enter Tryz.func120, Tryz.ntmps120
  go_wp2
  go_ret
  exact ⟨rfl, rfl⟩
set_option maxHeartbeats 400000 in
theorem cmpU64 (x y r : Int) (w : World) (hr : r = if x < y then -1 else if y < x then 1 else 0) : Calls Tryz.prog 99 #[.int .u64 x, .int .u64 y] w fun e w' => e = .returned (.int .i64 r) ∧ w' = w := by
  have H := hide isNaN_no
  by_cases h1 : x < y
  · rw [if_pos h1] at hr
    subst hr
    go_enter Tryz.func99, Tryz.ntmps99
    go_wp2_with (go_at_call 120; refine (unhide H _ _).mono ?_; rintro e w' ⟨rfl, rfl⟩)
    go_ret
    exact ⟨rfl, rfl⟩
  · rw [if_neg h1] at hr
    by_cases h2 : y < x
    · rw [if_pos h2] at hr
      subst hr
      go_enter Tryz.func99, Tryz.ntmps99
      go_wp2_with (go_at_call 120; refine (unhide H _ _).mono ?_; rintro e w' ⟨rfl, rfl⟩)
      go_ret
      exact ⟨rfl, rfl⟩
    · rw [if_neg h2] at hr
      subst hr
      go_enter Tryz.func99, Tryz.ntmps99
      go_wp2_with (go_at_call 120; refine (unhide H _ _).mono ?_; rintro e w' ⟨rfl, rfl⟩)
      go_ret
      exact ⟨rfl, rfl⟩
set_option maxHeartbeats 1000000 in
theorem closure_any (b off cap : Nat) (x y : Seg) (W : World) : Calls Tryz.prog 98 #[.agg (segCells b off cap x).toArray, .agg (segCells b off cap y).toArray] W fun e w' => e = .returned (.int .i64 (addrCmp x y)) ∧ ∃ q os', w' = Go.Sort.grow (W.drewN q) os' := by
  have H := hide (fun w => cmpU64 x.addr y.addr (addrCmp x y) w rfl)
  generalize addrCmp x y = r at H ⊢
  unfold segCells
  go_enter Tryz.func98, Tryz.ntmps98
  go_wp2_with (go_at_call 99; refine (unhide H _).mono ?_; rintro e w' ⟨rfl, rfl⟩)
  go_ret
  exact ⟨rfl, 0, _, by rw [Go.Sort.alloc_eq_grow, Go.Sort.alloc_eq_grow, Go.Sort.grow_grow]; rfl⟩

theorem segsRow_get (b off cap : Nat) : ∀ (ss : List Seg) (i j : Nat) (s : Seg), j < 5 → ss[i]? = some s → (segsRow b off cap ss)[i * 5 + j]? = (segCells b off cap s)[j]?
  | [], i, j, s, _, h => by simp at h
  | x :: r, 0, j, s, hj, h => by
    obtain rfl : x = s := by simpa using h
    rw [segsRow, List.flatMap_cons, Nat.zero_mul, Nat.zero_add, List.getElem?_append_left (show j < (segCells b off cap x).length from hj)]
  | x :: r, i + 1, j, s, hj, h => by
    have ih := segsRow_get b off cap r i j s hj (by simpa using h)
    rw [segsRow, List.flatMap_cons, List.getElem?_append_right (show (segCells b off cap x).length ≤ (i + 1) * 5 + j from by show 5 ≤ _; omega)]
    rw [show (i + 1) * 5 + j - (segCells b off cap x).length = i * 5 + j from by show (i + 1) * 5 + j - 5 = _; omega]
    exact ih
section
variable [Inhabited Seg]
theorem flat_row (b off cap : Nat) (ss : List Seg) : Go.Sort.flatK (segCells b off cap) 5 ss.toArray = (segsRow b off cap ss).toArray := by
  apply Go.Sort.ext_get!
  · simp [segsRow_length]
  · intro t ht
    have ht' : t < ss.length * 5 := by simpa using ht
    rw [Go.Sort.get_flatK _ _ _ _ (by simpa using ht')]
    have hi : t / 5 < ss.length := by omega
    have h := segsRow_get b off cap ss (t / 5) (t % 5) ss[t / 5] (Nat.mod_lt _ (by omega)) (List.getElem?_eq_getElem hi)
    rw [show t / 5 * 5 + t % 5 = t from by omega] at h
    have e : ss.toArray[t / 5]! = ss[t / 5] := by simp [getElem!_pos, hi]
    rw [e]
    simp only [List.getElem!_toArray, List.getElem!_eq_getElem?_getD, h]
theorem holdsK_of {w : World} {g : Nat} {t : TypeId} {b off cap : Nat} {ss : List Seg} (h : Holds w g t (segsRow b off cap ss)) : Go.Sort.HoldsK (segCells b off cap) 5 w g 0 ss.toArray := by
  unfold Go.Sort.HoldsK
  rw [flat_row]
  intro j hj
  rw [Nat.zero_add]
  refine ⟨?_, h.frozen j⟩
  have hj' : j < (segsRow b off cap ss).length := by simpa using hj
  rw [h.cell (List.getElem?_eq_getElem hj')]
  simp [getElem!_pos, hj']
theorem holds_sorted {w : World} {g : Nat} {t : TypeId} {b off cap : Nat} {ss ss' : List Seg} (h : Holds w g t (segsRow b off cap ss)) (hl : ss'.length = ss.length) (m : Nat) (os : Array Obj) :
    Holds (sortWorldK (segCells b off cap) 5 w g 0 m ss'.toArray os) g t (segsRow b off cap ss') ∧ w.grownBy (sortWorldK (segCells b off cap) 5 w g 0 m ss'.toArray os) (some g) := by
  have hlt := h.lt
  have hl2 : (segsRow b off cap ss').length = (segsRow b off cap ss).length := by rw [segsRow_length, segsRow_length, hl]
  unfold sortWorldK Go.Sort.grow Go.Sort.putRowK Go.Sort.putRow Go.Sort.mapBlock Go.Sort.ahead
  rw [flat_row]
  constructor
  · unfold Holds at h ⊢
    simp only
    rw [Array.getElem?_append_left (by simpa using hlt), Array.getElem?_modify, if_pos rfl, h]
    simp only [Option.map_some, Go.Sort.onCells, Option.some.injEq, Obj.cells.injEq, and_true]
    unfold Go.Sort.putCells
    apply Array.ext
    · simp [hl2]
    · intro i h1 h2
      have h2' : i < (segsRow b off cap ss').length := by simpa using h2
      simp [h2', getElem!_pos]
  · refine ⟨rfl, rfl, rfl, by simp, fun k hk hne => ?_⟩
    simp only
    rw [Array.getElem?_append_left (by simpa using hk), Array.getElem?_modify, if_neg (fun e => hne (by rw [e]))]
end
theorem addr_swo : Go.Sort.SWO (ltOf addrCmp) where
  irrefl x := by simp only [ltOf, addrCmp_neg]; simp
  trans x y z h1 h2 := by simp only [ltOf, addrCmp_neg, decide_eq_true_eq] at *; omega
  ntrans x y z h1 h2 := by simp only [ltOf, addrCmp_neg, decide_eq_false_iff_not] at *; omega
theorem bitsLen_some (n : Nat) (W : World) (h : n ≤ 12) : Calls Tryz.prog 112 #[.int .u64 n] W fun e w' => (∃ l : Int, e = .returned (.int .i64 l)) ∧ w' = W :=
  (Any.bits_Len bitsLen n W (by omega) (by omega)).mono fun _ _ ⟨he, hw⟩ => ⟨⟨_, he⟩, hw⟩
theorem sort_any (b off cap g c : Nat) (ss : List Seg) (w : World) (h : Holds w g 242 (segsRow b off cap ss)) (h8 : ss.length ≤ 8) :
    Calls Tryz.prog 97 #[.slice (some ⟨g, 0, none⟩) ss.length c, .func (.func 98) #[] #[]] w fun e w' =>
      e = .returned (.tuple #[]) ∧ ∃ ss' : List Seg, ss'.Perm ss ∧ (∀ i j, i < j → j < ss'.length → (ss'.getD i seg0).addr ≤ (ss'.getD j seg0).addr) ∧ Holds w' g 242 (segsRow b off cap ss') ∧ w.grownBy w' (some g) := by
  haveI hinh : Inhabited Seg := ⟨seg0⟩
  have eg : ∀ args w, (callFunc 98 args).run Tryz.prog w = .ok (.enter 98 args) w := enters_of Tryz.func98 (by kernel_rfl) rfl
  have hcon := AnyQ.slices_SortFunc_small_sorted sortSeg 5 Tryz.isAgg242 Tryz.sizeOf242 (segCells b off cap) (fun _ => rfl) (segCells_one b off cap) addrCmp 98 #[] addr_swo g 0 c ss.toArray w eg (fun _ _ _ _ x y => closure_any b off cap x y _) (holdsK_of h) h.lt (by simp; omega) (fun n W hn => bitsLen_some n W hn)
  change Calls Tryz.prog 97 #[.slice (some ⟨g, 0, none⟩) ss.length c, .func (.func 98) #[] #[]] w _ at hcon
  refine hcon.mono ?_
  rintro e w' ⟨he, d', n, os, hp, hs, rfl⟩
  refine ⟨he, d'.toList, ?_, ?_, ?_⟩
  · have := hp.2.2
    have hsz := hp.1
    simp only [List.size_toArray] at this hsz
    rw [show d'.extract 0 ss.length = d' from by rw [← hsz]; simp] at this
    simpa using this
  · intro i j hij hj
    have hsz := hp.1
    simp only [List.size_toArray] at hsz
    have := hs i j (Nat.zero_le _) hij (by simp only [List.size_toArray]; simpa [hsz] using hj)
    simp only [ltOf, addrCmp_neg, decide_eq_false_iff_not] at this
    have hj' : j < d'.size := by simpa using hj
    have hi' : i < d'.size := by omega
    rw [getElem!_pos d' j hj', getElem!_pos d' i hi'] at this
    simp only [List.getD, Array.getElem?_toList, Array.getElem?_eq_getElem hj', Array.getElem?_eq_getElem hi', Option.getD_some]
    omega
  · have hsz := hp.1
    have := holds_sorted (ss' := d'.toList) h (by simpa using hsz) n os
    simpa using this
end Go.Proofs.YtkmbleboceedbaaGreatDoor

/- Stack: what the pages hold, as plain lists. -/
namespace Go.Proofs.YtkmbleboceedbaaGreatDoor
open Go.RowKit

def strInts (s : ByteArray) : List Int := s.data.toList.map fun c => (c.toNat : Int)
theorem strInts_length (s : ByteArray) : (strInts s).length = s.size := by simp [strInts]
/-- How many bytes the arguments take, each with a byte 0 behind it. -/
def total : List ByteArray → Nat
  | [] => 0
  | s :: r => s.size + 1 + total r
def zeroRoom : List Int := List.replicate 512 0
theorem zeroRoom_length : zeroRoom.length = 512 := List.length_replicate
/-- The room with the arguments at its end. -/
def room : List ByteArray → List Int
  | [] => zeroRoom
  | s :: r => splice (room r) (512 - total (s :: r)) (strInts s)
/-- Their addresses. -/
def addrs : List ByteArray → List Int
  | [] => []
  | s :: r => ((65024 + (512 - total (s :: r)) : Nat) : Int) :: addrs r
theorem addrs_length : ∀ ss, (addrs ss).length = ss.length
  | [] => rfl
  | s :: r => by simp [addrs, addrs_length r]
theorem room_length : ∀ ss, total ss ≤ 512 → (room ss).length = 512
  | [], _ => zeroRoom_length
  | s :: r, h => by
    unfold room
    have h' : total r ≤ 512 := by unfold total at h; omega
    rw [splice_length _ _ _ (by rw [room_length r h', strInts_length]; unfold total at h ⊢; omega), room_length r h']
theorem total_le {ss : List ByteArray} (h : ss.all okArg = true) : total ss ≤ 31 * ss.length := by
  induction ss with
  | nil => simp [total]
  | cons s r ih =>
    simp only [List.all_cons, Bool.and_eq_true] at h
    have h1 := h.1
    simp [okArg] at h1
    have := ih h.2
    simp only [total, List.length_cons]
    omega
theorem all_drop {ss : List ByteArray} (h : ss.all okArg = true) (k : Nat) : (ss.drop k).all okArg = true := by
  rw [List.all_eq_true] at h ⊢
  exact fun x hx => h x (List.mem_of_mem_drop hx)
theorem ok_all {ss : List ByteArray} (h : okArgs ss = true) : ss.length ≤ 8 ∧ ss.all okArg = true := by
  simpa [okArgs] using h
theorem total_drop_le {ss : List ByteArray} (h : okArgs ss = true) (k : Nat) : total (ss.drop k) ≤ 248 := by
  have h1 := ok_all h
  have := total_le (all_drop h1.2 k)
  simp at this
  omega
theorem drop_cons {ss : List ByteArray} {k : Nat} (h : k < ss.length) : ss.drop k = ss.getD k ByteArray.empty :: ss.drop (k + 1) := by
  rw [List.drop_eq_getElem_cons h]
  simp [List.getD, List.getElem?_eq_getElem h]
theorem size_le {ss : List ByteArray} (h : okArgs ss = true) {k : Nat} (hk : k < ss.length) : (ss.getD k ByteArray.empty).size ≤ 30 := by
  have h1 := (List.all_eq_true.1 (ok_all h).2) (ss.getD k ByteArray.empty) (by simp [List.getD, List.getElem?_eq_getElem hk])
  simp [okArg] at h1
  exact h1.1
/-- Where the header goes. -/
def spOff (ss : List ByteArray) : Nat := (512 - total ss - 8 * (ss.length + 2)) / 16 * 16
def heads (ss : List ByteArray) : List Int := ((ss.length : Nat) : Int) :: (addrs ss ++ [0])
theorem heads_length (ss : List ByteArray) : (heads ss).length = ss.length + 2 := by simp [heads, addrs_length]
/-- All that the two pages hold. -/
def stackRoom (ss : List ByteArray) : List Int := splice (room ss) (spOff ss) (words8 (heads ss))
/-- The words as they are while the arguments from k on are laid. -/
def wordsTo (ss : List ByteArray) (k : Nat) : List Int := ((ss.length : Nat) : Int) :: (List.replicate k 0 ++ addrs (ss.drop k) ++ [0])
theorem wordsTo_length (ss : List ByteArray) (k : Nat) (h : k ≤ ss.length) : (wordsTo ss k).length = ss.length + 2 := by
  simp [wordsTo, addrs_length]; omega
theorem wordsTo_zero (ss : List ByteArray) : wordsTo ss 0 = heads ss := by simp [wordsTo, heads]
theorem wordsTo_step (ss : List ByteArray) (k : Nat) (h : k < ss.length) :
    (wordsTo ss (k + 1)).set (k + 1) ((65024 + (512 - total (ss.drop k)) : Nat) : Int) = wordsTo ss k := by
  unfold wordsTo
  rw [List.set_cons_succ]
  congr 1
  rw [drop_cons h, addrs]
  rw [List.replicate_succ', List.append_assoc, List.append_assoc, List.append_assoc]
  rw [List.set_append_right _ _ (by simp)]
  simp
end Go.Proofs.YtkmbleboceedbaaGreatDoor

/- Stack: arguments that are none: both programs say so. -/
namespace Go.Proofs.YtkmbleboceedbaaGreatDoor
open Go.RowKit
set_option linter.unusedVariables false
set_option linter.unusedSimpArgs false

set_option maxHeartbeats 1000000 in
theorem stack_exe_bad (a : Option Addr) (b off cap : Nat) (ss : List ByteArray) (w : World) (hn : ss.length ≤ 1000) (ha : 0 < ss.length → a = some ⟨b, off, none⟩)
    (hcell : ∀ i, i < ss.length → w.cell? ⟨b, off + i, none⟩ = some (.string (ss.getD i ByteArray.empty))) (hok : okArgs ss = false) :
    Calls Tryz.prog 69 #[.slice a ss.length cap] w fun e w' => e = .returned (.tuple #[.slice none 0 0, .int .u64 0, .iface 45 (.int .i64 6)]) ∧ w' = w := by
  have HC := hide hcell
  have HA := hide ha
  have HO := hide hok
  clear hcell ha hok
  go_enter Tryz.func69, Tryz.ntmps69
  go_wp2_with fail
  refine (areArgs_any a b off cap ss _ hn (unhide HA) (unhide HC)).mono ?_
  rw [unhide HO]
  rintro e w' ⟨rfl, rfl⟩
  go_wp2
  go_ret3
  exact ⟨rfl, rfl⟩

/-- A byte of a string. -/
theorem byte_zero {s : ByteArray} {j : Nat} (hj : j < s.size) (h : (s[j].toNat : Int) = 0) : okArg s = false := by
  have : s[j] = 0 := by
    apply UInt8.toNat_inj.1
    have : s[j].toNat = 0 := by omega
    simpa using this
  have hm : (0 : UInt8) ∈ s.data.toList := by
    rw [← this]
    exact List.getElem_mem (l := s.data.toList) (by simpa using hj)
  simp [okArg, hm]
theorem byte_ok {s : ByteArray} (h : okArg s = true) {j : Nat} (hj : j < s.size) : (s[j].toNat : Int) ≠ 0 := fun e => by
  have := byte_zero hj e
  rw [h] at this
  cases this
theorem okArg_bytes {s : ByteArray} (h : s.size ≤ 30) (h0 : ∀ j, (hj : j < s.size) → (s[j].toNat : Int) ≠ 0) : okArg s = true := by
  have : ¬ (0 : UInt8) ∈ s.data.toList := fun m => by
    obtain ⟨j, hj, e⟩ := List.getElem_of_mem m
    have hj' : j < s.size := by simpa using hj
    have : s[j] = 0 := e
    exact h0 j hj' (by rw [this]; rfl)
  simp [okArg, h, this]

set_option maxHeartbeats 1000000 in
theorem stack_ref_bad (a : Option Addr) (b off cap : Nat) (ss : List ByteArray) (w : World) (hn : ss.length ≤ 1000) (ha : 0 < ss.length → a = some ⟨b, off, none⟩)
    (hcell : ∀ i, i < ss.length → w.cell? ⟨b, off + i, none⟩ = some (.string (ss.getD i ByteArray.empty))) (hs : ∀ s ∈ ss, s.size ≤ maxLen) (hok : okArgs ss = false) :
    Calls Tryz.prog 50 #[.slice a ss.length cap] w fun e w' => e = .returned (.tuple #[.slice none 0 0, .int .u64 0, .int .i64 6]) ∧ w' = w := by
  have HC := hide hcell
  have HA := hide ha
  have HO := hide hok
  by_cases h8 : 8 < ss.length
  · clear hcell ha hok
    go_enter Tryz.func50, Tryz.ntmps50
    go_wp2
    go_ret3
    exact ⟨rfl, rfl⟩
  · clear hcell ha hok
    go_enter Tryz.func50, Tryz.ntmps50
    go_wp2
    go_loop [5] (fun i => ∃ k : Nat, k ≤ ss.length ∧ i = .int .i64 k ∧ (ss.take k).all okArg = true) (fun i => ss.length - (intOf i).toNat)
    case atStart => exact ⟨0, by omega, rfl, rfl⟩
    case round =>
      obtain ⟨k, hk, rfl, hall⟩ := hrel
      have HALL := hide hall
      clear hall
      by_cases hlt : k < ss.length
      · have hca := (unhide HC) k hlt
        have e := (unhide HA) (by omega)
        subst e
        have hms := hs (ss.getD k ByteArray.empty) (by simp [List.getD, List.getElem?_eq_getElem hlt])
        obtain ⟨s, hs'⟩ : ∃ s, s = ss.getD k ByteArray.empty := ⟨_, rfl⟩
        rw [← hs'] at hca hms
        have HS := hide hs'
        unfold maxLen at hms
        clear hs'
        by_cases hl : s.size ≤ 30
        · go_wp2
          go_loop [6] (fun i => ∃ j : Nat, j ≤ s.size ∧ i = .int .i64 j ∧ ∀ m, (hm : m < s.size) → m < j → (s[m].toNat : Int) ≠ 0) (fun i => s.size - (intOf i).toNat)
          case atStart => exact ⟨0, by omega, rfl, fun m hm h => by omega⟩
          case round =>
            obtain ⟨j, hj, rfl, hnz⟩ := hrel
            have HNZ := hide hnz
            clear hnz
            by_cases hjl : j < s.size
            · by_cases hz : (s[j].toNat : Int) = 0
              · have hb : ((s[j].toNat : Int) == 0) = true := by simpa using hz
                have HZ := hide hz
                clear hz
                go_wp2
                go_ret3
                exact ⟨rfl, rfl⟩
              · have hb : ((s[j].toNat : Int) == 0) = false := by simpa using hz
                have HZ := hide hz
                clear hz
                go_wp2
                go_round
                case rel =>
                  refine ⟨j + 1, by omega, by go_num, fun m hm h => ?_⟩
                  by_cases e : m = j
                  · subst e; exact unhide HZ
                  · exact unhide HNZ m hm (by omega)
                case measure => simp [intOf]; omega
            · have F := hide (all_take hlt (by rw [← unhide HS]; exact okArg_bytes hl (fun m hm => unhide HNZ m hm (by omega))) (unhide HALL))
              go_wp2
              go_round
              case rel => exact ⟨k + 1, by omega, by go_num, unhide F⟩
              case measure => simp [intOf]; omega
        · go_wp2
          go_ret3
          exact ⟨rfl, rfl⟩
      · exfalso
        have : ss.all okArg = true := by have := unhide HALL; rwa [List.take_of_length_le (by omega)] at this
        have h2 := unhide HO
        simp [okArgs, this] at h2
        omega
end Go.Proofs.YtkmbleboceedbaaGreatDoor
