import Derived.Test.YtkmbleboceedbaaGreatDoorProg
import Derived.Test.YtkmbleboceedbaaGreatDoorBootsProofG01
import Derived.Deep.AppendLies
import Derived.Laws.Strings2
import Derived.Lib.IndexBytes
import Derived.Lib.SplitLaws
/- tinyosref.isName, names. -/
namespace Go.Proofs.YtkmbleboceedbaaGreatDoor
open Go.RowKit
set_option linter.unusedVariables false
set_option linter.unusedSimpArgs false

/-- No byte is 0 or a slash. -/
def noSlash (s : ByteArray) : Bool := s.data.toList.all (fun c => c != 0 && c != 47)
/-- A text is a name. -/
def nameOk (s : ByteArray) : Bool := decide (1 ≤ s.size) && decide (s.size ≤ 14) && !(s.toList == [46]) && !(s.toList == [46, 46]) && noSlash s
theorem byte_int0 (c : UInt8) : ((c.toNat : Int) == 0) = (c == 0) := by
  by_cases h : c = 0
  · subst h; rfl
  · have h1 : (c == 0) = false := by simpa using h
    rw [h1]
    have h2 : c.toNat ≠ 0 := fun e => h (UInt8.toNat_inj.1 e)
    simp; omega
theorem byte_int47 (c : UInt8) : ((c.toNat : Int) == 47) = (c == 47) := by
  by_cases h : c = 47
  · subst h; rfl
  · have h1 : (c == 47) = false := by simpa using h
    rw [h1]
    have h2 : c.toNat ≠ 47 := fun e => h (UInt8.toNat_inj.1 e)
    simp; omega
theorem data_get (s : ByteArray) (j : Nat) (h : j < s.size) : s.data.toList[j]? = some s[j] := by
  have h2 : j < s.data.toList.length := by simpa using h
  rw [List.getElem?_eq_getElem h2]; rfl
theorem all_upto {l : List UInt8} {f : UInt8 → Bool} (h : ∀ j, j < l.length → ∀ c, l[j]? = some c → f c = true) : l.all f = true := by
  rw [List.all_eq_true]
  intro c hc
  obtain ⟨j, hj, rfl⟩ := List.mem_iff_getElem.1 hc
  exact h j hj _ (List.getElem?_eq_getElem hj)
theorem all_bad {l : List UInt8} {f : UInt8 → Bool} {j : Nat} {c : UInt8} (h : l[j]? = some c) (hf : f c = false) : l.all f = false := by
  rw [List.all_eq_false]
  exact ⟨c, List.mem_of_getElem? h, by rw [hf]; decide⟩

set_option maxRecDepth 100000 in
set_option maxHeartbeats 1000000 in
theorem refIsName_any (s : ByteArray) (w : World) (hs : s.size ≤ 1000) : Calls Tryz.prog 106 #[.string s] w fun e w' => e = .returned (.bool (nameOk s)) ∧ w' = w := by
  by_cases h1 : 1 ≤ s.size
  case neg =>
    have hr : nameOk s = false := by simp [nameOk]; omega
    rw [hr]
    clear hr
    go_enter Tryz.func106, Tryz.ntmps106
    go_wp2
    go_ret
    exact ⟨rfl, rfl⟩
  by_cases h2 : s.size ≤ 14
  case neg =>
    have hr : nameOk s = false := by simp [nameOk]; omega
    rw [hr]
    clear hr
    go_enter Tryz.func106, Tryz.ntmps106
    go_wp2
    go_ret
    exact ⟨rfl, rfl⟩
  by_cases h3 : (s.toList == [46]) = true
  · have hr : nameOk s = false := by simp [nameOk, h3]
    rw [hr]
    clear hr
    go_enter Tryz.func106, Tryz.ntmps106
    go_wp2
    go_ret
    exact ⟨rfl, rfl⟩
  have h3' : (s.toList == [46]) = false := by simpa using h3
  by_cases h4 : (s.toList == [46, 46]) = true
  · have hr : nameOk s = false := by simp [nameOk, h4]
    rw [hr]
    clear hr h3
    go_enter Tryz.func106, Tryz.ntmps106
    go_wp2
    go_ret
    exact ⟨rfl, rfl⟩
  have h4' : (s.toList == [46, 46]) = false := by simpa using h4
  have hr : nameOk s = noSlash s := by simp [nameOk, h1, h2, h3', h4']
  rw [hr]
  clear h3 h4 hr
  go_enter Tryz.func106, Tryz.ntmps106
  go_wp2
  go_loop [3] (fun i => ∃ k : Nat, k ≤ s.size ∧ i = .int .i64 k ∧ Hid (∀ j, j < k → ∀ c, s.data.toList[j]? = some c → (c != 0 && c != 47) = true)) (fun i => s.size - (intOf i).toNat)
  case atStart => exact ⟨0, by omega, rfl, hide (fun j hj => by omega)⟩
  case round =>
    obtain ⟨k, hk, rfl, HA⟩ := hrel
    by_cases hlt : k < s.size
    · have hd := data_get s k hlt
      by_cases c1 : s[k] = 0
      · have g1 : ((s[k].toNat : Int) == 0) = true := by rw [byte_int0, c1]; rfl
        have hr : noSlash s = false := all_bad hd (by rw [c1]; rfl)
        have HR := hide hr
        clear hd hr c1
        go_wp2
        go_ret
        exact ⟨by rw [unhide HR]; rfl, rfl⟩
      have g1 : ((s[k].toNat : Int) == 0) = false := by rw [byte_int0]; simpa using c1
      by_cases c2 : s[k] = 47
      · have g2 : ((s[k].toNat : Int) == 47) = true := by rw [byte_int47, c2]; rfl
        have hr : noSlash s = false := all_bad hd (by rw [c2]; rfl)
        have HR := hide hr
        clear hd hr c1 c2
        go_wp2
        go_ret
        exact ⟨by rw [unhide HR]; rfl, rfl⟩
      have g2 : ((s[k].toNat : Int) == 47) = false := by rw [byte_int47]; simpa using c2
      have HN : Hid (∀ j, j < k + 1 → ∀ c, s.data.toList[j]? = some c → (c != 0 && c != 47) = true) := hide (fun j hj c hc => by
        rcases Nat.lt_succ_iff_lt_or_eq.1 hj with h | h
        · exact unhide HA j h c hc
        · subst h
          rw [hd] at hc
          obtain rfl := Option.some.inj hc
          simp [c1, c2])
      clear hd c1 c2
      go_wp2
      go_round
      case rel => exact ⟨k + 1, by omega, by go_num, HN⟩
      case measure => simp [intOf]; omega
    · have hsl : s.data.toList.length = s.size := by simp
      have hr : noSlash s = true := all_upto (fun j hj c hc => unhide HA j (by omega) c hc)
      have HR := hide hr
      clear hr hsl
      go_wp2
      go_ret
      exact ⟨by rw [unhide HR]; rfl, rfl⟩

/-- What lies between slashes: behind a word that was begun. -/
def parts : List UInt8 → List UInt8 → List (List UInt8)
  | [], word => [word]
  | c :: r, word => if c = 47 then word :: parts r [] else parts r (word ++ [c])
def strOf (l : List UInt8) : ByteArray := ⟨l.toArray⟩
/-- What lies between the slashes of a path. -/
def pathParts (s : ByteArray) : List ByteArray := (parts (s.data.toList.drop 1) []).map strOf
/-- The names of a path; none: it is none. -/
def namesOf (s : ByteArray) : Option (List ByteArray) :=
  if 60 < s.size ∨ s.size = 0 ∨ s.data.toList[0]? ≠ some 47 then none
  else if s.size = 1 then some []
  else if (pathParts s).all nameOk = true then some (pathParts s) else none
theorem append_data (a b : ByteArray) : (a ++ b).data.toList = a.data.toList ++ b.data.toList := by simp
theorem extract_one (s : ByteArray) (k : Nat) (h : k < s.size) : (s.extract k (k + 1)).data.toList = [s[k]] := by
  rw [ByteArray.data_extract]
  have h2 : k < s.data.size := h
  rw [Array.toList_extract]
  simp [List.extract]
  rw [List.drop_eq_getElem_cons (by simpa using h2)]
  simp
  rfl
theorem root_eq {s : ByteArray} (h1 : s.size = 1) (h : s.data.toList[0]? = some 47) : (s.toList == [47]) = true := by
  rw [ByteArray.toList_eq]
  have hl : s.data.toList.length = 1 := by simpa using h1
  match hx : s.data.toList, hl with
  | [c], _ =>
    rw [hx] at h
    have : c = 47 := by simpa using h
    subst this; rfl
theorem root_ne {s : ByteArray} (h1 : ¬ s.size = 1) : (s.toList == [47]) = false := by
  rw [ByteArray.toList_eq, beq_eq_false_iff_ne]
  intro h
  have hl : s.data.toList.length = s.size := by simp
  rw [h] at hl
  exact h1 hl.symm
theorem strOf_data (s : ByteArray) : strOf s.data.toList = s := rfl
theorem strOf_size (l : List UInt8) : (strOf l).size = l.length := by simp [strOf, ByteArray.size]
def strsRow (l : List ByteArray) : List Value := l.map Value.string
theorem parts_ne (l : List UInt8) : ∀ word, parts l word ≠ [] := by
  induction l with
  | nil => intro word; simp [parts]
  | cons c r ih => intro word; unfold parts; split <;> simp [ih]
theorem parts_slash (l : List UInt8) (i : Nat) (word : List UInt8) (h : l[i]? = some 47) : parts (l.drop i) word = word :: parts (l.drop (i + 1)) [] := by
  have hi := (List.getElem?_eq_some_iff.1 h).1
  rw [List.drop_eq_getElem_cons hi, parts, if_pos (by rw [List.getElem?_eq_getElem hi] at h; exact Option.some.inj h)]
theorem parts_char (l : List UInt8) (i : Nat) (word : List UInt8) (c : UInt8) (h : l[i]? = some c) (hc : c ≠ 47) : parts (l.drop i) word = parts (l.drop (i + 1)) (word ++ [c]) := by
  have hi := (List.getElem?_eq_some_iff.1 h).1
  have e : l[i] = c := by rw [List.getElem?_eq_getElem hi] at h; exact Option.some.inj h
  rw [List.drop_eq_getElem_cons hi, parts, e, if_neg hc]
theorem strInfo : (Tryz.prog.info? 9).map (fun i => (i.zero, i.size, i.bytes)) = some (some (.string ByteArray.empty), 1, 16) := by kernel_rfl
theorem info_of {P : Program} {t : TypeId} {z : Value} {a b : Nat} (h : (P.info? t).map (fun i => (i.zero, i.size, i.bytes)) = some (some z, a, b)) : ∃ i, P.info? t = some i ∧ i.zero = some z ∧ i.size = a ∧ i.bytes = b := by
  obtain ⟨i, hi, h2⟩ := Option.map_eq_some_iff.1 h
  simp only [Prod.mk.injEq] at h2
  exact ⟨i, hi, h2.1, h2.2.1, h2.2.2⟩
theorem names_bad {s : ByteArray} (h1 : s.size ≤ 60) (h2 : ¬ s.size = 0) (h5 : ¬ s.size = 1) {c : UInt8} (hd : s.data.toList[0]? = some c) (hc : c = 47) {D : List ByteArray} {W : ByteArray} (h : ∃ r, pathParts s = D ++ W :: r) (hn : nameOk W = false) : namesOf s = none := by
  unfold namesOf
  rw [if_neg (by rintro (h | h | h); omega; omega; exact h (by rw [hd, hc])), if_neg h5, if_neg]
  obtain ⟨r, h⟩ := h
  rw [h, List.all_append, List.all_cons, hn]
  simp
def NamesPost (s : ByteArray) (w : World) (e : Ending) (w' : World) : Prop :=
  (namesOf s = none ∧ e = .returned (.tuple #[.slice none 0 0, .bool false]) ∨ ∃ l, namesOf s = some l ∧ ∃ v, e = .returned (.tuple #[v, .bool true]) ∧ w'.ownsRow w.heap.size 9 1 v l.length (strsRow l)) ∧ Below w.heap.size w w'

set_option maxRecDepth 100000 in
set_option maxHeartbeats 1000000 in
theorem refNames_any (s : ByteArray) (w : World) (hs : s.size ≤ maxLen) : Calls Tryz.prog 76 #[.string s] w fun e w' => NamesPost s w e w' := by
  unfold maxLen at hs
  by_cases h1 : s.size ≤ 60
  case neg =>
    have hr : namesOf s = none := by unfold namesOf; rw [if_pos (.inl (by omega))]
    have HR := hide hr
    clear hr
    go_enter Tryz.func76, Tryz.ntmps76
    go_wp2
    go_ret2
    exact ⟨.inl ⟨unhide HR, rfl⟩, Below.refl _ _⟩
  by_cases h2 : s.size = 0
  · have hr : namesOf s = none := by unfold namesOf; rw [if_pos (.inr (.inl h2))]
    have HR := hide hr
    clear hr
    go_enter Tryz.func76, Tryz.ntmps76
    go_wp2
    go_ret2
    exact ⟨.inl ⟨unhide HR, rfl⟩, Below.refl _ _⟩
  have h0 : 0 < s.size := by omega
  have g0 : ((s.size : Int) == 0) = false := by rw [beq_eq_false_iff_ne]; omega
  have hd0 := data_get s 0 h0
  by_cases h3 : s[0] = 47
  case neg =>
    have hr : namesOf s = none := by unfold namesOf; rw [if_pos (.inr (.inr (by rw [hd0]; intro e; exact h3 (Option.some.inj e))))]
    have HR := hide hr
    have g : ((s[0].toNat : Int) != 47) = true := by
      have := byte_int47 s[0]
      have h4 : (s[0] == 47) = false := by simpa using h3
      rw [h4] at this
      simpa using this
    clear hr hd0 h3
    go_enter Tryz.func76, Tryz.ntmps76
    go_wp2
    go_ret2
    exact ⟨.inl ⟨unhide HR, rfl⟩, Below.refl _ _⟩
  have g : ((s[0].toNat : Int) != 47) = false := by rw [h3]; rfl
  by_cases h5 : s.size = 1
  · have hr : namesOf s = some [] := by unfold namesOf; rw [if_neg (by rintro (h | h | h); omega; omega; exact h (by rw [hd0, h3])), if_pos h5]
    have HR := hide hr
    have g2 := root_eq h5 (hd0.trans (by rw [h3]))
    clear hr hd0 h3
    go_enter Tryz.func76, Tryz.ntmps76
    go_wp2
    go_ret2
    exact ⟨.inr ⟨[], unhide HR, _, rfl, World.ownsRow_nil _ _ _ _⟩, Below.refl _ _⟩
  have g2 := root_ne h5
  have HD := hide (And.intro h3 hd0)
  obtain ⟨is, his, hz0, hz1, hz2⟩ := info_of strInfo
  have HIS := hide (And.intro his (And.intro hz0 (And.intro hz1 hz2)))
  clear h3 hd0 his hz0 hz1 hz2
  go_enter Tryz.func76, Tryz.ntmps76
  go_wp2
  go_loopw [4, 5, 6] (fun l word i wr => ∃ k : Nat, ∃ W : ByteArray, ∃ D : List ByteArray, 1 ≤ k ∧ k ≤ s.size + 1 ∧ i = .int .i64 k ∧ word = .string W ∧ Hid (D.all nameOk = true) ∧ D.length ≤ k ∧ W.size ≤ k ∧
      Hid ((k ≤ s.size → pathParts s = D ++ (parts (s.data.toList.drop k) W.data.toList).map strOf) ∧ (k = s.size + 1 → pathParts s = D)) ∧ Hid (wr.ownsRow w.heap.size 9 1 l D.length (strsRow D)) ∧ Hid (Below w.heap.size w wr)) (fun _ _ i _ => s.size + 1 - (intOf i).toNat)
  case atStart => exact ⟨1, ByteArray.empty, [], by omega, by omega, rfl, rfl, hide rfl, by simp, by simp, hide ⟨fun _ => rfl, fun h => by omega⟩, hide (World.ownsRow_nil _ _ _ _), hide (Below.refl _ _)⟩
  case round =>
    obtain ⟨k, W, D, hk1, hk, rfl, rfl, HAL, hDl, hWl, HPT, HOW, HBL⟩ := hrel
    by_cases hlt : k < s.size
    · by_cases c1 : s[k] = 47
      · have g3 : ((s[k].toNat : Int) != 47) = false := by rw [c1]; rfl
        have hpt := (unhide HPT).1 (by omega)
        rw [parts_slash s.data.toList k W.data.toList (by rw [data_get s k hlt, c1])] at hpt
        have HNX := hide (show (k + 1 ≤ s.size → pathParts s = (D ++ [W]) ++ (parts (s.data.toList.drop (k + 1)) ByteArray.empty.data.toList).map strOf) ∧ (k + 1 = s.size + 1 → pathParts s = D ++ [W]) from
          ⟨fun _ => by rw [hpt, List.append_assoc]; rfl, fun h => by omega⟩)
        have HEQ := hide (show ∃ r, pathParts s = D ++ W :: r from ⟨_, by rw [hpt]; rfl⟩)
        have HNM := hide (refIsName_any W wr (by omega))
        have hsz := (unhide HBL).size
        obtain ⟨b, hb⟩ : ∃ b, b = nameOk W := ⟨_, rfl⟩
        rw [← hb] at HNM
        have HBB := hide hb
        clear hpt hb c1
        go_wp2_with fail
        refine (unhide HNM).mono ?_
        rintro e w1 ⟨rfl, hw1⟩
        subst hw1
        cases b
        · have HR := hide (names_bad h1 h2 h5 (unhide HD).2 (unhide HD).1 (unhide HEQ) (unhide HBB).symm)
          go_wp2
          go_ret2
          exact ⟨.inl ⟨unhide HR, rfl⟩, unhide HBL⟩
        · go_wp2_with (at_builtin; refine wpList_append_lies _ (by rfl) _ _ 50 (by rfl) w.heap.size 9 is _ 1 16 Tryz.underlying50 (unhide HIS).1 (unhide HIS).2.1 (unhide HIS).2.2.1 (unhide HIS).2.2.2 rfl (by decide) _ _ _ (by rfl) ((unhide HOW).alloc _) ⟨w1.heap.size, 0, none⟩ 1 1 [.string W] (by rfl) (by rfl) (World.news_of_block (cs := #[.string W]) (t := 9) (fr := (0, 0)) (heap_alloc_new w1 _)) (by simp [Value.oneCell']) (by omega) (by unfold maxLen; omega) (by omega) (by simp; omega) (w1.heap.size + 1) (by simp) ?_; intro g cap5 w5 hown5 hgrow5 hat5 hlt5)
          have q1 : w5.ownsRow w.heap.size 9 1 (.slice (some ⟨g, 0, none⟩) (D.length + 1) cap5) (D ++ [W]).length (strsRow (D ++ [W])) := by
            rw [List.length_append, show strsRow (D ++ [W]) = strsRow D ++ [.string W] from by simp [strsRow]]; exact hown5
          have q2 : Below w.heap.size w w5 := ((unhide HBL).alloc (by omega) _).grown hgrow5 (by simp; omega) (by intro q h; have := (unhide HOW).lt q h; omega)
          have Q1 := hide q1
          have Q2 := hide q2
          clear hown5 hgrow5 hat5 q1 q2
          go_roundw
          case rel => exact ⟨k + 1, ByteArray.empty, D ++ [W], by omega, by omega, by go_num, rfl, hide (by rw [List.all_append, unhide HAL]; simp; exact (unhide HBB).symm), by rw [List.length_append]; simp; omega, by simp, HNX, Q1, Q2⟩
          case measure => simp [intOf]; omega
      · have g3 : ((s[k].toNat : Int) != 47) = true := by
          have := byte_int47 s[k]
          have h4 : (s[k] == 47) = false := by simpa using c1
          rw [h4] at this
          simpa using this
        have hpt := (unhide HPT).1 (by omega)
        rw [parts_char s.data.toList k W.data.toList _ (data_get s k hlt) c1] at hpt
        obtain ⟨C, hC⟩ : ∃ C, C = s.extract k (k + 1) := ⟨_, rfl⟩
        have hsl : ∀ w, (Instr.slice 9 (.string s) (some (.int .i64 (k : Int))) (some (.int .i64 ((k : Int) + 1))) none).run Tryz.prog w = .ok (.string C) w := by
          intro w
          rw [run_slice_string w 9 s .i64 .i64 (k : Int) ((k : Int) + 1) Tryz.underlying9 (by omega) (by omega) (by omega), hC]
          rfl
        have hCd : C.data.toList = [s[k]] := by rw [hC]; exact extract_one s k hlt
        have hCs : C.size = 1 := by rw [← ByteArray.size_data, ← Array.length_toList, hCd]; rfl
        have HNX := hide (show (k + 1 ≤ s.size → pathParts s = D ++ (parts (s.data.toList.drop (k + 1)) (W ++ C).data.toList).map strOf) ∧ (k + 1 = s.size + 1 → pathParts s = D) from
          ⟨fun _ => by rw [hpt, append_data, hCd], fun h => by omega⟩)
        have hWC : (W ++ C).size ≤ k + 1 := by rw [ByteArray.size_append]; omega
        have hsm : W.size + C.size ≤ 9223372036854775807 := by omega
        clear hpt c1 hC hCd hCs
        go_wp2
        go_roundw
        case rel => exact ⟨k + 1, W ++ C, D, by omega, by omega, by go_num, rfl, HAL, by omega, hWC, HNX, HOW, HBL⟩
        case measure => simp [intOf]; omega
    · by_cases hke : k = s.size
      · subst hke
        have hpt := (unhide HPT).1 (Nat.le_refl _)
        rw [show s.data.toList.drop s.size = [] from List.drop_eq_nil_of_le (by simp)] at hpt
        have hpt2 : pathParts s = D ++ [W] := hpt
        have HNX := hide (show (s.size + 1 ≤ s.size → pathParts s = (D ++ [W]) ++ (parts (s.data.toList.drop (s.size + 1)) ByteArray.empty.data.toList).map strOf) ∧ (s.size + 1 = s.size + 1 → pathParts s = D ++ [W]) from
          ⟨fun h => by omega, fun _ => hpt2⟩)
        have HPL := hide hpt2
        have HEQ := hide (show ∃ r, pathParts s = D ++ W :: r from ⟨[], hpt2⟩)
        have HNM := hide (refIsName_any W wr (by omega))
        have hsz := (unhide HBL).size
        obtain ⟨b, hb⟩ : ∃ b, b = nameOk W := ⟨_, rfl⟩
        rw [← hb] at HNM
        have HBB := hide hb
        clear hpt hpt2 hb
        go_wp2_with fail
        refine (unhide HNM).mono ?_
        rintro e w1 ⟨rfl, hw1⟩
        subst hw1
        cases b
        · have HR := hide (names_bad h1 h2 h5 (unhide HD).2 (unhide HD).1 (unhide HEQ) (unhide HBB).symm)
          go_wp2
          go_ret2
          exact ⟨.inl ⟨unhide HR, rfl⟩, unhide HBL⟩
        · go_wp2_with (at_builtin; refine wpList_append_lies _ (by rfl) _ _ 50 (by rfl) w.heap.size 9 is _ 1 16 Tryz.underlying50 (unhide HIS).1 (unhide HIS).2.1 (unhide HIS).2.2.1 (unhide HIS).2.2.2 rfl (by decide) _ _ _ (by rfl) ((unhide HOW).alloc _) ⟨w1.heap.size, 0, none⟩ 1 1 [.string W] (by rfl) (by rfl) (World.news_of_block (cs := #[.string W]) (t := 9) (fr := (0, 0)) (heap_alloc_new w1 _)) (by simp [Value.oneCell']) (by omega) (by unfold maxLen; omega) (by omega) (by simp; omega) (w1.heap.size + 1) (by simp) ?_; intro g cap5 w5 hown5 hgrow5 hat5 hlt5)
          have q1 : w5.ownsRow w.heap.size 9 1 (.slice (some ⟨g, 0, none⟩) (D.length + 1) cap5) (D ++ [W]).length (strsRow (D ++ [W])) := by
            rw [List.length_append, show strsRow (D ++ [W]) = strsRow D ++ [.string W] from by simp [strsRow]]; exact hown5
          have q2 : Below w.heap.size w w5 := ((unhide HBL).alloc (by omega) _).grown hgrow5 (by simp; omega) (by intro q h; have := (unhide HOW).lt q h; omega)
          have Q1 := hide q1
          have Q2 := hide q2
          clear hown5 hgrow5 hat5 q1 q2
          go_roundw
          case rel => exact ⟨s.size + 1, ByteArray.empty, D ++ [W], by omega, by omega, by go_num, rfl, hide (by rw [List.all_append, unhide HAL]; simp; exact (unhide HBB).symm), by rw [List.length_append]; simp; omega, by simp, hide ⟨fun h => by omega, fun _ => unhide HPL⟩, Q1, Q2⟩
          case measure => simp [intOf]
      · have hke2 : k = s.size + 1 := by omega
        subst hke2
        have hpt := (unhide HPT).2 rfl
        have hr : namesOf s = some D := by
          unfold namesOf
          rw [if_neg (by rintro (h | h | h); omega; omega; exact h (by rw [(unhide HD).2, (unhide HD).1])), if_neg h5, hpt, if_pos (unhide HAL)]
        have HR := hide hr
        clear hpt hr
        go_wp2
        go_ret2
        exact ⟨.inr ⟨D, unhide HR, _, rfl, unhide HOW⟩, unhide HBL⟩
end Go.Proofs.YtkmbleboceedbaaGreatDoor

/- The program's names: isName, names, beside the document's. -/
namespace Go.Proofs.YtkmbleboceedbaaGreatDoor
open Go Go.RowKit
set_option linter.unusedVariables false
set_option linter.unusedSimpArgs false

theorem parts_some : ∀ (l word : List UInt8), ∃ h t, parts l word = h :: t
  | [], word => ⟨word, [], rfl⟩
  | c :: r, word => by
    unfold parts
    split
    · exact ⟨word, parts r [], rfl⟩
    · exact parts_some r (word ++ [c])
theorem parts_word : ∀ (l u v h : List UInt8) (t : List (List UInt8)), parts l v = h :: t → parts l (u ++ v) = (u ++ h) :: t
  | [], u, v, h, t, e => by
    have e1 : v = h ∧ [] = t := by simpa [parts] using e
    obtain ⟨rfl, rfl⟩ := e1
    rfl
  | c :: r, u, v, h, t, e => by
    unfold parts at e ⊢
    split
    · rename_i hc
      rw [if_pos hc] at e
      have e1 : v = h ∧ parts r [] = t := by simpa using e
      obtain ⟨rfl, rfl⟩ := e1
      rfl
    · rename_i hc
      rw [if_neg hc] at e
      rw [List.append_assoc]
      exact parts_word r u (v ++ [c]) h t e
theorem index_there : ∀ l : List UInt8, (47 : UInt8) ∈ l → Lib.indexByte l 47 = -1 → False
  | [], h, _ => by simp at h
  | b :: l, h, hi => by
    unfold Lib.indexByte at hi
    split at hi
    · exact absurd hi (by decide)
    · rename_i hb
      split at hi
      · rename_i h1
        have : (47 : UInt8) ∈ l := by
          rcases List.mem_cons.1 h with e | e
          · exact absurd (by simp [e]) hb
          · exact e
        exact index_there l this (by simpa using h1)
      · rename_i h1
        have hge := Lib.indexByte_ge l 47
        have : ¬ Lib.indexByte l 47 = -1 := by simpa using h1
        omega
theorem split_parts : ∀ l : List UInt8, Lib.splitK [47] 0 (l.count 47) l = parts l []
  | [] => rfl
  | b :: l => by
    have ih := split_parts l
    by_cases hb : b = 47
    · subst hb
      have hc : List.count (47 : UInt8) (47 :: l) = List.count 47 l + 1 := by simp
      rw [hc]
      unfold Lib.splitK
      have hi : Lib.index (47 :: l) [47] = 0 := by rw [Lib.index_one]; simp [Lib.indexByte]
      rw [hi, if_neg (by decide)]
      show [] :: Lib.splitK [47] 0 (List.count 47 l) l = _
      rw [ih]
      conv => rhs; unfold parts
      rw [if_pos rfl]
    · have hc : List.count (47 : UInt8) (b :: l) = List.count 47 l := List.count_cons_of_ne hb
      rw [hc]
      obtain ⟨h, t, he⟩ := parts_some l []
      have hp : parts (b :: l) [] = (b :: h) :: t := by
        conv => lhs; unfold parts
        rw [if_neg hb]
        have := parts_word l [b] [] h t he
        simpa using this
      rw [hp]
      rw [he] at ih
      cases hk : List.count (47 : UInt8) l with
      | zero =>
        rw [hk] at ih
        have e1 : l = h ∧ [] = t := by simpa [Lib.splitK] using ih
        obtain ⟨rfl, rfl⟩ := e1
        rfl
      | succ k =>
        rw [hk] at ih
        unfold Lib.splitK at ih ⊢
        have hge := Lib.indexByte_ge l 47
        rw [Lib.index_one] at ih
        have hib : Lib.index (b :: l) [47] = if Lib.indexByte l 47 == -1 then -1 else Lib.indexByte l 47 + 1 := by
          rw [Lib.index_one]
          conv => lhs; unfold Lib.indexByte
          rw [if_neg (by simpa using hb)]
        rw [hib]
        split at ih
        · rename_i h1
          exfalso
          have hno : Lib.indexByte l 47 = -1 := by simpa using h1
          have hm : (47 : UInt8) ∈ l := List.count_pos_iff.1 (by omega)
          exact index_there l hm hno
        · rename_i h1
          rw [if_neg h1]
          have hn1 : ¬ Lib.indexByte l 47 = -1 := by simpa using h1
          obtain ⟨i, hi⟩ : ∃ i : Nat, Lib.indexByte l 47 = i := ⟨(Lib.indexByte l 47).toNat, by omega⟩
          rw [hi] at ih ⊢
          rw [if_neg (by simp; omega)]
          have e1 : l.take i = h ∧ Lib.splitK [47] 0 k (l.drop (i + 1)) = t := by simpa using ih
          obtain ⟨rfl, rfl⟩ := e1
          have e2 : ((i : Int) + 1).toNat = i + 1 := by omega
          rw [e2]
          rfl
theorem strOf_back (b : ByteArray) : strOf b.data.toList = b := by
  cases b; simp [strOf]
theorem split_slash {s : ByteArray} (h0 : s.data.toList[0]? = some 47) : Lib.splitB ⟨#[47]⟩ 0 (Lib.countB s ⟨#[47]⟩) s = ByteArray.empty :: pathParts s := by
  have h1 := Lib.splitB_data ⟨#[47]⟩ 0 (Lib.countB s ⟨#[47]⟩) s
  have h2 : Lib.countB s ⟨#[47]⟩ = s.data.toList.count 47 := Lib.count_one 47 s.data.toList
  rw [h2] at h1 ⊢
  have h3 : Lib.splitK [47] 0 (s.data.toList.count 47) s.data.toList = parts s.data.toList [] := split_parts _
  have h4 : (Lib.splitB ⟨#[47]⟩ 0 (s.data.toList.count 47) s).map (·.data.toList) = parts s.data.toList [] := h1.trans h3
  have h5 := congrArg (List.map strOf) h4
  rw [List.map_map, show strOf ∘ (fun b : ByteArray => b.data.toList) = id from by funext b; exact strOf_back b, List.map_id] at h5
  rw [h5]
  unfold pathParts
  cases hl : s.data.toList with
  | nil => rw [hl] at h0; cases h0
  | cons c r =>
    rw [hl] at h0
    obtain rfl : c = 47 := by simpa using h0
    conv => lhs; unfold parts
    rw [if_pos rfl]
    rfl
theorem parts_clean : ∀ (l word : List UInt8), (∀ c ∈ word, c ≠ 47) → ∀ p ∈ parts l word, ∀ c ∈ p, c ≠ 47
  | [], word, h, p, hp, c, hc => by
    have : p = word := by simpa [parts] using hp
    subst this
    exact h c hc
  | d :: r, word, h, p, hp, c, hc => by
    unfold parts at hp
    split at hp
    · rcases List.mem_cons.1 hp with rfl | hp
      · exact h c hc
      · exact parts_clean r [] (by simp) p hp c hc
    · rename_i hd
      refine parts_clean r (word ++ [d]) (fun x hx => ?_) p hp c hc
      rcases List.mem_append.1 hx with h1 | h1
      · exact h x h1
      · have : x = d := by simpa using h1
        subst this; exact hd
/-- As the program asks it. -/
def isNameP (s : ByteArray) : Bool := decide (1 ≤ s.size) && decide (s.size ≤ 14) && !(s.toList == [46]) && !(s.toList == [46, 46]) && decide (Lib.indexByte s.data.toList 0 < 0)
theorem index_zero : ∀ l : List UInt8, decide (Lib.indexByte l 0 < 0) = l.all (fun c => c != 0)
  | [] => rfl
  | b :: l => by
    have ih := index_zero l
    have hge := Lib.indexByte_ge l 0
    unfold Lib.indexByte
    rw [List.all_cons, ← ih]
    by_cases hb : b = 0
    · subst hb; rfl
    · rw [if_neg (by simpa using hb)]
      have e : (b != 0) = true := by simpa using hb
      rw [e, Bool.true_and]
      split
      · rename_i h1
        have : Lib.indexByte l 0 = -1 := by simpa using h1
        rw [this]
      · rename_i h1
        have : ¬ Lib.indexByte l 0 = -1 := by simpa using h1
        exact decide_eq_decide.2 (by omega)
theorem isNameP_eq {s : ByteArray} (h : ∀ c ∈ s.data.toList, c ≠ 47) : isNameP s = nameOk s := by
  unfold isNameP nameOk noSlash
  rw [index_zero]
  congr 1
  apply Bool.eq_iff_iff.2
  simp only [List.all_eq_true, Bool.and_eq_true, bne_iff_ne]
  exact ⟨fun h1 c hc => ⟨h1 c hc, h c hc⟩, fun h1 c hc => (h1 c hc).1⟩
theorem part_isName {s p : ByteArray} (h : p ∈ pathParts s) : isNameP p = nameOk p := by
  refine isNameP_eq (fun c hc => ?_)
  obtain ⟨q, hq, rfl⟩ := List.mem_map.1 h
  exact parts_clean _ [] (by simp) q hq c (by simpa [strOf] using hc)

set_option maxRecDepth 100000 in
set_option maxHeartbeats 4000000 in
theorem fsIsName_any (s : ByteArray) (w : World) (hs : s.size ≤ maxLen) : Calls Tryz.prog 117 #[.string s] w fun e w' => e = .returned (.bool (isNameP s)) ∧ w' = w := by
  have HX := hide (show Calls Tryz.prog 122 #[.string s, .int .u8 0] w fun e w' => e = .returned (.int .i64 (Lib.indexByte s.data.toList 0)) ∧ w' = w from Go.Proofs.Any.strings_IndexByte indexByte s 0 w)
  unfold isNameP
  obtain ⟨I, hI⟩ : ∃ I, I = Lib.indexByte s.data.toList 0 := ⟨_, rfl⟩
  rw [← hI] at HX ⊢
  clear hI
  have hmx : (s.size : Int) ≤ 9223372036854775807 := by unfold maxLen at hs; omega
  by_cases h1 : 1 ≤ s.size
  case neg =>
    have e1 : decide (1 ≤ s.size) = false := decide_eq_false h1
    have e2 : ¬ (1 : Int) ≤ (s.size : Int) := by omega
    rw [e1]
    clear h1 hs e1
    go_enter Tryz.func117, Tryz.ntmps117
    go_wp2
    go_ret
    exact ⟨rfl, rfl⟩
  have e1 : decide (1 ≤ s.size) = true := decide_eq_true h1
  have i1 : (1 : Int) ≤ (s.size : Int) := by omega
  by_cases h2 : s.size ≤ 14
  case neg =>
    have e2 : decide (s.size ≤ 14) = false := decide_eq_false h2
    have i2 : ¬ (s.size : Int) ≤ 14 := by omega
    rw [e1, e2]
    clear h1 h2 hs e1 e2
    go_enter Tryz.func117, Tryz.ntmps117
    go_wp2
    go_ret
    exact ⟨rfl, rfl⟩
  have e2 : decide (s.size ≤ 14) = true := decide_eq_true h2
  have i2 : (s.size : Int) ≤ 14 := by omega
  rw [e1, e2]
  cases h3 : (s.toList == [46]) with
  | true =>
    clear h1 h2 hs e1 e2
    go_enter Tryz.func117, Tryz.ntmps117
    go_wp2
    go_ret
    exact ⟨rfl, rfl⟩
  | false =>
    cases h4 : (s.toList == [46, 46]) with
    | true =>
      clear h1 h2 hs e1 e2
      go_enter Tryz.func117, Tryz.ntmps117
      go_wp2
      go_ret
      exact ⟨rfl, rfl⟩
    | false =>
      clear h1 h2 hs e1 e2
      go_enter Tryz.func117, Tryz.ntmps117
      go_wp2_with fail
      refine (unhide HX).mono ?_
      rintro e w' ⟨rfl, rfl⟩
      go_wp2
      go_ret
      exact ⟨rfl, rfl⟩
end Go.Proofs.YtkmbleboceedbaaGreatDoor
