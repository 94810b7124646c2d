import Derived.Test.YtjkpeelijbeekaaGreatDoorBootsProofG03
import Derived.Test.YtjkpeelijbeekaaGreatDoorBootsProofG02
import Derived.Lib.IndexBytes
import Derived.Lib.SplitLaws
import Derived.Test.YtjkpeelijbeekaaGreatDoorBootsProofG05
import Derived.Deep.OwnRows
import Derived.Deep.QuietTactic
import Derived.BigQuiet
import Derived.Deep.MidRow
import Derived.WalkKit
import Derived.Test.YtjkpeelijbeekaaGreatDoorBootsProofG06
/- The program's names: isName, names, beside the document's. -/
namespace Go.Proofs.YtjkpeelijbeekaaGreatDoor
open Go Go.RowKit
set_option linter.unusedVariables false
set_option linter.unusedSimpArgs false

theorem parts_some : ∀ (l word : List UInt8), ∃ h t, parts l word = h :: t
  | [], word => ⟨word, [], rfl⟩
  | c :: r, word => by
    unfold parts
    split
    · exact ⟨word, parts r [], rfl⟩
    · exact parts_some r (word ++ [c])
theorem parts_word : ∀ (l u v h : List UInt8) (t : List (List UInt8)), parts l v = h :: t → parts l (u ++ v) = (u ++ h) :: t
  | [], u, v, h, t, e => by
    have e1 : v = h ∧ [] = t := by simpa [parts] using e
    obtain ⟨rfl, rfl⟩ := e1
    rfl
  | c :: r, u, v, h, t, e => by
    unfold parts at e ⊢
    split
    · rename_i hc
      rw [if_pos hc] at e
      have e1 : v = h ∧ parts r [] = t := by simpa using e
      obtain ⟨rfl, rfl⟩ := e1
      rfl
    · rename_i hc
      rw [if_neg hc] at e
      rw [List.append_assoc]
      exact parts_word r u (v ++ [c]) h t e
theorem index_there : ∀ l : List UInt8, (47 : UInt8) ∈ l → Lib.indexByte l 47 = -1 → False
  | [], h, _ => by simp at h
  | b :: l, h, hi => by
    unfold Lib.indexByte at hi
    split at hi
    · exact absurd hi (by decide)
    · rename_i hb
      split at hi
      · rename_i h1
        have : (47 : UInt8) ∈ l := by
          rcases List.mem_cons.1 h with e | e
          · exact absurd (by simp [e]) hb
          · exact e
        exact index_there l this (by simpa using h1)
      · rename_i h1
        have hge := Lib.indexByte_ge l 47
        have : ¬ Lib.indexByte l 47 = -1 := by simpa using h1
        omega
theorem split_parts : ∀ l : List UInt8, Lib.splitK [47] 0 (l.count 47) l = parts l []
  | [] => rfl
  | b :: l => by
    have ih := split_parts l
    by_cases hb : b = 47
    · subst hb
      have hc : List.count (47 : UInt8) (47 :: l) = List.count 47 l + 1 := by simp
      rw [hc]
      unfold Lib.splitK
      have hi : Lib.index (47 :: l) [47] = 0 := by rw [Lib.index_one]; simp [Lib.indexByte]
      rw [hi, if_neg (by decide)]
      show [] :: Lib.splitK [47] 0 (List.count 47 l) l = _
      rw [ih]
      conv => rhs; unfold parts
      rw [if_pos rfl]
    · have hc : List.count (47 : UInt8) (b :: l) = List.count 47 l := List.count_cons_of_ne hb
      rw [hc]
      obtain ⟨h, t, he⟩ := parts_some l []
      have hp : parts (b :: l) [] = (b :: h) :: t := by
        conv => lhs; unfold parts
        rw [if_neg hb]
        have := parts_word l [b] [] h t he
        simpa using this
      rw [hp]
      rw [he] at ih
      cases hk : List.count (47 : UInt8) l with
      | zero =>
        rw [hk] at ih
        have e1 : l = h ∧ [] = t := by simpa [Lib.splitK] using ih
        obtain ⟨rfl, rfl⟩ := e1
        rfl
      | succ k =>
        rw [hk] at ih
        unfold Lib.splitK at ih ⊢
        have hge := Lib.indexByte_ge l 47
        rw [Lib.index_one] at ih
        have hib : Lib.index (b :: l) [47] = if Lib.indexByte l 47 == -1 then -1 else Lib.indexByte l 47 + 1 := by
          rw [Lib.index_one]
          conv => lhs; unfold Lib.indexByte
          rw [if_neg (by simpa using hb)]
        rw [hib]
        split at ih
        · rename_i h1
          exfalso
          have hno : Lib.indexByte l 47 = -1 := by simpa using h1
          have hm : (47 : UInt8) ∈ l := List.count_pos_iff.1 (by omega)
          exact index_there l hm hno
        · rename_i h1
          rw [if_neg h1]
          have hn1 : ¬ Lib.indexByte l 47 = -1 := by simpa using h1
          obtain ⟨i, hi⟩ : ∃ i : Nat, Lib.indexByte l 47 = i := ⟨(Lib.indexByte l 47).toNat, by omega⟩
          rw [hi] at ih ⊢
          rw [if_neg (by simp; omega)]
          have e1 : l.take i = h ∧ Lib.splitK [47] 0 k (l.drop (i + 1)) = t := by simpa using ih
          obtain ⟨rfl, rfl⟩ := e1
          have e2 : ((i : Int) + 1).toNat = i + 1 := by omega
          rw [e2]
          rfl
theorem strOf_back (b : ByteArray) : strOf b.data.toList = b := by
  cases b; simp [strOf]
theorem split_slash {s : ByteArray} (h0 : s.data.toList[0]? = some 47) : Lib.splitB ⟨#[47]⟩ 0 (Lib.countB s ⟨#[47]⟩) s = ByteArray.empty :: pathParts s := by
  have h1 := Lib.splitB_data ⟨#[47]⟩ 0 (Lib.countB s ⟨#[47]⟩) s
  have h2 : Lib.countB s ⟨#[47]⟩ = s.data.toList.count 47 := Lib.count_one 47 s.data.toList
  rw [h2] at h1 ⊢
  have h3 : Lib.splitK [47] 0 (s.data.toList.count 47) s.data.toList = parts s.data.toList [] := split_parts _
  have h4 : (Lib.splitB ⟨#[47]⟩ 0 (s.data.toList.count 47) s).map (·.data.toList) = parts s.data.toList [] := h1.trans h3
  have h5 := congrArg (List.map strOf) h4
  rw [List.map_map, show strOf ∘ (fun b : ByteArray => b.data.toList) = id from by funext b; exact strOf_back b, List.map_id] at h5
  rw [h5]
  unfold pathParts
  cases hl : s.data.toList with
  | nil => rw [hl] at h0; cases h0
  | cons c r =>
    rw [hl] at h0
    obtain rfl : c = 47 := by simpa using h0
    conv => lhs; unfold parts
    rw [if_pos rfl]
    rfl
theorem parts_clean : ∀ (l word : List UInt8), (∀ c ∈ word, c ≠ 47) → ∀ p ∈ parts l word, ∀ c ∈ p, c ≠ 47
  | [], word, h, p, hp, c, hc => by
    have : p = word := by simpa [parts] using hp
    subst this
    exact h c hc
  | d :: r, word, h, p, hp, c, hc => by
    unfold parts at hp
    split at hp
    · rcases List.mem_cons.1 hp with rfl | hp
      · exact h c hc
      · exact parts_clean r [] (by simp) p hp c hc
    · rename_i hd
      refine parts_clean r (word ++ [d]) (fun x hx => ?_) p hp c hc
      rcases List.mem_append.1 hx with h1 | h1
      · exact h x h1
      · have : x = d := by simpa using h1
        subst this; exact hd
/-- As the program asks it. -/
def isNameP (s : ByteArray) : Bool := decide (1 ≤ s.size) && decide (s.size ≤ 14) && !(s.toList == [46]) && !(s.toList == [46, 46]) && decide (Lib.indexByte s.data.toList 0 < 0)
theorem index_zero : ∀ l : List UInt8, decide (Lib.indexByte l 0 < 0) = l.all (fun c => c != 0)
  | [] => rfl
  | b :: l => by
    have ih := index_zero l
    have hge := Lib.indexByte_ge l 0
    unfold Lib.indexByte
    rw [List.all_cons, ← ih]
    by_cases hb : b = 0
    · subst hb; rfl
    · rw [if_neg (by simpa using hb)]
      have e : (b != 0) = true := by simpa using hb
      rw [e, Bool.true_and]
      split
      · rename_i h1
        have : Lib.indexByte l 0 = -1 := by simpa using h1
        rw [this]
      · rename_i h1
        have : ¬ Lib.indexByte l 0 = -1 := by simpa using h1
        exact decide_eq_decide.2 (by omega)
theorem isNameP_eq {s : ByteArray} (h : ∀ c ∈ s.data.toList, c ≠ 47) : isNameP s = nameOk s := by
  unfold isNameP nameOk noSlash
  rw [index_zero]
  congr 1
  apply Bool.eq_iff_iff.2
  simp only [List.all_eq_true, Bool.and_eq_true, bne_iff_ne]
  exact ⟨fun h1 c hc => ⟨h1 c hc, h c hc⟩, fun h1 c hc => (h1 c hc).1⟩
theorem part_isName {s p : ByteArray} (h : p ∈ pathParts s) : isNameP p = nameOk p := by
  refine isNameP_eq (fun c hc => ?_)
  obtain ⟨q, hq, rfl⟩ := List.mem_map.1 h
  exact parts_clean _ [] (by simp) q hq c (by simpa [strOf] using hc)

set_option maxRecDepth 100000 in
set_option maxHeartbeats 4000000 in
theorem fsIsName_any (s : ByteArray) (w : World) (hs : s.size ≤ maxLen) : Calls Tryz.prog 119 #[.string s] w fun e w' => e = .returned (.bool (isNameP s)) ∧ w' = w := by
  have HX := hide (show Calls Tryz.prog 124 #[.string s, .int .u8 0] w fun e w' => e = .returned (.int .i64 (Lib.indexByte s.data.toList 0)) ∧ w' = w from Go.Proofs.Any.strings_IndexByte indexByte s 0 w)
  unfold isNameP
  obtain ⟨I, hI⟩ : ∃ I, I = Lib.indexByte s.data.toList 0 := ⟨_, rfl⟩
  rw [← hI] at HX ⊢
  clear hI
  have hmx : (s.size : Int) ≤ 9223372036854775807 := by unfold maxLen at hs; omega
  by_cases h1 : 1 ≤ s.size
  case neg =>
    have e1 : decide (1 ≤ s.size) = false := decide_eq_false h1
    have e2 : ¬ (1 : Int) ≤ (s.size : Int) := by omega
    rw [e1]
    clear h1 hs e1
    go_enter Tryz.func119, Tryz.ntmps119
    go_wp2
    go_ret
    exact ⟨rfl, rfl⟩
  have e1 : decide (1 ≤ s.size) = true := decide_eq_true h1
  have i1 : (1 : Int) ≤ (s.size : Int) := by omega
  by_cases h2 : s.size ≤ 14
  case neg =>
    have e2 : decide (s.size ≤ 14) = false := decide_eq_false h2
    have i2 : ¬ (s.size : Int) ≤ 14 := by omega
    rw [e1, e2]
    clear h1 h2 hs e1 e2
    go_enter Tryz.func119, Tryz.ntmps119
    go_wp2
    go_ret
    exact ⟨rfl, rfl⟩
  have e2 : decide (s.size ≤ 14) = true := decide_eq_true h2
  have i2 : (s.size : Int) ≤ 14 := by omega
  rw [e1, e2]
  cases h3 : (s.toList == [46]) with
  | true =>
    clear h1 h2 hs e1 e2
    go_enter Tryz.func119, Tryz.ntmps119
    go_wp2
    go_ret
    exact ⟨rfl, rfl⟩
  | false =>
    cases h4 : (s.toList == [46, 46]) with
    | true =>
      clear h1 h2 hs e1 e2
      go_enter Tryz.func119, Tryz.ntmps119
      go_wp2
      go_ret
      exact ⟨rfl, rfl⟩
    | false =>
      clear h1 h2 hs e1 e2
      go_enter Tryz.func119, Tryz.ntmps119
      go_wp2_with fail
      refine (unhide HX).mono ?_
      rintro e w' ⟨rfl, rfl⟩
      go_wp2
      go_ret
      exact ⟨rfl, rfl⟩
end Go.Proofs.YtjkpeelijbeekaaGreatDoor

/- The law's own helpers: same, roomy, still. -/
namespace Go.Proofs.YtjkpeelijbeekaaGreatDoor
open Go.RowKit
set_option linter.unusedVariables false
set_option linter.unusedSimpArgs false

set_option maxRecDepth 100000 in
set_option maxHeartbeats 1000000 in
theorem same_any (aa ab : Option Addr) (ga oa ca gb ob cb : Nat) (B : List Int) (w : World) (ha : 0 < B.length → aa = some ⟨ga, oa, none⟩) (hb : 0 < B.length → ab = some ⟨gb, ob, none⟩)
    (hA : BView w ga oa B) (hB : BView w gb ob B) (hn : B.length ≤ 1000000) :
    Calls Tryz.prog 22 #[.slice aa B.length ca, .slice ab B.length cb] w fun e w' => e = .returned (.bool true) ∧ w'.heap = w.heap ∧ Below w.heap.size w w' := by
  have HA := hide hA
  have HB := hide hB
  have HA1 := hide ha
  have HB1 := hide hb
  clear hA hB ha hb
  go_enter Tryz.func22, Tryz.ntmps22
  go_wp2
  go_loopw [5] (fun i wr => ∃ k : Nat, k ≤ B.length ∧ i = .int .i64 k ∧ wr.heap = w.heap ∧ Below w.heap.size w wr) (fun i _ => B.length - (intOf i).toNat)
  case atStart => exact ⟨0, by omega, rfl, rfl, Below.refl _ _⟩
  case round =>
    obtain ⟨k, hk, rfl, hh, hbl⟩ := hrel
    have HH := hide hh
    have HBL := hide hbl
    clear hh hbl
    by_cases hlt : k < B.length
    · have e1 := (unhide HA1) (by omega)
      have e2 := (unhide HB1) (by omega)
      subst e1 e2
      have hcells : ∀ a, wr.cell? a = w.cell? a := fun a => by unfold World.cell?; rw [unhide HH]
      have c1 : wr.cell? ⟨ga, oa + k, none⟩ = some (.int .u8 (B.getD k 0)) := by rw [hcells]; exact (unhide HA) k hlt
      have c2 : wr.cell? ⟨gb, ob + k, none⟩ = some (.int .u8 (B.getD k 0)) := by rw [hcells]; exact (unhide HB) k hlt
      generalize B.getD k 0 = x at c1 c2
      have hk0 : (0 : Int) ≤ (k : Int) := by omega
      have hk1 : (k : Int) < (B.length : Int) := by omega
      clear hcells
      go_wp2
      go_quiet (fail)
      go_wp2
      go_roundw
      case rel => exact ⟨k + 1, by omega, by go_num, unhide HH, ⟨(unhide HBL).os, (unhide HBL).tape, (unhide HBL).output, (unhide HBL).size, (unhide HBL).block⟩⟩
      case measure => simp [intOf]; omega
    · go_wp2
      go_ret
      exact ⟨rfl, unhide HH, unhide HBL⟩

theorem u8info : (Tryz.prog.info? 5).map (fun i => (i.zero, i.size, i.bytes)) = some (some (.int .u8 0), 1, 1) := by kernel_rfl
theorem u8one : (Tryz.prog.info? 5).map (·.size) = some 1 := by kernel_rfl
def zeroBytes (n : Nat) : Array Value := (bytesRow (List.replicate n 0)).toArray
theorem made_bytes (n : Nat) : madeCells #[.int .u8 0] n = zeroBytes n := by
  unfold madeCells zeroBytes bytesRow
  apply Array.ext
  · simp
  · intro i h1 h2
    simp [Nat.mod_one]
theorem roomy_row (B : List Int) : ((splice (List.replicate (B.length + 2) 0) 0 B).set B.length 71).set (B.length + 1) 72 = B ++ [71, 72] := by
  have e : splice (List.replicate (B.length + 2) 0) 0 B = B ++ [0, 0] := by
    unfold splice
    rw [List.drop_replicate, show B.length + 2 - (0 + B.length) = 2 from by omega]
    rfl
  rw [e, List.set_append_right _ _ (Nat.le_refl _), List.set_append_right _ _ (by omega)]
  simp
theorem bytesRow_one' (L : List Int) : ∀ v ∈ bytesRow L, v.oneCell' = true := by
  intro v hv
  obtain ⟨x, _, rfl⟩ := List.mem_map.1 hv
  rfl
theorem addr_add (b o j : Nat) : (⟨b, o, none⟩ : Addr).add j = ⟨b, o + j, none⟩ := by unfold Addr.add; split <;> simp_all

set_option maxRecDepth 100000 in
set_option maxHeartbeats 1000000 in
theorem roomy_any (a : Option Addr) (b off cap : Nat) (B : List Int) (w : World) (ha : 0 < B.length → a = some ⟨b, off, none⟩) (hv : BView w b off B) (hbw : 0 < B.length → b < w.heap.size) (hn : B.length ≤ 1000000) :
    Calls Tryz.prog 14 #[.slice a B.length cap] w fun e w' => e = .returned (.slice (some ⟨w.heap.size, 0, none⟩) B.length (B.length + 2)) ∧ Holds w' w.heap.size 5 (bytesRow (B ++ [71, 72])) ∧ Below w.heap.size w w' := by
  have HA := hide ha
  have HV := hide hv
  have HBW := hide hbw
  have hmk : ∀ w, (Instr.makeSlice 32 (.int .i64 ((B.length : Int) + 2)) (.int .i64 ((B.length : Int) + 2))).run Tryz.prog w = .ok (.slice (some ⟨w.heap.size, 0, none⟩) (B.length + 2) (B.length + 2)) (w.alloc (.cells (zeroBytes (B.length + 2)) 5)) := by
    intro w
    have := run_make_row' (P := Tryz.prog) 32 5 (.int .u8 0) 1 Tryz.underlying32 u8info rfl .i64 .i64 (B.length + 2) (by omega) (by omega) w
    rwa [show (((B.length + 2 : Nat)) : Int) = (B.length : Int) + 2 from by omega, made_bytes] at this
  have hsrc : 0 < (bytesRow B).length → (some ⟨w.heap.size, 0, none⟩ : Option Addr) = some ⟨w.heap.size, 0, none⟩ ∧ ∃ ad, a = some ad ∧ ∀ j v, (bytesRow B)[j]? = some v → (w.alloc (.cells (zeroBytes (B.length + 2)) 5)).cell? (ad.add j) = some v := by
    intro h0
    rw [bytesRow_length] at h0
    refine ⟨rfl, ⟨b, off, none⟩, ha h0, fun j v hj => ?_⟩
    have hl := (List.getElem?_eq_some_iff.1 hj).1
    rw [bytesRow_length] at hl
    rw [bytesRow_get _ _ hl] at hj
    rw [addr_add, Below.cell ((Below.refl _ w).alloc (Nat.le_refl _) _) (p := ⟨b, off + j, none⟩) (hbw h0), hv j hl]
    exact hj
  have HSRC := hide hsrc
  clear ha hv hbw hsrc
  go_enter Tryz.func14, Tryz.ntmps14
  go_wp2_with (
                refine wpList_copy_splice rfl _ _ 32 32 rfl 5 Tryz.underlying32 u8one (some ⟨w.heap.size, 0, none⟩) a (B.length + 2) (B.length + 2) B.length cap rfl rfl w.heap.size 0 (bytesRow (List.replicate (B.length + 2) 0)) 5 (Holds.new _ _ _) (bytesRow B) (by rw [bytesRow_length]; simp only [Nat.min_def]; split <;> omega) (unhide HSRC) (by rw [bytesRow_length, bytesRow_length]; simp) (bytesRow_one' _) w.heap.size w ((Below.refl _ _).alloc (Nat.le_refl _) _) (Nat.le_refl _) ?_
                intro w1 H1 hb1
                have hh : Holds w1 w.heap.size 5 (bytesRow (splice (List.replicate (B.length + 2) 0) 0 B)) := by
                  rw [← bytesRow_splice]; exact unhide H1
                have hl : (splice (List.replicate (B.length + 2) 0) 0 B).length = B.length + 2 := by rw [splice_length _ _ _ (by simp)]; simp
                have HRR := hide (roomy_row B)
                generalize splice (List.replicate (B.length + 2) 0) 0 B = R at hh hl HRR
                have c1 := hh.cell (bytesRow_get R B.length (by omega))
                have f1 := hh.frozen B.length
                have hh2 := hh.set B.length (.int .u8 71)
                have c2 : (w1.setCell ⟨w.heap.size, B.length, none⟩ (.int .u8 71)).cell? ⟨w.heap.size, B.length + 1, none⟩ = some (.int .u8 ((R.set B.length 71).getD (B.length + 1) 0)) := hh2.cell (by rw [bytesRow_set]; exact bytesRow_get _ _ (by rw [List.length_set]; omega))
                have f2 := hh2.frozen (B.length + 1)
                have hh3 := hh2.set (B.length + 1) (.int .u8 72)
                rw [bytesRow_set, bytesRow_set, unhide HRR] at hh3
                have hb3 := (hb1.setCell (p := ⟨w.heap.size, B.length, none⟩) (Nat.le_refl _) (.int .u8 71)).setCell (p := ⟨w.heap.size, B.length + 1, none⟩) (Nat.le_refl _) (.int .u8 72)
                have HH3 := hide hh3
                have HB3 := hide hb3
                generalize R.getD B.length 0 = x1 at c1
                generalize (R.set B.length 71).getD (B.length + 1) 0 = x2 at c2
                clear hh hh2 hh3 hb3 H1 hb1 hl HRR
                have k1 : (B.length : Int) < (B.length : Int) + 2 := by omega)
  go_ret
  exact ⟨rfl, unhide HH3, unhide HB3⟩

theorem still_step {w wr : World} {g : Nat} {t : TypeId} {L : List Int} {n : Nat} (h : Holds wr g t (bytesRow L)) (hL : L.length = n) (hr : w.grownBy wr (some g)) (k : Nat) (y : Int) :
    ∃ L : List Int, L.length = n ∧ Holds (wr.setCell ⟨g, k, none⟩ (.int .u8 y)) g t (bytesRow L) ∧ w.grownBy (wr.setCell ⟨g, k, none⟩ (.int .u8 y)) (some g) :=
  ⟨L.set k y, by rw [List.length_set]; exact hL, by rw [← bytesRow_set]; exact h.set k _, grown_set hr _ _⟩
set_option maxRecDepth 100000 in
set_option maxHeartbeats 1000000 in
theorem still_any (g : Nat) (a : Option Addr) (b off cap : Nat) (B : List Int) (w : World) (hg : Holds w g 5 (bytesRow (B ++ [71, 72]))) (ha : 0 < B.length → a = some ⟨b, off, none⟩) (hv : BView w b off B) (hn : B.length ≤ 1000000) :
    Calls Tryz.prog 15 #[.slice (some ⟨g, 0, none⟩) B.length (B.length + 2), .slice a B.length cap] w fun e w' => e = .returned (.bool true) ∧ w.grownBy w' (some g) := by
  have hA : BView w g 0 B := fun j hj => by
    rw [Nat.zero_add]
    refine hg.cell ?_
    rw [bytesRow_get _ _ (by simp; omega)]
    simp [List.getD, List.getElem?_append_left hj]
  have HS := hide (same_any (some ⟨g, 0, none⟩) a g 0 (B.length + 2) b off cap B w (fun _ => rfl) ha hA hv hn)
  have HG := hide hg
  clear hA hg ha hv
  go_enter Tryz.func15, Tryz.ntmps15
  go_wp2_with fail
  refine (unhide HS).mono ?_
  rintro e w1 ⟨rfl, hh1, hb1⟩
  have hg1 := (unhide HG).heap hh1
  have c1 : w1.cell? ⟨g, B.length, none⟩ = some (.int .u8 71) := hg1.cell (by simp [bytesRow])
  have c2 : w1.cell? ⟨g, B.length + 1, none⟩ = some (.int .u8 72) := hg1.cell (by simp [bytesRow])
  have hgr : w.grownBy w1 (some g) := ⟨hb1.os, hb1.tape, hb1.output, hb1.size, fun k hk _ => hb1.block k hk⟩
  have HG1 := hide hg1
  have HGR := hide hgr
  clear hh1 hb1 hg1 hgr HS
  have k1 : (B.length : Int) < (B.length : Int) + 2 := by omega
  go_wp2
  go_loopw [8] (fun i wr => ∃ k : Nat, k ≤ B.length + 2 ∧ i = .int .i64 k ∧ ∃ L : List Int, L.length = B.length + 2 ∧ Holds wr g 5 (bytesRow L) ∧ w.grownBy wr (some g)) (fun i _ => B.length + 2 - (intOf i).toNat)
  case atStart => exact ⟨0, by omega, rfl, B ++ [71, 72], by simp, unhide HG1, unhide HGR⟩
  case round =>
    obtain ⟨k, hk, rfl, L, hL, hh, hgr⟩ := hrel
    have HH := hide hh
    have HR := hide hgr
    clear c1 c2
    by_cases hlt : k < B.length + 2
    · have c1 := hh.cell (bytesRow_get L k (by omega))
      have f1 := hh.frozen k
      generalize L.getD k 0 = x at c1
      have hk0 : (0 : Int) ≤ (k : Int) := by omega
      have hk1 : (k : Int) < (B.length : Int) + 2 := by omega
      clear hh hgr
      go_wp2
      go_roundw
      case rel => exact ⟨k + 1, by omega, by go_num, still_step (unhide HH) hL (unhide HR) k _⟩
      case measure => simp [intOf]; omega
    · clear hh hgr
      have hk1 : ¬ (k : Int) < (B.length : Int) + 2 := by omega
      go_wp2
      go_ret
      exact ⟨rfl, unhide HR⟩
end Go.Proofs.YtjkpeelijbeekaaGreatDoor

/- exe.readSegments. -/
namespace Go.Proofs.YtjkpeelijbeekaaGreatDoor
open Go.RowKit
set_option linter.unusedVariables false
set_option linter.unusedSimpArgs false

def segCells (b off cap : Nat) (s : Seg) : List Value := [.int .u8 s.perm, .int .u64 s.addr, .slice (some ⟨b, segPtr off cap s, none⟩) s.inFile.toNat (cap - s.offs.toNat), .int .i64 (s.addr / 256), .int .i64 ((s.addr + s.mem - 1) / 256)]
theorem segVal_cells (b off cap : Nat) (s : Seg) : segVal b off cap s = .agg (segCells b off cap s).toArray := rfl
def noCells : List Value := [.int .u8 0, .int .u64 0, .slice none 0 0, .int .i64 0, .int .i64 0]
def segsRow (b off cap : Nat) (ss : List Seg) : List Value := ss.flatMap (segCells b off cap)
/-- The first k segments of the file. -/
def segsUpTo (B : List Int) (k : Nat) : List Seg := (List.range k).map fun i => segAt B (64 + 56 * i)
/-- The row of n segments, k of them read. -/
def segsFill (b off cap : Nat) (B : List Int) (n k : Nat) : List Value := segsRow b off cap (segsUpTo B k) ++ (List.replicate (n - k) noCells).flatten
theorem segsRow_length (b off cap : Nat) (ss : List Seg) : (segsRow b off cap ss).length = ss.length * 5 := by
  unfold segsRow
  induction ss with
  | nil => rfl
  | cons s r ih => rw [List.flatMap_cons, List.length_append, ih]; simp [segCells]; omega
theorem segsUpTo_length (B : List Int) (k : Nat) : (segsUpTo B k).length = k := by simp [segsUpTo]
theorem segCells_one (b off cap : Nat) (s : Seg) : ∀ v ∈ segCells b off cap s, v.oneCell' = true := by
  intro v hv
  simp only [segCells, List.mem_cons, List.not_mem_nil, or_false] at hv
  rcases hv with rfl | rfl | rfl | rfl | rfl <;> rfl
theorem noRow_length (m : Nat) : (List.replicate m noCells).flatten.length = m * 5 := by
  induction m with
  | zero => rfl
  | succ m ih => rw [List.replicate_succ, List.flatten_cons, List.length_append, ih]; simp [noCells]; omega
theorem segsFill_length (b off cap : Nat) (B : List Int) (n k : Nat) (h : k ≤ n) : (segsFill b off cap B n k).length = n * 5 := by
  rw [segsFill, List.length_append, segsRow_length, segsUpTo_length, noRow_length]; omega
theorem segsFill_step (b off cap : Nat) (B : List Int) (n k : Nat) (h : k < n) : splice (segsFill b off cap B n k) (k * 5) (segCells b off cap (segAt B (64 + 56 * k))) = segsFill b off cap B n (k + 1) := by
  have e1 : n - k = (n - (k + 1)) + 1 := by omega
  have e2 : segsUpTo B (k + 1) = segsUpTo B k ++ [segAt B (64 + 56 * k)] := by simp [segsUpTo, List.range_succ]
  have hl : (segsRow b off cap (segsUpTo B k)).length = k * 5 := by rw [segsRow_length, segsUpTo_length]
  unfold splice segsFill
  rw [e1, List.replicate_succ, List.flatten_cons, e2, segsRow, segsRow, List.flatMap_append]
  change _ = (segsRow b off cap (segsUpTo B k) ++ _) ++ _
  change List.take _ (segsRow b off cap (segsUpTo B k) ++ _) ++ (_ ++ List.drop _ (segsRow b off cap (segsUpTo B k) ++ _)) = _
  rw [List.take_append_of_le_length (by omega), List.take_of_length_le (by omega), List.drop_append, List.drop_of_length_le (by omega), hl,
    show k * 5 + (segCells b off cap (segAt B (64 + 56 * k))).length - k * 5 = 5 from by simp [segCells]]
  simp [noCells]
theorem segsFill_full (b off cap : Nat) (B : List Int) (n : Nat) : segsFill b off cap B n n = segsRow b off cap (segsUpTo B n) := by
  rw [segsFill, Nat.sub_self]; simp
theorem segsFill_none (b off cap : Nat) (B : List Int) (n : Nat) : segsFill b off cap B n 0 = (List.replicate n noCells).flatten := by
  rw [segsFill, Nat.sub_zero]; rfl
theorem makeSegs1 (w : World) : (Instr.makeSlice 240 (.int .i64 ((1 : Nat) : Int)) (.int .i64 ((1 : Nat) : Int))).run Tryz.prog w = .ok (.slice (some ⟨w.heap.size, 0, none⟩) 1 1) (w.alloc (.cells (List.replicate 1 noCells).flatten.toArray 245)) := by kernel_rfl
theorem makeSegs2 (w : World) : (Instr.makeSlice 240 (.int .i64 ((2 : Nat) : Int)) (.int .i64 ((2 : Nat) : Int))).run Tryz.prog w = .ok (.slice (some ⟨w.heap.size, 0, none⟩) 2 2) (w.alloc (.cells (List.replicate 2 noCells).flatten.toArray 245)) := by kernel_rfl
theorem makeSegs3 (w : World) : (Instr.makeSlice 240 (.int .i64 ((3 : Nat) : Int)) (.int .i64 ((3 : Nat) : Int))).run Tryz.prog w = .ok (.slice (some ⟨w.heap.size, 0, none⟩) 3 3) (w.alloc (.cells (List.replicate 3 noCells).flatten.toArray 245)) := by kernel_rfl
theorem makeSegs4 (w : World) : (Instr.makeSlice 240 (.int .i64 ((4 : Nat) : Int)) (.int .i64 ((4 : Nat) : Int))).run Tryz.prog w = .ok (.slice (some ⟨w.heap.size, 0, none⟩) 4 4) (w.alloc (.cells (List.replicate 4 noCells).flatten.toArray 245)) := by kernel_rfl
theorem makeSegs5 (w : World) : (Instr.makeSlice 240 (.int .i64 ((5 : Nat) : Int)) (.int .i64 ((5 : Nat) : Int))).run Tryz.prog w = .ok (.slice (some ⟨w.heap.size, 0, none⟩) 5 5) (w.alloc (.cells (List.replicate 5 noCells).flatten.toArray 245)) := by kernel_rfl
theorem makeSegs6 (w : World) : (Instr.makeSlice 240 (.int .i64 ((6 : Nat) : Int)) (.int .i64 ((6 : Nat) : Int))).run Tryz.prog w = .ok (.slice (some ⟨w.heap.size, 0, none⟩) 6 6) (w.alloc (.cells (List.replicate 6 noCells).flatten.toArray 245)) := by kernel_rfl
theorem makeSegs7 (w : World) : (Instr.makeSlice 240 (.int .i64 ((7 : Nat) : Int)) (.int .i64 ((7 : Nat) : Int))).run Tryz.prog w = .ok (.slice (some ⟨w.heap.size, 0, none⟩) 7 7) (w.alloc (.cells (List.replicate 7 noCells).flatten.toArray 245)) := by kernel_rfl
theorem makeSegs8 (w : World) : (Instr.makeSlice 240 (.int .i64 ((8 : Nat) : Int)) (.int .i64 ((8 : Nat) : Int))).run Tryz.prog w = .ok (.slice (some ⟨w.heap.size, 0, none⟩) 8 8) (w.alloc (.cells (List.replicate 8 noCells).flatten.toArray 245)) := by kernel_rfl
theorem makeSegs (w : World) (n : Nat) (h1 : 1 ≤ n) (h8 : n ≤ 8) : (Instr.makeSlice 240 (.int .i64 n) (.int .i64 n)).run Tryz.prog w = .ok (.slice (some ⟨w.heap.size, 0, none⟩) n n) (w.alloc (.cells (List.replicate n noCells).flatten.toArray 245)) := by
  have h : n = 1 ∨ n = 2 ∨ n = 3 ∨ n = 4 ∨ n = 5 ∨ n = 6 ∨ n = 7 ∨ n = 8 := by omega
  rcases h with rfl | rfl | rfl | rfl | rfl | rfl | rfl | rfl
  · exact makeSegs1 w
  · exact makeSegs2 w
  · exact makeSegs3 w
  · exact makeSegs4 w
  · exact makeSegs5 w
  · exact makeSegs6 w
  · exact makeSegs7 w
  · exact makeSegs8 w
theorem segSize : (Tryz.prog.info? 245).map (·.size) = some 5 := by kernel_rfl
theorem holds_setCells {b : Nat} {t : TypeId} : ∀ (vs : List Value) (o : Nat) (W : World) (L : List Value), Holds W b t L → o + vs.length ≤ L.length → Holds (W.setCells b o vs) b t (splice L o vs)
  | [], o, W, L, h, _ => by rw [splice_nil]; exact h
  | v :: r, o, W, L, h, hl => by
    have hl' : o + (r.length + 1) ≤ L.length := hl
    have := holds_setCells r (o + 1) _ _ (h.set o v) (by rw [List.length_set]; omega)
    rw [World.setCells]
    have e : splice (L.set o v) (o + 1) r = splice L o (v :: r) := by
      have a := splice_set L o [v] 0 v rfl (by simp; omega)
      simp only [List.take_zero, splice_nil, Nat.add_zero, Nat.zero_add] at a
      rw [a, show (List.take 1 [v]) = [v] from rfl]
      exact splice_splice L o [v] r (by simp; omega)
    rwa [e] at this
theorem grown_setCells {w : World} {b : Nat} : ∀ (vs : List Value) (o : Nat) (wr : World), w.grownBy wr (some b) → w.grownBy (wr.setCells b o vs) (some b)
  | [], _, _, h => h
  | v :: r, o, wr, h => grown_setCells r (o + 1) _ (grown_set h o v)
theorem below_setCells {B b : Nat} {w : World} (hB : B ≤ b) : ∀ (vs : List Value) (o : Nat) (wr : World), Below B w wr → Below B w (wr.setCells b o vs)
  | [], _, _, h => h
  | v :: r, o, wr, h => below_setCells hB r (o + 1) _ (h.setCell (p := ⟨b, o, none⟩) hB v)
theorem holds_there {W : World} {b : Nat} {t : TypeId} {vs : List Value} (h : Holds W b t vs) (o n : Nat) (hn : o + n ≤ vs.length) : W.there b o n := fun j hj =>
  ⟨by rw [h.cell (List.getElem?_eq_getElem (show o + j < vs.length by omega))]; rfl, h.frozen _⟩

theorem wpList_store_part {P : Program} {ops : Array Oper} {rest : List Oper} {o : Oper} {a : Act} {w : World} {Q : Exit → Act → World → Prop} (hgd : o.guard = none) (ty : TypeId) (x y : Operand) (ho : o.op = .store ty x y)
    (g off : Nat) (cs : List Value) (hx : a.eval x = .pointer (some ⟨g, off, none⟩)) (hy : a.eval y = .agg cs.toArray)
    (t : TypeId) (old : List Value) (hg : Holds w g t old) (hi : (P.info? ty).map (·.size) = some cs.length) (hfit : off + cs.length ≤ old.length) (h1 : ∀ v ∈ cs, v.oneCell' = true)
    (h : ∀ w', Hid (Holds w' g t (splice old off cs)) → Hid (w.grownBy w' (some g)) → wpList P ops Q rest (a.put o.dst undef) w') : wpList P ops Q (o :: rest) a w := by
  refine wpList_store_mid hgd ty x y ho g off cs.toArray hx hy (holds_there hg _ _ (by simpa using hfit)) (by simpa using hi) (all_oneCell_toArray h1) ?_
  refine h _ (hide (holds_setCells cs off _ _ hg hfit)) (hide (grown_setCells cs off w ⟨rfl, rfl, rfl, Nat.le_refl _, fun _ _ _ => rfl⟩))
theorem segSize' (b off cap : Nat) (s : Seg) : (Tryz.prog.info? 245).map (·.size) = some (segCells b off cap s).length := segSize
theorem segs_fit {b off cap : Nat} {B : List Int} {n k : Nat} (h : k < n) (s : Seg) : k * 5 + (segCells b off cap s).length ≤ (segsFill b off cap B n k).length := by
  rw [segsFill_length _ _ _ _ _ _ (by omega)]
  show k * 5 + 5 ≤ n * 5
  omega

theorem upTo_step {p : Nat → Prop} {k : Nat} (h : ∀ i, i < k → p i) (hk : p k) : ∀ i, i < k + 1 → p i := fun i hi => by
  rcases Nat.lt_succ_iff_lt_or_eq.1 hi with h' | h'
  · exact h i h'
  · rw [h']; exact hk

def SegsPost (b off cap : Nat) (B : List Int) (n : Nat) (w : World) (e : Ending) (w' : World) : Prop :=
  ((∀ i, i < n → SegOk B (64 + 56 * i)) ∧ e = .returned (.tuple #[.slice (some ⟨w.heap.size, 0, none⟩) n n, .bool true]) ∧ Holds w' w.heap.size 245 (segsRow b off cap (segsUpTo B n)) ∨
   (¬ ∀ i, i < n → SegOk B (64 + 56 * i)) ∧ e = .returned (.tuple #[.slice none 0 0, .bool false])) ∧ Below w.heap.size w w'

set_option maxRecDepth 100000 in
set_option maxHeartbeats 2000000 in
theorem readSegments_any (b off cap : Nat) (B : List Int) (n : Nat) (w : World) (hB : IsBytes B) (hcap : B.length ≤ cap) (hlen : B.length ≤ 500000) (hv : BView w b off B) (hbw : b < w.heap.size) (h1 : 1 ≤ n) (h8 : n ≤ 8) (hp : 64 + 56 * n ≤ B.length) :
    Calls Tryz.prog 98 #[.slice (some ⟨b, off, none⟩) B.length cap, .int .i64 n] w fun e w' => SegsPost b off cap B n w e w' := by
  have hmk := fun w => makeSegs w n h1 h8
  have HB := hide hB
  have HV := hide hv
  have HL := hide (And.intro hcap (And.intro hlen hp))
  clear hB hv hcap hlen hp
  go_enter Tryz.func98, Tryz.ntmps98
  go_wp2
  go_loopw [14] (fun i wr => ∃ k : Nat, k ≤ n ∧ i = .int .i64 k ∧ (∀ i, i < k → SegOk B (64 + 56 * i)) ∧ Holds wr w.heap.size 245 (segsFill b off cap B n k) ∧ Below w.heap.size w wr) (fun i _ => n - (intOf i).toNat)
  case atStart => exact ⟨0, by omega, rfl, fun i hi => by omega, by rw [segsFill_none]; exact Holds.new _ _ _, (Below.refl _ _).alloc (Nat.le_refl _) _⟩
  case round =>
    obtain ⟨k, hk, rfl, hok, hh, hbl⟩ := hrel
    have HOK := hide hok
    have HH := hide hh
    have HBL := hide hbl
    have hgl := hh.lt
    clear hok hh hbl
    by_cases hlt : k < n
    · obtain ⟨p, hp⟩ : ∃ p, p = 64 + 56 * k := ⟨_, rfl⟩
      have e1 : (64 : Int) + 56 * (k : Int) = (p : Int) := by omega
      have hp5 : (p : Int) ≤ 600 := by omega
      have hvr : BView wr b off B := (unhide HV).below (unhide HBL) hbw
      have HR := hide (readSegment_any b off cap B p wr (unhide HB) (unhide HL).1 (unhide HL).2.1 hvr (by omega) (by have := (unhide HL).2.2; omega))
      have HP := hide hp
      have hk0 : (0 : Int) ≤ (k : Int) := by omega
      have hkn : (k : Int) < (n : Int) := by omega
      have hk8 : (k : Int) ≤ 8 := by omega
      clear hp hvr
      go_wp2_with fail
      refine (unhide HR).mono ?_
      rintro e w1 ⟨(⟨ok, rfl⟩ | ⟨nok, rfl⟩), hb1⟩
      · have hh1 := (unhide HH).below hb1 hgl
        have hbl1 := (unhide HBL).trans (hb1.mono (unhide HBL).size)
        have OK := hide ok
        have HH1 := hide hh1
        have HBL1 := hide hbl1
        clear ok hh1 hbl1 hb1 HH HBL HR
        unfold segVal
        obtain ⟨sg, hsg⟩ : ∃ s, s = segAt B p := ⟨_, rfl⟩
        rw [← hsg]
        have hstep : splice (segsFill b off cap B n k) (k * 5) (segCells b off cap sg) = segsFill b off cap B n (k + 1) := by rw [hsg, unhide HP]; exact segsFill_step _ _ _ _ _ _ hlt
        clear hsg
        have HST := hide hstep
        have hgl1 := (unhide HH1).lt
        clear hstep
        go_wp2_with (refine wpList_store_part rfl 245 (.tmp 30) (.tmp 29) rfl w.heap.size (k * 5) (segCells b off cap sg) (by rfl) (by rfl) 245 (segsFill b off cap B n k) ((unhide HH1).alloc _) (segSize' b off cap sg) (segs_fit hlt sg) (segCells_one b off cap sg) ?_; intro w2 HH2 HG2)
        go_roundw
        case rel =>
          have hba := (unhide HBL1).alloc (Nat.le_of_lt hgl1) (.cells (segCells b off cap sg).toArray 245)
          exact ⟨k + 1, by omega, by go_num, upTo_step (unhide HOK) (by rw [← unhide HP]; exact unhide OK), by rw [← unhide HST]; exact unhide HH2, hba.trans (below_grown (unhide HG2) (Nat.le_refl _) hba.size)⟩
        case measure => simp [intOf]; omega
      · have hbl1 := (unhide HBL).trans (hb1.mono (unhide HBL).size)
        have hsz1 := hbl1.size
        have HBL1 := hide hbl1
        have NOK := hide nok
        clear hb1 hbl1 nok HR
        unfold noSeg
        go_wp2
        exact bodyPost_ret (v := .tuple #[.slice none 0 0, .bool false]) (by simp [results, Tryz.results98, go_sem]) rfl ⟨.inr ⟨fun h => unhide NOK (by rw [unhide HP]; exact h k hlt), rfl⟩, (unhide HBL1).alloc hsz1 _⟩
    · have hkn : k = n := by omega
      subst hkn
      go_wp2
      exact bodyPost_ret (v := .tuple #[.slice (some ⟨w.heap.size, 0, none⟩) k k, .bool true]) (by simp [results, Tryz.results98, go_sem]) rfl ⟨.inl ⟨unhide HOK, rfl, by rw [← segsFill_full]; exact unhide HH⟩, unhide HBL⟩
end Go.Proofs.YtjkpeelijbeekaaGreatDoor

/- slices.SortFunc at segments, by their addresses. -/
namespace Go.Proofs.YtjkpeelijbeekaaGreatDoor
open Go.RowKit
set_option linter.unusedVariables false
set_option linter.unusedSimpArgs false

abbrev seg0 : Seg := ⟨0, 0, 0, 0, 0⟩
def addrCmp (x y : Seg) : Int := if x.addr < y.addr then -1 else if y.addr < x.addr then 1 else 0
theorem addrCmp_neg (x y : Seg) : addrCmp x y < 0 ↔ x.addr < y.addr := by
  unfold addrCmp
  split
  · simp [*]
  · split <;> simp [*]

set_option maxHeartbeats 400000 in
theorem isNaN_no (x : Int) (w : World) : Calls Tryz.prog 122 #[.int .u64 x] w fun e w' => e = .returned (.bool false) ∧ w' = w := by
  have h : (x != x) = false := by simp
  go_enter Tryz.func122, Tryz.ntmps122
  go_wp2
  go_ret
  exact ⟨rfl, rfl⟩
set_option maxHeartbeats 400000 in
theorem cmpU64 (x y r : Int) (w : World) (hr : r = if x < y then -1 else if y < x then 1 else 0) : Calls Tryz.prog 101 #[.int .u64 x, .int .u64 y] w fun e w' => e = .returned (.int .i64 r) ∧ w' = w := by
  have H := hide isNaN_no
  by_cases h1 : x < y
  · rw [if_pos h1] at hr
    subst hr
    go_enter Tryz.func101, Tryz.ntmps101
    go_wp2_with (go_at_call 122; refine (unhide H _ _).mono ?_; rintro e w' ⟨rfl, rfl⟩)
    go_ret
    exact ⟨rfl, rfl⟩
  · rw [if_neg h1] at hr
    by_cases h2 : y < x
    · rw [if_pos h2] at hr
      subst hr
      go_enter Tryz.func101, Tryz.ntmps101
      go_wp2_with (go_at_call 122; refine (unhide H _ _).mono ?_; rintro e w' ⟨rfl, rfl⟩)
      go_ret
      exact ⟨rfl, rfl⟩
    · rw [if_neg h2] at hr
      subst hr
      go_enter Tryz.func101, Tryz.ntmps101
      go_wp2_with (go_at_call 122; refine (unhide H _ _).mono ?_; rintro e w' ⟨rfl, rfl⟩)
      go_ret
      exact ⟨rfl, rfl⟩
set_option maxHeartbeats 1000000 in
theorem closure_any (b off cap : Nat) (x y : Seg) (W : World) : Calls Tryz.prog 100 #[.agg (segCells b off cap x).toArray, .agg (segCells b off cap y).toArray] W fun e w' => e = .returned (.int .i64 (addrCmp x y)) ∧ ∃ q os', w' = Go.Sort.grow (W.drewN q) os' := by
  have H := hide (fun w => cmpU64 x.addr y.addr (addrCmp x y) w rfl)
  generalize addrCmp x y = r at H ⊢
  unfold segCells
  go_enter Tryz.func100, Tryz.ntmps100
  go_wp2_with (go_at_call 101; refine (unhide H _).mono ?_; rintro e w' ⟨rfl, rfl⟩)
  go_ret
  exact ⟨rfl, 0, _, by rw [Go.Sort.alloc_eq_grow, Go.Sort.alloc_eq_grow, Go.Sort.grow_grow]; rfl⟩

theorem segsRow_get (b off cap : Nat) : ∀ (ss : List Seg) (i j : Nat) (s : Seg), j < 5 → ss[i]? = some s → (segsRow b off cap ss)[i * 5 + j]? = (segCells b off cap s)[j]?
  | [], i, j, s, _, h => by simp at h
  | x :: r, 0, j, s, hj, h => by
    obtain rfl : x = s := by simpa using h
    rw [segsRow, List.flatMap_cons, Nat.zero_mul, Nat.zero_add, List.getElem?_append_left (show j < (segCells b off cap x).length from hj)]
  | x :: r, i + 1, j, s, hj, h => by
    have ih := segsRow_get b off cap r i j s hj (by simpa using h)
    rw [segsRow, List.flatMap_cons, List.getElem?_append_right (show (segCells b off cap x).length ≤ (i + 1) * 5 + j from by show 5 ≤ _; omega)]
    rw [show (i + 1) * 5 + j - (segCells b off cap x).length = i * 5 + j from by show (i + 1) * 5 + j - 5 = _; omega]
    exact ih
section
variable [Inhabited Seg]
theorem flat_row (b off cap : Nat) (ss : List Seg) : Go.Sort.flatK (segCells b off cap) 5 ss.toArray = (segsRow b off cap ss).toArray := by
  apply Go.Sort.ext_get!
  · simp [segsRow_length]
  · intro t ht
    have ht' : t < ss.length * 5 := by simpa using ht
    rw [Go.Sort.get_flatK _ _ _ _ (by simpa using ht')]
    have hi : t / 5 < ss.length := by omega
    have h := segsRow_get b off cap ss (t / 5) (t % 5) ss[t / 5] (Nat.mod_lt _ (by omega)) (List.getElem?_eq_getElem hi)
    rw [show t / 5 * 5 + t % 5 = t from by omega] at h
    have e : ss.toArray[t / 5]! = ss[t / 5] := by simp [getElem!_pos, hi]
    rw [e]
    simp only [List.getElem!_toArray, List.getElem!_eq_getElem?_getD, h]
theorem holdsK_of {w : World} {g : Nat} {t : TypeId} {b off cap : Nat} {ss : List Seg} (h : Holds w g t (segsRow b off cap ss)) : Go.Sort.HoldsK (segCells b off cap) 5 w g 0 ss.toArray := by
  unfold Go.Sort.HoldsK
  rw [flat_row]
  intro j hj
  rw [Nat.zero_add]
  refine ⟨?_, h.frozen j⟩
  have hj' : j < (segsRow b off cap ss).length := by simpa using hj
  rw [h.cell (List.getElem?_eq_getElem hj')]
  simp [getElem!_pos, hj']
theorem holds_sorted {w : World} {g : Nat} {t : TypeId} {b off cap : Nat} {ss ss' : List Seg} (h : Holds w g t (segsRow b off cap ss)) (hl : ss'.length = ss.length) (m : Nat) (os : Array Obj) :
    Holds (sortWorldK (segCells b off cap) 5 w g 0 m ss'.toArray os) g t (segsRow b off cap ss') ∧ w.grownBy (sortWorldK (segCells b off cap) 5 w g 0 m ss'.toArray os) (some g) := by
  have hlt := h.lt
  have hl2 : (segsRow b off cap ss').length = (segsRow b off cap ss).length := by rw [segsRow_length, segsRow_length, hl]
  unfold sortWorldK Go.Sort.grow Go.Sort.putRowK Go.Sort.putRow Go.Sort.mapBlock Go.Sort.ahead
  rw [flat_row]
  constructor
  · unfold Holds at h ⊢
    simp only
    rw [Array.getElem?_append_left (by simpa using hlt), Array.getElem?_modify, if_pos rfl, h]
    simp only [Option.map_some, Go.Sort.onCells, Option.some.injEq, Obj.cells.injEq, and_true]
    unfold Go.Sort.putCells
    apply Array.ext
    · simp [hl2]
    · intro i h1 h2
      have h2' : i < (segsRow b off cap ss').length := by simpa using h2
      simp [h2', getElem!_pos]
  · refine ⟨rfl, rfl, rfl, by simp, fun k hk hne => ?_⟩
    simp only
    rw [Array.getElem?_append_left (by simpa using hk), Array.getElem?_modify, if_neg (fun e => hne (by rw [e]))]
end
theorem addr_swo : Go.Sort.SWO (ltOf addrCmp) where
  irrefl x := by simp only [ltOf, addrCmp_neg]; simp
  trans x y z h1 h2 := by simp only [ltOf, addrCmp_neg, decide_eq_true_eq] at *; omega
  ntrans x y z h1 h2 := by simp only [ltOf, addrCmp_neg, decide_eq_false_iff_not] at *; omega
theorem bitsLen_some (n : Nat) (W : World) (h : n ≤ 12) : Calls Tryz.prog 114 #[.int .u64 n] W fun e w' => (∃ l : Int, e = .returned (.int .i64 l)) ∧ w' = W :=
  (Any.bits_Len bitsLen n W (by omega) (by omega)).mono fun _ _ ⟨he, hw⟩ => ⟨⟨_, he⟩, hw⟩
theorem sort_any (b off cap g c : Nat) (ss : List Seg) (w : World) (h : Holds w g 245 (segsRow b off cap ss)) (h8 : ss.length ≤ 8) :
    Calls Tryz.prog 99 #[.slice (some ⟨g, 0, none⟩) ss.length c, .func (.func 100) #[] #[]] w fun e w' =>
      e = .returned (.tuple #[]) ∧ ∃ ss' : List Seg, ss'.Perm ss ∧ (∀ i j, i < j → j < ss'.length → (ss'.getD i seg0).addr ≤ (ss'.getD j seg0).addr) ∧ Holds w' g 245 (segsRow b off cap ss') ∧ w.grownBy w' (some g) := by
  haveI hinh : Inhabited Seg := ⟨seg0⟩
  have eg : ∀ args w, (callFunc 100 args).run Tryz.prog w = .ok (.enter 100 args) w := enters_of Tryz.func100 (by kernel_rfl) rfl
  have hcon := AnyQ.slices_SortFunc_small_sorted sortSeg 5 Tryz.isAgg245 Tryz.sizeOf245 (segCells b off cap) (fun _ => rfl) (segCells_one b off cap) addrCmp 100 #[] addr_swo g 0 c ss.toArray w eg (fun _ _ _ _ x y => closure_any b off cap x y _) (holdsK_of h) h.lt (by simp; omega) (fun n W hn => bitsLen_some n W hn)
  change Calls Tryz.prog 99 #[.slice (some ⟨g, 0, none⟩) ss.length c, .func (.func 100) #[] #[]] w _ at hcon
  refine hcon.mono ?_
  rintro e w' ⟨he, d', n, os, hp, hs, rfl⟩
  refine ⟨he, d'.toList, ?_, ?_, ?_⟩
  · have := hp.2.2
    have hsz := hp.1
    simp only [List.size_toArray] at this hsz
    rw [show d'.extract 0 ss.length = d' from by rw [← hsz]; simp] at this
    simpa using this
  · intro i j hij hj
    have hsz := hp.1
    simp only [List.size_toArray] at hsz
    have := hs i j (Nat.zero_le _) hij (by simp only [List.size_toArray]; simpa [hsz] using hj)
    simp only [ltOf, addrCmp_neg, decide_eq_false_iff_not] at this
    have hj' : j < d'.size := by simpa using hj
    have hi' : i < d'.size := by omega
    rw [getElem!_pos d' j hj', getElem!_pos d' i hi'] at this
    simp only [List.getD, Array.getElem?_toList, Array.getElem?_eq_getElem hj', Array.getElem?_eq_getElem hi', Option.getD_some]
    omega
  · have hsz := hp.1
    have := holds_sorted (ss' := d'.toList) h (by simpa using hsz) n os
    simpa using this
end Go.Proofs.YtjkpeelijbeekaaGreatDoor

/- A great array's zero value laid in a new block: the block behind a name. -/
namespace Go.Proofs.YtjkpeelijbeekaaGreatDoor
open Go Go.RowKit
theorem wpList_alloc_big {P : Program} {ops : Array Oper} {rest : List Oper} {op : Oper} {a : Act} {w : World} {Q : Exit → Act → World → Prop} (hgd : op.guard = none) (ty : TypeId) (ho : op.op = .alloc ty)
    (vs : Array Value) (hrun : ∀ old w, (Instr.alloc ty true old).run P w = .ok (.pointer (some ⟨w.heap.size, 0, none⟩)) (w.alloc (.cells vs ty)))
    (h : wpList P ops Q rest (a.put op.dst (.pointer (some ⟨w.heap.size, 0, none⟩))) (w.alloc (.cells vs ty))) : wpList P ops Q (op :: rest) a w :=
  wpList_plain hgd fun _ hK => by
    unfold Oper.wp execOp
    simp only [ho]
    simp [hrun, Result.andThen]
    exact hK _ _ h
end Go.Proofs.YtjkpeelijbeekaaGreatDoor

/- The program's address spaces: the cells of one, Count. -/
namespace Go.Proofs.YtjkpeelijbeekaaGreatDoor
open Go Go.RowKit
set_option linter.unusedVariables false
set_option linter.unusedSimpArgs false

def isZ : Value → Bool
  | .int .u8 0 => true
  | _ => false
def allZ : List Value → Bool
  | [] => true
  | v :: r => match isZ v with | true => allZ r | false => false
theorem isZ_eq {v : Value} (h : isZ v = true) : v = .int .u8 0 := by
  unfold isZ at h
  split at h
  · rfl
  · cases h
theorem allZ_rep : ∀ (l : List Value), allZ l = true → l = List.replicate l.length (.int .u8 0)
  | [], _ => rfl
  | v :: r, h => by
    unfold allZ at h
    split at h
    · rename_i hv
      rw [isZ_eq hv, List.length_cons, List.replicate_succ, ← allZ_rep r h]
    · cases h
set_option maxRecDepth 1000000 in
theorem space_z : allZ Tryz.zeroCells176.toList = true := by kernel_rfl
def zeroSpace : List Value := List.replicate 65792 (.int .u8 0)
theorem space_zero : Tryz.zeroCells176 = zeroSpace.toArray := by
  have h := allZ_rep _ space_z
  have hl : Tryz.zeroCells176.toList.length = 65792 := by rw [Array.length_toList]; exact Tryz.zeroCells176_size
  rw [hl] at h
  unfold zeroSpace
  rw [← h]

/-! ### Rows of rows -/
theorem flat_congr' {α : Type} {l : List Nat} {f g : Nat → List α} (h : ∀ a ∈ l, f a = g a) : l.flatMap f = l.flatMap g := by
  induction l with
  | nil => rfl
  | cons a r ih => rw [List.flatMap_cons, List.flatMap_cons, h a (by simp), ih (fun b hb => h b (by simp [hb]))]
theorem range_split (n N : Nat) (h : n < N) : List.range N = List.range n ++ n :: List.range' (n + 1) (N - n - 1) := by
  rw [List.range_eq_range', List.range_eq_range', show N = n + (N - n - 1 + 1) by omega, ← List.range'_append_1, Nat.zero_add, List.range'_succ]
  congr 3
  omega
theorem flat_len {α : Type} (f : Nat → List α) (m : Nat) : ∀ (l : List Nat), (∀ j ∈ l, (f j).length = m) → (l.flatMap f).length = l.length * m
  | [], _ => by simp
  | a :: r, h => by
    rw [List.flatMap_cons, List.length_append, h a (by simp), flat_len f m r (fun j hj => h j (by simp [hj])), List.length_cons, Nat.succ_mul, Nat.add_comm]
theorem flat_get {α : Type} (f : Nat → List α) (m N : Nat) (hf : ∀ j, j < N → (f j).length = m) (j k : Nat) (hj : j < N) (hk : k < m) : ((List.range N).flatMap f)[j * m + k]? = (f j)[k]? := by
  rw [range_split j N hj, List.flatMap_append, List.flatMap_cons]
  have hl : ((List.range j).flatMap f).length = j * m := by rw [flat_len f m _ (fun i hi => hf i (by have := List.mem_range.1 hi; omega)), List.length_range]
  rw [List.getElem?_append_right (by omega), hl, Nat.add_sub_cancel_left, List.getElem?_append_left (by rw [hf j hj]; exact hk)]
theorem flat_splice {α : Type} (f g : Nat → List α) (m N n : Nat) (r : List α) (hf : ∀ j, j < N → (f j).length = m) (hr : r.length = m) (hn : n < N) (hg : g n = r) (ho : ∀ j, j < N → j ≠ n → g j = f j) : splice ((List.range N).flatMap f) (n * m) r = (List.range N).flatMap g := by
  rw [range_split n N hn, List.flatMap_append, List.flatMap_cons, List.flatMap_append, List.flatMap_cons]
  have hl : ((List.range n).flatMap f).length = n * m := by rw [flat_len f m _ (fun i hi => hf i (by have := List.mem_range.1 hi; omega)), List.length_range]
  have e1 : (List.range n).flatMap g = (List.range n).flatMap f := by
    refine flat_congr' (fun j hj => ho j ?_ ?_) <;> have := List.mem_range.1 hj <;> omega
  have e2 : (List.range' (n + 1) (N - n - 1)).flatMap g = (List.range' (n + 1) (N - n - 1)).flatMap f := by
    refine flat_congr' (fun j hj => ho j ?_ ?_) <;> have := List.mem_range'_1.1 hj <;> omega
  rw [e1, e2, hg]
  unfold splice
  rw [List.take_left' hl, hr]
  congr 2
  rw [← List.append_assoc, List.drop_left' (by rw [List.length_append, hl, hf n hn])]

/-! ### A space -/
def pageCells (p : Pg) : List Value := .int .u8 p.perm :: bytesRow p.bytes
def noPage : List Value := List.replicate 257 (.int .u8 0)
def spacePage (PS : List Pg) (j : Nat) : List Value := match PS.find? (fun p => p.num == (j : Int)) with | some p => pageCells p | none => noPage
/-- The cells of an address space with these pages. -/
def spaceRow (PS : List Pg) : List Value := (List.range 256).flatMap (spacePage PS)
/-- Pages by their numbers, all below 256, which may be used for something, of 256 bytes. -/
structure PgsOk (PS : List Pg) : Prop where
  sorted : PS.Pairwise (fun p q => p.num < q.num)
  each : ∀ p ∈ PS, 0 ≤ p.num ∧ p.num < 256 ∧ 1 ≤ p.perm ∧ p.perm ≤ 255 ∧ p.bytes.length = 256
theorem PgsOk.pre {PS QS : List Pg} (h : PgsOk (PS ++ QS)) : PgsOk PS := ⟨(List.pairwise_append.1 h.sorted).1, fun p hp => h.each p (List.mem_append_left _ hp)⟩
theorem pageCells_length {p : Pg} (h : p.bytes.length = 256) : (pageCells p).length = 257 := by unfold pageCells; rw [List.length_cons, bytesRow_length, h]
theorem spacePage_length {PS : List Pg} (h : ∀ p ∈ PS, p.bytes.length = 256) (j : Nat) : (spacePage PS j).length = 257 := by
  unfold spacePage
  split
  · rename_i p hp
    exact pageCells_length (h p (List.mem_of_find?_eq_some hp))
  · unfold noPage; exact List.length_replicate
theorem spaceRow_length {PS : List Pg} (h : ∀ p ∈ PS, p.bytes.length = 256) : (spaceRow PS).length = 65792 := by
  unfold spaceRow
  rw [flat_len _ 257 _ (fun j _ => spacePage_length h j), List.length_range]
theorem flat_const (z : Value) (m : Nat) : ∀ (l : List Nat), (l.flatMap fun _ => List.replicate m z) = List.replicate (l.length * m) z
  | [] => by simp
  | a :: r => by rw [List.flatMap_cons, flat_const z m r, List.length_cons, Nat.succ_mul, Nat.add_comm (r.length * m), List.replicate_append_replicate]
theorem space_nil : spaceRow [] = zeroSpace := by
  show (List.range 256).flatMap (fun _ => List.replicate 257 (Value.int .u8 0)) = zeroSpace
  rw [flat_const, List.length_range]
  rfl
theorem space_get {PS : List Pg} (h : ∀ p ∈ PS, p.bytes.length = 256) (j k : Nat) (hj : j < 256) (hk : k < 257) : (spaceRow PS)[j * 257 + k]? = (spacePage PS j)[k]? := flat_get _ 257 256 (fun j _ => spacePage_length h j) j k hj hk
theorem space_step {PS : List Pg} {p : Pg} (h : PgsOk (PS ++ [p])) (n : Nat) (hn : p.num = n) : splice (spaceRow PS) (n * 257) (pageCells p) = spaceRow (PS ++ [p]) := by
  have hp := h.each p (by simp)
  have hb : ∀ q ∈ PS, q.bytes.length = 256 := fun q hq => (h.each q (by simp [hq])).2.2.2.2
  have hlt : ∀ q ∈ PS, q.num < p.num := fun q hq => (List.pairwise_append.1 h.sorted).2.2 q hq p (by simp)
  refine flat_splice _ _ 257 256 n _ (fun j _ => spacePage_length hb j) (pageCells_length hp.2.2.2.2) (by omega) ?_ (fun j hj hne => ?_)
  · unfold spacePage
    rw [List.find?_append, show PS.find? (fun q => q.num == (n : Int)) = none from List.find?_eq_none.2 (fun q hq => by have := hlt q hq; simp; omega)]
    simp [hn]
  · unfold spacePage
    rw [List.find?_append]
    cases hf : PS.find? (fun q => q.num == (j : Int)) with
    | some q => rfl
    | none =>
      have : ([p].find? (fun q => q.num == (j : Int))) = none := List.find?_eq_none.2 (fun q hq => by simp at hq; subst hq; simp; omega)
      rw [this]; rfl
/-- The pages below a number. -/
def pgsTo (PS : List Pg) (n : Nat) : List Pg := (List.range n).filterMap (fun j : Nat => PS.find? (fun p => p.num == (j : Int)))
theorem pgsTo_succ (PS : List Pg) (n : Nat) : pgsTo PS (n + 1) = pgsTo PS n ++ (PS.find? (fun p => p.num == (n : Int))).toList := by
  unfold pgsTo
  rw [List.range_succ, List.filterMap_append]
  cases h : PS.find? (fun p => p.num == (n : Int)) <;> simp [h]
theorem pgsTo_take {PS : List Pg} (h : PgsOk PS) : ∀ n : Nat, pgsTo PS n = PS.filter (fun p => decide (p.num < (n : Int)))
  | 0 => by
    unfold pgsTo
    simp only [List.range_zero, List.filterMap_nil]
    symm
    rw [List.filter_eq_nil_iff]
    intro p hp
    have := (h.each p hp).1
    simp; omega
  | n + 1 => by
    rw [pgsTo_succ, pgsTo_take h n]
    clear pgsTo_take
    have hs := h.sorted
    have h0 : ∀ p ∈ PS, 0 ≤ p.num := fun p hp => (h.each p hp).1
    clear h
    induction PS with
    | nil => rfl
    | cons a r ih =>
      obtain ⟨ha, hr⟩ := List.pairwise_cons.1 hs
      have ih := ih hr (fun p hp => h0 p (by simp [hp]))
      by_cases hlt : a.num < (n : Int)
      · rw [List.filter_cons_of_pos (by simpa using hlt), List.filter_cons_of_pos (by simp; omega), List.find?_cons_of_neg (by simp; omega), List.cons_append, ih]
      · have hrn : ∀ q ∈ r, ¬ q.num < (n : Int) := fun q hq => by have := ha q hq; omega
        by_cases heq : a.num = (n : Int)
        · rw [List.filter_cons_of_neg (by simpa using hlt), List.filter_cons_of_pos (by simp; omega), List.find?_cons_of_pos (by simpa using heq)]
          have e1 : r.filter (fun p => decide (p.num < (n : Int))) = [] := List.filter_eq_nil_iff.2 (fun q hq => by have := hrn q hq; simpa using this)
          have e2 : r.filter (fun p => decide (p.num < ((n + 1 : Nat) : Int))) = [] := List.filter_eq_nil_iff.2 (fun q hq => by have := ha q hq; simp; omega)
          rw [e1, e2]; rfl
        · rw [List.filter_cons_of_neg (by simpa using hlt), List.filter_cons_of_neg (by simp; omega), List.find?_cons_of_neg (by simpa using heq)]
          exact ih
theorem pgsTo_all {PS : List Pg} (h : PgsOk PS) : pgsTo PS 256 = PS := by
  rw [pgsTo_take h]
  exact List.filter_eq_self.2 (fun p hp => by have := (h.each p hp).2.1; simp; omega)
theorem pgsTo_len (PS : List Pg) : ∀ n, (pgsTo PS n).length ≤ n
  | 0 => by simp [pgsTo]
  | n + 1 => by
    have := pgsTo_len PS n
    rw [pgsTo_succ, List.length_append]
    cases h : PS.find? (fun p => p.num == (n : Int)) <;> simp <;> omega
def permAt (PS : List Pg) (j : Nat) : Int := match PS.find? (fun p => p.num == (j : Int)) with | some p => p.perm | none => 0
theorem spacePage_perm (PS : List Pg) (j : Nat) : (spacePage PS j)[0]? = some (.int .u8 (permAt PS j)) := by
  unfold spacePage permAt
  split <;> rfl
end Go.Proofs.YtjkpeelijbeekaaGreatDoor
