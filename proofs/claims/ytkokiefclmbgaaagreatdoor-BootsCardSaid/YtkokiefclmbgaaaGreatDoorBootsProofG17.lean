import Derived.Test.YtkokiefclmbgaaaGreatDoorBootsProofG06
import Derived.Test.YtkokiefclmbgaaaGreatDoorBootsProofG16
import Derived.Test.YtkokiefclmbgaaaGreatDoorBootsProofG14
import Derived.Test.YtkokiefclmbgaaaGreatDoorBootsProofG02
import Derived.Deep.RegionHeld3
import Derived.Deep.RegionLaw
import Derived.Great.BuildSlice
import Derived.Test.YtkokiefclmbgaaaGreatDoorBootsProofG15
/- The program's names of a path. -/
namespace Go.Proofs.YtkokiefclmbgaaaGreatDoor
open Go Go.RowKit
set_option linter.unusedVariables false
set_option linter.unusedSimpArgs false

def FsNamesPost (s : ByteArray) (w : World) (e : Ending) (w' : World) : Prop :=
  Below w.heap.size w w' ∧ (namesOf s = none ∧ e = .returned (.tuple #[.slice none 0 0, .iface 45 (.int .i64 8)]) ∨ ∃ l, namesOf s = some l ∧ l.length ≤ 100 ∧ e = .returned (.tuple #[.slice (some ⟨w.heap.size, 0, none⟩) (l.length + 1) (l.length + 1), .nilIface]) ∧ Holds w' w.heap.size 9 (strsRow (ByteArray.empty :: l)))
theorem prefix_slash (l : List UInt8) : Lib.hasPrefix l [47] = (l[0]? == some 47) := by
  cases l with
  | nil => rfl
  | cons c r =>
    show [47].isPrefixOf (c :: r) = _
    by_cases h : c = 47
    · subst h; simp
    · have e : ((47 : UInt8) == c) = false := by
        rw [beq_eq_false_iff_ne]
        intro e
        exact h e.symm
      have e2 : ((c :: r)[0]? == some 47) = false := by
        rw [beq_eq_false_iff_ne]
        intro e
        exact h (Option.some.inj e)
      rw [e2]
      simp [List.isPrefixOf, e]
theorem parts_count : ∀ (l word : List UInt8), (parts l word).length ≤ l.length + 1
  | [], word => by simp [parts]
  | c :: r, word => by
    unfold parts
    split
    · have := parts_count r []; simp; omega
    · have := parts_count r (word ++ [c]); simp; omega

theorem names_bound {s : ByteArray} (h : s.size ≤ 60) : (pathParts s).length ≤ 100 := by
  unfold pathParts
  rw [List.length_map]
  have := parts_count (s.data.toList.drop 1) []
  have h2 : s.data.toList.length = s.size := Array.length_toList
  have h3 := List.length_drop (l := s.data.toList) (i := 1)
  omega
theorem parts_len_le : ∀ (l word p : List UInt8), p ∈ parts l word → p.length ≤ l.length + word.length
  | [], word, p, h => by
    have : p = word := by simpa [parts] using h
    subst this; simp
  | c :: r, word, p, h => by
    unfold parts at h
    split at h
    · rcases List.mem_cons.1 h with rfl | h
      · rw [List.length_cons]; omega
      · have := parts_len_le r [] p h; rw [List.length_nil] at this; rw [List.length_cons]; omega
    · have := parts_len_le r (word ++ [c]) p h; simp at this ⊢; omega
theorem part_size {s q : ByteArray} (h : s.size ≤ 60) (hq : q ∈ pathParts s) : q.size ≤ maxLen := by
  obtain ⟨p, hp, rfl⟩ := List.mem_map.1 hq
  have h1 := parts_len_le _ [] p hp
  have h2 : s.data.toList.length = s.size := Array.length_toList
  have h3 := List.length_drop (l := s.data.toList) (i := 1)
  have h4 : (strOf p).size = p.length := by simp [strOf, ByteArray.size]
  unfold maxLen
  simp at h1
  omega
set_option maxRecDepth 100000 in
set_option maxHeartbeats 4000000 in
theorem fsNames_any (s : ByteArray) (m : Int) (w : World) (hs : s.size ≤ maxLen) (hm : w.cell? ⟨2, 0, none⟩ = some (.int .i64 m)) : Calls Tryz.prog 95 #[.string s] w (FsNamesPost s w) := by
  have HPX := hide (show Calls Tryz.prog 117 #[.string s, .string ⟨#[47]⟩] w fun e w' => e = .returned (.bool (Lib.hasPrefix s.data.toList [47])) ∧ w' = w from Go.Proofs.Any.strings_HasPrefix hasPrefix s ⟨#[47]⟩ w)
  rw [prefix_slash] at HPX
  have hmx : (s.size : Int) ≤ 9223372036854775807 := by unfold maxLen at hs; omega
  have HBR := hide (Below.refl w.heap.size w)
  by_cases h1 : s.size ≤ 60
  case neg =>
    have HR := hide (show namesOf s = none by unfold namesOf; rw [if_pos (.inl (by omega))])
    have i1 : (60 : Int) < (s.size : Int) := by omega
    clear h1 hs
    go_enter Tryz.func95, Tryz.ntmps95
    go_wp2
    go_ret2
    exact ⟨unhide HBR, .inl ⟨unhide HR, rfl⟩⟩
  have i1 : ¬ (60 : Int) < (s.size : Int) := by omega
  by_cases h2 : s.data.toList[0]? = some 47
  case neg =>
    have HR := hide (show namesOf s = none by unfold namesOf; rw [if_pos (.inr (.inr h2))])
    have e2 : (s.data.toList[0]? == some 47) = false := by simpa using h2
    rw [e2] at HPX
    clear h1 hs h2 e2
    go_enter Tryz.func95, Tryz.ntmps95
    go_wp2_with fail
    refine (unhide HPX).mono ?_
    rintro e w' ⟨rfl, rfl⟩
    go_wp2
    go_ret2
    exact ⟨unhide HBR, .inl ⟨unhide HR, rfl⟩⟩
  have e2 : (s.data.toList[0]? == some 47) = true := by simpa using h2
  rw [e2] at HPX
  have hpos : 0 < s.size := by
    have h9 := (List.getElem?_eq_some_iff.1 h2).1
    have h8 : s.data.toList.length = s.size := Array.length_toList
    omega
  by_cases h5 : s.size = 1
  · have HR := hide (show namesOf s = some [] by unfold namesOf; rw [if_neg (by rintro (h | h | h); omega; omega; exact h h2), if_pos h5])
    have g2 := root_eq h5 h2
    have HN := hide (Holds.new w 9 [.string ByteArray.empty])
    have HB2 := hide ((Below.refl w.heap.size w).alloc (Nat.le_refl _) (Obj.cells #[.string ByteArray.empty] 9))
    clear h1 hs h2 e2 h5
    go_enter Tryz.func95, Tryz.ntmps95
    go_wp2_with fail
    refine (unhide HPX).mono ?_
    rintro e w' ⟨rfl, rfl⟩
    go_wp2
    go_ret2
    exact ⟨unhide HB2, .inr ⟨[], unhide HR, by simp, rfl, unhide HN⟩⟩
  have g2 := root_ne h5
  have hsp := split_slash h2
  have HSP := hide (show Calls Tryz.prog 118 #[.string s, .string ⟨#[47]⟩] w fun e w' => e = .returned (.slice (some ⟨w.heap.size, 0, none⟩) ((pathParts s).length + 1) ((pathParts s).length + 1)) ∧ w' = w.alloc (.cells (strsRow (ByteArray.empty :: pathParts s)).toArray 9) from by
    have h := Go.Proofs.Any.strings_Split split (by kernel_rfl) s ⟨#[47]⟩ m w (by omega) hm (by decide)
    have hl := Lib.splitB_all ⟨#[47]⟩ (by decide) 0 _ s rfl
    rw [hsp] at hl
    have hl' : (pathParts s).length + 1 = Lib.countB s ⟨#[47]⟩ + 1 := hl
    rw [hsp, ← hl'] at h
    exact h)
  have HNP := hide (show ∀ q ∈ pathParts s, isNameP q = nameOk q from fun q hq => part_isName hq)
  have hpl := names_bound h1
  have HNO := hide (show namesOf s = if (pathParts s).all nameOk = true then some (pathParts s) else none by unfold namesOf; rw [if_neg (by rintro (h | h | h); omega; omega; exact h h2), if_neg h5])
  have HSZ := hide (show ∀ q ∈ pathParts s, q.size ≤ maxLen from fun q hq => part_size h1 hq)
  have hl0 : 0 < (pathParts s).length := by
    obtain ⟨h, t, he⟩ := parts_some (s.data.toList.drop 1) []
    unfold pathParts
    rw [he]; simp
  obtain ⟨L, hL⟩ : ∃ L, L = pathParts s := ⟨_, rfl⟩
  rw [← hL] at HSP HNP HNO HSZ hpl hl0
  obtain ⟨W1, hW1⟩ : ∃ W1, W1 = w.alloc (.cells (strsRow (ByteArray.empty :: L)).toArray 9) := ⟨_, rfl⟩
  rw [← hW1] at HSP
  have HN1 := hide (show Holds W1 w.heap.size 9 (strsRow (ByteArray.empty :: L)) from by rw [hW1]; exact Holds.new w 9 _)
  have HB1 := hide (show Below w.heap.size w W1 from by rw [hW1]; exact (Below.refl _ _).alloc (Nat.le_refl _) _)
  clear h1 hs h2 e2 h5 hsp hL hW1
  go_enter Tryz.func95, Tryz.ntmps95
  go_wp2_with fail
  refine (unhide HPX).mono ?_
  rintro e w' ⟨rfl, rfl⟩
  go_wp2_with fail
  refine (unhide HSP).mono ?_
  rintro e w2 ⟨rfl, rfl⟩
  have k1 : (1 : Int) ≤ (L.length : Int) + 1 := by omega
  have k2 : L.length ≠ 0 := by omega
  go_wp2
  go_loop [24] (fun i => ∃ k : Nat, k ≤ L.length ∧ i = .int .i64 k ∧ Hid (∀ j q, j < k → L[j]? = some q → nameOk q = true)) (fun i => L.length - (intOf i).toNat)
  case atStart => exact ⟨0, by omega, rfl, hide (fun j q hj => by omega)⟩
  case round =>
    obtain ⟨k, hk, rfl, HA⟩ := hrel
    by_cases hlt : k < L.length
    · obtain ⟨q, hq⟩ : ∃ q, L[k]? = some q := ⟨_, List.getElem?_eq_getElem hlt⟩
      have c0 : w2.cell? ⟨w'.heap.size, 1 + k, none⟩ = some (.string q) := (unhide HN1).cell (by rw [Nat.add_comm]; show (strsRow L)[k]? = _; simp [strsRow, hq])
      have hqm := List.mem_of_getElem? hq
      have HNM := hide (fsIsName_any q w2 (unhide HSZ q hqm))
      rw [unhide HNP q hqm] at HNM
      have hk0 : (0 : Int) ≤ (k : Int) := by omega
      have hk1 : (k : Int) < (L.length : Int) := by omega
      cases hb : nameOk q with
      | false =>
        rw [hb] at HNM
        have HR := hide (show namesOf s = none by
          rw [unhide HNO, if_neg]
          intro hall
          have := List.all_eq_true.1 hall q hqm
          rw [hb] at this
          cases this)
        clear hq hqm hb
        go_wp2_with fail
        refine (unhide HNM).mono ?_
        rintro e w3 ⟨rfl, rfl⟩
        go_wp2
        go_ret2
        exact ⟨unhide HB1, .inl ⟨unhide HR, rfl⟩⟩
      | true =>
        rw [hb] at HNM
        have HN : Hid (∀ j q, j < k + 1 → L[j]? = some q → nameOk q = true) := hide (fun j p hj hp => by
          rcases Nat.lt_succ_iff_lt_or_eq.1 hj with h | h
          · exact unhide HA j p h hp
          · subst h
            rw [hq] at hp
            obtain rfl := Option.some.inj hp
            exact hb)
        clear hq hqm hb
        go_wp2_with fail
        refine (unhide HNM).mono ?_
        rintro e w3 ⟨rfl, rfl⟩
        go_wp2
        go_round
        case rel => exact ⟨k + 1, by omega, by go_num, HN⟩
        case measure => simp [intOf]; omega
    · have HR := hide (show namesOf s = some L by
        rw [unhide HNO, if_pos]
        refine List.all_eq_true.2 (fun q hq => ?_)
        obtain ⟨j, hj⟩ := List.mem_iff_getElem?.1 hq
        exact unhide HA j q (by have := (List.getElem?_eq_some_iff.1 hj).1; omega) hj)
      go_wp2
      go_ret2
      exact ⟨unhide HB1, .inr ⟨L, unhide HR, hpl, rfl, unhide HN1⟩⟩
end Go.Proofs.YtkokiefclmbgaaaGreatDoor

/- Load: the mathematics between the two answers. -/
namespace Go.Proofs.YtkokiefclmbgaaaGreatDoor
open Go.RowKit
set_option linter.unusedVariables false
set_option linter.unusedSimpArgs false

/-- Page p lies in the segment. -/
def cov (s : Seg) (p : Nat) : Bool := decide (s.first ≤ (p : Int) ∧ (p : Int) ≤ s.last)
theorem cov_true {s : Seg} {p : Nat} : cov s p = true ↔ s.first ≤ (p : Int) ∧ (p : Int) ≤ s.last := by simp [cov]
theorem cov_false {s : Seg} {p : Nat} : cov s p = false ↔ ¬ (s.first ≤ (p : Int) ∧ (p : Int) ≤ s.last) := by simp [cov]
theorem fit_pages {B : List Int} {s : Seg} (h : SegFit B s) : s.first = ((s.addr.toNat / 256 : Nat) : Int) ∧ s.last = ((s.addr.toNat / 256 + s.count : Nat) : Int) - 1 ∧ s.addr.toNat / 256 + s.count ≤ 254 ∧ 1 ≤ s.count := by
  have hc := count_pos h
  obtain ⟨a0, o0, i0, m1, hfm, hfit, htop⟩ := h
  unfold Seg.count Seg.last Seg.first at *
  omega
/-- No neighbours overlap: then no two do. -/
theorem noOv_strict {B : List Int} {ss : List Seg} (hf : ∀ s ∈ ss, SegFit B s) (hno : ∀ i, i + 1 < ss.length → ¬ ovAt ss i) : ∀ j i, i < j → j < ss.length → (ss.getD i seg0).last < (ss.getD j seg0).first
  | 0, i, h, _ => by omega
  | j + 1, i, h, hj => by
    have h1 : (ss.getD j seg0).last < (ss.getD (j + 1) seg0).first := by have := hno j hj; unfold ovAt at this; omega
    rcases Nat.lt_succ_iff_lt_or_eq.1 h with h2 | h2
    · have h3 := noOv_strict hf hno j i h2 (by omega)
      have hm : ss.getD j seg0 ∈ ss := by rw [List.getD, List.getElem?_eq_getElem (by omega)]; exact List.getElem_mem _
      have h4 := fit_pages (hf _ hm)
      omega
    · rw [h2]; exact h1
theorem strict_pairwise {ss : List Seg} (h : ∀ j i, i < j → j < ss.length → (ss.getD i seg0).last < (ss.getD j seg0).first) : ss.Pairwise (fun s t => s.last < t.first) := by
  rw [List.pairwise_iff_getElem]
  intro i j hi hj hij
  have := h j i hij hj
  simpa [List.getD, List.getElem?_eq_getElem hi, List.getElem?_eq_getElem hj] using this
theorem flat_congr {α β : Type} {l : List α} {f g : α → List β} (h : ∀ a ∈ l, f a = g a) : l.flatMap f = l.flatMap g := by
  induction l with
  | nil => rfl
  | cons a r ih => rw [List.flatMap_cons, List.flatMap_cons, h a List.mem_cons_self, ih (fun x hx => h x (List.mem_cons_of_mem _ hx))]
theorem flat_one {α β : Type} (l : List α) (f : α → β) : (l.flatMap fun a => [f a]) = l.map f := by
  induction l with
  | nil => rfl
  | cons a r ih => rw [List.flatMap_cons, ih]; rfl
/-- The pages in the order of their numbers are the pages of the segments in their order. -/
theorem pages_order (B : List Int) : ∀ (ss : List Seg) (lo : Nat), (∀ s ∈ ss, SegFit B s) → ss.Pairwise (fun s t => s.last < t.first) → (∀ s ∈ ss, (lo : Int) ≤ s.first) → lo ≤ 256 →
    (List.range' lo (256 - lo)).flatMap (fun p => (ss.filter (fun s => cov s p)).map (fun s => (⟨(p : Nat), s.perm, segPage B s p⟩ : Pg))) = allPgs B ss
  | [], lo, _, _, _, _ => by simp [allPgs]
  | s :: r, lo, hf, hp, hlo, h256 => by
    obtain ⟨e1, e2, e3, e4⟩ := fit_pages (hf s List.mem_cons_self)
    have hlo1 := hlo s List.mem_cons_self
    rw [List.pairwise_cons] at hp
    have ih := pages_order B r (s.addr.toNat / 256 + s.count) (fun t ht => hf t (List.mem_cons_of_mem _ ht)) hp.2 (fun t ht => by have := hp.1 t ht; omega) (by omega)
    have eall : allPgs B (s :: r) = segPgs B s s.count ++ allPgs B r := by simp [allPgs]
    unfold segPgs at eall
    generalize s.addr.toNat / 256 = f at *
    generalize s.count = n at *
    have hs1 : List.range' lo (256 - lo) = List.range' lo (f - lo) ++ (List.range' f n ++ List.range' (f + n) (256 - (f + n))) := by
      have a := List.range'_append_1 (s := f) (m := n) (n := 256 - (f + n))
      have b := List.range'_append_1 (s := lo) (m := f - lo) (n := n + (256 - (f + n)))
      rw [show lo + (f - lo) = f from by omega] at b
      rw [a, b]
      congr 1; omega
    rw [hs1, List.flatMap_append, List.flatMap_append, eall]
    have p1 : (List.range' lo (f - lo)).flatMap (fun p => ((s :: r).filter (fun s => cov s p)).map (fun s => (⟨(p : Nat), s.perm, segPage B s p⟩ : Pg))) = [] := by
      rw [List.flatMap_eq_nil_iff]
      intro p hp2
      rw [List.mem_range'_1] at hp2
      rw [List.map_eq_nil_iff, List.filter_eq_nil_iff]
      intro t ht
      rw [cov_true]
      rcases List.mem_cons.1 ht with rfl | ht
      · omega
      · have := hp.1 t ht; omega
    have p2 : (List.range' f n).flatMap (fun p => ((s :: r).filter (fun s => cov s p)).map (fun s => (⟨(p : Nat), s.perm, segPage B s p⟩ : Pg))) = (List.range n).map fun i => ⟨(f + i : Nat), s.perm, segPage B s (f + i)⟩ := by
      rw [List.range'_eq_map_range, List.flatMap_map]
      have : ∀ i ∈ List.range n, (((s :: r).filter (fun s => cov s (f + i))).map (fun s => (⟨((f + i : Nat) : Int), s.perm, segPage B s (f + i)⟩ : Pg))) = [⟨((f + i : Nat) : Int), s.perm, segPage B s (f + i)⟩] := by
        intro i hi
        rw [List.mem_range] at hi
        have c1 : cov s (f + i) = true := by rw [cov_true]; omega
        have c2 : r.filter (fun s => cov s (f + i)) = [] := by
          rw [List.filter_eq_nil_iff]
          intro t ht
          rw [cov_true]
          have := hp.1 t ht; omega
        rw [List.filter_cons, if_pos c1, c2]; rfl
      rw [flat_congr this, flat_one]
    have p3 : (List.range' (f + n) (256 - (f + n))).flatMap (fun p => ((s :: r).filter (fun s => cov s p)).map (fun s => (⟨(p : Nat), s.perm, segPage B s p⟩ : Pg))) = allPgs B r := by
      rw [← ih]
      refine flat_congr ?_
      intro p hp2
      rw [List.mem_range'_1] at hp2
      have c1 : cov s p = false := by rw [cov_false]; omega
      rw [List.filter_cons, if_neg (by rw [c1]; simp)]
    rw [p1, p2, p3, List.nil_append]
/-- Neighbours that overlap: some page lies in two segments. -/
theorem ov_two {B : List Int} {ss : List Seg} (hf : ∀ s ∈ ss, SegFit B s) (hs : Sorted ss) {i : Nat} (hi : i + 1 < ss.length) (ho : ovAt ss i) : ∃ p, p < 256 ∧ 1 < ss.countP (fun s => cov s p) := by
  have m0 : ss[i]? = some (ss.getD i seg0) := by rw [List.getD, List.getElem?_eq_getElem (by omega)]; rfl
  have m1 : ss[i + 1]? = some (ss.getD (i + 1) seg0) := by rw [List.getD, List.getElem?_eq_getElem hi]; rfl
  have f0 := fit_pages (hf _ (List.mem_of_getElem? m0))
  have f1 := fit_pages (hf _ (List.mem_of_getElem? m1))
  have h2 := hs i (i + 1) (by omega) hi
  have h3 : (ss.getD i seg0).first ≤ (ss.getD (i + 1) seg0).first := by unfold Seg.first; omega
  unfold ovAt at ho
  generalize ss.getD i seg0 = a at *
  generalize ss.getD (i + 1) seg0 = b at *
  have c0 : cov a (b.addr.toNat / 256) = true := by rw [cov_true]; omega
  have c1 : cov b (b.addr.toNat / 256) = true := by rw [cov_true]; omega
  refine ⟨b.addr.toNat / 256, by omega, ?_⟩
  have e : ss = ss.take i ++ (a :: b :: ss.drop (i + 2)) := by
    have h4 : ss.drop i = a :: ss.drop (i + 1) := by rw [List.drop_eq_getElem_cons (by omega)]; congr 1; rw [List.getElem?_eq_getElem (by omega)] at m0; exact Option.some.inj m0
    have h5 : ss.drop (i + 1) = b :: ss.drop (i + 2) := by rw [List.drop_eq_getElem_cons hi]; congr 1; rw [List.getElem?_eq_getElem hi] at m1; exact Option.some.inj m1
    rw [← h5, ← h4, List.take_append_drop]
  rw [e, List.countP_append, List.countP_cons, List.countP_cons, if_pos c0, if_pos c1]
  omega
/-- No neighbours overlap: no page lies in two. -/
theorem noOv_one {B : List Int} : ∀ {ss : List Seg}, (∀ s ∈ ss, SegFit B s) → ss.Pairwise (fun s t => s.last < t.first) → ∀ p, ss.countP (fun s => cov s p) ≤ 1
  | [], _, _, p => by simp
  | s :: r, hf, hp, p => by
    rw [List.pairwise_cons] at hp
    have ih := noOv_one (fun t ht => hf t (List.mem_cons_of_mem _ ht)) hp.2 p
    rw [List.countP_cons]
    by_cases c : cov s p = true
    · have h0 : r.countP (fun s => cov s p) = 0 := by
        rw [List.countP_eq_zero]
        intro t ht
        rw [cov_true] at c ⊢
        have := hp.1 t ht
        omega
      rw [h0]; split <;> omega
    · rw [if_neg c]; omega
end Go.Proofs.YtkokiefclmbgaaaGreatDoor

/- Load: the entry, in both answers' words. -/
namespace Go.Proofs.YtkokiefclmbgaaaGreatDoor
open Go.RowKit
set_option linter.unusedVariables false
set_option linter.unusedSimpArgs false

theorem and_one (P : Int) (h1 : 1 ≤ P) (h7 : P ≤ 7) : bits BinOp.and IntKind.u8 P 1 ≠ 0 ↔ bits BinOp.and IntKind.i64 P 1 = 1 := by
  have h : P = 1 ∨ P = 2 ∨ P = 3 ∨ P = 4 ∨ P = 5 ∨ P = 6 ∨ P = 7 := by omega
  rcases h with rfl | rfl | rfl | rfl | rfl | rfl | rfl <;> decide
theorem mem_allPgs {B : List Int} {ss : List Seg} {q : Pg} : q ∈ allPgs B ss ↔ ∃ s ∈ ss, ∃ i, i < s.count ∧ q = ⟨((s.addr.toNat / 256 + i : Nat) : Int), s.perm, segPage B s (s.addr.toNat / 256 + i)⟩ := by
  unfold allPgs segPgs
  constructor
  · intro h
    obtain ⟨s, hs, h⟩ := List.mem_flatMap.1 h
    obtain ⟨i, hi, rfl⟩ := List.mem_map.1 h
    exact ⟨s, hs, i, List.mem_range.1 hi, rfl⟩
  · rintro ⟨s, hs, i, hi, rfl⟩
    exact List.mem_flatMap.2 ⟨s, hs, List.mem_map.2 ⟨i, List.mem_range.2 hi, rfl⟩⟩
theorem entry_same {B : List Int} {ss : List Seg} (hf : ∀ s ∈ ss, SegFit B s) (hp : ∀ s ∈ ss, 1 ≤ s.perm ∧ s.perm ≤ 7) (E : Int) (h0 : 0 ≤ E) :
    entOk E ss ↔ E % 4 = 0 ∧ E < 65536 ∧ ∃ q ∈ allPgs B ss, q.num = E / 256 ∧ bits BinOp.and IntKind.i64 q.perm 1 = 1 := by
  constructor
  · rintro ⟨h1, h2, i, hi, h3, h4, h5⟩
    have hm : ss.getD i seg0 ∈ ss := by rw [List.getD, List.getElem?_eq_getElem hi]; exact List.getElem_mem _
    generalize ss.getD i seg0 = s at *
    obtain ⟨e1, e2, e3, e4⟩ := fit_pages (hf s hm)
    refine ⟨h1, by omega, _, mem_allPgs.2 ⟨s, hm, (E / 256).toNat - s.addr.toNat / 256, by omega, rfl⟩, ?_, (and_one _ (hp s hm).1 (hp s hm).2).1 h3⟩
    show ((s.addr.toNat / 256 + ((E / 256).toNat - s.addr.toNat / 256) : Nat) : Int) = E / 256
    omega
  · rintro ⟨h1, h2, q, hq, h3, h4⟩
    obtain ⟨s, hs, i, hi, rfl⟩ := mem_allPgs.1 hq
    obtain ⟨e1, e2, e3, e4⟩ := fit_pages (hf s hs)
    simp only at h3 h4
    obtain ⟨j, hj, rfl⟩ := List.mem_iff_getElem.1 hs
    refine ⟨h1, by omega, j, hj, ?_⟩
    have e : ss.getD j seg0 = ss[j] := by rw [List.getD, List.getElem?_eq_getElem hj]; rfl
    rw [e]
    exact ⟨(and_one _ (hp _ hs).1 (hp _ hs).2).2 h4, by omega, by omega⟩
theorem perms_all {B : List Int} {n : Nat} (h : ∀ i, i < n → SegOk B (64 + 56 * i)) {ss : List Seg} (hp : ss.Perm (segsUpTo B n)) : ∀ s ∈ ss, 1 ≤ s.perm ∧ s.perm ≤ 7 := by
  intro s hs
  have := hp.mem_iff.1 hs
  obtain ⟨i, hi, rfl⟩ := List.mem_map.1 this
  have hk := h i (by simpa using hi)
  exact ⟨hk.2.1.1, hk.2.1.2.1⟩
end Go.Proofs.YtkokiefclmbgaaaGreatDoor

/- Load: the document's pages as lists. -/
namespace Go.Proofs.YtkokiefclmbgaaaGreatDoor
open Go.RowKit
set_option linter.unusedVariables false
set_option linter.unusedSimpArgs false

/-- Byte t of page p lies in what the segment has in the file. -/
abbrev inSeg (s : Seg) (p t : Nat) : Prop := s.addr.toNat ≤ p * 256 + t ∧ p * 256 + t - s.addr.toNat < s.inFile.toNat
/-- Page p as one segment fills it over L, up to byte j. -/
def mixTo (B : List Int) (s : Seg) (p : Nat) (L : List Int) (j : Nat) : List Int :=
  (List.range 256).map fun t => if t < j ∧ inSeg s p t then B.getD (s.offs.toNat + (p * 256 + t - s.addr.toNat)) 0 else L.getD t 0
theorem mixTo_length (B : List Int) (s : Seg) (p : Nat) (L : List Int) (j : Nat) : (mixTo B s p L j).length = 256 := by simp [mixTo]
theorem mixTo_zero (B : List Int) (s : Seg) (p : Nat) (L : List Int) (h : L.length = 256) : mixTo B s p L 0 = L := by
  apply List.ext_getElem?
  intro j
  by_cases hj : j < 256
  · rw [mixTo, List.getElem?_map, List.getElem?_range hj]
    simp [List.getD, List.getElem?_eq_getElem (show j < L.length by omega)]
  · rw [List.getElem?_eq_none (by rw [mixTo_length]; omega), List.getElem?_eq_none (by omega)]
theorem mixTo_full (B : List Int) (s : Seg) (p : Nat) : mixTo B s p zero256 256 = segPage B s p := by
  apply List.ext_getElem?
  intro j
  by_cases hj : j < 256
  · rw [mixTo, segPage, List.getElem?_map, List.getElem?_map, List.getElem?_range hj]
    have hz : zero256.getD j 0 = 0 := by rw [List.getD, zero256_get, if_pos hj]; rfl
    simp only [Option.map_some]
    rw [hz]
    unfold segByte inSeg
    by_cases h : s.addr.toNat ≤ p * 256 + j ∧ p * 256 + j - s.addr.toNat < s.inFile.toNat
    · rw [if_pos ⟨hj, h⟩, if_pos h]
    · rw [if_neg (fun x => h x.2), if_neg h]
  · rw [List.getElem?_eq_none (by rw [mixTo_length]; omega), List.getElem?_eq_none (by rw [segPage_length]; omega)]
theorem mixTo_in {B : List Int} {s : Seg} {p : Nat} {L : List Int} {j : Nat} (h : inSeg s p j) (hj : j < 256) : (mixTo B s p L j).set j (B.getD (s.offs.toNat + (p * 256 + j - s.addr.toNat)) 0) = mixTo B s p L (j + 1) := by
  apply List.ext_getElem?
  intro t
  rw [List.getElem?_set, mixTo_length]
  by_cases ht : t < 256
  · by_cases e : j = t
    · subst e
      rw [if_pos rfl, if_pos hj, mixTo, List.getElem?_map, List.getElem?_range hj, Option.map_some, if_pos ⟨by omega, h⟩]
    · rw [if_neg e, mixTo, mixTo, List.getElem?_map, List.getElem?_map, List.getElem?_range ht, Option.map_some, Option.map_some]
      congr 1
      by_cases h2 : t < j ∧ inSeg s p t
      · rw [if_pos h2, if_pos ⟨by omega, h2.2⟩]
      · rw [if_neg h2, if_neg (fun x => h2 ⟨by omega, x.2⟩)]
  · rw [if_neg (by omega), List.getElem?_eq_none (by rw [mixTo_length]; omega), List.getElem?_eq_none (by rw [mixTo_length]; omega)]
theorem mixTo_out {B : List Int} {s : Seg} {p : Nat} {L : List Int} {j : Nat} (h : ¬ inSeg s p j) : mixTo B s p L j = mixTo B s p L (j + 1) := by
  unfold mixTo
  refine List.map_congr_left ?_
  intro t _
  by_cases h2 : t < j ∧ inSeg s p t
  · rw [if_pos h2, if_pos ⟨by omega, h2.2⟩]
  · rw [if_neg h2, if_neg]
    rintro ⟨x, y⟩
    rcases Nat.lt_succ_iff_lt_or_eq.1 x with x | x
    · exact h2 ⟨x, y⟩
    · subst x; exact h y

/-- The pages of the document's answer up to number n. -/
def refPgs (B : List Int) (ss : List Seg) (n : Nat) : List Pg := (List.range n).flatMap fun p => (ss.filter (fun s => cov s p)).map (fun s => (⟨(p : Nat), s.perm, segPage B s p⟩ : Pg))
def refRow (PS : List Pg) : List Value := PS.flatMap fun p => refPage p.num p.perm p.bytes
theorem refPgs_succ (B : List Int) (ss : List Seg) (n : Nat) : refPgs B ss (n + 1) = refPgs B ss n ++ (ss.filter (fun s => cov s n)).map (fun s => (⟨(n : Nat), s.perm, segPage B s n⟩ : Pg)) := by
  unfold refPgs
  rw [List.range_succ, List.flatMap_append]; simp
theorem refPgs_bytes (B : List Int) (ss : List Seg) (n : Nat) : ∀ q ∈ refPgs B ss n, q.bytes.length = 256 := by
  intro q hq
  obtain ⟨p, _, hq⟩ := List.mem_flatMap.1 hq
  obtain ⟨s, _, rfl⟩ := List.mem_map.1 hq
  exact segPage_length _ _ _
theorem refRow_append (a b : List Pg) : refRow (a ++ b) = refRow a ++ refRow b := by simp [refRow]
theorem refRow_one (q : Pg) : refRow [q] = refPage q.num q.perm q.bytes := by simp [refRow]
/-- What the page at hand is, when the segments before it were gone through. -/
def PgState (B : List Int) (ss : List Seg) (p : Nat) (perm : Int) (L : List Int) : Prop :=
  L.length = 256 ∧ (ss.filter (fun s => cov s p) = [] → perm = 0 ∧ L = zero256) ∧ (∀ s, ss.filter (fun s => cov s p) = [s] → perm = s.perm ∧ L = segPage B s p)
theorem pgState_nil (B : List Int) (p : Nat) : PgState B [] p 0 zero256 := ⟨zero256_length, fun _ => ⟨rfl, rfl⟩, fun s h => by simp at h⟩
theorem pgState_out {B : List Int} {ss : List Seg} {p : Nat} {perm : Int} {L : List Int} {s : Seg} (h : PgState B ss p perm L) (hc : cov s p = false) : PgState B (ss ++ [s]) p perm L := by
  have e : (ss ++ [s]).filter (fun s => cov s p) = ss.filter (fun s => cov s p) := by simp [List.filter_append, hc]
  unfold PgState
  rw [e]; exact h
theorem pgState_in {B : List Int} {ss : List Seg} {p : Nat} {perm : Int} {L : List Int} {s : Seg} (h : PgState B ss p perm L) (hc : cov s p = true) : PgState B (ss ++ [s]) p s.perm (mixTo B s p L 256) := by
  have e : (ss ++ [s]).filter (fun s => cov s p) = ss.filter (fun s => cov s p) ++ [s] := by simp [List.filter_append, hc]
  refine ⟨mixTo_length _ _ _ _ _, fun h2 => by rw [e] at h2; simp at h2, fun t ht => ?_⟩
  rw [e] at ht
  have e2 : ss.filter (fun s => cov s p) = [] := by
    cases hx : ss.filter (fun s => cov s p) with
    | nil => rfl
    | cons a r => rw [hx] at ht; simp at ht
  rw [e2] at ht
  have : s = t := by simpa using ht
  subst this
  rw [(h.2.1 e2).2]
  exact ⟨rfl, mixTo_full _ _ _⟩
theorem countP_snoc (ss : List Seg) (s : Seg) (p : Nat) : (ss ++ [s]).countP (fun s => cov s p) = ss.countP (fun s => cov s p) + (if cov s p = true then 1 else 0) := by simp [List.countP_append, List.countP_cons]
theorem filter_none {ss : List Seg} {p : Nat} (h : ss.countP (fun s => cov s p) = 0) : ss.filter (fun s => cov s p) = [] := by
  rw [List.countP_eq_length_filter] at h
  exact List.eq_nil_of_length_eq_zero h
theorem filter_one {ss : List Seg} {p : Nat} (h : ss.countP (fun s => cov s p) = 1) : ∃ s, ss.filter (fun s => cov s p) = [s] := by
  rw [List.countP_eq_length_filter] at h
  exact List.length_eq_one_iff.1 h
/-- The document's pages are the program's. -/
theorem refPgs_all {B : List Int} {ss fs : List Seg} (hp : ss.Perm fs) (hf : ∀ s ∈ ss, SegFit B s) (hno : ∀ i, i + 1 < ss.length → ¬ ovAt ss i) : refPgs B fs 256 = allPgs B ss := by
  have hst := strict_pairwise (noOv_strict hf hno)
  rw [← pages_order B ss 0 hf hst (fun s hs => by have := fit_pages (hf s hs); omega) (by omega)]
  unfold refPgs
  rw [List.range_eq_range']
  refine flat_congr ?_
  intro p _
  have h1 := noOv_one hf hst p
  have h2 : (ss.filter (fun s => cov s p)).Perm (fs.filter (fun s => cov s p)) := hp.filter _
  rw [List.countP_eq_length_filter] at h1
  have h3 : fs.filter (fun s => cov s p) = ss.filter (fun s => cov s p) := by
    cases hx : ss.filter (fun s => cov s p) with
    | nil => rw [hx] at h2; exact h2.nil_eq.symm
    | cons a r =>
      rw [hx] at h1 h2
      have hr : r = [] := by simpa using h1
      subst hr
      exact List.perm_singleton.1 h2.symm
  rw [h3]
/-- An overlap in the one answer is one in the other. -/
theorem ov_same {B : List Int} {ss fs : List Seg} (hp : ss.Perm fs) (hf : ∀ s ∈ ss, SegFit B s) (hs : Sorted ss) :
    (∃ i, i + 1 < ss.length ∧ ovAt ss i) ↔ ∃ p, p < 256 ∧ 1 < fs.countP (fun s => cov s p) := by
  constructor
  · rintro ⟨i, hi, ho⟩
    obtain ⟨p, h1, h2⟩ := ov_two hf hs hi ho
    exact ⟨p, h1, by rw [← hp.countP_eq]; exact h2⟩
  · rintro ⟨p, h1, h2⟩
    apply Classical.byContradiction
    intro hn
    have hno : ∀ i, i + 1 < ss.length → ¬ ovAt ss i := fun i hi ho => hn ⟨i, hi, ho⟩
    have := noOv_one hf (strict_pairwise (noOv_strict hf hno)) p
    rw [hp.countP_eq] at this
    omega
end Go.Proofs.YtkokiefclmbgaaaGreatDoor

/- Laws for one operation of a region that draws its order. -/
namespace Go.Proofs.YtkokiefclmbgaaaGreatDoor
open Go Go.RowKit
set_option linter.unusedVariables false
set_option linter.unusedSimpArgs false

theorem step_slice1 {P : Program} {ops : Array Oper} {o : Oper} {a : Act} {w : World} {K : Act → World → Prop} {Q : Exit → Act → World → Prop} {E : Prop} (hgd : o.guard = none) (t e : TypeId) (x : Operand) (ho : o.op = .buildSlice t 1 #[(0, x)])
    (cs : List Value) (hx : a.eval x = .agg cs.toArray) (ie : TypeInfo) (z : Value) (hu : P.underlying t = some (.slice e)) (hie : P.info? e = some ie) (hz : ie.zero = some z) (hs : ie.size = cs.length) (h0 : 0 < cs.length) (h24 : cs.length ≤ 2 ^ 24) (H : Nat) (hH : w.heap.size = H) (d : Option Tmp) (hd : o.dst = d)
    (h : K (a.put d (.slice (some ⟨H, 0, none⟩) 1 1)) (w.alloc (.cells cs.toArray e))) : if Region.wanted o (yielded ops a.tmps) = true then Oper.wp P o a w K Q else E := by
  have hw : Region.wanted o (yielded ops a.tmps) = true := by simp [Region.wanted, hgd]
  rw [if_pos hw]
  subst hH hd
  refine wp_buildSlice t e 1 #[(0, x)] ho cs.toArray ie z hu hie hz (by rw [hs]; omega) (by rw [hs]; omega) ?_ h
  have := Great.fill_whole (s := ie.size) (by rw [hs]; exact h0) [.agg cs.toArray] ((Array.range (1 * ie.size)).map (z.cells[· % z.cells.size]!)) (by simp [Value.cells, hs]) (by simp)
  simpa [hx, Value.cells] using this

theorem step_cell {P : Program} {ops : Array Oper} {o : Oper} {a : Act} {w : World} {K : Act → World → Prop} {Q : Exit → Act → World → Prop} {E : Prop} (hgd : o.guard = none) (ty : TypeId) (x : Operand) (ho : o.op = .load ty x) (ad : Addr) (hx : a.eval x = .pointer (some ad)) (v : Value) (hrun : (Instr.loadAt ty (.pointer (some ad))).run P w = .ok v w) (d : Option Tmp) (hd : o.dst = d) (h : K (a.put d v) w) :
    if Region.wanted o (yielded ops a.tmps) = true then Oper.wp P o a w K Q else E := by
  have hw : Region.wanted o (yielded ops a.tmps) = true := by simp [Region.wanted, hgd]
  rw [if_pos hw]
  subst hd
  unfold Oper.wp execOp
  simp only [ho, hx, Sem.run_bind, hrun, Result.andThen_ok, Sem.run_pure]
  exact h
theorem rangeAt_fresh (W : World) (b o : Nat) (cs : List Value) (x : Obj) (h : W.rangeAt b o cs) : (W.alloc x).rangeAt b o cs := World.rangeAt_alloc h x
theorem rangeAt_grown {W W' : World} {row : Option Nat} {b o : Nat} {cs : List Value} (h : W.rangeAt b o cs) (hg : W.grownBy W' row) (hne : some b ≠ row) : W'.rangeAt b o cs := fun j v hj => hg.cell (h j v hj) hne
theorem step_store1 {P : Program} {ops : Array Oper} {o : Oper} {a : Act} {w w' : World} {K : Act → World → Prop} {Q : Exit → Act → World → Prop} {E : Prop} (hgd : o.guard = none) (ty : TypeId) (x y : Operand) (ho : o.op = .store ty x y) (ad : Addr) (v : Value) (hx : a.eval x = .pointer (some ad)) (hy : a.eval y = v) (hrun : (Instr.storeAt ty (.pointer (some ad)) v).run P w = .ok () w') (hd : o.dst = none) (h : K a w') :
    if Region.wanted o (yielded ops a.tmps) = true then Oper.wp P o a w K Q else E := by
  have hw : Region.wanted o (yielded ops a.tmps) = true := by simp [Region.wanted, hgd]
  rw [if_pos hw]
  unfold Oper.wp execOp
  simp only [ho, hx, hy, Sem.run_bind, hrun, Result.andThen_ok, Sem.run_pure]
  rw [Oper.upon_skip, hd]
  exact h
theorem act_gen {P : Program} {C : Code} {Q : Exit → Act → World → Prop} {a : Act} {w : World} (h : ∀ A : Act, A = a → Code.wp P C Q A w) : Code.wp P C Q a w := h a rfl
theorem yields_move {P : Program} {ops : Array Oper} {S : World → Prop} {o : Oper} {A : Act} (hg : o.guard = none) (x : Operand) (ho : o.op = .move x) (v : Value) (h : A.eval x = v) : YieldsIf P ops S o v A :=
  .inl ⟨by simp [Region.wanted, hg], fun w _ => by simp only [execOp, ho, h]; rfl⟩
theorem yields_nil {P : Program} {ops : Array Oper} {S : World → Prop} {o : Oper} {A : Act} (hg : o.guard = none) (x : Operand) (ho : o.op = .nilCheck x) (ad : Addr) (h : A.eval x = .pointer (some ad)) : YieldsIf P ops S o (.pointer (some ad)) A :=
  .inl ⟨by simp [Region.wanted, hg], fun w _ => by simp only [execOp, ho, h]; rfl⟩
theorem yields_procs {ops : Array Oper} {S : World → Prop} {o : Oper} {A : Act} (hg : o.guard = none) (x : Operand) (ho : o.op = .fieldAddr 71 x 1) (b : Nat) (h : A.eval x = .pointer (some ⟨b, 0, none⟩)) : YieldsIf Tryz.prog ops S o (.pointer (some ⟨b, 5, none⟩)) A :=
  .inl ⟨by simp [Region.wanted, hg], fun w _ => by simp only [execOp, ho, h]; go_simp⟩
theorem takeH {P : Program} {ops : Array Oper} {Q : Exit → Act → World → Prop} {md : Region.Mode} {S : World → Prop} {i : Nat} {oi : Oper} {v : Value} {fuel : Nat} {listed : Array Bool} {a : Act} {w : World} (d : Option Tmp) (hi : ops[i]? = some oi) (hd : oi.dst = d)
    (hs : Region.noSelect ops = true) (hf : Region.free md ops listed i = true) (hr : (Region.ready md ops listed).contains i = true)
    (hQ : ∀ c a w, Q (.panic c) (a.put d v) w → Q (.panic c) a w) (hy : YieldsIf P ops S oi v a) (hS : S w)
    (h : wpAnyH P md ops Q S fuel (listed.setIfInBounds i true) (a.put d v) w) : wpAnyH P md ops Q S (fuel + 1) listed a w := by
  subst hd
  exact wpAnyH_take hi hs hf hr hQ hy hS h
theorem put_same {A : Act} {d : Nat} {v : Value} (h : d < A.tmps.size) : (A.put (some d) v).eval (.tmp d) = v := by simp [Act.put, Act.eval, h]
theorem put_other {A : Act} {d e : Nat} {v : Value} (h : d ≠ e) : (A.put (some d) v).eval (.tmp e) = A.eval (.tmp e) := by simp [Act.put, Act.eval, Array.getElem?_setIfInBounds_ne h]
theorem put_size {A : Act} {d : Option Nat} {v : Value} : (A.put d v).tmps.size = A.tmps.size := by cases d <;> simp [Act.put]
theorem put_eval {A : Act} {d e : Nat} {v : Value} : (A.put (some d) v).eval (.tmp e) = if d = e ∧ d < A.tmps.size then v else A.eval (.tmp e) := by
  by_cases h : d = e
  · subst h
    by_cases hs : d < A.tmps.size
    · rw [if_pos ⟨rfl, hs⟩]; exact put_same hs
    · rw [if_neg (fun h => hs h.2)]; simp [Act.put, Act.eval, hs]
  · rw [if_neg (fun x => h x.1)]; exact put_other h
theorem yields_run {P : Program} {ops : Array Oper} {S : World → Prop} {o : Oper} {A : Act} (hg : o.guard = none) {v : Value} (hrun : ∀ w', S w' → (execOp A.eval o).run P w' = .ok (.value v) w') : YieldsIf P ops S o v A :=
  .inl ⟨by simp [Region.wanted, hg], hrun⟩
theorem yields_load1 {P : Program} {ops : Array Oper} {S : World → Prop} {o : Oper} {A : Act} (hg : o.guard = none) (ty : TypeId) (x : Operand) (ho : o.op = .load ty x) (ad : Addr) (hx : A.eval x = .pointer (some ad)) (v : Value) (hrun : ∀ w', S w' → (Instr.loadAt ty (.pointer (some ad))).run P w' = .ok v w') : YieldsIf P ops S o v A :=
  yields_run hg fun w' hS => by simp only [execOp, ho, hx, Sem.run_bind, hrun w' hS, Result.andThen_ok, Sem.run_pure]
theorem yields_index {P : Program} {ops : Array Oper} {S : World → Prop} {o : Oper} {A : Act} (hg : o.guard = none) (t : TypeId) (x y : Operand) (ho : o.op = .indexAddr t x y) (vx vy : Value) (hx : A.eval x = vx) (hy : A.eval y = vy) (v : Value) (hrun : ∀ w', (Instr.indexAt t vx vy).run P w' = .ok v w') : YieldsIf P ops S o v A :=
  yields_run hg fun w' hS => by simp only [execOp, ho, hx, hy, Sem.run_bind, hrun w', Result.andThen_ok, Sem.run_pure]
theorem yields_field {P : Program} {ops : Array Oper} {S : World → Prop} {o : Oper} {A : Act} (hg : o.guard = none) (s : TypeId) (x : Operand) (f : Nat) (ho : o.op = .fieldAddr s x f) (vx : Value) (hx : A.eval x = vx) (v : Value) (hrun : ∀ w', (Instr.fieldAt s vx f).run P w' = .ok v w') : YieldsIf P ops S o v A :=
  yields_run hg fun w' hS => by simp only [execOp, ho, hx, Sem.run_bind, hrun w', Result.andThen_ok, Sem.run_pure]
theorem step_call2 {P : Program} {ops : Array Oper} {o : Oper} {a : Act} {w : World} {K : Act → World → Prop} {Q : Exit → Act → World → Prop} {E : Prop} (hgd : o.guard = none) (f n1 n2 : Nat) (t1 t2 : TypeId)
    (ho : o.op = .call { callee := .value (.func f), args := #[.tmp n1, .tmp n2], argTypes := #[t1, t2] }) (v1 v2 : Value) (h1 : a.eval (.tmp n1) = v1) (h2 : a.eval (.tmp n2) = v2)
    (he : ∀ args w, (callFunc f args).run P w = .ok (.enter f args) w) (post : Ending → World → Prop) (r : Value) (hp : ∀ e w', post e w' → e = .returned r) (hc : Calls P f #[v1, v2] w post) (d : Option Tmp) (hd : o.dst = d)
    (h : ∀ w', post (.returned r) w' → K (a.put d r) w') :
    if Region.wanted o (yielded ops a.tmps) = true then Oper.wp P o a w K Q else E := by
  have hw : Region.wanted o (yielded ops a.tmps) = true := by simp [Region.wanted, hgd]
  have h1' : a.tmps[n1]?.getD undef = v1 := by rw [← h1]; simp [go_sem]
  have h2' : a.tmps[n2]?.getD undef = v2 := by rw [← h2]; simp [go_sem]
  rw [if_pos hw]
  subst hd
  unfold Oper.wp
  simp [execOp, ho, resolve, invoke, h1', h2', Result.andThen, go_sem, he]
  refine hc.mono ?_
  intro e w' hpe
  obtain rfl := hp e w' hpe
  have := h w' hpe
  simpa [go_sem] using this

theorem step_call3 {P : Program} {ops : Array Oper} {o : Oper} {a : Act} {w : World} {K : Act → World → Prop} {Q : Exit → Act → World → Prop} {E : Prop} (hgd : o.guard = none) (f n1 n2 n3 : Nat) (t1 t2 t3 : TypeId)
    (ho : o.op = .call { callee := .value (.func f), args := #[.tmp n1, .tmp n2, .tmp n3], argTypes := #[t1, t2, t3] }) (v1 v2 v3 : Value) (h1 : a.eval (.tmp n1) = v1) (h2 : a.eval (.tmp n2) = v2) (h3 : a.eval (.tmp n3) = v3)
    (he : ∀ args w, (callFunc f args).run P w = .ok (.enter f args) w) (post : Ending → World → Prop) (r : Value) (hp : ∀ e w', post e w' → e = .returned r) (hc : Calls P f #[v1, v2, v3] w post) (d : Option Tmp) (hd : o.dst = d)
    (h : ∀ w', post (.returned r) w' → K (a.put d r) w') :
    if Region.wanted o (yielded ops a.tmps) = true then Oper.wp P o a w K Q else E := by
  have hw : Region.wanted o (yielded ops a.tmps) = true := by simp [Region.wanted, hgd]
  have h1' : a.tmps[n1]?.getD undef = v1 := by rw [← h1]; simp [go_sem]
  have h2' : a.tmps[n2]?.getD undef = v2 := by rw [← h2]; simp [go_sem]
  have h3' : a.tmps[n3]?.getD undef = v3 := by rw [← h3]; simp [go_sem]
  rw [if_pos hw]
  subst hd
  unfold Oper.wp
  simp [execOp, ho, resolve, invoke, h1', h2', h3', Result.andThen, go_sem, he]
  refine hc.mono ?_
  intro e w' hpe
  obtain rfl := hp e w' hpe
  have := h w' hpe
  simpa [go_sem] using this
theorem wanted_at {ops : Array Oper} {o : Oper} {A : Act} {j d : Nat} {b q : Bool} (hg : o.guard = some (j, b)) (hj : (ops[j]?).bind (·.dst) = some d) (hd : d < A.tmps.size) (hv : A.eval (.tmp d) = .bool q) : Region.wanted o (yielded ops A.tmps) = (q == b) := by
  have h1 : A.tmps[d]? = some (.bool q) := by
    have : A.tmps.getD d undef = .bool q := hv
    rw [Array.getD_eq_getD_getElem?, Array.getElem?_eq_getElem hd] at this
    rw [Array.getElem?_eq_getElem hd]
    exact congrArg some this
  have h2 : yielded ops A.tmps j = some q := by
    unfold yielded
    rw [hj]
    simp only [Option.bind_some, h1]
  unfold Region.wanted
  rw [hg]
  show (yielded ops A.tmps j == some b) = (q == b)
  rw [h2]
  cases q <;> cases b <;> rfl
theorem yields_pick {P : Program} {ops : Array Oper} {S : World → Prop} {o : Oper} {A : Act} (hg : o.guard = none) (c x y : Operand) (ho : o.op = .pick c x y) (b : Bool) (v : Value) (hc : A.eval c = .bool b) (h : (if b = true then A.eval x else A.eval y) = v) : YieldsIf P ops S o v A :=
  .inl ⟨by simp [Region.wanted, hg], fun w _ => by
    simp only [execOp, ho, hc]
    cases b with
    | true => rw [if_pos rfl] at h; rw [← h]; rfl
    | false => rw [if_neg (by decide)] at h; rw [← h]; rfl⟩
theorem yields_on {P : Program} {ops : Array Oper} {S : World → Prop} {o : Oper} {A : Act} {v : Value} (j d : Nat) (hg : o.guard = some (j, true)) (hj : (ops[j]?).bind (·.dst) = some d) (hd : d < A.tmps.size) (hv : A.eval (.tmp d) = .bool true) (h : YieldsIf P ops S { o with guard := none } v A) : YieldsIf P ops S o v A := by
  rcases h with ⟨_, h⟩ | ⟨h, _⟩
  · exact .inl ⟨wanted_at hg hj hd hv, h⟩
  · exact absurd h (by simp [Region.wanted])
theorem yields_off {P : Program} {ops : Array Oper} {S : World → Prop} {o : Oper} {A : Act} (j d : Nat) (hg : o.guard = some (j, true)) (hj : (ops[j]?).bind (·.dst) = some d) (hd : d < A.tmps.size) (hv : A.eval (.tmp d) = .bool false) : YieldsIf P ops S o undef A :=
  .inr ⟨wanted_at hg hj hd hv, rfl⟩
theorem yields_bin {P : Program} {ops : Array Oper} {S : World → Prop} {o : Oper} {A : Act} (hg : o.guard = none) (op : BinOp) (t t2 : TypeId) (x y : Operand) (ho : o.op = .binOp op t x y t2) (vx vy : Value) (hx : A.eval x = vx) (hy : A.eval y = vy) (v : Value) (hrun : ∀ w', ((do eqGuard op t x y vx vy; binOp op t vx vy : Sem Value)).run P w' = .ok v w') : YieldsIf P ops S o v A :=
  yields_run hg fun w' hS => by
    have := hrun w'
    simp only [execOp, ho, hx, hy]
    simp only [Sem.run_bind] at this ⊢
    rw [this]
    rfl
theorem yields_assign {P : Program} {ops : Array Oper} {S : World → Prop} {o : Oper} {A : Act} (hg : o.guard = none) (x : Operand) (ho : o.op = .assign x) (v : Value) (h : A.eval x = v) : YieldsIf P ops S o v A :=
  .inl ⟨by simp [Region.wanted, hg], fun w _ => by simp only [execOp, ho, h]; rfl⟩
theorem yields_conv {P : Program} {ops : Array Oper} {S : World → Prop} {o : Oper} {A : Act} (hg : o.guard = none) (t u : TypeId) (x : Operand) (ho : o.op = .convert t u x) (vx : Value) (hx : A.eval x = vx) (v : Value) (hrun : ∀ w', (convert t u vx).run P w' = .ok v w') : YieldsIf P ops S o v A :=
  yields_run hg fun w' hS => by simp only [execOp, ho, hx, Sem.run_bind, hrun w', Result.andThen_ok, Sem.run_pure]
theorem wpAnyH_gen {P : Program} {md : Region.Mode} {ops : Array Oper} {Q : Exit → Act → World → Prop} {S : World → Prop} {fuel : Nat} {listed : Array Bool} {a : Act} {w : World} (h : ∀ A : Act, A = a → wpAnyH P md ops Q S fuel listed A w) : wpAnyH P md ops Q S fuel listed a w := h a rfl
theorem yields_slice {P : Program} {ops : Array Oper} {S : World → Prop} {o : Oper} {A : Act} (hg : o.guard = none) (t : TypeId) (x y : Operand) (ho : o.op = .slice t x none (some y) none) (vx vy : Value) (hx : A.eval x = vx) (hy : A.eval y = vy) (v : Value) (hrun : ∀ w', (Instr.sliceAt t vx none (some vy) none).run P w' = .ok v w') : YieldsIf P ops S o v A :=
  yields_run hg fun w' hS => by simp only [execOp, ho, hx, hy, Option.map_none, Option.map_some, Sem.run_bind, hrun w', Result.andThen_ok, Sem.run_pure]
theorem eval_const {A : Act} (v : Value) : A.eval (.const v) = v := rfl
/-- A call with any arguments. -/
theorem step_calls {P : Program} {ops : Array Oper} {o : Oper} {a : Act} {w : World} {K : Act → World → Prop} {Q : Exit → Act → World → Prop} {E : Prop} (hgd : o.guard = none) (f : Nat) (args : Array Operand) (ts : Array TypeId)
    (ho : o.op = .call { callee := .value (.func f), args := args, argTypes := ts }) (vs : Array Value) (hv : args.map a.eval = vs)
    (he : ∀ args w, (callFunc f args).run P w = .ok (.enter f args) w) (post : Ending → World → Prop) (hp : ∀ e w', post e w' → ∃ r, e = .returned r) (hc : Calls P f vs w post) (d : Option Tmp) (hd : o.dst = d)
    (h : ∀ r w', post (.returned r) w' → K (a.put d r) w') :
    if Region.wanted o (yielded ops a.tmps) = true then Oper.wp P o a w K Q else E := by
  have hw : Region.wanted o (yielded ops a.tmps) = true := by simp [Region.wanted, hgd]
  rw [if_pos hw]
  subst hd
  unfold Oper.wp
  simp [execOp, ho, resolve, invoke, hv, Result.andThen, go_sem, he]
  refine hc.mono ?_
  intro e w' hpe
  obtain ⟨r, rfl⟩ := hp e w' hpe
  have := h r w' hpe
  simpa [go_sem] using this
end Go.Proofs.YtkokiefclmbgaaaGreatDoor

/- The program's Count of an address space. -/
namespace Go.Proofs.YtkokiefclmbgaaaGreatDoor
open Go Go.RowKit
set_option linter.unusedVariables false
set_option linter.unusedSimpArgs false

theorem permAt_found {PS : List Pg} (h : PgsOk PS) (j : Nat) : permAt PS j = 0 ∧ PS.find? (fun p => p.num == (j : Int)) = none ∨ 1 ≤ permAt PS j ∧ ∃ p, p ∈ PS ∧ PS.find? (fun p => p.num == (j : Int)) = some p ∧ permAt PS j = p.perm := by
  unfold permAt
  cases hf : PS.find? (fun p => p.num == (j : Int)) with
  | none => exact .inl ⟨rfl, rfl⟩
  | some p => exact .inr ⟨(h.each p (List.mem_of_find?_eq_some hf)).2.2.1, p, List.mem_of_find?_eq_some hf, rfl, rfl⟩
set_option maxRecDepth 100000 in
set_option maxHeartbeats 1000000 in
theorem count_any (pb so : Nat) (PS : List Pg) (w : World) (hok : PgsOk PS) (hc : ∀ j : Nat, j < 256 → w.cell? ⟨pb, so + j * 257, none⟩ = some (.int .u8 (permAt PS j))) :
    Calls Tryz.prog 71 #[.pointer (some ⟨pb, so, none⟩)] w fun e w' => e = .returned (.int .i64 (PS.length : Nat)) ∧ w' = w := by
  have HC := hide hc
  have HOK := hide hok
  clear hc hok
  go_enter Tryz.func71, Tryz.ntmps71
  go_wp2
  go_loopw [3, 5] (fun c i wr => ∃ j : Nat, j ≤ 256 ∧ i = .int .i64 j ∧ c = .int .i64 ((pgsTo PS j).length : Nat) ∧ wr = w) (fun _ i _ => 256 - (intOf i).toNat)
  case atStart => exact ⟨0, by omega, rfl, rfl, rfl⟩
  case round =>
    obtain ⟨j, hj, rfl, rfl, rfl⟩ := hrel
    by_cases hlt : j < 256
    · have hcell := unhide HC j hlt
      have hj0 : (0 : Int) ≤ (j : Int) := by omega
      have hj1 : (j : Int) < 256 := by omega
      have hl := pgsTo_len PS j
      have hs := pgsTo_succ PS j
      obtain ⟨n, hn⟩ : ∃ n, n = (pgsTo PS j).length := ⟨_, rfl⟩
      obtain ⟨v, hv⟩ : ∃ v, v = permAt PS j := ⟨_, rfl⟩
      rw [← hn] at hl ⊢
      rw [← hv] at hcell
      have hn2 : (n : Int) ≤ 256 := by omega
      rcases permAt_found (unhide HOK) j with ⟨h1, h2⟩ | ⟨h1, p, _, h2, _⟩
      · have HE := hide (show (pgsTo PS (j + 1)).length = n by rw [hs, h2, hn]; simp)
        have k0 : v = 0 := by omega
        subst k0
        clear hs hn hv h1 h2 hl
        go_wp2
        exact ⟨⟨j + 1, by omega, by simp, by rw [unhide HE], trivial⟩, by simp only [intOf]; omega⟩
      · have HE := hide (show (pgsTo PS (j + 1)).length = n + 1 by rw [hs, h2, hn]; simp)
        have k0 : (v == 0) = false := by simp; omega
        clear hs hn h1 h2 hl
        clear hv
        go_wp2
        exact ⟨⟨j + 1, by omega, by simp, by rw [unhide HE]; simp, trivial⟩, by simp only [intOf]; omega⟩
    · have : j = 256 := by omega
      subst this
      rw [pgsTo_all (unhide HOK)]
      go_wp2
      go_ret
      exact ⟨rfl, rfl⟩
end Go.Proofs.YtkokiefclmbgaaaGreatDoor

/- Great structs of the program: what is built, laid, loaded. -/
namespace Go.Proofs.YtkokiefclmbgaaaGreatDoor
open Go Go.RowKit
set_option linter.unusedVariables false
set_option linter.unusedSimpArgs false

theorem splice_cons {α : Type} (L : List α) (o : Nat) (v : α) (r : List α) (h : o + (r.length + 1) ≤ L.length) : splice (L.set o v) (o + 1) r = splice L o (v :: r) := by
  have a := splice_set L o [v] 0 v rfl (by simp; omega)
  simp only [List.take_zero, splice_nil, Nat.add_zero, Nat.zero_add] at a
  rw [a, show (List.take 1 [v]) = [v] from rfl]
  exact splice_splice L o [v] r (by simp; omega)
theorem fold_splice (off : Nat) : ∀ (vs : List Value) (k : Nat) (L : List Value), off + k + vs.length ≤ L.length → (vs.zipIdx k).foldl (fun cs (x : Value × Nat) => cs.setIfInBounds (off + x.2) x.1) L.toArray = (splice L (off + k) vs).toArray
  | [], k, L, _ => by rw [splice_nil]; rfl
  | v :: r, k, L, h => by
    have h' : off + k + (r.length + 1) ≤ L.length := h
    rw [List.zipIdx_cons, List.foldl_cons]
    show (r.zipIdx (k + 1)).foldl _ (L.toArray.setIfInBounds (off + k) v) = _
    rw [List.setIfInBounds_toArray, fold_splice off r (k + 1) (L.set (off + k) v) (by rw [List.length_set]; omega), ← Nat.add_assoc, splice_cons L (off + k) v r h']
/-- One part more of a struct that is built. -/
theorem fill_part (place : Nat → Option (Nat × Nat)) (L : List Value) (i off size : Nat) (v : Value) (rest : List (Nat × Value)) (hp : place i = some (off, size)) (hs : v.cells.size = size) (hle : off + size ≤ L.length) :
    Instr.fill place L.toArray ((i, v) :: rest) = Instr.fill place (splice L off v.cells.toList).toArray rest := by
  rw [Instr.fill]
  simp only [hp]
  rw [if_neg (by simp [hs]; omega)]
  congr 1
  have h := fold_splice off v.cells.toList 0 L (by rw [Array.length_toList, hs]; omega)
  rw [Nat.add_zero] at h
  rw [← h, ← Array.foldl_toList, Array.toList_zipIdx]
theorem page_fields (w : World) : ((#[{ name := "perm", type := 84, offset := 0, embedded := false, tag := "", pkgPath := "tinyos/mem", byteOffset := 0 }, { name := "bytes", type := 85, offset := 1, embedded := false, tag := "", pkgPath := "tinyos/mem", byteOffset := 1 }] : Array Field).mapM fun f => (do pure (f.offset, ← sizeOf f.type) : Sem (Nat × Nat))).run Tryz.prog w = .ok #[(0, 1), (1, 256)] w := by kernel_rfl
theorem page_built (perm : Int) (bytes : List Int) (hb : bytes.length = 256) (w : World) : (Instr.build 173 #[(0, .int .u8 perm), (1, .agg (bytesRow bytes).toArray)]).run Tryz.prog w = .ok (.agg (pageCells ⟨0, perm, bytes⟩).toArray) w := by
  have hzv := Tryz.zeroValue173 w
  have hl : Tryz.zeroCells173.toList.length = 257 := by rw [Array.length_toList]; exact Tryz.zeroCells173_size
  generalize Tryz.zeroCells173 = ZA at hzv hl
  obtain ⟨Z⟩ := ZA
  have hl : Z.length = 257 := hl
  have hff : Instr.fill (fun i => (#[(0, 1), (1, 256)] : Array (Nat × Nat))[i]?) (Value.agg Z.toArray).cells [(0, Value.int .u8 perm), (1, Value.agg (bytesRow bytes).toArray)] = some (pageCells ⟨0, perm, bytes⟩).toArray := by
    show Instr.fill _ Z.toArray _ = _
    rw [fill_part _ _ 0 0 1 _ _ rfl rfl (by rw [hl]; omega), fill_part _ _ 1 1 256 _ _ rfl (by simp [Value.cells, bytesRow_length, hb]) (by rw [splice_length _ _ _ (by simp [Value.cells, hl])]; omega)]
    refine congrArg some (congrArg List.toArray ?_)
    cases Z with
    | nil => simp at hl
    | cons z r =>
      have hr : r.length = 256 := by simpa using hl
      unfold splice pageCells
      simp [Value.cells, bytesRow_length, hb, hr]
  unfold Instr.build
  simp only [Sem.run_bind, hzv, Result.andThen_ok, run_underlying Tryz.underlying173, page_fields, hff]
  rfl
/-- What the walk makes of a page that is built. -/
theorem page_fold (p : Pg) (hb : p.bytes.length = 256) : List.foldl (fun (cs : Array Value) (x : Value × Nat) => cs.setIfInBounds (1 + x.snd) x.fst) (Tryz.zeroCells173.setIfInBounds 0 (.int .u8 p.perm)) (bytesRow p.bytes).zipIdx = (pageCells p).toArray := by
  have hl : Tryz.zeroCells173.toList.length = 257 := by rw [Array.length_toList]; exact Tryz.zeroCells173_size
  generalize Tryz.zeroCells173 = ZA at hl
  obtain ⟨Z⟩ := ZA
  have hl : Z.length = 257 := hl
  rw [List.setIfInBounds_toArray, fold_splice 1 (bytesRow p.bytes) 0 _ (by rw [List.length_set, bytesRow_length, hb, hl]; omega)]
  refine congrArg List.toArray ?_
  cases Z with
  | nil => simp at hl
  | cons z r =>
    have hr : r.length = 256 := by simpa using hl
    unfold splice pageCells
    simp [bytesRow_length, hb, hr]
end Go.Proofs.YtkokiefclmbgaaaGreatDoor
