import Derived.Test.YtkmbleboceedbaaGreatDoorBootsProofG16
import Derived.Test.YtkmbleboceedbaaGreatDoorBootsProofG05
import Derived.Test.YtkmbleboceedbaaGreatDoorBootsProofG10
import Derived.Test.YtkmbleboceedbaaGreatDoorBootsProofG09
/- Load: both answers parted alike; the document's answer of no bytes. -/
namespace Go.Proofs.YtkmbleboceedbaaGreatDoor
open Go.RowKit
set_option linter.unusedVariables false
set_option linter.unusedSimpArgs false

/-- The pages that both answers tell. -/
def outPgs (B : List Int) : List Pg := refPgs B (fileSegs B) 256
/-- The error that both answers tell. -/
def Bad (B : List Int) (c : Int) : Prop :=
  ¬ HdrOk B ∧ c = 2 ∨ HdrOk B ∧ ¬ AllOk B ∧ c = 3 ∨ HdrOk B ∧ AllOk B ∧ ((∃ p, p < 256 ∧ 1 < (fileSegs B).countP (fun s => cov s p)) ∧ c = 4 ∨
    (∀ p, p < 256 → (fileSegs B).countP (fun s => cov s p) ≤ 1) ∧ ¬ refEnt (numAt B 24 8) (outPgs B) ∧ c = 5)
def Good (B : List Int) : Prop := HdrOk B ∧ AllOk B ∧ (∀ p, p < 256 → (fileSegs B).countP (fun s => cov s p) ≤ 1) ∧ refEnt (numAt B 24 8) (outPgs B)
theorem Bad.uniq {B : List Int} {c d : Int} (h : Bad B c) (k : Bad B d) : c = d := by
  have no : (∃ p, p < 256 ∧ 1 < (fileSegs B).countP (fun s => cov s p)) → (∀ p, p < 256 → (fileSegs B).countP (fun s => cov s p) ≤ 1) → False := fun ⟨p, h1, h2⟩ h3 => by have := h3 p h1; omega
  rcases h with ⟨a, rfl⟩ | ⟨a, b, rfl⟩ | ⟨a, b, (⟨x, rfl⟩ | ⟨x, y, rfl⟩)⟩ <;> rcases k with ⟨a', rfl⟩ | ⟨a', b', rfl⟩ | ⟨a', b', (⟨x', rfl⟩ | ⟨x', y', rfl⟩)⟩ <;> first | rfl | exact absurd a' a | exact absurd a a' | exact absurd b' b | exact absurd b b' | exact (no x x').elim | exact (no x' x).elim
theorem Bad.notGood {B : List Int} {c : Int} (h : Bad B c) (k : Good B) : False := by
  obtain ⟨k1, k2, k3, k4⟩ := k
  rcases h with ⟨a, rfl⟩ | ⟨a, b, rfl⟩ | ⟨a, b, (⟨⟨p, h1, h2⟩, rfl⟩ | ⟨x, y, rfl⟩)⟩
  · exact a k1
  · exact b k2
  · have := k3 p h1; omega
  · exact y k4
theorem Bad.code {B : List Int} {c : Int} (h : Bad B c) : 2 ≤ c ∧ c ≤ 5 := by
  rcases h with ⟨a, rfl⟩ | ⟨a, b, rfl⟩ | ⟨a, b, (⟨x, rfl⟩ | ⟨x, y, rfl⟩)⟩ <;> decide
theorem exe_split {B : List Int} (hB : IsBytes B) {w w' : World} {e : Ending} (h : LoadPost B w e w') :
    (∃ c, Bad B c ∧ e = errPlan c) ∨ (Good B ∧ ∃ g gc, e = .returned (.tuple #[.agg #[.int .u64 (numAt B 24 8), .slice (some ⟨g, 0, none⟩) (outPgs B).length gc], .nilIface]) ∧ w'.ownsRow w.heap.size 87 258 (.slice (some ⟨g, 0, none⟩) (outPgs B).length gc) (outPgs B).length (apiRow (outPgs B))) := by
  obtain ⟨h, _⟩ := h
  rcases h with ⟨a, h⟩ | ⟨a, b, h⟩ | ⟨a, b, ss, hp, hs, h⟩
  · exact .inl ⟨2, .inl ⟨a, rfl⟩, h⟩
  · exact .inl ⟨3, .inr (.inl ⟨a, b, rfl⟩), h⟩
  have hf := fits_all hB b hp
  have hpm := perms_all b hp
  have hov := ov_same (B := B) (fs := fileSegs B) hp hf hs
  rcases h with ⟨ho, h⟩ | ⟨ho, h⟩
  · exact .inl ⟨4, .inr (.inr ⟨a, b, .inl ⟨hov.1 ho, rfl⟩⟩), h⟩
  have hno : ∀ p, p < 256 → (fileSegs B).countP (fun s => cov s p) ≤ 1 := fun p hp2 => by
    apply Classical.byContradiction
    intro hx
    obtain ⟨i, hi, hh⟩ := hov.2 ⟨p, hp2, by omega⟩
    exact ho i hi hh
  have hall : outPgs B = allPgs B ss := refPgs_all hp hf ho
  have hent : entOk (numAt B 24 8) ss ↔ refEnt (numAt B 24 8) (outPgs B) := by rw [hall]; exact entry_same hf hpm _ (numAt_8 hB 24 8 (by omega)).1
  rcases h with ⟨he, h⟩ | ⟨he, g, gc, h1, h2⟩
  · exact .inl ⟨5, .inr (.inr ⟨a, b, .inr ⟨hno, fun x => he (hent.2 x), rfl⟩⟩), h⟩
  · rw [← hall] at h1 h2
    exact .inr ⟨⟨a, b, hno, hent.1 he⟩, g, gc, h1, h2⟩
theorem ref_split {B : List Int} {w w' : World} {e : Ending} (h : RefLoadPost B w e w') :
    (∃ c, Bad B c ∧ e = refErr c) ∨ (Good B ∧ ∃ g gc, e = .returned (.tuple #[.slice (some ⟨g, 0, none⟩) (outPgs B).length gc, .int .u64 (numAt B 24 8), .int .i64 0]) ∧ w'.ownsRow w.heap.size 155 258 (.slice (some ⟨g, 0, none⟩) (outPgs B).length gc) (outPgs B).length (refRow (outPgs B))) := by
  obtain ⟨h, _⟩ := h
  rcases h with ⟨a, h⟩ | ⟨a, b, h⟩ | ⟨a, b, (⟨x, h⟩ | ⟨x, (⟨y, h⟩ | ⟨y, g, gc, h1, h2⟩)⟩)⟩
  · exact .inl ⟨2, .inl ⟨a, rfl⟩, h⟩
  · exact .inl ⟨3, .inr (.inl ⟨a, b, rfl⟩), h⟩
  · exact .inl ⟨4, .inr (.inr ⟨a, b, .inl ⟨x, rfl⟩⟩), h⟩
  · exact .inl ⟨5, .inr (.inr ⟨a, b, .inr ⟨x, y, rfl⟩⟩), h⟩
  · exact .inr ⟨⟨a, b, x, y⟩, g, gc, h1, h2⟩
theorem bad_or_good (B : List Int) : (∃ c, Bad B c) ∨ Good B := by
  by_cases a : HdrOk B
  · by_cases b : AllOk B
    · by_cases x : ∃ p, p < 256 ∧ 1 < (fileSegs B).countP (fun s => cov s p)
      · exact .inl ⟨4, .inr (.inr ⟨a, b, .inl ⟨x, rfl⟩⟩)⟩
      · have x' : ∀ p, p < 256 → (fileSegs B).countP (fun s => cov s p) ≤ 1 := fun p hp => by
          apply Classical.byContradiction
          intro hn
          exact x ⟨p, hp, by omega⟩
        by_cases y : refEnt (numAt B 24 8) (outPgs B)
        · exact .inr ⟨a, b, x', y⟩
        · exact .inl ⟨5, .inr (.inr ⟨a, b, .inr ⟨x', y, rfl⟩⟩)⟩
    · exact .inl ⟨3, .inr (.inl ⟨a, b, rfl⟩)⟩
  · exact .inl ⟨2, .inl ⟨a, rfl⟩⟩
theorem outPgs_ok {B : List Int} (h : Good B) : ∀ p ∈ outPgs B, 0 ≤ p.perm ∧ p.perm ≤ 255 ∧ p.bytes.length = 256 := by
  intro p hp
  refine ⟨?_, ?_, refPgs_bytes _ _ _ p hp⟩ <;>
  · obtain ⟨n, _, hq⟩ := List.mem_flatMap.1 hp
    obtain ⟨s, hs, rfl⟩ := List.mem_map.1 hq
    have := perms_all h.2.1 (List.Perm.refl _) s (List.mem_filter.1 hs).1
    show _ ≤ _
    simp only
    omega
theorem apiRow_get : ∀ (PS : List Pg) (j i : Nat) (q : Pg), (∀ p ∈ PS, p.bytes.length = 256) → PS[j]? = some q → i < 258 → ∀ v, (pageRow q.num q.perm q.bytes)[i]? = some v → (apiRow PS)[j * 258 + i]? = some v
  | [], j, i, q, _, h, _, v, _ => by simp at h
  | a :: r, 0, i, q, hb, h, hi, v, hv => by
    have e : a = q := by simpa using h
    subst e
    rw [apiRow, List.flatMap_cons, List.getElem?_append_left (by rw [pageRow_length, hb _ List.mem_cons_self]; omega), Nat.zero_mul, Nat.zero_add]; exact hv
  | a :: r, j + 1, i, q, hb, h, hi, v, hv => by
    have ih := apiRow_get r j i q (fun p hp => hb p (List.mem_cons_of_mem _ hp)) (by simpa using h) hi v hv
    have hl := hb a List.mem_cons_self
    have e : (j + 1) * 258 + i - (256 + 2) = j * 258 + i := by omega
    have e2 : apiRow (a :: r) = pageRow a.num a.perm a.bytes ++ apiRow r := by rw [apiRow, List.flatMap_cons]; rfl
    rw [e2, List.getElem?_append_right (by rw [pageRow_length, hl]; omega), pageRow_length, hl, e]
    exact ih
theorem api_at {W : World} {base g gc : Nat} {PS : List Pg} (hb : ∀ p ∈ PS, p.bytes.length = 256) (h : W.ownsRow base 87 258 (.slice (some ⟨g, 0, none⟩) PS.length gc) PS.length (apiRow PS)) : ApiAt W g PS := by
  intro i p hp
  have hi := (List.getElem?_eq_some_iff.1 hp).1
  have hpb := hb p (List.mem_of_getElem? hp)
  have c : ∀ j v, j < 258 → (pageRow p.num p.perm p.bytes)[j]? = some v → W.cell? ⟨g, i * 258 + j, none⟩ = some v := fun j v hj hv => by
    (rw [h.cellAt (i * 258 + j) (by omega)]; exact apiRow_get PS i j p hb hp hj v hv)
  have c0 := c 0 _ (by omega) rfl
  rw [Nat.add_zero] at c0
  have c1 := c 1 _ (by omega) rfl
  refine ⟨c0, c1, fun j v hv => ?_⟩
  have hj := (List.getElem?_eq_some_iff.1 hv).1
  rw [bytesRow_length, hpb] at hj
  have e : i * 258 + 2 + j = i * 258 + (j + 2) := by omega
  have h9 := c (j + 2) v (by omega) hv
  rw [← e] at h9
  exact h9
theorem ref_at {W : World} {base g gc : Nat} {PS : List Pg} (hb : ∀ p ∈ PS, p.bytes.length = 256) (h : W.ownsRow base 155 258 (.slice (some ⟨g, 0, none⟩) PS.length gc) PS.length (refRow PS)) : RefAt W g PS := by
  intro i p hp
  have hi := (List.getElem?_eq_some_iff.1 hp).1
  have hpb := hb p (List.mem_of_getElem? hp)
  have c : ∀ j v, j < 258 → (refPage p.num p.perm p.bytes)[j]? = some v → W.cell? ⟨g, i * 258 + j, none⟩ = some v := fun j v hj hv => by
    (rw [h.cellAt (i * 258 + j) (by omega)]; exact refRow_get PS i j p hb hp hj v hv)
  have c0 := c 0 _ (by omega) rfl
  rw [Nat.add_zero] at c0
  have c1 := c 1 _ (by omega) rfl
  refine ⟨c0, c1, fun j v hv => ?_⟩
  have hj := (List.getElem?_eq_some_iff.1 hv).1
  rw [bytesRow_length, hpb] at hj
  have e : i * 258 + 2 + j = i * 258 + (j + 2) := by omega
  have h9 := c (j + 2) v (by omega) hv
  rw [← e] at h9
  exact h9
theorem roomy_view {W : World} {g : Nat} {t : TypeId} {B : List Int} (h : Holds W g t (bytesRow (B ++ [71, 72]))) : BView W g 0 B := fun j hj => by
  rw [Nat.zero_add]
  refine h.cell ?_
  rw [bytesRow_get _ _ (by simp; omega)]
  simp [List.getD, List.getElem?_append_left hj]

set_option maxHeartbeats 1000000 in
theorem refHeader_none (a : Option Addr) (cap : Nat) (w : World) : Calls Tryz.prog 78 #[.slice a 0 cap] w fun e w' => e = .returned (.tuple #[.int .i64 0, .bool false]) ∧ w' = w := by
  go_enter Tryz.func78, Tryz.ntmps78
  go_wp2
  go_ret2
  exact ⟨rfl, rfl⟩
set_option maxRecDepth 100000 in
set_option maxHeartbeats 1000000 in
theorem load_ref_none (a : Option Addr) (cap : Nat) (w : World) : Calls Tryz.prog 49 #[.slice a 0 cap] w fun e w' => RefLoadPost [] w e w' := by
  have HH := hide (refHeader_none a cap w)
  go_enter Tryz.func49, Tryz.ntmps49
  go_wp2_with fail
  refine (unhide HH).mono ?_
  rintro e w1 ⟨rfl, hw1⟩
  subst hw1
  go_wp2
  exact bodyPost_ret (v := .tuple #[.slice none 0 0, .int .u64 0, .int .i64 2]) (by simp [results, Tryz.results49, go_sem]) rfl ⟨.inl ⟨fun h => by have := h.1; simp at this, rfl⟩, Below.refl _ _⟩
end Go.Proofs.YtkmbleboceedbaaGreatDoor

/- Stack: more on what the pages hold. -/
namespace Go.Proofs.YtkmbleboceedbaaGreatDoor
open Go.RowKit
def intsRow (L : List Int) : List Value := L.map (Value.int .i64)
theorem intsRow_length (L : List Int) : (intsRow L).length = L.length := by simp [intsRow]
theorem room_low : ∀ ss, total ss ≤ 512 → ∀ j, j < 512 - total ss → (room ss)[j]? = some 0
  | [], _, j, hj => by
    unfold room zeroRoom
    rw [List.getElem?_replicate]
    simp [total] at hj
    simp [hj]
  | s :: r, h, j, hj => by
    have hr : total r ≤ 512 := by unfold total at h; omega
    unfold room
    have hl : 512 - total (s :: r) + (strInts s).length ≤ (room r).length := by rw [room_length r hr, strInts_length]; unfold total at h ⊢; omega
    rw [splice_get _ _ _ hl, if_pos hj]
    exact room_low r hr j (by unfold total at hj; omega)
theorem splice_zero_ext (L : List Int) (off : Nat) (xs : List Int) (m : Nat) (hl : off + xs.length + m ≤ L.length) (h : ∀ j, off + xs.length ≤ j → j < off + xs.length + m → L[j]? = some 0) :
    splice L off (xs ++ List.replicate m 0) = splice L off xs := by
  apply List.ext_getElem?
  intro j
  rw [splice_get _ _ _ (by simp; omega), splice_get _ _ _ (by omega)]
  simp only [List.length_append, List.length_replicate]
  by_cases a : j < off
  · simp [a]
  · by_cases c : j < off + xs.length
    · rw [if_neg a, if_pos (by omega), if_neg a, if_pos c, List.getElem?_append_left (by omega)]
    · by_cases d : j < off + xs.length + m
      · rw [if_neg a, if_pos (by omega), if_neg a, if_neg c, List.getElem?_append_right (by omega), List.getElem?_replicate, if_pos (by omega), h j (by omega) d]
      · rw [if_neg a, if_neg (by omega), if_neg a, if_neg c]
theorem words8_append (xs ys : List Int) : words8 (xs ++ ys) = words8 xs ++ words8 ys := by simp [words8]
theorem words8_one (x : Int) : words8 [x] = bytes8 x := by simp [words8]
theorem bytes8_zero : bytes8 0 = List.replicate 8 0 := by decide
theorem heads_take_last (ss : List ByteArray) : (heads ss).take (ss.length + 1) = ((ss.length : Nat) : Int) :: addrs ss := by
  unfold heads
  rw [List.take_succ_cons, List.take_append_of_le_length (by rw [addrs_length]; omega), List.take_of_length_le (by rw [addrs_length]; omega)]
theorem heads_eq (ss : List ByteArray) : heads ss = (heads ss).take (ss.length + 1) ++ [0] := by
  rw [heads_take_last]; simp [heads]
theorem heads_get (ss : List ByteArray) (k : Nat) (h : k < ss.length) : (heads ss)[k + 1]? = some ((addrs ss).getD k 0) := by
  unfold heads
  rw [List.getElem?_cons_succ, List.getElem?_append_left (by rw [addrs_length]; exact h)]
  simp [List.getD, List.getElem?_eq_getElem (show k < (addrs ss).length by rw [addrs_length]; exact h)]
theorem words8_take_succ (ws : List Int) (k : Nat) (x : Int) (h : ws[k]? = some x) : words8 (ws.take (k + 1)) = words8 (ws.take k) ++ bytes8 x := by
  obtain ⟨hk, e⟩ := List.getElem?_eq_some_iff.1 h
  rw [List.take_succ_eq_append_getElem hk, words8_append, e, words8_one]
theorem put_step (ss : List ByteArray) (X k : Nat) (h : k < ss.length) (hl : (room ss).length = 512) (hX : X + 8 * (ss.length + 2) ≤ 512) :
    splice (splice (room ss) X (words8 ((heads ss).take (k + 1)))) (0 + (X + 8 + 8 * k)) (bytes8 ((addrs ss).getD k 0)) = splice (room ss) X (words8 ((heads ss).take (k + 1 + 1))) := by
  have hw : (words8 ((heads ss).take (k + 1))).length = 8 * (k + 1) := by rw [words8_length, List.length_take, heads_length]; omega
  rw [words8_take_succ (heads ss) (k + 1) _ (heads_get ss k h), ← splice_splice _ _ _ _ (by rw [hw, bytes8_length, hl]; omega), hw]
  congr 1; omega
theorem put_last (ss : List ByteArray) (X : Nat) (hok : okArgs ss = true) (hX : X = spOff ss) : splice (room ss) X (words8 ((heads ss).take (ss.length + 1))) = stackRoom ss := by
  have ht : total ss ≤ 248 := by have := total_drop_le hok 0; simpa using this
  have h8 := (ok_all hok).1
  have hl := room_length ss (by omega)
  have hw : (words8 ((heads ss).take (ss.length + 1))).length = 8 * (ss.length + 1) := by rw [words8_length, List.length_take, heads_length]; omega
  have hs : X + 8 * (ss.length + 2) ≤ 512 - total ss := by rw [hX, spOff]; omega
  rw [stackRoom, ← hX]
  conv => rhs; rw [heads_eq ss, words8_append, words8_one, bytes8_zero]
  rw [splice_zero_ext _ _ _ _ (by rw [hw, hl]; omega) (fun j h1 h2 => room_low ss (by omega) j (by rw [hw] at h2; omega))]
theorem rev_get (ss : List ByteArray) (k : Nat) (h : k < ss.length) : (intsRow (addrs ss).reverse)[ss.length - 1 - k]? = some (.int .i64 ((addrs ss).getD k 0)) := by
  have hl := addrs_length ss
  unfold intsRow
  rw [List.getElem?_map, List.getElem?_reverse (by omega), hl, show ss.length - 1 - (ss.length - 1 - k) = k from by omega, List.getD, List.getElem?_eq_getElem (by omega)]
  rfl
theorem addrs_bd : ∀ (ss : List ByteArray) (k : Nat), k < ss.length → 0 ≤ (addrs ss).getD k 0 ∧ (addrs ss).getD k 0 ≤ 65536
  | [], k, h => by simp at h
  | s :: r, 0, h => by simp [addrs]; omega
  | s :: r, k + 1, h => by
    have := addrs_bd r k (by simpa using h)
    simpa [addrs] using this
end Go.Proofs.YtkmbleboceedbaaGreatDoor

/- Stack: arguments that are none: both programs say so. -/
namespace Go.Proofs.YtkmbleboceedbaaGreatDoor
open Go.RowKit
set_option linter.unusedVariables false
set_option linter.unusedSimpArgs false

set_option maxHeartbeats 1000000 in
theorem stack_exe_bad (a : Option Addr) (b off cap : Nat) (ss : List ByteArray) (w : World) (hn : ss.length ≤ 1000) (ha : 0 < ss.length → a = some ⟨b, off, none⟩)
    (hcell : ∀ i, i < ss.length → w.cell? ⟨b, off + i, none⟩ = some (.string (ss.getD i ByteArray.empty))) (hok : okArgs ss = false) :
    Calls Tryz.prog 69 #[.slice a ss.length cap] w fun e w' => e = .returned (.tuple #[.slice none 0 0, .int .u64 0, .iface 45 (.int .i64 6)]) ∧ w' = w := by
  have HC := hide hcell
  have HA := hide ha
  have HO := hide hok
  clear hcell ha hok
  go_enter Tryz.func69, Tryz.ntmps69
  go_wp2_with fail
  refine (areArgs_any a b off cap ss _ hn (unhide HA) (unhide HC)).mono ?_
  rw [unhide HO]
  rintro e w' ⟨rfl, rfl⟩
  go_wp2
  go_ret3
  exact ⟨rfl, rfl⟩

/-- A byte of a string. -/
theorem byte_zero {s : ByteArray} {j : Nat} (hj : j < s.size) (h : (s[j].toNat : Int) = 0) : okArg s = false := by
  have : s[j] = 0 := by
    apply UInt8.toNat_inj.1
    have : s[j].toNat = 0 := by omega
    simpa using this
  have hm : (0 : UInt8) ∈ s.data.toList := by
    rw [← this]
    exact List.getElem_mem (l := s.data.toList) (by simpa using hj)
  simp [okArg, hm]
theorem byte_ok {s : ByteArray} (h : okArg s = true) {j : Nat} (hj : j < s.size) : (s[j].toNat : Int) ≠ 0 := fun e => by
  have := byte_zero hj e
  rw [h] at this
  cases this
theorem okArg_bytes {s : ByteArray} (h : s.size ≤ 30) (h0 : ∀ j, (hj : j < s.size) → (s[j].toNat : Int) ≠ 0) : okArg s = true := by
  have : ¬ (0 : UInt8) ∈ s.data.toList := fun m => by
    obtain ⟨j, hj, e⟩ := List.getElem_of_mem m
    have hj' : j < s.size := by simpa using hj
    have : s[j] = 0 := e
    exact h0 j hj' (by rw [this]; rfl)
  simp [okArg, h, this]

set_option maxHeartbeats 1000000 in
theorem stack_ref_bad (a : Option Addr) (b off cap : Nat) (ss : List ByteArray) (w : World) (hn : ss.length ≤ 1000) (ha : 0 < ss.length → a = some ⟨b, off, none⟩)
    (hcell : ∀ i, i < ss.length → w.cell? ⟨b, off + i, none⟩ = some (.string (ss.getD i ByteArray.empty))) (hs : ∀ s ∈ ss, s.size ≤ maxLen) (hok : okArgs ss = false) :
    Calls Tryz.prog 50 #[.slice a ss.length cap] w fun e w' => e = .returned (.tuple #[.slice none 0 0, .int .u64 0, .int .i64 6]) ∧ w' = w := by
  have HC := hide hcell
  have HA := hide ha
  have HO := hide hok
  by_cases h8 : 8 < ss.length
  · clear hcell ha hok
    go_enter Tryz.func50, Tryz.ntmps50
    go_wp2
    go_ret3
    exact ⟨rfl, rfl⟩
  · clear hcell ha hok
    go_enter Tryz.func50, Tryz.ntmps50
    go_wp2
    go_loop [5] (fun i => ∃ k : Nat, k ≤ ss.length ∧ i = .int .i64 k ∧ (ss.take k).all okArg = true) (fun i => ss.length - (intOf i).toNat)
    case atStart => exact ⟨0, by omega, rfl, rfl⟩
    case round =>
      obtain ⟨k, hk, rfl, hall⟩ := hrel
      have HALL := hide hall
      clear hall
      by_cases hlt : k < ss.length
      · have hca := (unhide HC) k hlt
        have e := (unhide HA) (by omega)
        subst e
        have hms := hs (ss.getD k ByteArray.empty) (by simp [List.getD, List.getElem?_eq_getElem hlt])
        obtain ⟨s, hs'⟩ : ∃ s, s = ss.getD k ByteArray.empty := ⟨_, rfl⟩
        rw [← hs'] at hca hms
        have HS := hide hs'
        unfold maxLen at hms
        clear hs'
        by_cases hl : s.size ≤ 30
        · go_wp2
          go_loop [6] (fun i => ∃ j : Nat, j ≤ s.size ∧ i = .int .i64 j ∧ ∀ m, (hm : m < s.size) → m < j → (s[m].toNat : Int) ≠ 0) (fun i => s.size - (intOf i).toNat)
          case atStart => exact ⟨0, by omega, rfl, fun m hm h => by omega⟩
          case round =>
            obtain ⟨j, hj, rfl, hnz⟩ := hrel
            have HNZ := hide hnz
            clear hnz
            by_cases hjl : j < s.size
            · by_cases hz : (s[j].toNat : Int) = 0
              · have hb : ((s[j].toNat : Int) == 0) = true := by simpa using hz
                have HZ := hide hz
                clear hz
                go_wp2
                go_ret3
                exact ⟨rfl, rfl⟩
              · have hb : ((s[j].toNat : Int) == 0) = false := by simpa using hz
                have HZ := hide hz
                clear hz
                go_wp2
                go_round
                case rel =>
                  refine ⟨j + 1, by omega, by go_num, fun m hm h => ?_⟩
                  by_cases e : m = j
                  · subst e; exact unhide HZ
                  · exact unhide HNZ m hm (by omega)
                case measure => simp [intOf]; omega
            · have F := hide (all_take hlt (by rw [← unhide HS]; exact okArg_bytes hl (fun m hm => unhide HNZ m hm (by omega))) (unhide HALL))
              go_wp2
              go_round
              case rel => exact ⟨k + 1, by omega, by go_num, unhide F⟩
              case measure => simp [intOf]; omega
        · go_wp2
          go_ret3
          exact ⟨rfl, rfl⟩
      · exfalso
        have : ss.all okArg = true := by have := unhide HALL; rwa [List.take_of_length_le (by omega)] at this
        have h2 := unhide HO
        simp [okArgs, this] at h2
        omega
end Go.Proofs.YtkmbleboceedbaaGreatDoor
