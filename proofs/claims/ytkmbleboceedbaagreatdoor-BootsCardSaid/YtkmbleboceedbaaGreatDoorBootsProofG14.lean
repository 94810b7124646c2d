import Derived.Test.YtkmbleboceedbaaGreatDoorBootsProofG12
import Derived.Deep.QuietTactic
import Derived.BigQuiet
import Derived.Test.YtkmbleboceedbaaGreatDoorBootsProofG13
import Derived.Test.YtkmbleboceedbaaGreatDoorBootsProofG04
import Derived.Deep.OwnRows
import Derived.Test.YtkmbleboceedbaaGreatDoorBootsProofG02
/- exe.overlap and exe.isEntry. -/
namespace Go.Proofs.YtkmbleboceedbaaGreatDoor
open Go.RowKit
set_option linter.unusedVariables false
set_option linter.unusedSimpArgs false

def Seg.first (s : Seg) : Int := s.addr / 256
def Seg.last (s : Seg) : Int := (s.addr + s.mem - 1) / 256
/-- Neighbours that share a page. -/
def ovAt (ss : List Seg) (i : Nat) : Prop := (ss.getD (i + 1) seg0).first ≤ (ss.getD i seg0).last
theorem seg_cell {w : World} {g : Nat} {t : TypeId} {b off cap : Nat} {ss : List Seg} (h : Holds w g t (segsRow b off cap ss)) (i : Nat) (hi : i < ss.length) (j : Nat) (v : Value) (hj : j < 5) (hv : (segCells b off cap (ss.getD i seg0))[j]? = some v) : w.cell? ⟨g, i * 5 + j, none⟩ = some v := by
  refine h.cell ?_
  rw [segsRow_get b off cap ss i j (ss.getD i seg0) hj (by simp [List.getD, List.getElem?_eq_getElem hi])]
  exact hv

set_option maxRecDepth 100000 in
set_option maxHeartbeats 1000000 in
theorem overlap_any (b off cap g c : Nat) (ss : List Seg) (w : World) (h : Holds w g 242 (segsRow b off cap ss)) (h8 : ss.length ≤ 8) (h1 : 1 ≤ ss.length) :
    Calls Tryz.prog 100 #[.slice (some ⟨g, 0, none⟩) ss.length c] w fun e w' =>
      ((∃ i, i + 1 < ss.length ∧ ovAt ss i) ∧ e = .returned (.bool true) ∨ (∀ i, i + 1 < ss.length → ¬ ovAt ss i) ∧ e = .returned (.bool false)) ∧ w'.heap = w.heap ∧ Below w.heap.size w w' := by
  have H := hide h
  clear h
  go_enter Tryz.func100, Tryz.ntmps100
  go_wp2
  go_loopw [3] (fun i wr => ∃ k : Nat, k + 1 ≤ ss.length ∧ i = .int .i64 ((k + 1 : Nat) : Int) ∧ Hid (∀ j, j < k → ¬ ovAt ss j) ∧ wr.heap = w.heap ∧ Below w.heap.size w wr) (fun i _ => ss.length - (intOf i).toNat)
  case atStart => exact ⟨0, by omega, rfl, fun j hj => by omega, rfl, Below.refl _ _⟩
  case round =>
    obtain ⟨k, hk, rfl, HN, hh, hbl⟩ := hrel
    obtain ⟨q, hq⟩ : ∃ q, q = k + 1 := ⟨_, rfl⟩
    rw [← hq]
    have HQ := hide hq
    have HBL := hide hbl
    have hho := (unhide H).heap hh
    have HH := hide hh
    by_cases hlt : q < ss.length
    · have c1 : wr.cell? ⟨g, q * 5 + 3, none⟩ = some (.int .i64 (ss.getD q seg0).first) := seg_cell hho q hlt 3 _ (by omega) rfl
      have c2 : wr.cell? ⟨g, k * 5 + 4, none⟩ = some (.int .i64 (ss.getD k seg0).last) := seg_cell hho k (by omega) 4 _ (by omega) rfl
      have e1 : (q : Int) - 1 = (k : Int) := by omega
      have hq0 : (0 : Int) ≤ (q : Int) := by omega
      have hq1 : (q : Int) < (ss.length : Int) := by omega
      have hk0 : (0 : Int) ≤ (k : Int) := by omega
      have hk1 : (k : Int) < (ss.length : Int) := by omega
      have hqe : (q : Int) ≤ 8 := by omega
      have hov : ovAt ss k ↔ (ss.getD q seg0).first ≤ (ss.getD k seg0).last := by rw [hq]; rfl
      have HOV := hide hov
      generalize (ss.getD q seg0).first = F at c1 HOV
      generalize (ss.getD k seg0).last = L at c2 HOV
      clear hho hh hbl hq hov
      by_cases hfl : F ≤ L
      · go_wp2
        go_quiet (fail)
        go_wp2
        go_ret
        exact ⟨.inl ⟨⟨k, by omega, (unhide HOV).2 hfl⟩, rfl⟩, unhide HH, ⟨(unhide HBL).os, (unhide HBL).tape, (unhide HBL).output, (unhide HBL).size, (unhide HBL).block⟩⟩
      · go_wp2
        go_quiet (fail)
        go_wp2
        go_roundw
        case rel => exact ⟨q, by omega, by go_num, hide (by rw [unhide HQ]; exact upTo_step (unhide HN) (fun ho => by (have := (unhide HOV).1 ho; omega))), unhide HH, ⟨(unhide HBL).os, (unhide HBL).tape, (unhide HBL).output, (unhide HBL).size, (unhide HBL).block⟩⟩
        case measure => simp [intOf]; omega
    · have hq1 : ¬ (q : Int) < (ss.length : Int) := by omega
      clear hho hh hbl hq
      go_wp2
      go_ret
      exact ⟨.inr ⟨fun i hi => (unhide HN) i (by have := unhide HQ; omega), rfl⟩, unhide HH, unhide HBL⟩

/-- A segment in whose pages the entry lies, and that may be executed. -/
def entSeg (E : Int) (s : Seg) : Prop := bits BinOp.and IntKind.u8 s.perm 1 ≠ 0 ∧ s.first ≤ E / 256 ∧ E / 256 ≤ s.last
def entOk (E : Int) (ss : List Seg) : Prop := E % 4 = 0 ∧ E < 65024 ∧ ∃ i, i < ss.length ∧ entSeg E (ss.getD i seg0)
theorem ent_i64 (n : Int) (h0 : 0 ≤ n) (h1 : n < 1000000) : IntKind.i64.wrap n = n := by
  simp [IntKind.wrap, IntKind.bits, IntKind.signed]; split <;> omega

set_option maxRecDepth 100000 in
set_option maxHeartbeats 1000000 in
theorem isEntry_any (b off cap g c : Nat) (E : Int) (ss : List Seg) (w : World) (h : Holds w g 242 (segsRow b off cap ss)) (h8 : ss.length ≤ 8) (E0 : 0 ≤ E) :
    Calls Tryz.prog 102 #[.int .u64 E, .slice (some ⟨g, 0, none⟩) ss.length c] w fun e w' =>
      (entOk E ss ∧ e = .returned (.bool true) ∨ ¬ entOk E ss ∧ e = .returned (.bool false)) ∧ Below w.heap.size w w' := by
  have H := hide h
  have hgl := h.lt
  clear h
  by_cases q1 : E % 4 = 0
  case neg =>
    have f1 : (E % 4 != 0) = true := by simpa using q1
    have Q1 := hide q1
    clear q1
    go_enter Tryz.func102, Tryz.ntmps102
    go_wp2
    go_ret
    exact ⟨.inr ⟨fun ho => unhide Q1 ho.1, rfl⟩, Below.refl _ _⟩
  have f1 : (E % 4 != 0) = false := by simpa using q1
  have Q1 := hide q1
  clear q1
  by_cases q2 : E < 65024
  case neg =>
    go_enter Tryz.func102, Tryz.ntmps102
    go_wp2
    go_ret
    exact ⟨.inr ⟨fun ho => by (have := ho.2.1; omega), rfl⟩, Below.refl _ _⟩
  obtain ⟨P, hP⟩ : ∃ P, P = E / 256 := ⟨_, rfl⟩
  have y1 : IntKind.i64.wrap (E / 256) = P := by rw [ent_i64 _ (by omega) (by omega)]; exact hP.symm
  have HP := hide hP
  clear hP
  go_enter Tryz.func102, Tryz.ntmps102
  go_wp2
  go_loopw [20] (fun i wr => ∃ k : Nat, k ≤ ss.length ∧ i = .int .i64 k ∧ Hid (∀ j, j < k → ¬ entSeg E (ss.getD j seg0)) ∧ Below w.heap.size w wr) (fun i _ => ss.length - (intOf i).toNat)
  case atStart => exact ⟨0, by omega, rfl, fun j hj => by omega, Below.refl _ _⟩
  case round =>
    obtain ⟨k, hk, rfl, HN, hbl⟩ := hrel
    have HBL := hide hbl
    have hho := (unhide H).below hbl hgl
    have hsz := hbl.size
    by_cases hlt : k < ss.length
    · obtain ⟨s, hs⟩ : ∃ s, s = ss.getD k seg0 := ⟨_, rfl⟩
      have c0 : wr.cell? ⟨g, k * 5, none⟩ = some (.int .u8 s.perm) := by rw [hs]; exact seg_cell hho k hlt 0 _ (by omega) rfl
      have c1 : wr.cell? ⟨g, k * 5 + 1, none⟩ = some (.int .u64 s.addr) := by rw [hs]; exact seg_cell hho k hlt 1 _ (by omega) rfl
      have c2 : wr.cell? ⟨g, k * 5 + 2, none⟩ = some (.slice (some ⟨b, segPtr off cap s, none⟩) s.inFile.toNat (cap - s.offs.toNat)) := by rw [hs]; exact seg_cell hho k hlt 2 _ (by omega) rfl
      have c3 : wr.cell? ⟨g, k * 5 + 3, none⟩ = some (.int .i64 s.first) := by rw [hs]; exact seg_cell hho k hlt 3 _ (by omega) rfl
      have c4 : wr.cell? ⟨g, k * 5 + 4, none⟩ = some (.int .i64 s.last) := by rw [hs]; exact seg_cell hho k hlt 4 _ (by omega) rfl
      have hk0 : (0 : Int) ≤ (k : Int) := by omega
      have hk1 : (k : Int) < (ss.length : Int) := by omega
      have hent : entSeg E (ss.getD k seg0) ↔ (bits BinOp.and IntKind.u8 s.perm 1 ≠ 0 ∧ s.first ≤ P ∧ P ≤ s.last) := by rw [← hs, unhide HP]; rfl
      have HE := hide hent
      obtain ⟨X, hX⟩ : ∃ X, X = bits BinOp.and IntKind.u8 s.perm 1 := ⟨_, rfl⟩
      rw [← hX] at HE
      have hX' := hX.symm
      generalize s.first = F at c3 HE
      generalize s.last = L at c4 HE
      generalize s.addr = A at c1
      generalize s.inFile.toNat = FL at c2
      generalize s.offs.toNat = OF at c2
      clear hho hbl hs hent hX
      by_cases t1 : X = 0
      · have g1 : (X != 0) = false := by simpa using t1
        clear t1
        go_wp2
        go_roundw
        case rel => exact ⟨k + 1, by omega, by go_num, hide (upTo_step (unhide HN) (fun ho => by (have := ((unhide HE).1 ho).1; simp at g1; exact this g1))), (unhide HBL).alloc hsz _⟩
        case measure => simp [intOf]; omega
      · have g1 : (X != 0) = true := by simpa using t1
        have T1 := hide t1
        clear t1
        by_cases t2 : F ≤ P
        · by_cases t3 : P ≤ L
          · go_wp2
            go_ret
            exact ⟨.inl ⟨⟨unhide Q1, q2, k, hlt, (unhide HE).2 ⟨unhide T1, t2, t3⟩⟩, rfl⟩, (unhide HBL).alloc hsz _⟩
          · go_wp2
            go_roundw
            case rel => exact ⟨k + 1, by omega, by go_num, hide (upTo_step (unhide HN) (fun ho => by (have := ((unhide HE).1 ho).2.2; omega))), (unhide HBL).alloc hsz _⟩
            case measure => simp [intOf]; omega
        · go_wp2
          go_roundw
          case rel => exact ⟨k + 1, by omega, by go_num, hide (upTo_step (unhide HN) (fun ho => by (have := ((unhide HE).1 ho).2.1; omega))), (unhide HBL).alloc hsz _⟩
          case measure => simp [intOf]; omega
    · clear hho hbl
      go_wp2
      go_ret
      exact ⟨.inr ⟨fun ho => by (obtain ⟨_, _, i, hi, he⟩ := ho; exact (unhide HN) i (by omega) he), rfl⟩, unhide HBL⟩
end Go.Proofs.YtkmbleboceedbaaGreatDoor

/- Stack: closed facts on great zero values; pages as cells. -/
namespace Go.Proofs.YtkmbleboceedbaaGreatDoor
open Go.RowKit
set_option linter.unusedVariables false
set_option linter.unusedSimpArgs false
theorem wrap_small (n : Int) (h0 : 0 ≤ n) (h1 : n < 1000000) : IntKind.i64.wrap n = n := by
  simp [IntKind.wrap, IntKind.bits, IntKind.signed]; split <;> omega
theorem u64info : (Tryz.prog.info? 74).map (fun i => (i.zero, i.size, i.bytes)) = some (some (.int .u64 0), 1, 8) := by kernel_rfl
theorem u8size : (Tryz.prog.info? 5).map (·.size) = some 1 := by kernel_rfl
def zeroWords (n : Nat) : Array Value := (wordsRow (List.replicate n 0)).toArray
theorem made_zero (n : Nat) : madeCells #[.int .u64 0] n = zeroWords n := by
  unfold madeCells zeroWords wordsRow
  apply Array.ext
  · simp
  · intro i h1 h2
    simp [Nat.mod_one]
theorem zeroWords_get (n j : Nat) (h : j < n) : (zeroWords n)[j]? = some (.int .u64 0) := by
  simp [zeroWords, wordsRow, h]
theorem zeroWords_head (n : Nat) (x : Int) : (zeroWords (n + 1)).setIfInBounds 0 (.int .u64 x) = (wordsRow (x :: List.replicate n 0)).toArray := by
  apply Array.ext'
  simp [zeroWords, wordsRow, List.replicate_succ]

theorem room_step {ss : List ByteArray} {k : Nat} (h : k < ss.length) : room (ss.drop k) = splice (room (ss.drop (k + 1))) (512 - total (ss.drop k)) (strInts (ss.getD k ByteArray.empty)) := by
  rw [drop_cons h, room]
theorem total_step {ss : List ByteArray} {k : Nat} (h : k < ss.length) : total (ss.drop k) = (ss.getD k ByteArray.empty).size + 1 + total (ss.drop (k + 1)) := by
  rw [drop_cons h, total]
theorem byteCells_ints (s : ByteArray) : Lib.byteCells s.data.toList = bytesRow (strInts s) := by
  simp [Lib.byteCells, bytesRow, strInts]

/-- The pages while they are filled out of R. -/
def pagesTo (R : List Int) : Nat → List Value
  | 0 => pageRow 0 0 zero256 ++ pageRow 0 0 zero256
  | 1 => pageRow 254 6 (R.take 256) ++ pageRow 0 0 zero256
  | _ => pageRow 254 6 (R.take 256) ++ pageRow 255 6 (R.drop 256)
theorem pageRow_length (a b : Int) (L : List Int) : (pageRow a b L).length = L.length + 2 := by simp [pageRow, bytesRow_length]


theorem splice_page (pre Z post xs : List Value) (a b x y : Value) (hz : Z.length = xs.length) :
    splice (((pre ++ (a :: b :: (Z ++ post))).set pre.length x).set (pre.length + 1) y) (pre.length + 2) xs = pre ++ (x :: y :: (xs ++ post)) := by
  have e1 : (pre ++ (a :: b :: (Z ++ post))).set pre.length x = pre ++ (x :: b :: (Z ++ post)) := by
    rw [List.set_append_right _ _ (Nat.le_refl _)]; simp
  have e2 : (pre ++ (x :: b :: (Z ++ post))).set (pre.length + 1) y = pre ++ (x :: y :: (Z ++ post)) := by
    rw [List.set_append_right _ _ (by omega)]; simp
  rw [e1, e2]
  unfold splice
  have e3 : (pre ++ (x :: y :: (Z ++ post))).take (pre.length + 2) = pre ++ [x, y] := by
    rw [List.take_append, List.take_of_length_le (by omega)]; simp
  have e4 : (pre ++ (x :: y :: (Z ++ post))).drop (pre.length + 2 + xs.length) = post := by
    rw [List.drop_append, List.drop_of_length_le (by omega), show pre.length + 2 + xs.length - pre.length = xs.length + 2 from by omega]
    simp [← hz]
  rw [e3, e4]; simp
theorem pages_step0 (R : List Int) (hR : R.length = 512) :
    splice (((pagesTo R 0).set 0 (.int .i64 254)).set 1 (.int .u8 6)) 2 (bytesRow (R.take 256)) = pagesTo R 1 := by
  have := splice_page [] (bytesRow zero256) (pageRow 0 0 zero256) (bytesRow (R.take 256)) (.int .i64 0) (.int .u8 0) (.int .i64 254) (.int .u8 6) (by rw [bytesRow_length, bytesRow_length, zero256_length]; simp [hR])
  simpa [pagesTo, pageRow] using this
theorem pages_step1 (R : List Int) (hR : R.length = 512) :
    splice (((pagesTo R 1).set 258 (.int .i64 255)).set 259 (.int .u8 6)) 260 (bytesRow (R.drop 256)) = pagesTo R 2 := by
  have hl : (pageRow 254 6 (R.take 256)).length = 258 := by rw [pageRow_length]; simp [hR]
  have := splice_page (pageRow 254 6 (R.take 256)) (bytesRow zero256) [] (bytesRow (R.drop 256)) (.int .i64 0) (.int .u8 0) (.int .i64 255) (.int .u8 6) (by rw [bytesRow_length, bytesRow_length, zero256_length]; simp [hR])
  rw [hl] at this
  simpa [pagesTo, pageRow] using this
theorem pagesTo_length (R : List Int) (hR : R.length = 512) (k : Nat) : (pagesTo R k).length = 516 := by
  match k with
  | 0 => simp only [pagesTo, List.length_append, pageRow_length, zero256_length]
  | 1 => simp only [pagesTo, List.length_append, pageRow_length, zero256_length, List.length_take, hR]; rfl
  | (k + 2) => simp only [pagesTo, List.length_append, pageRow_length, List.length_take, List.length_drop, hR]; rfl
theorem bytesRow_one (L : List Int) : ∀ v ∈ bytesRow L, v.oneCell' = true := by
  intro v hv
  obtain ⟨x, _, rfl⟩ := List.mem_map.1 hv
  rfl
theorem stackRoom_length {ss : List ByteArray} (h : okArgs ss = true) : (stackRoom ss).length = 512 := by
  have ht : total ss ≤ 248 := by have := total_drop_le h 0; simpa using this
  have h8 := (ok_all h).1
  have hl := room_length ss (by omega)
  rw [stackRoom, splice_length _ _ _ (by rw [words8_length, heads_length, hl, spOff]; omega), hl]
theorem src0 {W : World} {g : Nat} {R : List Int} (h : Hid (Holds W g 216 (bytesRow R))) : ∀ j v, (bytesRow (R.take 256))[j]? = some v → W.drew.cell? ⟨g, 0 + j, none⟩ = some v := by
  intro j v hv
  refine ((unhide h).heap (W' := W.drew) rfl).cell ?_
  simp only [bytesRow, List.map_take, List.getElem?_take, Nat.zero_add] at hv ⊢
  split at hv
  · exact hv
  · cases hv
theorem src1 {W : World} {g : Nat} {R : List Int} (h : Hid (Holds W g 216 (bytesRow R))) : ∀ j v, (bytesRow (R.drop 256))[j]? = some v → W.drew.cell? ⟨g, 256 + j, none⟩ = some v := by
  intro j v hv
  refine ((unhide h).heap (W' := W.drew) rfl).cell ?_
  simpa only [bytesRow, List.map_drop, List.getElem?_drop] using hv

end Go.Proofs.YtkmbleboceedbaaGreatDoor

/- Load: the pages of a segment as plain lists. -/
namespace Go.Proofs.YtkmbleboceedbaaGreatDoor
open Go.RowKit
set_option linter.unusedVariables false
set_option linter.unusedSimpArgs false

/-- The byte at an address, by one segment: out of the file, or 0. -/
def segByte (B : List Int) (s : Seg) (at_ : Nat) : Int := if s.addr.toNat ≤ at_ ∧ at_ - s.addr.toNat < s.inFile.toNat then B.getD (s.offs.toNat + (at_ - s.addr.toNat)) 0 else 0
/-- Page p as one segment fills it. -/
def segPage (B : List Int) (s : Seg) (p : Nat) : List Int := (List.range 256).map fun j => segByte B s (p * 256 + j)
theorem segPage_length (B : List Int) (s : Seg) (p : Nat) : (segPage B s p).length = 256 := by simp [segPage]
/-- The pages of a segment. -/
def segPgs (B : List Int) (s : Seg) (n : Nat) : List Pg := (List.range n).map fun i => ⟨(s.addr.toNat / 256 + i : Nat), s.perm, segPage B s (s.addr.toNat / 256 + i)⟩
def apiRow (PS : List Pg) : List Value := PS.flatMap fun p => pageRow p.num p.perm p.bytes
def zeroRow : List Value := pageRow 0 0 zero256
theorem zeroRow_length : zeroRow.length = 258 := by rw [zeroRow, pageRow_length, zero256_length]
/-- n pages, k of them filled. -/
def pgFill (B : List Int) (s : Seg) (n k : Nat) : List Value := apiRow (segPgs B s k) ++ (List.replicate (n - k) zeroRow).flatten
theorem apiRow_length (PS : List Pg) (h : ∀ p ∈ PS, p.bytes.length = 256) : (apiRow PS).length = PS.length * 258 := by
  unfold apiRow
  induction PS with
  | nil => rfl
  | cons p r ih =>
    rw [List.flatMap_cons, List.length_append, ih (fun q hq => h q (List.mem_cons_of_mem _ hq)), pageRow_length, h p List.mem_cons_self, List.length_cons]
    omega
theorem segPgs_bytes (B : List Int) (s : Seg) (n : Nat) : ∀ p ∈ segPgs B s n, p.bytes.length = 256 := by
  intro p hp
  obtain ⟨i, _, rfl⟩ := List.mem_map.1 hp
  exact segPage_length _ _ _
theorem segPgs_length (B : List Int) (s : Seg) (n : Nat) : (segPgs B s n).length = n := by simp [segPgs]
theorem zeroRows_length (m : Nat) : (List.replicate m zeroRow).flatten.length = m * 258 := by
  induction m with
  | zero => rfl
  | succ m ih => rw [List.replicate_succ, List.flatten_cons, List.length_append, ih, zeroRow_length]; omega
theorem pgFill_length (B : List Int) (s : Seg) (n k : Nat) (h : k ≤ n) : (pgFill B s n k).length = n * 258 := by
  rw [pgFill, List.length_append, apiRow_length _ (segPgs_bytes B s k), segPgs_length, zeroRows_length]; omega
theorem pgFill_full (B : List Int) (s : Seg) (n : Nat) : pgFill B s n n = apiRow (segPgs B s n) := by rw [pgFill, Nat.sub_self]; simp
theorem pgFill_none (B : List Int) (s : Seg) (n : Nat) : pgFill B s n 0 = (List.replicate n zeroRow).flatten := by rw [pgFill, Nat.sub_zero]; rfl
/-- How many bytes of the file are laid ahead of the k-th page. -/
def eaten (s : Seg) (k : Nat) : Nat := if k = 0 then 0 else Nat.min s.inFile.toNat (k * 256 - s.addr.toNat % 256)
def startAt (s : Seg) (k : Nat) : Nat := if k = 0 then s.addr.toNat % 256 else 0
/-- What is copied into the k-th page. -/
def chunk (B : List Int) (s : Seg) (k : Nat) : List Int := (List.range (Nat.min (s.inFile.toNat - eaten s k) (256 - startAt s k))).map fun j => B.getD (s.offs.toNat + eaten s k + j) 0
theorem chunk_length (B : List Int) (s : Seg) (k : Nat) : (chunk B s k).length = Nat.min (s.inFile.toNat - eaten s k) (256 - startAt s k) := by simp [chunk]
theorem startAt_lt (s : Seg) (k : Nat) : startAt s k < 256 := by
  unfold startAt
  have := Nat.mod_lt s.addr.toNat (show 256 > 0 by omega)
  split <;> omega
theorem eaten_le (s : Seg) (k : Nat) : eaten s k ≤ s.inFile.toNat := by
  unfold eaten
  simp only [Nat.min_def]
  split
  · omega
  · split <;> omega
theorem min_or (a b : Nat) : (Nat.min a b = a ∧ a ≤ b) ∨ (Nat.min a b = b ∧ b ≤ a) := by simp only [Nat.min_def]; split <;> omega
theorem start_key (s : Seg) (k : Nat) : (k = 0 ∧ startAt s k = s.addr.toNat % 256 ∧ eaten s k = 0) ∨ (0 < k ∧ startAt s k = 0 ∧ (eaten s k = k * 256 - s.addr.toNat % 256 ∧ eaten s k ≤ s.inFile.toNat ∨ eaten s k = s.inFile.toNat ∧ s.inFile.toNat ≤ k * 256 - s.addr.toNat % 256)) := by
  rcases k with _ | k
  · exact .inl ⟨rfl, rfl, rfl⟩
  · refine .inr ⟨by omega, rfl, ?_⟩
    have e : eaten s (k + 1) = Nat.min s.inFile.toNat ((k + 1) * 256 - s.addr.toNat % 256) := by rw [eaten, if_neg (by omega)]
    have := min_or s.inFile.toNat ((k + 1) * 256 - s.addr.toNat % 256)
    omega
theorem eaten_step (s : Seg) (k : Nat) : eaten s (k + 1) = eaten s k + Nat.min (s.inFile.toNat - eaten s k) (256 - startAt s k) := by
  have a := start_key s k
  have b := start_key s (k + 1)
  have c := min_or (s.inFile.toNat - eaten s k) (256 - startAt s k)
  have r := Nat.mod_lt s.addr.toNat (show 256 > 0 by omega)
  omega
theorem zero256_get (j : Nat) : zero256[j]? = if j < 256 then some 0 else none := by rw [zero256, List.getElem?_replicate]
theorem page_chunk (B : List Int) (s : Seg) (k : Nat) : splice zero256 (startAt s k) (chunk B s k) = segPage B s (s.addr.toNat / 256 + k) := by
  have hcl := chunk_length B s k
  have hck : ∀ i, i < Nat.min (s.inFile.toNat - eaten s k) (256 - startAt s k) → (chunk B s k)[i]? = some (B.getD (s.offs.toNat + eaten s k + i) 0) := fun i hi => by
    rw [chunk, List.getElem?_map, List.getElem?_range hi]; rfl
  have hM := min_or (s.inFile.toNat - eaten s k) (256 - startAt s k)
  have hK := start_key s k
  have hs := startAt_lt s k
  have he := eaten_le s k
  have hr := Nat.mod_lt s.addr.toNat (show 256 > 0 by omega)
  have hd := Nat.div_add_mod s.addr.toNat 256
  generalize Nat.min (s.inFile.toNat - eaten s k) (256 - startAt s k) = M at *
  generalize startAt s k = S at *
  generalize eaten s k = Ea at *
  have hfit : S + (chunk B s k).length ≤ zero256.length := by rw [hcl, zero256_length]; omega
  apply List.ext_getElem?
  intro j
  rw [splice_get _ _ _ hfit, hcl, zero256_get]
  by_cases hj : j < 256
  · have hp : (segPage B s (s.addr.toNat / 256 + k))[j]? = some (segByte B s ((s.addr.toNat / 256 + k) * 256 + j)) := by
      rw [segPage, List.getElem?_map, List.getElem?_range hj]; rfl
    rw [if_pos hj, hp]
    unfold segByte
    generalize s.addr.toNat = A at *
    generalize s.inFile.toNat = F at *
    by_cases h1 : j < S
    · rw [if_pos h1, if_neg (by omega)]
    · rw [if_neg h1]
      by_cases h2 : j < S + M
      · rw [if_pos h2, hck _ (by omega), if_pos (by omega)]
        congr 2
        omega
      · rw [if_neg h2, if_neg (by omega)]
  · rw [if_neg hj, if_neg (by omega), if_neg (by omega)]
    rw [segPage, List.getElem?_map, List.getElem?_eq_none (by simp; omega)]; rfl
theorem splice_in (pre Z post xs : List Value) (a b x y : Value) (o : Nat) (hz : o + xs.length ≤ Z.length) :
    splice (((pre ++ (a :: b :: (Z ++ post))).set pre.length x).set (pre.length + 1) y) (pre.length + 2 + o) xs = pre ++ (x :: y :: (splice Z o xs ++ post)) := by
  have e1 : (pre ++ (a :: b :: (Z ++ post))).set pre.length x = pre ++ (x :: b :: (Z ++ post)) := by
    rw [List.set_append_right _ _ (Nat.le_refl _)]; simp
  have e2 : (pre ++ (x :: b :: (Z ++ post))).set (pre.length + 1) y = pre ++ (x :: y :: (Z ++ post)) := by
    rw [List.set_append_right _ _ (by omega)]; simp
  rw [e1, e2]
  unfold splice
  have e3 : (pre ++ (x :: y :: (Z ++ post))).take (pre.length + 2 + o) = pre ++ (x :: y :: Z.take o) := by
    rw [List.take_append, List.take_of_length_le (by omega), show pre.length + 2 + o - pre.length = o + 2 from by omega]
    simp only [List.take_succ_cons]
    rw [List.take_append_of_le_length (by omega)]
  have e4 : (pre ++ (x :: y :: (Z ++ post))).drop (pre.length + 2 + o + xs.length) = Z.drop (o + xs.length) ++ post := by
    rw [List.drop_append, List.drop_of_length_le (by omega), show pre.length + 2 + o + xs.length - pre.length = o + xs.length + 2 from by omega]
    simp only [List.drop_succ_cons, List.nil_append]
    rw [List.drop_append_of_le_length (by omega)]
  rw [e3, e4]; simp
theorem pgFill_step (B : List Int) (s : Seg) (n k : Nat) (h : k < n) :
    splice (((pgFill B s n k).set (k * 258) (.int .i64 (s.addr.toNat / 256 + k : Nat))).set (k * 258 + 1) (.int .u8 s.perm)) (k * 258 + 2 + startAt s k) (bytesRow (chunk B s k)) = pgFill B s n (k + 1) := by
  have hl : (apiRow (segPgs B s k)).length = k * 258 := by rw [apiRow_length _ (segPgs_bytes B s k), segPgs_length]
  have e1 : n - k = (n - (k + 1)) + 1 := by omega
  have e2 : segPgs B s (k + 1) = segPgs B s k ++ [⟨(s.addr.toNat / 256 + k : Nat), s.perm, segPage B s (s.addr.toNat / 256 + k)⟩] := by simp [segPgs, List.range_succ]
  have hfit : startAt s k + (bytesRow (chunk B s k)).length ≤ (bytesRow zero256).length := by
    rw [bytesRow_length, bytesRow_length, chunk_length, zero256_length]
    have := startAt_lt s k
    simp only [Nat.min_def]; split <;> omega
  have hst := splice_in (apiRow (segPgs B s k)) (bytesRow zero256) (List.replicate (n - (k + 1)) zeroRow).flatten (bytesRow (chunk B s k)) (.int .i64 0) (.int .u8 0) (.int .i64 (s.addr.toNat / 256 + k : Nat)) (.int .u8 s.perm) (startAt s k) hfit
  rw [hl] at hst
  have e3 : pgFill B s n k = apiRow (segPgs B s k) ++ (.int .i64 0 :: .int .u8 0 :: (bytesRow zero256 ++ (List.replicate (n - (k + 1)) zeroRow).flatten)) := by
    rw [pgFill, e1, List.replicate_succ, List.flatten_cons]; rfl
  rw [e3, hst, bytesRow_splice, page_chunk, pgFill, e2, apiRow, apiRow, List.flatMap_append]
  simp [pageRow]
end Go.Proofs.YtkmbleboceedbaaGreatDoor

/- Stack: closed facts on the document's pages. -/
namespace Go.Proofs.YtkmbleboceedbaaGreatDoor
open Go.RowKit
/-- A page of the document's answer as cells. -/
def refPage (num perm : Int) (bytes : List Int) : List Value := .int .i64 num :: .int .i64 perm :: bytesRow bytes
theorem refPage_length (a b : Int) (L : List Int) : (refPage a b L).length = L.length + 2 := by simp [refPage, bytesRow_length]
set_option maxRecDepth 100000 in
theorem buildPage (n : Int) (w : World) : (Instr.build 155 #[(0, .int .i64 n), (1, .int .i64 6)]).run Tryz.prog w = .ok (.agg (refPage n 6 zero256).toArray) w := by kernel_rfl
set_option maxRecDepth 100000 in
theorem allocPage (old : Value) (w : World) : (Instr.alloc 155 true old).run Tryz.prog w = .ok (.pointer (some ⟨w.heap.size, 0, none⟩)) (w.alloc (.cells (refPage 0 0 zero256).toArray 155)) := by kernel_rfl
set_option maxRecDepth 100000 in
theorem pageInfo : (Tryz.prog.info? 155).map (fun i => (i.zero, i.size, i.bytes)) = some (some (.agg (refPage 0 0 zero256).toArray), 258, 272) := by kernel_rfl
theorem pageSize : (Tryz.prog.info? 155).map (·.size) = some 258 := by kernel_rfl
theorem refPage_one (a b : Int) (L : List Int) : ∀ v ∈ refPage a b L, v.oneCell' = true := by
  intro v hv
  simp only [refPage, List.mem_cons] at hv
  rcases hv with rfl | rfl | hv
  · rfl
  · rfl
  · obtain ⟨x, _, rfl⟩ := List.mem_map.1 hv
    rfl
theorem refPage_splice (n : Int) (Z xs : List Int) (h : Z.length = xs.length) : splice (refPage n 6 Z) 2 (bytesRow xs) = refPage n 6 xs := by
  unfold splice refPage
  have e : (bytesRow Z).drop (bytesRow xs).length = [] := List.drop_eq_nil_of_le (by rw [bytesRow_length, bytesRow_length]; omega)
  simp only [List.take_succ_cons, List.take_zero, Nat.add_comm 2, List.drop_succ_cons, e, List.append_nil]
  rfl
/-- The document's pages while they are filled out of R. -/
def refPagesTo (R : List Int) : Nat → List Value
  | 0 => []
  | 1 => refPage 254 6 (R.take 256)
  | _ => refPage 254 6 (R.take 256) ++ refPage 255 6 (R.drop 256)
theorem grown_row {w : World} {g : Nat} (cs : Array Value) : w.grownBy (w.setRow g cs) (some g) :=
  ⟨rfl, rfl, rfl, by simp [World.setRow], fun k hk hne => setRow_other w g k cs (fun e => hne (by simp [e]))⟩
/-- A whole row stored: the world behind it by a name. -/
theorem wpList_store_hold {P : Program} {ops : Array Oper} {rest : List Oper} {o : Oper} {a : Act} {w : World} {Q : Exit → Act → World → Prop} (hgd : o.guard = none) (ty : TypeId) (x y : Operand) (ho : o.op = .store ty x y)
    (g : Nat) (cs : List Value) (hx : a.eval x = .pointer (some ⟨g, 0, none⟩)) (hy : a.eval y = .agg cs.toArray)
    (t : TypeId) (old : List Value) (hg : Holds w g t old) (hi : (P.info? ty).map (·.size) = some cs.length) (hold : old.length = cs.length) (h1 : ∀ v ∈ cs, v.oneCell' = true)
    (h : ∀ w', Hid (Holds w' g t cs) → w.grownBy w' (some g) → wpList P ops Q rest (a.put o.dst undef) w') : wpList P ops Q (o :: rest) a w := by
  refine wpList_store_row hgd ty x y ho g cs.toArray hx hy t old.toArray hg (by simpa using hi) (by simpa using hold) (all_oneCell_toArray h1) ?_
  exact h _ (holds_setRow hg cs) (grown_row _)
end Go.Proofs.YtkmbleboceedbaaGreatDoor
