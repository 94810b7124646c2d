import Derived.WalkKit
import Derived.Laws.CopyOwn
import Derived.Test.YtjkpeelijbeekaaGreatDoorProg
import Derived.Deep.AppendLies
import Derived.Laws.Strings2
import Derived.Deep.MidRow
import Derived.Deep.QuietTactic
import Derived.BigQuiet
/- Rows of cells in a block, and what is laid over them: plain lemmas, no program. -/
namespace Go.Proofs.YtjkpeelijbeekaaGreatDoor
open Go Go.RowKit

theorem hide {p : Prop} (h : p) : Hid p := h
theorem unhide {p : Prop} (h : Hid p) : p := h

theorem bcell {W w1 : World} (hb : Below W.heap.size W w1) : (∀ b o, b < W.heap.size → w1.cell? ⟨b, o, none⟩ = W.cell? ⟨b, o, none⟩) ∧ (∀ b o, b < W.heap.size → w1.frozen? ⟨b, o, none⟩ = W.frozen? ⟨b, o, none⟩) :=
  ⟨fun b o h => hb.cell (p := ⟨b, o, none⟩) h, fun b o h => hb.frozen (p := ⟨b, o, none⟩) h⟩

/-- Block b is a row of just these cells. -/
def Holds (W : World) (b : Nat) (t : TypeId) (vs : List Value) : Prop := W.heap[b]? = some (.cells vs.toArray t (0, 0))

theorem Holds.cell {W : World} {b : Nat} {t : TypeId} {vs : List Value} (h : Holds W b t vs) {j : Nat} {v : Value} (hj : vs[j]? = some v) : W.cell? ⟨b, j, none⟩ = some v := by
  unfold Holds at h; simp [World.cell?, h, hj]
theorem Holds.frozen {W : World} {b : Nat} {t : TypeId} {vs : List Value} (h : Holds W b t vs) (j : Nat) : W.frozen? ⟨b, j, none⟩ = false := by
  unfold Holds at h; simp [World.frozen?, h]
theorem Holds.lt {W : World} {b : Nat} {t : TypeId} {vs : List Value} (h : Holds W b t vs) : b < W.heap.size := by
  unfold Holds at h
  exact (Array.getElem?_eq_some_iff.1 h).1
theorem Holds.set {W : World} {b : Nat} {t : TypeId} {vs : List Value} (h : Holds W b t vs) (j : Nat) (v : Value) : Holds (W.setCell ⟨b, j, none⟩ v) b t (vs.set j v) := by
  unfold Holds at h ⊢
  simp only [World.setCell, Array.getElem?_modify, h]
  simp
theorem Holds.set_other {W : World} {b c : Nat} {t : TypeId} {vs : List Value} (h : Holds W b t vs) (hne : b ≠ c) (j : Nat) (v : Value) : Holds (W.setCell ⟨c, j, none⟩ v) b t vs := by
  unfold Holds at h ⊢
  rw [Below.heap_setCell _ _ _ _ hne]; exact h
theorem Holds.grown {W W' : World} {b : Nat} {t : TypeId} {vs : List Value} {row : Option Nat} (h : Holds W b t vs) (hg : W.grownBy W' row) (hne : some b ≠ row) : Holds W' b t vs := by
  have hl := h.lt
  unfold Holds at h ⊢
  rw [hg.block b hl hne]; exact h
theorem Holds.below {W W' : World} {b B : Nat} {t : TypeId} {vs : List Value} (h : Holds W b t vs) (hg : Below B W W') (hlt : b < B) : Holds W' b t vs := by
  unfold Holds at h ⊢
  rw [hg.block b hlt]; exact h
theorem Holds.alloc {W : World} {b : Nat} {t : TypeId} {vs : List Value} (h : Holds W b t vs) (o : Obj) : Holds (W.alloc o) b t vs := by
  have hl := h.lt
  unfold Holds at h ⊢
  rw [Below.heap_alloc _ _ _ hl]; exact h
theorem Holds.new (W : World) (t : TypeId) (vs : List Value) : Holds (W.alloc (.cells vs.toArray t)) W.heap.size t vs := by
  unfold Holds
  show (W.heap.push _)[W.heap.size]? = _
  simp
theorem Holds.heap {W W' : World} {b : Nat} {t : TypeId} {vs : List Value} (h : Holds W b t vs) (he : W'.heap = W.heap) : Holds W' b t vs := by
  unfold Holds at h ⊢; rw [he]; exact h
theorem grown_set {w wr : World} {b : Nat} (h : w.grownBy wr (some b)) (j : Nat) (v : Value) : w.grownBy (wr.setCell ⟨b, j, none⟩ v) (some b) :=
  ⟨h.os, h.tape, h.output, by simp only [World.setCell, Array.size_modify]; exact h.size, fun k hk hne => by
    rw [Below.heap_setCell _ _ _ _ (fun e => hne (by simp [e])), h.block k hk hne]⟩
theorem grown_trans {a b c : World} {row : Option Nat} (h : a.grownBy b row) (k : b.grownBy c row) : a.grownBy c row :=
  ⟨k.os.trans h.os, k.tape.trans h.tape, k.output.trans h.output, Nat.le_trans h.size k.size, fun i hi hne => (k.block i (Nat.lt_of_lt_of_le hi h.size) hne).trans (h.block i hi hne)⟩
theorem below_grown {B b : Nat} {w wr : World} (h : w.grownBy wr (some b)) (hB : B ≤ b) (hw : B ≤ w.heap.size) : Below B w wr :=
  ⟨h.os, h.tape, h.output, h.size, fun k hk => h.block k (by omega) (fun e => by simp at e; omega)⟩

theorem grown_cell {w w' : World} {g b : Nat} (hg : w.grownBy w' (some g)) (hb : b < w.heap.size) (hne : b ≠ g) (o : Nat) : w'.cell? ⟨b, o, none⟩ = w.cell? ⟨b, o, none⟩ :=
  World.cell?_of_block (a := ⟨b, o, none⟩) (hg.block b hb (by simpa using hne))

/-! ### Lists -/
theorem splice_get {α : Type} (L : List α) (off : Nat) (cs : List α) (h : off + cs.length ≤ L.length) (j : Nat) :
    (splice L off cs)[j]? = if j < off then L[j]? else if j < off + cs.length then cs[j - off]? else L[j]? := by
  unfold splice
  rw [List.getElem?_append]
  have e : (L.take off).length = off := by simp; omega
  rw [e]
  split
  · rw [List.getElem?_take]; simp [*]
  · rw [List.getElem?_append]
    split
    · rw [if_pos (by omega)]
    · rw [if_neg (by omega), List.getElem?_drop]
      congr 1; omega
theorem splice_nil {α : Type} (L : List α) (off : Nat) : splice L off [] = L := by simp [splice]
theorem splice_length {α : Type} (L : List α) (off : Nat) (cs : List α) (h : off + cs.length ≤ L.length) : (splice L off cs).length = L.length := length_splice L off cs h
theorem splice_set {α : Type} (L : List α) (off : Nat) (xs : List α) (k : Nat) (x : α) (hx : xs[k]? = some x) (h : off + xs.length ≤ L.length) :
    (splice L off (xs.take k)).set (off + k) x = splice L off (xs.take (k + 1)) := by
  have hk : k < xs.length := (List.getElem?_eq_some_iff.1 hx).1
  have h1 : off + (xs.take k).length ≤ L.length := by simp; omega
  have h2 : off + (xs.take (k + 1)).length ≤ L.length := by simp; omega
  apply List.ext_getElem?
  intro j
  rw [List.getElem?_set, splice_get _ _ _ h1, splice_get _ _ _ h2, splice_length _ _ _ h1]
  have e1 : (xs.take k).length = k := by simp; omega
  have e2 : (xs.take (k + 1)).length = k + 1 := by simp; omega
  rw [e1, e2]
  by_cases hj : off + k = j
  · subst hj
    rw [if_pos rfl, if_pos (by omega), if_neg (by omega), if_pos (by omega), Nat.add_sub_cancel_left, List.getElem?_take, if_pos (by omega), hx]
  · rw [if_neg hj]
    by_cases a : j < off
    · simp [a]
    · by_cases c : j < off + k
      · rw [if_neg a, if_pos c, if_neg a, if_pos (by omega), List.getElem?_take, List.getElem?_take, if_pos (by omega), if_pos (by omega)]
      · rw [if_neg a, if_neg c, if_neg a, if_neg (by omega)]
theorem splice_splice {α : Type} (L : List α) (off : Nat) (xs ys : List α) (h : off + xs.length + ys.length ≤ L.length) :
    splice (splice L off xs) (off + xs.length) ys = splice L off (xs ++ ys) := by
  have h1 : off + xs.length ≤ L.length := by omega
  apply List.ext_getElem?
  intro j
  rw [splice_get _ _ _ (by rw [splice_length _ _ _ h1]; exact h), splice_get _ _ _ h1, splice_get _ _ _ (by simp; omega), List.length_append]
  by_cases a : j < off
  · simp [a]; intro; omega
  · by_cases c : j < off + xs.length
    · rw [if_pos c, if_neg a, if_pos c, if_neg a, if_pos (by omega), List.getElem?_append_left (by omega)]
    · by_cases d : j < off + xs.length + ys.length
      · rw [if_neg c, if_pos d, if_neg a, if_pos (by omega), List.getElem?_append_right (by omega)]
        congr 1; omega
      · rw [if_neg c, if_neg d, if_neg a, if_neg c, if_neg a, if_neg (by omega)]

/-- Bytes as cells. -/
def bytesRow (L : List Int) : List Value := L.map (Value.int .u8)
theorem bytesRow_length (L : List Int) : (bytesRow L).length = L.length := by simp [bytesRow]
theorem bytesRow_get (L : List Int) (j : Nat) (h : j < L.length) : (bytesRow L)[j]? = some (.int .u8 (L.getD j 0)) := by
  simp [bytesRow, List.getD, List.getElem?_eq_getElem h]
theorem bytesRow_set (L : List Int) (j : Nat) (x : Int) : (bytesRow L).set j (.int .u8 x) = bytesRow (L.set j x) := by
  simp [bytesRow, List.map_set]
theorem bytesRow_splice (L : List Int) (off : Nat) (xs : List Int) : splice (bytesRow L) off (bytesRow xs) = bytesRow (splice L off xs) := by
  simp [bytesRow, splice, List.map_take, List.map_drop]
theorem Holds.bytes {W : World} {b : Nat} {t : TypeId} {L : List Int} (h : Holds W b t (bytesRow L)) : ∀ j, j < L.length → W.cell? ⟨b, j, none⟩ = some (.int .u8 (L.getD j 0)) :=
  fun j hj => h.cell (bytesRow_get L j hj)

/-- The 8 bytes of a number, the lowest first. -/
def bytes8 (n : Int) : List Int := (List.range 8).map fun k => n / 2 ^ (8 * k) % 256
theorem bytes8_length (n : Int) : (bytes8 n).length = 8 := by simp [bytes8]
theorem bytes8_get (n : Int) (k : Nat) (h : k < 8) : (bytes8 n)[k]? = some (n / 2 ^ (8 * k) % 256) := by
  simp [bytes8, h]

/-- Words as cells. -/
def wordsRow (ws : List Int) : List Value := ws.map (Value.int .u64)
theorem wordsRow_get (L : List Int) (j : Nat) (h : j < L.length) : (wordsRow L)[j]? = some (.int .u64 (L.getD j 0)) := by
  simp [wordsRow, List.getD, List.getElem?_eq_getElem h]
theorem wordsRow_set (L : List Int) (j : Nat) (x : Int) : (wordsRow L).set j (.int .u64 x) = wordsRow (L.set j x) := by
  simp [wordsRow, List.map_set]
def words8 (ws : List Int) : List Int := ws.flatMap bytes8
theorem words8_length (ws : List Int) : (words8 ws).length = 8 * ws.length := by
  unfold words8
  induction ws with
  | nil => rfl
  | cons w r ih => rw [List.flatMap_cons, List.length_append, ih, bytes8_length, List.length_cons]; omega
theorem words8_get (ws : List Int) : ∀ (i k : Nat), k < 8 → i < ws.length → (words8 ws)[8 * i + k]? = some (ws.getD i 0 / 2 ^ (8 * k) % 256) := by
  induction ws with
  | nil => intro i k _ h; simp at h
  | cons w r ih =>
    intro i k hk hi
    unfold words8
    rw [List.flatMap_cons]
    cases i with
    | zero =>
      rw [List.getElem?_append_left (by rw [bytes8_length]; omega)]
      simpa using bytes8_get w k hk
    | succ i =>
      rw [List.getElem?_append_right (by rw [bytes8_length]; omega), bytes8_length]
      have := ih i k hk (by simpa using hi)
      unfold words8 at this
      have e : 8 * (i + 1) + k - 8 = 8 * i + k := by omega
      rw [e, this]; simp
end Go.Proofs.YtjkpeelijbeekaaGreatDoor

/- tinyosref.isName, names. -/
namespace Go.Proofs.YtjkpeelijbeekaaGreatDoor
open Go.RowKit
set_option linter.unusedVariables false
set_option linter.unusedSimpArgs false

/-- No byte is 0 or a slash. -/
def noSlash (s : ByteArray) : Bool := s.data.toList.all (fun c => c != 0 && c != 47)
/-- A text is a name. -/
def nameOk (s : ByteArray) : Bool := decide (1 ≤ s.size) && decide (s.size ≤ 14) && !(s.toList == [46]) && !(s.toList == [46, 46]) && noSlash s
theorem byte_int0 (c : UInt8) : ((c.toNat : Int) == 0) = (c == 0) := by
  by_cases h : c = 0
  · subst h; rfl
  · have h1 : (c == 0) = false := by simpa using h
    rw [h1]
    have h2 : c.toNat ≠ 0 := fun e => h (UInt8.toNat_inj.1 e)
    simp; omega
theorem byte_int47 (c : UInt8) : ((c.toNat : Int) == 47) = (c == 47) := by
  by_cases h : c = 47
  · subst h; rfl
  · have h1 : (c == 47) = false := by simpa using h
    rw [h1]
    have h2 : c.toNat ≠ 47 := fun e => h (UInt8.toNat_inj.1 e)
    simp; omega
theorem data_get (s : ByteArray) (j : Nat) (h : j < s.size) : s.data.toList[j]? = some s[j] := by
  have h2 : j < s.data.toList.length := by simpa using h
  rw [List.getElem?_eq_getElem h2]; rfl
theorem all_upto {l : List UInt8} {f : UInt8 → Bool} (h : ∀ j, j < l.length → ∀ c, l[j]? = some c → f c = true) : l.all f = true := by
  rw [List.all_eq_true]
  intro c hc
  obtain ⟨j, hj, rfl⟩ := List.mem_iff_getElem.1 hc
  exact h j hj _ (List.getElem?_eq_getElem hj)
theorem all_bad {l : List UInt8} {f : UInt8 → Bool} {j : Nat} {c : UInt8} (h : l[j]? = some c) (hf : f c = false) : l.all f = false := by
  rw [List.all_eq_false]
  exact ⟨c, List.mem_of_getElem? h, by rw [hf]; decide⟩

set_option maxRecDepth 100000 in
set_option maxHeartbeats 1000000 in
theorem refIsName_any (s : ByteArray) (w : World) (hs : s.size ≤ 1000) : Calls Tryz.prog 108 #[.string s] w fun e w' => e = .returned (.bool (nameOk s)) ∧ w' = w := by
  by_cases h1 : 1 ≤ s.size
  case neg =>
    have hr : nameOk s = false := by simp [nameOk]; omega
    rw [hr]
    clear hr
    go_enter Tryz.func108, Tryz.ntmps108
    go_wp2
    go_ret
    exact ⟨rfl, rfl⟩
  by_cases h2 : s.size ≤ 14
  case neg =>
    have hr : nameOk s = false := by simp [nameOk]; omega
    rw [hr]
    clear hr
    go_enter Tryz.func108, Tryz.ntmps108
    go_wp2
    go_ret
    exact ⟨rfl, rfl⟩
  by_cases h3 : (s.toList == [46]) = true
  · have hr : nameOk s = false := by simp [nameOk, h3]
    rw [hr]
    clear hr
    go_enter Tryz.func108, Tryz.ntmps108
    go_wp2
    go_ret
    exact ⟨rfl, rfl⟩
  have h3' : (s.toList == [46]) = false := by simpa using h3
  by_cases h4 : (s.toList == [46, 46]) = true
  · have hr : nameOk s = false := by simp [nameOk, h4]
    rw [hr]
    clear hr h3
    go_enter Tryz.func108, Tryz.ntmps108
    go_wp2
    go_ret
    exact ⟨rfl, rfl⟩
  have h4' : (s.toList == [46, 46]) = false := by simpa using h4
  have hr : nameOk s = noSlash s := by simp [nameOk, h1, h2, h3', h4']
  rw [hr]
  clear h3 h4 hr
  go_enter Tryz.func108, Tryz.ntmps108
  go_wp2
  go_loop [3] (fun i => ∃ k : Nat, k ≤ s.size ∧ i = .int .i64 k ∧ Hid (∀ j, j < k → ∀ c, s.data.toList[j]? = some c → (c != 0 && c != 47) = true)) (fun i => s.size - (intOf i).toNat)
  case atStart => exact ⟨0, by omega, rfl, hide (fun j hj => by omega)⟩
  case round =>
    obtain ⟨k, hk, rfl, HA⟩ := hrel
    by_cases hlt : k < s.size
    · have hd := data_get s k hlt
      by_cases c1 : s[k] = 0
      · have g1 : ((s[k].toNat : Int) == 0) = true := by rw [byte_int0, c1]; rfl
        have hr : noSlash s = false := all_bad hd (by rw [c1]; rfl)
        have HR := hide hr
        clear hd hr c1
        go_wp2
        go_ret
        exact ⟨by rw [unhide HR]; rfl, rfl⟩
      have g1 : ((s[k].toNat : Int) == 0) = false := by rw [byte_int0]; simpa using c1
      by_cases c2 : s[k] = 47
      · have g2 : ((s[k].toNat : Int) == 47) = true := by rw [byte_int47, c2]; rfl
        have hr : noSlash s = false := all_bad hd (by rw [c2]; rfl)
        have HR := hide hr
        clear hd hr c1 c2
        go_wp2
        go_ret
        exact ⟨by rw [unhide HR]; rfl, rfl⟩
      have g2 : ((s[k].toNat : Int) == 47) = false := by rw [byte_int47]; simpa using c2
      have HN : Hid (∀ j, j < k + 1 → ∀ c, s.data.toList[j]? = some c → (c != 0 && c != 47) = true) := hide (fun j hj c hc => by
        rcases Nat.lt_succ_iff_lt_or_eq.1 hj with h | h
        · exact unhide HA j h c hc
        · subst h
          rw [hd] at hc
          obtain rfl := Option.some.inj hc
          simp [c1, c2])
      clear hd c1 c2
      go_wp2
      go_round
      case rel => exact ⟨k + 1, by omega, by go_num, HN⟩
      case measure => simp [intOf]; omega
    · have hsl : s.data.toList.length = s.size := by simp
      have hr : noSlash s = true := all_upto (fun j hj c hc => unhide HA j (by omega) c hc)
      have HR := hide hr
      clear hr hsl
      go_wp2
      go_ret
      exact ⟨by rw [unhide HR]; rfl, rfl⟩

/-- What lies between slashes: behind a word that was begun. -/
def parts : List UInt8 → List UInt8 → List (List UInt8)
  | [], word => [word]
  | c :: r, word => if c = 47 then word :: parts r [] else parts r (word ++ [c])
def strOf (l : List UInt8) : ByteArray := ⟨l.toArray⟩
/-- What lies between the slashes of a path. -/
def pathParts (s : ByteArray) : List ByteArray := (parts (s.data.toList.drop 1) []).map strOf
/-- The names of a path; none: it is none. -/
def namesOf (s : ByteArray) : Option (List ByteArray) :=
  if 60 < s.size ∨ s.size = 0 ∨ s.data.toList[0]? ≠ some 47 then none
  else if s.size = 1 then some []
  else if (pathParts s).all nameOk = true then some (pathParts s) else none
theorem append_data (a b : ByteArray) : (a ++ b).data.toList = a.data.toList ++ b.data.toList := by simp
theorem extract_one (s : ByteArray) (k : Nat) (h : k < s.size) : (s.extract k (k + 1)).data.toList = [s[k]] := by
  rw [ByteArray.data_extract]
  have h2 : k < s.data.size := h
  rw [Array.toList_extract]
  simp [List.extract]
  rw [List.drop_eq_getElem_cons (by simpa using h2)]
  simp
  rfl
theorem root_eq {s : ByteArray} (h1 : s.size = 1) (h : s.data.toList[0]? = some 47) : (s.toList == [47]) = true := by
  rw [ByteArray.toList_eq]
  have hl : s.data.toList.length = 1 := by simpa using h1
  match hx : s.data.toList, hl with
  | [c], _ =>
    rw [hx] at h
    have : c = 47 := by simpa using h
    subst this; rfl
theorem root_ne {s : ByteArray} (h1 : ¬ s.size = 1) : (s.toList == [47]) = false := by
  rw [ByteArray.toList_eq, beq_eq_false_iff_ne]
  intro h
  have hl : s.data.toList.length = s.size := by simp
  rw [h] at hl
  exact h1 hl.symm
theorem strOf_data (s : ByteArray) : strOf s.data.toList = s := rfl
theorem strOf_size (l : List UInt8) : (strOf l).size = l.length := by simp [strOf, ByteArray.size]
def strsRow (l : List ByteArray) : List Value := l.map Value.string
theorem parts_ne (l : List UInt8) : ∀ word, parts l word ≠ [] := by
  induction l with
  | nil => intro word; simp [parts]
  | cons c r ih => intro word; unfold parts; split <;> simp [ih]
theorem parts_slash (l : List UInt8) (i : Nat) (word : List UInt8) (h : l[i]? = some 47) : parts (l.drop i) word = word :: parts (l.drop (i + 1)) [] := by
  have hi := (List.getElem?_eq_some_iff.1 h).1
  rw [List.drop_eq_getElem_cons hi, parts, if_pos (by rw [List.getElem?_eq_getElem hi] at h; exact Option.some.inj h)]
theorem parts_char (l : List UInt8) (i : Nat) (word : List UInt8) (c : UInt8) (h : l[i]? = some c) (hc : c ≠ 47) : parts (l.drop i) word = parts (l.drop (i + 1)) (word ++ [c]) := by
  have hi := (List.getElem?_eq_some_iff.1 h).1
  have e : l[i] = c := by rw [List.getElem?_eq_getElem hi] at h; exact Option.some.inj h
  rw [List.drop_eq_getElem_cons hi, parts, e, if_neg hc]
theorem strInfo : (Tryz.prog.info? 9).map (fun i => (i.zero, i.size, i.bytes)) = some (some (.string ByteArray.empty), 1, 16) := by kernel_rfl
theorem info_of {P : Program} {t : TypeId} {z : Value} {a b : Nat} (h : (P.info? t).map (fun i => (i.zero, i.size, i.bytes)) = some (some z, a, b)) : ∃ i, P.info? t = some i ∧ i.zero = some z ∧ i.size = a ∧ i.bytes = b := by
  obtain ⟨i, hi, h2⟩ := Option.map_eq_some_iff.1 h
  simp only [Prod.mk.injEq] at h2
  exact ⟨i, hi, h2.1, h2.2.1, h2.2.2⟩
theorem names_bad {s : ByteArray} (h1 : s.size ≤ 60) (h2 : ¬ s.size = 0) (h5 : ¬ s.size = 1) {c : UInt8} (hd : s.data.toList[0]? = some c) (hc : c = 47) {D : List ByteArray} {W : ByteArray} (h : ∃ r, pathParts s = D ++ W :: r) (hn : nameOk W = false) : namesOf s = none := by
  unfold namesOf
  rw [if_neg (by rintro (h | h | h); omega; omega; exact h (by rw [hd, hc])), if_neg h5, if_neg]
  obtain ⟨r, h⟩ := h
  rw [h, List.all_append, List.all_cons, hn]
  simp
def NamesPost (s : ByteArray) (w : World) (e : Ending) (w' : World) : Prop :=
  (namesOf s = none ∧ e = .returned (.tuple #[.slice none 0 0, .bool false]) ∨ ∃ l, namesOf s = some l ∧ ∃ v, e = .returned (.tuple #[v, .bool true]) ∧ w'.ownsRow w.heap.size 9 1 v l.length (strsRow l)) ∧ Below w.heap.size w w'

set_option maxRecDepth 100000 in
set_option maxHeartbeats 1000000 in
theorem refNames_any (s : ByteArray) (w : World) (hs : s.size ≤ maxLen) : Calls Tryz.prog 76 #[.string s] w fun e w' => NamesPost s w e w' := by
  unfold maxLen at hs
  by_cases h1 : s.size ≤ 60
  case neg =>
    have hr : namesOf s = none := by unfold namesOf; rw [if_pos (.inl (by omega))]
    have HR := hide hr
    clear hr
    go_enter Tryz.func76, Tryz.ntmps76
    go_wp2
    go_ret2
    exact ⟨.inl ⟨unhide HR, rfl⟩, Below.refl _ _⟩
  by_cases h2 : s.size = 0
  · have hr : namesOf s = none := by unfold namesOf; rw [if_pos (.inr (.inl h2))]
    have HR := hide hr
    clear hr
    go_enter Tryz.func76, Tryz.ntmps76
    go_wp2
    go_ret2
    exact ⟨.inl ⟨unhide HR, rfl⟩, Below.refl _ _⟩
  have h0 : 0 < s.size := by omega
  have g0 : ((s.size : Int) == 0) = false := by rw [beq_eq_false_iff_ne]; omega
  have hd0 := data_get s 0 h0
  by_cases h3 : s[0] = 47
  case neg =>
    have hr : namesOf s = none := by unfold namesOf; rw [if_pos (.inr (.inr (by rw [hd0]; intro e; exact h3 (Option.some.inj e))))]
    have HR := hide hr
    have g : ((s[0].toNat : Int) != 47) = true := by
      have := byte_int47 s[0]
      have h4 : (s[0] == 47) = false := by simpa using h3
      rw [h4] at this
      simpa using this
    clear hr hd0 h3
    go_enter Tryz.func76, Tryz.ntmps76
    go_wp2
    go_ret2
    exact ⟨.inl ⟨unhide HR, rfl⟩, Below.refl _ _⟩
  have g : ((s[0].toNat : Int) != 47) = false := by rw [h3]; rfl
  by_cases h5 : s.size = 1
  · have hr : namesOf s = some [] := by unfold namesOf; rw [if_neg (by rintro (h | h | h); omega; omega; exact h (by rw [hd0, h3])), if_pos h5]
    have HR := hide hr
    have g2 := root_eq h5 (hd0.trans (by rw [h3]))
    clear hr hd0 h3
    go_enter Tryz.func76, Tryz.ntmps76
    go_wp2
    go_ret2
    exact ⟨.inr ⟨[], unhide HR, _, rfl, World.ownsRow_nil _ _ _ _⟩, Below.refl _ _⟩
  have g2 := root_ne h5
  have HD := hide (And.intro h3 hd0)
  obtain ⟨is, his, hz0, hz1, hz2⟩ := info_of strInfo
  have HIS := hide (And.intro his (And.intro hz0 (And.intro hz1 hz2)))
  clear h3 hd0 his hz0 hz1 hz2
  go_enter Tryz.func76, Tryz.ntmps76
  go_wp2
  go_loopw [4, 5, 6] (fun l word i wr => ∃ k : Nat, ∃ W : ByteArray, ∃ D : List ByteArray, 1 ≤ k ∧ k ≤ s.size + 1 ∧ i = .int .i64 k ∧ word = .string W ∧ Hid (D.all nameOk = true) ∧ D.length ≤ k ∧ W.size ≤ k ∧
      Hid ((k ≤ s.size → pathParts s = D ++ (parts (s.data.toList.drop k) W.data.toList).map strOf) ∧ (k = s.size + 1 → pathParts s = D)) ∧ Hid (wr.ownsRow w.heap.size 9 1 l D.length (strsRow D)) ∧ Hid (Below w.heap.size w wr)) (fun _ _ i _ => s.size + 1 - (intOf i).toNat)
  case atStart => exact ⟨1, ByteArray.empty, [], by omega, by omega, rfl, rfl, hide rfl, by simp, by simp, hide ⟨fun _ => rfl, fun h => by omega⟩, hide (World.ownsRow_nil _ _ _ _), hide (Below.refl _ _)⟩
  case round =>
    obtain ⟨k, W, D, hk1, hk, rfl, rfl, HAL, hDl, hWl, HPT, HOW, HBL⟩ := hrel
    by_cases hlt : k < s.size
    · by_cases c1 : s[k] = 47
      · have g3 : ((s[k].toNat : Int) != 47) = false := by rw [c1]; rfl
        have hpt := (unhide HPT).1 (by omega)
        rw [parts_slash s.data.toList k W.data.toList (by rw [data_get s k hlt, c1])] at hpt
        have HNX := hide (show (k + 1 ≤ s.size → pathParts s = (D ++ [W]) ++ (parts (s.data.toList.drop (k + 1)) ByteArray.empty.data.toList).map strOf) ∧ (k + 1 = s.size + 1 → pathParts s = D ++ [W]) from
          ⟨fun _ => by rw [hpt, List.append_assoc]; rfl, fun h => by omega⟩)
        have HEQ := hide (show ∃ r, pathParts s = D ++ W :: r from ⟨_, by rw [hpt]; rfl⟩)
        have HNM := hide (refIsName_any W wr (by omega))
        have hsz := (unhide HBL).size
        obtain ⟨b, hb⟩ : ∃ b, b = nameOk W := ⟨_, rfl⟩
        rw [← hb] at HNM
        have HBB := hide hb
        clear hpt hb c1
        go_wp2_with fail
        refine (unhide HNM).mono ?_
        rintro e w1 ⟨rfl, hw1⟩
        subst hw1
        cases b
        · have HR := hide (names_bad h1 h2 h5 (unhide HD).2 (unhide HD).1 (unhide HEQ) (unhide HBB).symm)
          go_wp2
          go_ret2
          exact ⟨.inl ⟨unhide HR, rfl⟩, unhide HBL⟩
        · go_wp2_with (at_builtin; refine wpList_append_lies _ (by rfl) _ _ 50 (by rfl) w.heap.size 9 is _ 1 16 Tryz.underlying50 (unhide HIS).1 (unhide HIS).2.1 (unhide HIS).2.2.1 (unhide HIS).2.2.2 rfl (by decide) _ _ _ (by rfl) ((unhide HOW).alloc _) ⟨w1.heap.size, 0, none⟩ 1 1 [.string W] (by rfl) (by rfl) (World.news_of_block (cs := #[.string W]) (t := 9) (fr := (0, 0)) (heap_alloc_new w1 _)) (by simp [Value.oneCell']) (by omega) (by unfold maxLen; omega) (by omega) (by simp; omega) (w1.heap.size + 1) (by simp) ?_; intro g cap5 w5 hown5 hgrow5 hat5 hlt5)
          have q1 : w5.ownsRow w.heap.size 9 1 (.slice (some ⟨g, 0, none⟩) (D.length + 1) cap5) (D ++ [W]).length (strsRow (D ++ [W])) := by
            rw [List.length_append, show strsRow (D ++ [W]) = strsRow D ++ [.string W] from by simp [strsRow]]; exact hown5
          have q2 : Below w.heap.size w w5 := ((unhide HBL).alloc (by omega) _).grown hgrow5 (by simp; omega) (by intro q h; have := (unhide HOW).lt q h; omega)
          have Q1 := hide q1
          have Q2 := hide q2
          clear hown5 hgrow5 hat5 q1 q2
          go_roundw
          case rel => exact ⟨k + 1, ByteArray.empty, D ++ [W], by omega, by omega, by go_num, rfl, hide (by rw [List.all_append, unhide HAL]; simp; exact (unhide HBB).symm), by rw [List.length_append]; simp; omega, by simp, HNX, Q1, Q2⟩
          case measure => simp [intOf]; omega
      · have g3 : ((s[k].toNat : Int) != 47) = true := by
          have := byte_int47 s[k]
          have h4 : (s[k] == 47) = false := by simpa using c1
          rw [h4] at this
          simpa using this
        have hpt := (unhide HPT).1 (by omega)
        rw [parts_char s.data.toList k W.data.toList _ (data_get s k hlt) c1] at hpt
        obtain ⟨C, hC⟩ : ∃ C, C = s.extract k (k + 1) := ⟨_, rfl⟩
        have hsl : ∀ w, (Instr.slice 9 (.string s) (some (.int .i64 (k : Int))) (some (.int .i64 ((k : Int) + 1))) none).run Tryz.prog w = .ok (.string C) w := by
          intro w
          rw [run_slice_string w 9 s .i64 .i64 (k : Int) ((k : Int) + 1) Tryz.underlying9 (by omega) (by omega) (by omega), hC]
          rfl
        have hCd : C.data.toList = [s[k]] := by rw [hC]; exact extract_one s k hlt
        have hCs : C.size = 1 := by rw [← ByteArray.size_data, ← Array.length_toList, hCd]; rfl
        have HNX := hide (show (k + 1 ≤ s.size → pathParts s = D ++ (parts (s.data.toList.drop (k + 1)) (W ++ C).data.toList).map strOf) ∧ (k + 1 = s.size + 1 → pathParts s = D) from
          ⟨fun _ => by rw [hpt, append_data, hCd], fun h => by omega⟩)
        have hWC : (W ++ C).size ≤ k + 1 := by rw [ByteArray.size_append]; omega
        have hsm : W.size + C.size ≤ 9223372036854775807 := by omega
        clear hpt c1 hC hCd hCs
        go_wp2
        go_roundw
        case rel => exact ⟨k + 1, W ++ C, D, by omega, by omega, by go_num, rfl, HAL, by omega, hWC, HNX, HOW, HBL⟩
        case measure => simp [intOf]; omega
    · by_cases hke : k = s.size
      · subst hke
        have hpt := (unhide HPT).1 (Nat.le_refl _)
        rw [show s.data.toList.drop s.size = [] from List.drop_eq_nil_of_le (by simp)] at hpt
        have hpt2 : pathParts s = D ++ [W] := hpt
        have HNX := hide (show (s.size + 1 ≤ s.size → pathParts s = (D ++ [W]) ++ (parts (s.data.toList.drop (s.size + 1)) ByteArray.empty.data.toList).map strOf) ∧ (s.size + 1 = s.size + 1 → pathParts s = D ++ [W]) from
          ⟨fun h => by omega, fun _ => hpt2⟩)
        have HPL := hide hpt2
        have HEQ := hide (show ∃ r, pathParts s = D ++ W :: r from ⟨[], hpt2⟩)
        have HNM := hide (refIsName_any W wr (by omega))
        have hsz := (unhide HBL).size
        obtain ⟨b, hb⟩ : ∃ b, b = nameOk W := ⟨_, rfl⟩
        rw [← hb] at HNM
        have HBB := hide hb
        clear hpt hpt2 hb
        go_wp2_with fail
        refine (unhide HNM).mono ?_
        rintro e w1 ⟨rfl, hw1⟩
        subst hw1
        cases b
        · have HR := hide (names_bad h1 h2 h5 (unhide HD).2 (unhide HD).1 (unhide HEQ) (unhide HBB).symm)
          go_wp2
          go_ret2
          exact ⟨.inl ⟨unhide HR, rfl⟩, unhide HBL⟩
        · go_wp2_with (at_builtin; refine wpList_append_lies _ (by rfl) _ _ 50 (by rfl) w.heap.size 9 is _ 1 16 Tryz.underlying50 (unhide HIS).1 (unhide HIS).2.1 (unhide HIS).2.2.1 (unhide HIS).2.2.2 rfl (by decide) _ _ _ (by rfl) ((unhide HOW).alloc _) ⟨w1.heap.size, 0, none⟩ 1 1 [.string W] (by rfl) (by rfl) (World.news_of_block (cs := #[.string W]) (t := 9) (fr := (0, 0)) (heap_alloc_new w1 _)) (by simp [Value.oneCell']) (by omega) (by unfold maxLen; omega) (by omega) (by simp; omega) (w1.heap.size + 1) (by simp) ?_; intro g cap5 w5 hown5 hgrow5 hat5 hlt5)
          have q1 : w5.ownsRow w.heap.size 9 1 (.slice (some ⟨g, 0, none⟩) (D.length + 1) cap5) (D ++ [W]).length (strsRow (D ++ [W])) := by
            rw [List.length_append, show strsRow (D ++ [W]) = strsRow D ++ [.string W] from by simp [strsRow]]; exact hown5
          have q2 : Below w.heap.size w w5 := ((unhide HBL).alloc (by omega) _).grown hgrow5 (by simp; omega) (by intro q h; have := (unhide HOW).lt q h; omega)
          have Q1 := hide q1
          have Q2 := hide q2
          clear hown5 hgrow5 hat5 q1 q2
          go_roundw
          case rel => exact ⟨s.size + 1, ByteArray.empty, D ++ [W], by omega, by omega, by go_num, rfl, hide (by rw [List.all_append, unhide HAL]; simp; exact (unhide HBB).symm), by rw [List.length_append]; simp; omega, by simp, hide ⟨fun h => by omega, fun _ => unhide HPL⟩, Q1, Q2⟩
          case measure => simp [intOf]
      · have hke2 : k = s.size + 1 := by omega
        subst hke2
        have hpt := (unhide HPT).2 rfl
        have hr : namesOf s = some D := by
          unfold namesOf
          rw [if_neg (by rintro (h | h | h); omega; omega; exact h (by rw [(unhide HD).2, (unhide HD).1])), if_neg h5, hpt, if_pos (unhide HAL)]
        have HR := hide hr
        clear hpt hr
        go_wp2
        go_ret2
        exact ⟨.inr ⟨D, unhide HR, _, rfl, unhide HOW⟩, unhide HBL⟩
end Go.Proofs.YtjkpeelijbeekaaGreatDoor

/- tinyosref: child, inode, walk. -/
namespace Go.Proofs.YtjkpeelijbeekaaGreatDoor
open Go.RowKit
set_option linter.unusedVariables false
set_option linter.unusedSimpArgs false

/-- An inode of the document's kernel; the slice of its bytes as it lies. -/
structure Ino where
  id : Int
  parent : Int
  name : ByteArray
  dir : Bool
  bytes : Value
def inoCells (x : Ino) : List Value := [.int .i64 x.id, .int .i64 x.parent, .string x.name, .bool x.dir, x.bytes]
def inoRow (xs : List Ino) : List Value := xs.flatMap inoCells
theorem inoRow_get : ∀ (xs : List Ino) (j i : Nat) (x : Ino) (v : Value), xs[j]? = some x → i < 5 → (inoCells x)[i]? = some v → (inoRow xs)[j * 5 + i]? = some v
  | [], j, i, x, v, h, _, _ => by simp at h
  | a :: r, 0, i, x, v, h, hi, hv => by
    have e : a = x := by simpa using h
    subst e
    rw [inoRow, List.flatMap_cons, List.getElem?_append_left (by simp [inoCells]; omega), Nat.zero_mul, Nat.zero_add]; exact hv
  | a :: r, j + 1, i, x, v, h, hi, hv => by
    have ih := inoRow_get r j i x v (by simpa using h) hi hv
    have e : (j + 1) * 5 + i - 5 = j * 5 + i := by omega
    have e2 : inoRow (a :: r) = inoCells a ++ inoRow r := by rw [inoRow, List.flatMap_cons]; rfl
    rw [e2, List.getElem?_append_right (by simp [inoCells]; omega), show (inoCells a).length = 5 from rfl, e]
    exact ih
/-- The kernel's inodes lie so: the slice at its field, the row where it points. -/
def InosAt (w : World) (kb g cap : Nat) (xs : List Ino) : Prop := w.cell? ⟨kb, 7, none⟩ = some (.slice (some ⟨g, 0, none⟩) xs.length cap) ∧ w.rangeAt g 0 (inoRow xs)
theorem InosAt.cell {w : World} {kb g cap : Nat} {xs : List Ino} (h : InosAt w kb g cap xs) {j : Nat} {x : Ino} (hx : xs[j]? = some x) {i : Nat} (hi : i < 5) {v : Value} (hv : (inoCells x)[i]? = some v) : w.cell? ⟨g, j * 5 + i, none⟩ = some v := by
  have := h.2 (j * 5 + i) v (inoRow_get xs j i x v hx hi hv)
  rwa [Nat.zero_add] at this
/-- The place of an inode by its number. -/
def placeOf (xs : List Ino) (id : Int) : Int := match xs.findIdx? (fun x => x.id == id) with | some i => i | none => -1

theorem place_none {xs : List Ino} {id : Int} (h : ∀ (j : Nat) (x : Ino), xs[j]? = some x → (x.id == id) = false) : placeOf xs id = -1 := by
  unfold placeOf
  rw [List.findIdx?_eq_none_iff.2 (fun x hx => by obtain ⟨j, hj, rfl⟩ := List.mem_iff_getElem.1 hx; exact h j _ (List.getElem?_eq_getElem hj))]
theorem place_some {xs : List Ino} {id : Int} {k : Nat} {x : Ino} (hx : xs[k]? = some x) (he : (x.id == id) = true) (h : ∀ j (x : Ino), j < k → xs[j]? = some x → (x.id == id) = false) : placeOf xs id = k := by
  unfold placeOf
  have hk := (List.getElem?_eq_some_iff.1 hx).1
  have : xs.findIdx? (fun x => x.id == id) = some k := by
    rw [List.findIdx?_eq_some_iff_getElem]
    refine ⟨hk, ?_, fun j hj => ?_⟩
    · rw [List.getElem?_eq_getElem hk] at hx
      rw [Option.some.inj hx]; exact he
    · rw [h j _ hj (List.getElem?_eq_getElem (by omega))]; simp
  rw [this]

set_option maxRecDepth 100000 in
set_option maxHeartbeats 1000000 in
theorem refInode_any (kb g cap : Nat) (xs : List Ino) (id : Int) (w : World) (h : InosAt w kb g cap xs) (hn : xs.length ≤ 1000000) :
    Calls Tryz.prog 34 #[.pointer (some ⟨kb, 0, none⟩), .int .i64 id] w fun e w' => e = .returned (.int .i64 (placeOf xs id)) ∧ w' = w := by
  have c7 := h.1
  have H := hide h
  clear h
  go_enter Tryz.func34, Tryz.ntmps34
  go_wp2
  go_loop [5] (fun i => ∃ k : Nat, k ≤ xs.length ∧ i = .int .i64 k ∧ Hid (∀ j x, j < k → xs[j]? = some x → (x.id == id) = false)) (fun i => xs.length - (intOf i).toNat)
  case atStart => exact ⟨0, by omega, rfl, hide (fun j x hj => by omega)⟩
  case round =>
    obtain ⟨k, hk, rfl, HA⟩ := hrel
    by_cases hlt : k < xs.length
    · obtain ⟨x, hx⟩ : ∃ x, xs[k]? = some x := ⟨_, List.getElem?_eq_getElem hlt⟩
      have c0 : w.cell? ⟨g, k * 5, none⟩ = some (.int .i64 x.id) := by have := (unhide H).cell hx (i := 0) (by omega) rfl; rwa [Nat.add_zero] at this
      have hk0 : (0 : Int) ≤ (k : Int) := by omega
      have hk1 : (k : Int) < (xs.length : Int) := by omega
      by_cases t : x.id = id
      · have g1 : (x.id == id) = true := by simpa using t
        have HR := hide (place_some hx g1 (unhide HA))
        generalize x.id = X at c0 g1
        clear hx t
        go_wp2
        go_ret
        exact ⟨by rw [unhide HR]; rfl, rfl⟩
      · have g1 : (x.id == id) = false := by simpa using t
        have HN : Hid (∀ j x, j < k + 1 → xs[j]? = some x → (x.id == id) = false) := hide (fun j y hj hy => by
          rcases Nat.lt_succ_iff_lt_or_eq.1 hj with h | h
          · exact unhide HA j y h hy
          · subst h
            rw [hx] at hy
            obtain rfl := Option.some.inj hy
            exact g1)
        generalize x.id = X at c0 g1
        clear hx t
        go_wp2
        go_round
        case rel => exact ⟨k + 1, by omega, by go_num, HN⟩
        case measure => simp [intOf]; omega
    · have HR := hide (place_none (xs := xs) (id := id) (fun j x hx => unhide HA j x (by have := (List.getElem?_eq_some_iff.1 hx).1; omega) hx))
      go_wp2
      go_ret
      exact ⟨by rw [unhide HR]; rfl, rfl⟩

/-- The number of an inode in a directory, by its name; 0: there is none. -/
def isChild (dir : Int) (name : ByteArray) (x : Ino) : Bool := x.parent == dir && x.name.toList == name.toList
def childOf (xs : List Ino) (dir : Int) (name : ByteArray) : Int := match xs.find? (isChild dir name) with | some x => x.id | none => 0

theorem child_none {xs : List Ino} {dir : Int} {name : ByteArray} (h : ∀ (j : Nat) (x : Ino), xs[j]? = some x → isChild dir name x = false) : childOf xs dir name = 0 := by
  unfold childOf
  rw [List.find?_eq_none.2 (fun x hx => by obtain ⟨j, hj, rfl⟩ := List.mem_iff_getElem.1 hx; rw [h j _ (List.getElem?_eq_getElem hj)]; decide)]
theorem child_some {xs : List Ino} {dir : Int} {name : ByteArray} {k : Nat} {x : Ino} (hx : xs[k]? = some x) (he : isChild dir name x = true) (h : ∀ j (x : Ino), j < k → xs[j]? = some x → isChild dir name x = false) : childOf xs dir name = x.id := by
  unfold childOf
  have hk := (List.getElem?_eq_some_iff.1 hx).1
  have hxe : xs[k] = x := by rw [List.getElem?_eq_getElem hk] at hx; exact Option.some.inj hx
  have : xs.find? (isChild dir name) = some x := by
    rw [List.find?_eq_some_iff_getElem]
    refine ⟨he, k, hk, hxe, fun j hj => ?_⟩
    rw [h j _ hj (List.getElem?_eq_getElem (by omega))]; rfl
  rw [this]

set_option maxRecDepth 100000 in
set_option maxHeartbeats 1000000 in
theorem refChild_any (kb g cap : Nat) (xs : List Ino) (dir : Int) (name : ByteArray) (w : World) (h : InosAt w kb g cap xs) (hn : xs.length ≤ 1000000) :
    Calls Tryz.prog 77 #[.pointer (some ⟨kb, 0, none⟩), .int .i64 dir, .string name] w fun e w' => e = .returned (.int .i64 (childOf xs dir name)) ∧ w' = w := by
  have c7 := h.1
  have H := hide h
  clear h
  go_enter Tryz.func77, Tryz.ntmps77
  go_wp2
  go_loop [7] (fun i => ∃ k : Nat, k ≤ xs.length ∧ i = .int .i64 k ∧ Hid (∀ j x, j < k → xs[j]? = some x → isChild dir name x = false)) (fun i => xs.length - (intOf i).toNat)
  case atStart => exact ⟨0, by omega, rfl, hide (fun j x hj => by omega)⟩
  case round =>
    obtain ⟨k, hk, rfl, HA⟩ := hrel
    by_cases hlt : k < xs.length
    · obtain ⟨x, hx⟩ : ∃ x, xs[k]? = some x := ⟨_, List.getElem?_eq_getElem hlt⟩
      have c0 : w.cell? ⟨g, k * 5, none⟩ = some (.int .i64 x.id) := by have := (unhide H).cell hx (i := 0) (by omega) rfl; rwa [Nat.add_zero] at this
      have c1 : w.cell? ⟨g, k * 5 + 1, none⟩ = some (.int .i64 x.parent) := (unhide H).cell hx (i := 1) (by omega) rfl
      have c2 : w.cell? ⟨g, k * 5 + 2, none⟩ = some (.string x.name) := (unhide H).cell hx (i := 2) (by omega) rfl
      have hk0 : (0 : Int) ≤ (k : Int) := by omega
      have hk1 : (k : Int) < (xs.length : Int) := by omega
      by_cases hc : isChild dir name x = true
      · have HR := hide (child_some hx hc (unhide HA))
        have hc2 := hc
        unfold isChild at hc2
        rw [Bool.and_eq_true] at hc2
        obtain ⟨g1, g2⟩ := hc2
        generalize x.id = X at c0 HR
        generalize x.parent = Y at c1 g1
        generalize x.name = Z at c2 g2
        clear hx hc
        go_wp2
        go_ret
        exact ⟨by rw [unhide HR]; rfl, rfl⟩
      · have hc' : isChild dir name x = false := by simpa using hc
        have HN : Hid (∀ j x, j < k + 1 → xs[j]? = some x → isChild dir name x = false) := hide (fun j y hj hy => by
          rcases Nat.lt_succ_iff_lt_or_eq.1 hj with h | h
          · exact unhide HA j y h hy
          · subst h
            rw [hx] at hy
            obtain rfl := Option.some.inj hy
            exact hc')
        by_cases g1 : (x.parent == dir) = true
        · have g2 : (x.name.toList == name.toList) = false := by
            unfold isChild at hc'
            rw [g1, Bool.true_and] at hc'
            exact hc'
          generalize x.id = X at c0
          generalize x.parent = Y at c1 g1
          generalize x.name = Z at c2 g2
          clear hx hc hc'
          go_wp2
          go_round
          case rel => exact ⟨k + 1, by omega, by go_num, HN⟩
          case measure => simp [intOf]; omega
        · have g1' : (x.parent == dir) = false := by simpa using g1
          generalize x.id = X at c0
          generalize x.parent = Y at c1 g1'
          generalize x.name = Z at c2
          clear hx hc hc' g1
          go_wp2
          go_round
          case rel => exact ⟨k + 1, by omega, by go_num, HN⟩
          case measure => simp [intOf]; omega
    · have HR := hide (child_none (xs := xs) (dir := dir) (name := name) (fun j x hx => unhide HA j x (by have := (List.getElem?_eq_some_iff.1 hx).1; omega) hx))
      go_wp2
      go_ret
      exact ⟨by rw [unhide HR]; rfl, rfl⟩
end Go.Proofs.YtjkpeelijbeekaaGreatDoor

/- tinyosref: walk. -/
namespace Go.Proofs.YtjkpeelijbeekaaGreatDoor
open Go.RowKit
set_option linter.unusedVariables false
set_option linter.unusedSimpArgs false

/-- Is the inode of this number a directory? -/
def dirOf (xs : List Ino) (n : Int) : Bool := match xs.find? (fun x => x.id == n) with | some x => x.dir | none => false
structure Walked where
  dir : Int
  name : ByteArray
  n : Int
  e : Int
def walkErr (e : Int) : Walked := ⟨0, ByteArray.empty, 0, e⟩
/-- Names followed from a directory on. -/
def follow (xs : List Ino) : Int → List ByteArray → Walked
  | _, [] => walkErr 0
  | dir, [name] => ⟨dir, name, childOf xs dir name, 0⟩
  | dir, name :: b :: r => if childOf xs dir name = 0 then walkErr 9 else if dirOf xs (childOf xs dir name) = true then follow xs (childOf xs dir name) (b :: r) else walkErr 11
def walkOf (xs : List Ino) (s : ByteArray) : Walked := match namesOf s with
  | none => walkErr 8
  | some [] => ⟨0, ByteArray.empty, 1, 0⟩
  | some (a :: r) => follow xs 1 (a :: r)
def walkRet (r : Walked) : Ending := .returned (.tuple #[.int .i64 r.dir, .string r.name, .int .i64 r.n, .int .i64 r.e])

theorem place_of_mem {xs : List Ino} {n : Int} {x : Ino} (h : xs.find? (fun x => x.id == n) = some x) : ∃ k : Nat, placeOf xs n = k ∧ xs[k]? = some x := by
  obtain ⟨he, k, hk, hx, hlt⟩ := List.find?_eq_some_iff_getElem.1 h
  refine ⟨k, place_some (x := x) (by rw [List.getElem?_eq_getElem hk, hx]) he (fun j y hj hy => ?_), by rw [List.getElem?_eq_getElem hk, hx]⟩
  have h1 := hlt j hj
  have hj2 : j < xs.length := by omega
  rw [List.getElem?_eq_getElem hj2] at hy
  rw [← Option.some.inj hy]
  simpa using h1
theorem child_mem {xs : List Ino} {dir : Int} {name : ByteArray} (h : childOf xs dir name ≠ 0) : ∃ x, xs.find? (fun x => x.id == childOf xs dir name) = some x := by
  have : ∃ y ∈ xs, y.id = childOf xs dir name := by
    unfold childOf at h ⊢
    cases hf : xs.find? (isChild dir name) with
    | none => rw [hf] at h; exact absurd rfl h
    | some y => exact ⟨y, List.mem_of_find?_eq_some hf, rfl⟩
  obtain ⟨y, hy, he⟩ := this
  cases hf : xs.find? (fun x => x.id == childOf xs dir name) with
  | some x => exact ⟨x, rfl⟩
  | none =>
    have := List.find?_eq_none.1 hf y hy
    simp [he] at this
theorem InosAt.below {w w' : World} {kb g cap : Nat} {xs : List Ino} (h : InosAt w kb g cap xs) (hb : Below w.heap.size w w') (h1 : kb < w.heap.size) (h2 : g < w.heap.size) : InosAt w' kb g cap xs :=
  ⟨by rw [hb.cell (p := ⟨kb, 7, none⟩) h1]; exact h.1, fun j v hj => by rw [hb.cell (p := ⟨g, 0 + j, none⟩) h2]; exact h.2 j v hj⟩
theorem InosAt.heap {w w' : World} {kb g cap : Nat} {xs : List Ino} (h : InosAt w kb g cap xs) (hh : w'.heap = w.heap) : InosAt w' kb g cap xs := by
  have hc : ∀ a, w'.cell? a = w.cell? a := fun a => by unfold World.cell?; rw [hh]
  exact ⟨by rw [hc]; exact h.1, fun j v hj => by rw [hc]; exact h.2 j v hj⟩
theorem drop_two {α : Type} {l : List α} {k : Nat} (h : k + 1 < l.length) : ∃ a b r, l[k]? = some a ∧ l.drop k = a :: b :: r ∧ l.drop (k + 1) = b :: r := by
  refine ⟨l[k], l[k + 1], l.drop (k + 2), List.getElem?_eq_getElem (by omega), ?_, ?_⟩
  · rw [List.drop_eq_getElem_cons (by omega), List.drop_eq_getElem_cons h]
  · rw [List.drop_eq_getElem_cons h]
theorem parts_len (l : List UInt8) : ∀ word, (parts l word).length ≤ l.length + 1 := by
  induction l with
  | nil => intro word; simp [parts]
  | cons c r ih =>
    intro word
    unfold parts
    split
    · have := ih []; simp; omega
    · have := ih (word ++ [c]); simp; omega
theorem names_len {s : ByteArray} {l : List ByteArray} (h : namesOf s = some l) : l.length ≤ 100 := by
  unfold namesOf at h
  split at h
  · cases h
  rename_i hc
  split at h
  · obtain rfl := Option.some.inj h; simp
  split at h
  · obtain rfl := Option.some.inj h
    have h1 : s.size ≤ 60 := by
      apply Classical.byContradiction
      intro hx
      exact hc (.inl (by omega))
    have h2 := parts_len (s.data.toList.drop 1) []
    have h3 : (s.data.toList.drop 1).length ≤ s.size := by simp
    rw [pathParts, List.length_map]; omega
  · cases h
theorem strsRow_get {l : List ByteArray} {k : Nat} {a : ByteArray} (h : l[k]? = some a) : (strsRow l)[k]? = some (.string a) := by simp [strsRow, h]

set_option maxRecDepth 100000 in
set_option maxHeartbeats 2000000 in
theorem refWalk_any (kb g cap : Nat) (xs : List Ino) (s : ByteArray) (w : World) (h : InosAt w kb g cap xs) (h1 : kb < w.heap.size) (h2 : g < w.heap.size) (hn : xs.length ≤ 1000000) (hs : s.size ≤ maxLen) :
    Calls Tryz.prog 47 #[.pointer (some ⟨kb, 0, none⟩), .string s] w fun e w' => e = walkRet (walkOf xs s) ∧ Below w.heap.size w w' := by
  have H := hide h
  have HN := hide (refNames_any s w hs)
  clear h hs
  go_enter Tryz.func47, Tryz.ntmps47
  go_wp2_with fail
  refine (unhide HN).mono ?_
  rintro e w1 ⟨(⟨hno, rfl⟩ | ⟨l, hl, v, rfl, how⟩), hb1⟩
  · have HR := hide (show walkOf xs s = walkErr 8 by unfold walkOf; rw [hno])
    have HB1 := hide hb1
    clear hno hb1
    go_wp2
    exact bodyPost_ret (v := .tuple #[.int .i64 0, .string ByteArray.empty, .int .i64 0, .int .i64 8]) (by simp [results, Tryz.results47, go_sem]; rfl) rfl ⟨by rw [unhide HR]; rfl, unhide HB1⟩
  have HB1 := hide hb1
  have HI1 := hide ((unhide H).below hb1 h1 h2)
  have hs1 := hb1.size
  clear hb1
  cases l with
  | nil =>
    have HR := hide (show walkOf xs s = ⟨0, ByteArray.empty, 1, 0⟩ by unfold walkOf; rw [hl])
    have hv : ∃ a c, v = .slice a 0 c := by
      rcases how.2 with ⟨hv, _⟩ | ⟨gg, cc, cur, hv, _⟩
      · exact ⟨none, 0, hv⟩
      · exact ⟨_, _, hv⟩
    obtain ⟨a, c, rfl⟩ := hv
    clear hl how
    go_wp2
    exact bodyPost_ret (v := .tuple #[.int .i64 0, .string ByteArray.empty, .int .i64 1, .int .i64 0]) (by simp [results, Tryz.results47, go_sem]; rfl) rfl ⟨by rw [unhide HR]; rfl, unhide HB1⟩
  | cons a0 r0 =>
    have hr : walkOf xs s = follow xs 1 (a0 :: r0) := by unfold walkOf; rw [hl]
    obtain ⟨l, hlL⟩ : ∃ l, l = a0 :: r0 := ⟨_, rfl⟩
    rw [← hlL] at how hr hl
    have hlen : 1 ≤ l.length := by rw [hlL]; simp
    have hl60 : l.length ≤ 100 := names_len hl
    obtain ⟨gl, cl, rfl, hgl, hgs⟩ := how.form (by omega)
    have HR := hide hr
    have HOW := hide how
    have hq0 : ((l.length : Int) == 0) = false := by rw [beq_eq_false_iff_ne]; omega
    clear hl how hlL hr
    go_wp2
    go_loopw [10, 11] (fun dv i wr => ∃ k : Nat, ∃ D : Int, k + 1 ≤ l.length ∧ i = .int .i64 k ∧ dv = .int .i64 D ∧ Hid (walkOf xs s = follow xs D (l.drop k)) ∧ Hid (wr.heap = w1.heap) ∧ Hid (Below w.heap.size w wr)) (fun _ i _ => l.length - (intOf i).toNat)
    case atStart => exact ⟨0, 1, by omega, rfl, rfl, HR, hide rfl, HB1⟩
    case round =>
      obtain ⟨k, D, hk, rfl, rfl, HF, HHE, HBL⟩ := hrel
      have hcells : ∀ a, wr.cell? a = w1.cell? a := fun a => by unfold World.cell?; rw [unhide HHE]
      have HIr := hide ((unhide HI1).heap (unhide HHE))
      by_cases hlt : k + 1 < l.length
      · obtain ⟨a, b, r, ha, hd1, hd2⟩ := drop_two hlt
        have c0 : wr.cell? ⟨gl, k, none⟩ = some (.string a) := by
          rw [hcells, (unhide HOW).cellAt _ (by omega)]; exact strsRow_get ha
        have hf := unhide HF
        rw [hd1] at hf
        unfold follow at hf
        have HF1 := hide hf
        have HD2 := hide hd2
        have HCH := hide (fun w' (hh : w'.heap = w1.heap) => refChild_any kb g cap xs D a w' ((unhide HI1).heap hh) hn)
        obtain ⟨n, hnn⟩ : ∃ n, n = childOf xs D a := ⟨_, rfl⟩
        rw [← hnn] at HF1 HCH
        have hk0 : (0 : Int) ≤ (k : Int) := by omega
        have hk1 : (k : Int) < (l.length : Int) := by omega
        have hk2 : (k : Int) < (l.length : Int) - 1 := by omega
        have HNN := hide hnn
        clear hcells ha hd1 hd2 hf hnn
        go_wp2_with fail
        refine (unhide HCH wr (unhide HHE)).mono ?_
        rintro e w2 ⟨rfl, hw2⟩
        subst hw2
        by_cases hz : n = 0
        · have g1 : (n == 0) = true := by simpa using hz
          have HR2 := hide (show walkOf xs s = walkErr 9 by rw [unhide HF1, if_pos hz])
          clear hz
          go_wp2
          exact bodyPost_ret (v := .tuple #[.int .i64 0, .string ByteArray.empty, .int .i64 0, .int .i64 9]) (by simp [results, Tryz.results47, go_sem]; try rfl) rfl ⟨by rw [unhide HR2]; rfl, unhide HBL⟩
        · have g1 : (n == 0) = false := by simpa using hz
          obtain ⟨x, hx⟩ := child_mem (xs := xs) (dir := D) (name := a) (by rw [← unhide HNN]; exact hz)
          rw [← unhide HNN] at hx
          obtain ⟨K, hK, hKx⟩ := place_of_mem hx
          have hKl := (List.getElem?_eq_some_iff.1 hKx).1
          have HIN := hide (refInode_any kb g cap xs n w2 (unhide HIr) hn)
          rw [hK] at HIN
          have hdf : dirOf xs n = x.dir := by unfold dirOf; rw [hx]
          have c3 : w2.cell? ⟨g, K * 5 + 3, none⟩ = some (.bool x.dir) := (unhide HIr).cell hKx (i := 3) (by omega) rfl
          have c7 := (unhide HIr).1
          have hf1 := unhide HF1
          rw [if_neg hz, hdf] at hf1
          have HF2 := hide hf1
          have hK0 : (0 : Int) ≤ (K : Int) := by omega
          have hK1 : (K : Int) < (xs.length : Int) := by omega
          generalize x.dir = DD at c3 HF2
          clear hz hx hK hKx hdf hf1
          go_wp2_with fail
          refine (unhide HIN).mono ?_
          rintro e w3 ⟨rfl, hw3⟩
          subst hw3
          cases DD
          · have HR2 := hide (show walkOf xs s = walkErr 11 by rw [unhide HF2]; rfl)
            go_wp2
            exact bodyPost_ret (v := .tuple #[.int .i64 0, .string ByteArray.empty, .int .i64 0, .int .i64 11]) (by simp [results, Tryz.results47, go_sem]; try rfl) rfl ⟨by rw [unhide HR2]; rfl, unhide HBL⟩
          · have HR2 := hide (show walkOf xs s = follow xs n (l.drop (k + 1)) by rw [unhide HF2, unhide HD2]; rfl)
            go_wp2
            go_roundw
            case rel => exact ⟨k + 1, n, by omega, by go_num, rfl, HR2, HHE, HBL⟩
            case measure => simp [intOf]; omega
      · have hke : k + 1 = l.length := by omega
        obtain ⟨a, ha⟩ : ∃ a, l[k]? = some a := ⟨_, List.getElem?_eq_getElem (by omega)⟩
        have hdr : l.drop k = [a] := by
          have hkl : k < l.length := by omega
          rw [List.drop_eq_getElem_cons hkl, List.drop_eq_nil_of_le (by omega)]
          rw [List.getElem?_eq_getElem hkl] at ha
          rw [Option.some.inj ha]
        have c0 : wr.cell? ⟨gl, k, none⟩ = some (.string a) := by
          rw [hcells, (unhide HOW).cellAt _ (by omega)]; exact strsRow_get ha
        have hf := unhide HF
        rw [hdr] at hf
        have HR2 := hide (show walkOf xs s = ⟨D, a, childOf xs D a, 0⟩ from hf)
        have HCH := hide (refChild_any kb g cap xs D a wr (unhide HIr) hn)
        have e1 : (l.length : Int) - 1 = (k : Int) := by omega
        have hk0 : (0 : Int) ≤ (k : Int) := by omega
        have hk1 : (k : Int) < (l.length : Int) := by omega
        generalize childOf xs D a = n at HR2 HCH
        clear hcells ha hdr hf hlt
        go_wp2_with fail
        refine (unhide HCH).mono ?_
        rintro e w2 ⟨rfl, hw2⟩
        subst hw2
        go_wp2
        exact bodyPost_ret (v := .tuple #[.int .i64 D, .string a, .int .i64 n, .int .i64 0]) (by simp [results, Tryz.results47, go_sem]; try rfl) rfl ⟨by rw [unhide HR2]; rfl, unhide HBL⟩
end Go.Proofs.YtjkpeelijbeekaaGreatDoor

/- tinyosref: the kernel in memory; fresh, make, mkdir. -/
namespace Go.Proofs.YtjkpeelijbeekaaGreatDoor
open Go.RowKit
set_option linter.unusedVariables false
set_option linter.unusedSimpArgs false

/-- The document's kernel: limits, inodes, the last number; the other fields as they lie. -/
structure RK where
  lp : Int
  lf : Int
  lo : Int
  li : Int
  lb : Int
  pv : Value
  ov : Value
  cv : Value
  tv : Value
  uv : Value
  mv : Value
  inos : List Ino
  last : Int
def RK.cells (k : RK) (v : Value) : List Value := [.int .i64 k.lp, .int .i64 k.lf, .int .i64 k.lo, .int .i64 k.li, .int .i64 k.lb, k.pv, k.ov, v, k.cv, k.tv, k.uv, k.mv, .int .i64 k.last]
def RepK (w : World) (base kb g cap : Nat) (k : RK) : Prop :=
  Holds w kb 71 (k.cells (.slice (some ⟨g, 0, none⟩) k.inos.length cap)) ∧ w.ownsRow base 90 5 (.slice (some ⟨g, 0, none⟩) k.inos.length cap) k.inos.length (inoRow k.inos)
theorem inoRow_length (xs : List Ino) : (inoRow xs).length = xs.length * 5 := by
  unfold inoRow
  induction xs with
  | nil => rfl
  | cons x r ih => rw [List.flatMap_cons, List.length_append, ih]; simp [inoCells]; omega
theorem RepK.at {w : World} {base kb g cap : Nat} {k : RK} (h : RepK w base kb g cap k) : InosAt w kb g cap k.inos :=
  ⟨h.1.cell rfl, fun j v hj => by
    have hl := (List.getElem?_eq_some_iff.1 hj).1
    rw [inoRow_length] at hl
    rw [Nat.zero_add, h.2.cellAt j hl]; exact hj⟩
/-- All but two blocks are as they were. -/
structure FrameK (w w' : World) (a b : Nat) : Prop where
  os : w'.os = w.os
  tape : w'.tape = w.tape
  output : w'.output = w.output
  size : w.heap.size ≤ w'.heap.size
  block : ∀ k, k < w.heap.size → k ≠ a → k ≠ b → w'.heap[k]? = w.heap[k]?
theorem FrameK.refl (w : World) (a b : Nat) : FrameK w w a b := ⟨rfl, rfl, rfl, Nat.le_refl _, fun _ _ _ _ => rfl⟩
theorem FrameK.ofBelow {w w' : World} {a b : Nat} (h : Below w.heap.size w w') : FrameK w w' a b := ⟨h.os, h.tape, h.output, h.size, fun k hk _ _ => h.block k hk⟩
theorem FrameK.below {w w' : World} {a b B : Nat} (h : FrameK w w' a b) (ha : B ≤ a) (hb : B ≤ b) (hB : B ≤ w.heap.size) : Below B w w' := ⟨h.os, h.tape, h.output, h.size, fun k hk => h.block k (by omega) (by omega) (by omega)⟩
theorem FrameK.grownL {w w' w'' : World} {a b : Nat} (h : FrameK w w' a b) (hg : w'.grownBy w'' (some a)) : FrameK w w'' a b :=
  ⟨hg.os.trans h.os, hg.tape.trans h.tape, hg.output.trans h.output, Nat.le_trans h.size hg.size, fun k hk h1 h2 => (hg.block k (by have := h.size; omega) (by simpa using h1)).trans (h.block k hk h1 h2)⟩
theorem FrameK.grownR {w w' w'' : World} {a b : Nat} (h : FrameK w w' a b) (hg : w'.grownBy w'' (some b)) : FrameK w w'' a b :=
  ⟨hg.os.trans h.os, hg.tape.trans h.tape, hg.output.trans h.output, Nat.le_trans h.size hg.size, fun k hk h1 h2 => (hg.block k (by have := h.size; omega) (by simpa using h2)).trans (h.block k hk h1 h2)⟩
theorem FrameK.step {w w' w'' : World} {a b : Nat} (h : FrameK w w' a b) (hb : Below w'.heap.size w' w'') : FrameK w w'' a b :=
  ⟨hb.os.trans h.os, hb.tape.trans h.tape, hb.output.trans h.output, Nat.le_trans h.size hb.size, fun k hk h1 h2 => (hb.block k (by have := h.size; omega)).trans (h.block k hk h1 h2)⟩
theorem FrameK.trans {w w' w'' : World} {a b b' : Nat} (h : FrameK w w' a b) (k : FrameK w' w'' a b') (hb : b' = b ∨ w.heap.size ≤ b') : FrameK w w'' a b :=
  ⟨k.os.trans h.os, k.tape.trans h.tape, k.output.trans h.output, Nat.le_trans h.size k.size, fun i hi h1 h2 => (k.block i (by have := h.size; omega) h1 (by rcases hb with rfl | hb; exact h2; omega)).trans (h.block i hi h1 h2)⟩

theorem addr_add' (b o j : Nat) : (⟨b, o, none⟩ : Addr).add j = ⟨b, o + j, none⟩ := by unfold Addr.add; split <;> simp_all

set_option maxHeartbeats 1000000 in
theorem refFresh_any (base kb : Nat) (k : RK) (v : Value) (w : World) (h : Holds w kb 71 (k.cells v)) (h0 : 0 ≤ k.last) (h1 : k.last ≤ 1000000) :
    Calls Tryz.prog 28 #[.pointer (some ⟨kb, 0, none⟩)] w fun e w' => e = .returned (.int .i64 (k.last + 1)) ∧ Holds w' kb 71 ({k with last := k.last + 1}.cells v) ∧ w.grownBy w' (some kb) := by
  have c : w.cell? ⟨kb, 12, none⟩ = some (.int .i64 k.last) := h.cell rfl
  have f := h.frozen 12
  have H2 := hide (show Holds (w.setCell ⟨kb, 12, none⟩ (.int .i64 (k.last + 1))) kb 71 ({k with last := k.last + 1}.cells v) from h.set 12 _)
  have H3 := hide (grown_set (World.grownBy.refl w (some kb)) 12 (.int .i64 (k.last + 1)))
  generalize k.last = L at *
  clear h
  go_enter Tryz.func28, Tryz.ntmps28
  go_wp2
  go_ret
  exact ⟨rfl, unhide H2, unhide H3⟩

theorem inoInfo : (Tryz.prog.info? 90).map (fun i => (i.zero, i.size, i.bytes)) = some (some (.agg #[.int .i64 0, .int .i64 0, .string ByteArray.empty, .bool false, .slice none 0 0]), 5, 64) := by kernel_rfl
def newIno (id dir : Int) (name : ByteArray) (is : Bool) : Ino := ⟨id, dir, name, is, .slice none 0 0⟩
def RK.add (k : RK) (dir : Int) (name : ByteArray) (is : Bool) : RK := {k with inos := k.inos ++ [newIno (k.last + 1) dir name is], last := k.last + 1}

set_option maxRecDepth 100000 in
set_option maxHeartbeats 2000000 in
theorem refMake_any (base kb g cap : Nat) (k : RK) (dir : Int) (name : ByteArray) (is : Bool) (w : World) (h : RepK w base kb g cap k) (hkb : kb < base) (hbs : base ≤ w.heap.size) (hn : k.inos.length ≤ 100000) (h0 : 0 ≤ k.last) (h1 : k.last ≤ 1000000) :
    Calls Tryz.prog 48 #[.pointer (some ⟨kb, 0, none⟩), .int .i64 dir, .string name, .bool is] w fun e w' => e = .returned (.int .i64 (k.last + 1)) ∧ ∃ g' cap', RepK w' base kb g' cap' (k.add dir name is) ∧ FrameK w w' kb g ∧ (g' = g ∨ w.heap.size ≤ g') := by
  have HF := hide (refFresh_any base kb k _ w h.1 h0 h1)
  have H := hide h
  have hgb := h.2.lt g rfl
  obtain ⟨ii, hii, hz0, hz1, hz2⟩ := info_of inoInfo
  have HII := hide (And.intro hii (And.intro hz0 (And.intro hz1 hz2)))
  clear h hii hz0 hz1 hz2
  go_enter Tryz.func48, Tryz.ntmps48
  go_wp2_with fail
  refine (unhide HF).mono ?_
  rintro e w1 ⟨rfl, hk1, hg1⟩
  have hs1 := hg1.size
  have how1 := (unhide H).2.kept hg1 (.inr (by show some g ≠ some kb; simp; omega))
  have c7 : w1.cell? ⟨kb, 7, none⟩ = some (.slice (some ⟨g, 0, none⟩) k.inos.length cap) := hk1.cell rfl
  have f7 := hk1.frozen 7
  have hkl := hk1.lt
  have HK1 := hide hk1
  have HG1 := hide hg1
  have HOW1 := hide how1
  obtain ⟨L, hL⟩ : ∃ L, L = k.last + 1 := ⟨_, rfl⟩
  rw [← hL]
  have HL := hide hL
  obtain ⟨n, hnn⟩ : ∃ n, n = k.inos.length := ⟨_, rfl⟩
  rw [← hnn] at c7 hn HOW1
  have HNN := hide hnn
  obtain ⟨o, ho⟩ : ∃ o, o = Obj.cells #[.int .i64 L, .int .i64 dir, .string name, .bool is, .slice none 0 0] 90 := ⟨_, rfl⟩
  have HO := hide ho
  have HNW := hide (show ∀ j u, (inoCells (newIno L dir name is))[j]? = some u → (w1.alloc o).cell? ((⟨w1.heap.size, 0, none⟩ : Addr).add j) = some u from by
    rw [ho]
    intro j u hj
    rw [addr_add', Nat.zero_add]
    exact (Holds.new w1 90 (inoCells (newIno L dir name is))).cell hj)
  clear hk1 hg1 how1 hL hnn ho HF
  go_wp2_with (at_builtin; refine wpList_append_lies _ (by rfl) _ _ 67 (by rfl) base 90 ii _ 5 64 Tryz.underlying67 (unhide HII).1 (unhide HII).2.1 (unhide HII).2.2.1 (unhide HII).2.2.2 rfl (by decide) _ _ _ (by rfl) ((unhide HOW1).alloc _) ⟨w1.heap.size, 0, none⟩ 1 1 (inoCells (newIno L dir name is)) (by rfl) (by rfl) (by have h := unhide HNW; rw [unhide HO] at h; exact h) (by intro u hu; simp only [inoCells, newIno, List.mem_cons, List.not_mem_nil, or_false] at hu; rcases hu with rfl | rfl | rfl | rfl | rfl <;> rfl) (by omega) (by unfold maxLen; omega) (by omega) (by simp; omega) (w1.heap.size + 1) (by simp) ?_; intro g5 cap5 w5 hown5 hgrow5 hat5 hlt5; have k5 := ((unhide HK1).alloc (Obj.cells #[.int .i64 L, .int .i64 dir, .string name, .bool is, .slice none 0 0] 90)).grown hgrow5 (by show some kb ≠ some g; simp; omega); have x7 := k5.cell (j := 7) rfl; have y7 := k5.frozen 7; have K5 := hide k5; clear k5)
  have hkg : kb ≠ g := by omega
  have hg5 : g5 = g ∨ g5 = w1.heap.size + 1 := by
    rcases hat5 with h | h
    · left; simpa [Value.ownBlock] using h.symm
    · exact .inr h
  have hkg5 : g5 ≠ kb := by omega
  have r1 : Holds (w5.setCell ⟨kb, 7, none⟩ (.slice (some ⟨g5, 0, none⟩) (n + 1) cap5)) kb 71 ((k.add dir name is).cells (.slice (some ⟨g5, 0, none⟩) (k.add dir name is).inos.length cap5)) := by
    have h := (unhide K5).set 7 (.slice (some ⟨g5, 0, none⟩) (n + 1) cap5)
    have e : (k.add dir name is).inos.length = n + 1 := by rw [RK.add, unhide HNN]; simp
    rw [e]; exact h
  have r2 : (w5.setCell ⟨kb, 7, none⟩ (.slice (some ⟨g5, 0, none⟩) (n + 1) cap5)).ownsRow base 90 5 (.slice (some ⟨g5, 0, none⟩) (k.add dir name is).inos.length cap5) (k.add dir name is).inos.length (inoRow (k.add dir name is).inos) := by
    have e : (k.add dir name is).inos.length = n + 1 := by rw [RK.add, unhide HNN]; simp
    have e2 : inoRow (k.add dir name is).inos = inoRow k.inos ++ inoCells (newIno L dir name is) := by rw [RK.add, unhide HL, inoRow, inoRow, List.flatMap_append]; simp
    rw [e, e2]
    exact hown5.kept (grown_set (w := w5) (wr := w5) (b := kb) ⟨rfl, rfl, rfl, Nat.le_refl _, fun _ _ _ => rfl⟩ 7 _) (.inr (by show some g5 ≠ some kb; simpa using hkg5))
  have r3 : FrameK w (w5.setCell ⟨kb, 7, none⟩ (.slice (some ⟨g5, 0, none⟩) (n + 1) cap5)) kb g :=
    ((((FrameK.refl w kb g).grownL (unhide HG1)).step ((Below.refl _ _).alloc (Nat.le_refl _) _)).grownR hgrow5).grownL (grown_set (w := w5) (wr := w5) (b := kb) ⟨rfl, rfl, rfl, Nat.le_refl _, fun _ _ _ => rfl⟩ 7 _)
  go_ret
  exact ⟨by rw [← unhide HL]; rfl, g5, cap5, ⟨r1, r2⟩, r3, by omega⟩

/-- Mkdir: the error, and the kernel behind it. -/
def mkdirOf (k : RK) (s : ByteArray) : Int × RK :=
  if (walkOf k.inos s).e ≠ 0 then ((walkOf k.inos s).e, k) else if (walkOf k.inos s).n ≠ 0 then (10, k) else if k.li ≤ (k.inos.length : Int) then (12, k) else (0, k.add (walkOf k.inos s).dir (walkOf k.inos s).name true)
theorem RepK.below {w w' : World} {base kb g cap : Nat} {k : RK} (h : RepK w base kb g cap k) (hb : Below w.heap.size w w') : RepK w' base kb g cap k :=
  ⟨h.1.below hb h.1.lt, h.2.kept (row := none) ⟨hb.os, hb.tape, hb.output, hb.size, fun q hq _ => hb.block q hq⟩ (.inr (by show some g ≠ none; simp))⟩
theorem RepK.heap {w w' : World} {base kb g cap : Nat} {k : RK} (h : RepK w base kb g cap k) (hh : w'.heap = w.heap) : RepK w' base kb g cap k :=
  ⟨h.1.heap hh, by have h2 := h.2; unfold World.ownsRow at h2 ⊢; rw [hh]; exact h2⟩

set_option maxRecDepth 100000 in
set_option maxHeartbeats 2000000 in
theorem refMkdir_any (base kb g cap : Nat) (k : RK) (s : ByteArray) (w : World) (h : RepK w base kb g cap k) (hkb : kb < base) (hbs : base ≤ w.heap.size) (hn : k.inos.length ≤ 100000) (h0 : 0 ≤ k.last) (h1 : k.last ≤ 1000000) (hs : s.size ≤ maxLen) :
    Calls Tryz.prog 46 #[.pointer (some ⟨kb, 0, none⟩), .string s] w fun e w' => e = .returned (.int .i64 (mkdirOf k s).1) ∧ ∃ g' cap', RepK w' base kb g' cap' (mkdirOf k s).2 ∧ FrameK w w' kb g ∧ (g' = g ∨ w.heap.size ≤ g') := by
  have hgb := h.2.lt g rfl
  have hkl := h.1.lt
  have HW := hide (refWalk_any kb g cap k.inos s w h.at hkl hgb.2 (by omega) hs)
  have H := hide h
  obtain ⟨r, hr⟩ : ∃ r, r = walkOf k.inos s := ⟨_, rfl⟩
  rw [← hr] at HW
  have hm : mkdirOf k s = if r.e ≠ 0 then (r.e, k) else if r.n ≠ 0 then (10, k) else if k.li ≤ (k.inos.length : Int) then (12, k) else (0, k.add r.dir r.name true) := by rw [mkdirOf, hr]
  have HM := hide hm
  clear h hs hr hm
  obtain ⟨dir, name, n, e⟩ := r
  simp only at HM
  unfold walkRet at HW
  go_enter Tryz.func46, Tryz.ntmps46
  go_wp2_with fail
  refine (unhide HW).mono ?_
  rintro e' w1 ⟨rfl, hb1⟩
  have HR1 := hide ((unhide H).below hb1)
  have HF1 := hide (FrameK.ofBelow (a := kb) (b := g) hb1)
  have hs1 := hb1.size
  clear hb1 HW
  simp only
  by_cases t1 : e = 0
  case neg =>
    have g1 : (e != 0) = true := by simpa using t1
    have hm := unhide HM
    rw [if_pos t1] at hm
    have HM2 := hide hm
    clear t1 hm
    go_wp2
    go_ret
    exact ⟨by rw [unhide HM2]; rfl, g, cap, by rw [unhide HM2]; exact unhide HR1, unhide HF1, .inl rfl⟩
  have g1 : (e != 0) = false := by simpa using t1
  by_cases t2 : n = 0
  case neg =>
    have g2 : (n != 0) = true := by simpa using t2
    have hm := unhide HM
    rw [if_neg (by simpa using t1), if_pos t2] at hm
    have HM2 := hide hm
    clear t1 t2 hm
    go_wp2
    go_ret
    exact ⟨by rw [unhide HM2]; rfl, g, cap, by rw [unhide HM2]; exact unhide HR1, unhide HF1, .inl rfl⟩
  have g2 : (n != 0) = false := by simpa using t2
  have hm := unhide HM
  rw [if_neg (by simpa using t1), if_neg (by simpa using t2)] at hm
  have HM2 := hide hm
  have c3 : w1.cell? ⟨kb, 3, none⟩ = some (.int .i64 k.li) := (unhide HR1).1.cell rfl
  have c7 : w1.cell? ⟨kb, 7, none⟩ = some (.slice (some ⟨g, 0, none⟩) k.inos.length cap) := (unhide HR1).1.cell rfl
  clear t1 t2 hm HM
  by_cases t3 : k.li ≤ (k.inos.length : Int)
  · have hm := unhide HM2
    rw [if_pos t3] at hm
    have HM3 := hide hm
    clear hm
    go_wp2
    go_quiet (fail)
    go_wp2
    go_ret
    exact ⟨by rw [unhide HM3]; rfl, g, cap, by rw [unhide HM3]; exact (unhide HR1).heap rfl, ⟨(unhide HF1).os, (unhide HF1).tape, (unhide HF1).output, (unhide HF1).size, (unhide HF1).block⟩, .inl rfl⟩
  · have hm := unhide HM2
    rw [if_neg t3] at hm
    have HM3 := hide hm
    clear hm
    go_wp2
    go_quiet (fail)
    have HMK := hide (refMake_any base kb g cap k dir name true (w1.drewN nq) ((unhide HR1).heap rfl) hkb (by show base ≤ w1.heap.size; omega) hn h0 h1)
    go_wp2_with fail
    refine (unhide HMK).mono ?_
    rintro e' w2 ⟨rfl, g', cap', hr2, hf2, hg2⟩
    have HR2 := hide hr2
    have HF2 := hide (show FrameK w w2 kb g from ⟨hf2.os.trans (unhide HF1).os, hf2.tape.trans (unhide HF1).tape, hf2.output.trans (unhide HF1).output, Nat.le_trans (unhide HF1).size hf2.size, fun q hq a b => (hf2.block q (by show q < w1.heap.size; omega) a b).trans ((unhide HF1).block q hq a b)⟩)
    have hg3 : g' = g ∨ w.heap.size ≤ g' := by rcases hg2 with h | h; exact .inl h; exact .inr (Nat.le_trans hs1 h)
    clear hr2 hf2 hg2
    go_wp2
    go_ret
    exact ⟨by rw [unhide HM3]; rfl, g', cap', by rw [unhide HM3]; exact unhide HR2, unhide HF2, hg3⟩
end Go.Proofs.YtjkpeelijbeekaaGreatDoor
