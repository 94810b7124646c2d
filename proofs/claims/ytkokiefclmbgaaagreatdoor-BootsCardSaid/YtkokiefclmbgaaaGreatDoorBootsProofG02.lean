import Derived.WalkKit
import Derived.Laws.CopyOwn
import Derived.Test.YtkokiefclmbgaaaGreatDoorProg
import Derived.Deep.AppendLies
import Derived.Laws.Strings2
import Derived.Lib.BufferWrite
/- Rows of cells in a block, and what is laid over them: plain lemmas, no program. -/
namespace Go.Proofs.YtkokiefclmbgaaaGreatDoor
open Go Go.RowKit

theorem hide {p : Prop} (h : p) : Hid p := h
theorem unhide {p : Prop} (h : Hid p) : p := h

theorem bcell {W w1 : World} (hb : Below W.heap.size W w1) : (∀ b o, b < W.heap.size → w1.cell? ⟨b, o, none⟩ = W.cell? ⟨b, o, none⟩) ∧ (∀ b o, b < W.heap.size → w1.frozen? ⟨b, o, none⟩ = W.frozen? ⟨b, o, none⟩) :=
  ⟨fun b o h => hb.cell (p := ⟨b, o, none⟩) h, fun b o h => hb.frozen (p := ⟨b, o, none⟩) h⟩

/-- Block b is a row of just these cells. -/
def Holds (W : World) (b : Nat) (t : TypeId) (vs : List Value) : Prop := W.heap[b]? = some (.cells vs.toArray t (0, 0))

theorem Holds.cell {W : World} {b : Nat} {t : TypeId} {vs : List Value} (h : Holds W b t vs) {j : Nat} {v : Value} (hj : vs[j]? = some v) : W.cell? ⟨b, j, none⟩ = some v := by
  unfold Holds at h; simp [World.cell?, h, hj]
theorem Holds.frozen {W : World} {b : Nat} {t : TypeId} {vs : List Value} (h : Holds W b t vs) (j : Nat) : W.frozen? ⟨b, j, none⟩ = false := by
  unfold Holds at h; simp [World.frozen?, h]
theorem Holds.lt {W : World} {b : Nat} {t : TypeId} {vs : List Value} (h : Holds W b t vs) : b < W.heap.size := by
  unfold Holds at h
  exact (Array.getElem?_eq_some_iff.1 h).1
theorem Holds.set {W : World} {b : Nat} {t : TypeId} {vs : List Value} (h : Holds W b t vs) (j : Nat) (v : Value) : Holds (W.setCell ⟨b, j, none⟩ v) b t (vs.set j v) := by
  unfold Holds at h ⊢
  simp only [World.setCell, Array.getElem?_modify, h]
  simp
theorem Holds.set_other {W : World} {b c : Nat} {t : TypeId} {vs : List Value} (h : Holds W b t vs) (hne : b ≠ c) (j : Nat) (v : Value) : Holds (W.setCell ⟨c, j, none⟩ v) b t vs := by
  unfold Holds at h ⊢
  rw [Below.heap_setCell _ _ _ _ hne]; exact h
theorem Holds.grown {W W' : World} {b : Nat} {t : TypeId} {vs : List Value} {row : Option Nat} (h : Holds W b t vs) (hg : W.grownBy W' row) (hne : some b ≠ row) : Holds W' b t vs := by
  have hl := h.lt
  unfold Holds at h ⊢
  rw [hg.block b hl hne]; exact h
theorem Holds.below {W W' : World} {b B : Nat} {t : TypeId} {vs : List Value} (h : Holds W b t vs) (hg : Below B W W') (hlt : b < B) : Holds W' b t vs := by
  unfold Holds at h ⊢
  rw [hg.block b hlt]; exact h
theorem Holds.alloc {W : World} {b : Nat} {t : TypeId} {vs : List Value} (h : Holds W b t vs) (o : Obj) : Holds (W.alloc o) b t vs := by
  have hl := h.lt
  unfold Holds at h ⊢
  rw [Below.heap_alloc _ _ _ hl]; exact h
theorem Holds.new (W : World) (t : TypeId) (vs : List Value) : Holds (W.alloc (.cells vs.toArray t)) W.heap.size t vs := by
  unfold Holds
  show (W.heap.push _)[W.heap.size]? = _
  simp
theorem Holds.heap {W W' : World} {b : Nat} {t : TypeId} {vs : List Value} (h : Holds W b t vs) (he : W'.heap = W.heap) : Holds W' b t vs := by
  unfold Holds at h ⊢; rw [he]; exact h
theorem grown_set {w wr : World} {b : Nat} (h : w.grownBy wr (some b)) (j : Nat) (v : Value) : w.grownBy (wr.setCell ⟨b, j, none⟩ v) (some b) :=
  ⟨h.os, h.tape, h.output, by simp only [World.setCell, Array.size_modify]; exact h.size, fun k hk hne => by
    rw [Below.heap_setCell _ _ _ _ (fun e => hne (by simp [e])), h.block k hk hne]⟩
theorem grown_trans {a b c : World} {row : Option Nat} (h : a.grownBy b row) (k : b.grownBy c row) : a.grownBy c row :=
  ⟨k.os.trans h.os, k.tape.trans h.tape, k.output.trans h.output, Nat.le_trans h.size k.size, fun i hi hne => (k.block i (Nat.lt_of_lt_of_le hi h.size) hne).trans (h.block i hi hne)⟩
theorem below_grown {B b : Nat} {w wr : World} (h : w.grownBy wr (some b)) (hB : B ≤ b) (hw : B ≤ w.heap.size) : Below B w wr :=
  ⟨h.os, h.tape, h.output, h.size, fun k hk => h.block k (by omega) (fun e => by simp at e; omega)⟩

theorem grown_cell {w w' : World} {g b : Nat} (hg : w.grownBy w' (some g)) (hb : b < w.heap.size) (hne : b ≠ g) (o : Nat) : w'.cell? ⟨b, o, none⟩ = w.cell? ⟨b, o, none⟩ :=
  World.cell?_of_block (a := ⟨b, o, none⟩) (hg.block b hb (by simpa using hne))

/-! ### Lists -/
theorem splice_get {α : Type} (L : List α) (off : Nat) (cs : List α) (h : off + cs.length ≤ L.length) (j : Nat) :
    (splice L off cs)[j]? = if j < off then L[j]? else if j < off + cs.length then cs[j - off]? else L[j]? := by
  unfold splice
  rw [List.getElem?_append]
  have e : (L.take off).length = off := by simp; omega
  rw [e]
  split
  · rw [List.getElem?_take]; simp [*]
  · rw [List.getElem?_append]
    split
    · rw [if_pos (by omega)]
    · rw [if_neg (by omega), List.getElem?_drop]
      congr 1; omega
theorem splice_nil {α : Type} (L : List α) (off : Nat) : splice L off [] = L := by simp [splice]
theorem splice_length {α : Type} (L : List α) (off : Nat) (cs : List α) (h : off + cs.length ≤ L.length) : (splice L off cs).length = L.length := length_splice L off cs h
theorem splice_set {α : Type} (L : List α) (off : Nat) (xs : List α) (k : Nat) (x : α) (hx : xs[k]? = some x) (h : off + xs.length ≤ L.length) :
    (splice L off (xs.take k)).set (off + k) x = splice L off (xs.take (k + 1)) := by
  have hk : k < xs.length := (List.getElem?_eq_some_iff.1 hx).1
  have h1 : off + (xs.take k).length ≤ L.length := by simp; omega
  have h2 : off + (xs.take (k + 1)).length ≤ L.length := by simp; omega
  apply List.ext_getElem?
  intro j
  rw [List.getElem?_set, splice_get _ _ _ h1, splice_get _ _ _ h2, splice_length _ _ _ h1]
  have e1 : (xs.take k).length = k := by simp; omega
  have e2 : (xs.take (k + 1)).length = k + 1 := by simp; omega
  rw [e1, e2]
  by_cases hj : off + k = j
  · subst hj
    rw [if_pos rfl, if_pos (by omega), if_neg (by omega), if_pos (by omega), Nat.add_sub_cancel_left, List.getElem?_take, if_pos (by omega), hx]
  · rw [if_neg hj]
    by_cases a : j < off
    · simp [a]
    · by_cases c : j < off + k
      · rw [if_neg a, if_pos c, if_neg a, if_pos (by omega), List.getElem?_take, List.getElem?_take, if_pos (by omega), if_pos (by omega)]
      · rw [if_neg a, if_neg c, if_neg a, if_neg (by omega)]
theorem splice_splice {α : Type} (L : List α) (off : Nat) (xs ys : List α) (h : off + xs.length + ys.length ≤ L.length) :
    splice (splice L off xs) (off + xs.length) ys = splice L off (xs ++ ys) := by
  have h1 : off + xs.length ≤ L.length := by omega
  apply List.ext_getElem?
  intro j
  rw [splice_get _ _ _ (by rw [splice_length _ _ _ h1]; exact h), splice_get _ _ _ h1, splice_get _ _ _ (by simp; omega), List.length_append]
  by_cases a : j < off
  · simp [a]; intro; omega
  · by_cases c : j < off + xs.length
    · rw [if_pos c, if_neg a, if_pos c, if_neg a, if_pos (by omega), List.getElem?_append_left (by omega)]
    · by_cases d : j < off + xs.length + ys.length
      · rw [if_neg c, if_pos d, if_neg a, if_pos (by omega), List.getElem?_append_right (by omega)]
        congr 1; omega
      · rw [if_neg c, if_neg d, if_neg a, if_neg c, if_neg a, if_neg (by omega)]

/-- Bytes as cells. -/
def bytesRow (L : List Int) : List Value := L.map (Value.int .u8)
theorem bytesRow_length (L : List Int) : (bytesRow L).length = L.length := by simp [bytesRow]
theorem bytesRow_get (L : List Int) (j : Nat) (h : j < L.length) : (bytesRow L)[j]? = some (.int .u8 (L.getD j 0)) := by
  simp [bytesRow, List.getD, List.getElem?_eq_getElem h]
theorem bytesRow_set (L : List Int) (j : Nat) (x : Int) : (bytesRow L).set j (.int .u8 x) = bytesRow (L.set j x) := by
  simp [bytesRow, List.map_set]
theorem bytesRow_splice (L : List Int) (off : Nat) (xs : List Int) : splice (bytesRow L) off (bytesRow xs) = bytesRow (splice L off xs) := by
  simp [bytesRow, splice, List.map_take, List.map_drop]
theorem Holds.bytes {W : World} {b : Nat} {t : TypeId} {L : List Int} (h : Holds W b t (bytesRow L)) : ∀ j, j < L.length → W.cell? ⟨b, j, none⟩ = some (.int .u8 (L.getD j 0)) :=
  fun j hj => h.cell (bytesRow_get L j hj)

/-- The 8 bytes of a number, the lowest first. -/
def bytes8 (n : Int) : List Int := (List.range 8).map fun k => n / 2 ^ (8 * k) % 256
theorem bytes8_length (n : Int) : (bytes8 n).length = 8 := by simp [bytes8]
theorem bytes8_get (n : Int) (k : Nat) (h : k < 8) : (bytes8 n)[k]? = some (n / 2 ^ (8 * k) % 256) := by
  simp [bytes8, h]

/-- Words as cells. -/
def wordsRow (ws : List Int) : List Value := ws.map (Value.int .u64)
theorem wordsRow_get (L : List Int) (j : Nat) (h : j < L.length) : (wordsRow L)[j]? = some (.int .u64 (L.getD j 0)) := by
  simp [wordsRow, List.getD, List.getElem?_eq_getElem h]
theorem wordsRow_set (L : List Int) (j : Nat) (x : Int) : (wordsRow L).set j (.int .u64 x) = wordsRow (L.set j x) := by
  simp [wordsRow, List.map_set]
def words8 (ws : List Int) : List Int := ws.flatMap bytes8
theorem words8_length (ws : List Int) : (words8 ws).length = 8 * ws.length := by
  unfold words8
  induction ws with
  | nil => rfl
  | cons w r ih => rw [List.flatMap_cons, List.length_append, ih, bytes8_length, List.length_cons]; omega
theorem words8_get (ws : List Int) : ∀ (i k : Nat), k < 8 → i < ws.length → (words8 ws)[8 * i + k]? = some (ws.getD i 0 / 2 ^ (8 * k) % 256) := by
  induction ws with
  | nil => intro i k _ h; simp at h
  | cons w r ih =>
    intro i k hk hi
    unfold words8
    rw [List.flatMap_cons]
    cases i with
    | zero =>
      rw [List.getElem?_append_left (by rw [bytes8_length]; omega)]
      simpa using bytes8_get w k hk
    | succ i =>
      rw [List.getElem?_append_right (by rw [bytes8_length]; omega), bytes8_length]
      have := ih i k hk (by simpa using hi)
      unfold words8 at this
      have e : 8 * (i + 1) + k - 8 = 8 * i + k := by omega
      rw [e, this]; simp
theorem own_below {W w7 : World} {base size n : Nat} {e : TypeId} {v : Value} {xs : List Value} (h : W.ownsRow base e size v n xs) (hb : Hid (Below W.heap.size W w7)) : w7.ownsRow base e size v n xs :=
  h.kept (row := none) ⟨(unhide hb).os, (unhide hb).tape, (unhide hb).output, (unhide hb).size, fun k hk _ => (unhide hb).block k hk⟩ (by
    cases hv : Value.ownBlock v with
    | none => exact .inl rfl
    | some q => exact .inr (by simp))
end Go.Proofs.YtkokiefclmbgaaaGreatDoor

/- tinyosref.isName, names. -/
namespace Go.Proofs.YtkokiefclmbgaaaGreatDoor
open Go.RowKit
set_option linter.unusedVariables false
set_option linter.unusedSimpArgs false

/-- No byte is 0 or a slash. -/
def noSlash (s : ByteArray) : Bool := s.data.toList.all (fun c => c != 0 && c != 47)
/-- A text is a name. -/
def nameOk (s : ByteArray) : Bool := decide (1 ≤ s.size) && decide (s.size ≤ 14) && !(s.toList == [46]) && !(s.toList == [46, 46]) && noSlash s
theorem byte_int0 (c : UInt8) : ((c.toNat : Int) == 0) = (c == 0) := by
  by_cases h : c = 0
  · subst h; rfl
  · have h1 : (c == 0) = false := by simpa using h
    rw [h1]
    have h2 : c.toNat ≠ 0 := fun e => h (UInt8.toNat_inj.1 e)
    simp; omega
theorem byte_int47 (c : UInt8) : ((c.toNat : Int) == 47) = (c == 47) := by
  by_cases h : c = 47
  · subst h; rfl
  · have h1 : (c == 47) = false := by simpa using h
    rw [h1]
    have h2 : c.toNat ≠ 47 := fun e => h (UInt8.toNat_inj.1 e)
    simp; omega
theorem data_get (s : ByteArray) (j : Nat) (h : j < s.size) : s.data.toList[j]? = some s[j] := by
  have h2 : j < s.data.toList.length := by simpa using h
  rw [List.getElem?_eq_getElem h2]; rfl
theorem all_upto {l : List UInt8} {f : UInt8 → Bool} (h : ∀ j, j < l.length → ∀ c, l[j]? = some c → f c = true) : l.all f = true := by
  rw [List.all_eq_true]
  intro c hc
  obtain ⟨j, hj, rfl⟩ := List.mem_iff_getElem.1 hc
  exact h j hj _ (List.getElem?_eq_getElem hj)
theorem all_bad {l : List UInt8} {f : UInt8 → Bool} {j : Nat} {c : UInt8} (h : l[j]? = some c) (hf : f c = false) : l.all f = false := by
  rw [List.all_eq_false]
  exact ⟨c, List.mem_of_getElem? h, by rw [hf]; decide⟩

set_option maxRecDepth 100000 in
set_option maxHeartbeats 1000000 in
theorem refIsName_any (s : ByteArray) (w : World) (hs : s.size ≤ 1000) : Calls Tryz.prog 108 #[.string s] w fun e w' => e = .returned (.bool (nameOk s)) ∧ w' = w := by
  by_cases h1 : 1 ≤ s.size
  case neg =>
    have hr : nameOk s = false := by simp [nameOk]; omega
    rw [hr]
    clear hr
    go_enter Tryz.func108, Tryz.ntmps108
    go_wp2
    go_ret
    exact ⟨rfl, rfl⟩
  by_cases h2 : s.size ≤ 14
  case neg =>
    have hr : nameOk s = false := by simp [nameOk]; omega
    rw [hr]
    clear hr
    go_enter Tryz.func108, Tryz.ntmps108
    go_wp2
    go_ret
    exact ⟨rfl, rfl⟩
  by_cases h3 : (s.toList == [46]) = true
  · have hr : nameOk s = false := by simp [nameOk, h3]
    rw [hr]
    clear hr
    go_enter Tryz.func108, Tryz.ntmps108
    go_wp2
    go_ret
    exact ⟨rfl, rfl⟩
  have h3' : (s.toList == [46]) = false := by simpa using h3
  by_cases h4 : (s.toList == [46, 46]) = true
  · have hr : nameOk s = false := by simp [nameOk, h4]
    rw [hr]
    clear hr h3
    go_enter Tryz.func108, Tryz.ntmps108
    go_wp2
    go_ret
    exact ⟨rfl, rfl⟩
  have h4' : (s.toList == [46, 46]) = false := by simpa using h4
  have hr : nameOk s = noSlash s := by simp [nameOk, h1, h2, h3', h4']
  rw [hr]
  clear h3 h4 hr
  go_enter Tryz.func108, Tryz.ntmps108
  go_wp2
  go_loop [3] (fun i => ∃ k : Nat, k ≤ s.size ∧ i = .int .i64 k ∧ Hid (∀ j, j < k → ∀ c, s.data.toList[j]? = some c → (c != 0 && c != 47) = true)) (fun i => s.size - (intOf i).toNat)
  case atStart => exact ⟨0, by omega, rfl, hide (fun j hj => by omega)⟩
  case round =>
    obtain ⟨k, hk, rfl, HA⟩ := hrel
    by_cases hlt : k < s.size
    · have hd := data_get s k hlt
      by_cases c1 : s[k] = 0
      · have g1 : ((s[k].toNat : Int) == 0) = true := by rw [byte_int0, c1]; rfl
        have hr : noSlash s = false := all_bad hd (by rw [c1]; rfl)
        have HR := hide hr
        clear hd hr c1
        go_wp2
        go_ret
        exact ⟨by rw [unhide HR]; rfl, rfl⟩
      have g1 : ((s[k].toNat : Int) == 0) = false := by rw [byte_int0]; simpa using c1
      by_cases c2 : s[k] = 47
      · have g2 : ((s[k].toNat : Int) == 47) = true := by rw [byte_int47, c2]; rfl
        have hr : noSlash s = false := all_bad hd (by rw [c2]; rfl)
        have HR := hide hr
        clear hd hr c1 c2
        go_wp2
        go_ret
        exact ⟨by rw [unhide HR]; rfl, rfl⟩
      have g2 : ((s[k].toNat : Int) == 47) = false := by rw [byte_int47]; simpa using c2
      have HN : Hid (∀ j, j < k + 1 → ∀ c, s.data.toList[j]? = some c → (c != 0 && c != 47) = true) := hide (fun j hj c hc => by
        rcases Nat.lt_succ_iff_lt_or_eq.1 hj with h | h
        · exact unhide HA j h c hc
        · subst h
          rw [hd] at hc
          obtain rfl := Option.some.inj hc
          simp [c1, c2])
      clear hd c1 c2
      go_wp2
      go_round
      case rel => exact ⟨k + 1, by omega, by go_num, HN⟩
      case measure => simp [intOf]; omega
    · have hsl : s.data.toList.length = s.size := by simp
      have hr : noSlash s = true := all_upto (fun j hj c hc => unhide HA j (by omega) c hc)
      have HR := hide hr
      clear hr hsl
      go_wp2
      go_ret
      exact ⟨by rw [unhide HR]; rfl, rfl⟩

/-- What lies between slashes: behind a word that was begun. -/
def parts : List UInt8 → List UInt8 → List (List UInt8)
  | [], word => [word]
  | c :: r, word => if c = 47 then word :: parts r [] else parts r (word ++ [c])
def strOf (l : List UInt8) : ByteArray := ⟨l.toArray⟩
/-- What lies between the slashes of a path. -/
def pathParts (s : ByteArray) : List ByteArray := (parts (s.data.toList.drop 1) []).map strOf
/-- The names of a path; none: it is none. -/
def namesOf (s : ByteArray) : Option (List ByteArray) :=
  if 60 < s.size ∨ s.size = 0 ∨ s.data.toList[0]? ≠ some 47 then none
  else if s.size = 1 then some []
  else if (pathParts s).all nameOk = true then some (pathParts s) else none
theorem append_data (a b : ByteArray) : (a ++ b).data.toList = a.data.toList ++ b.data.toList := by simp
theorem extract_one (s : ByteArray) (k : Nat) (h : k < s.size) : (s.extract k (k + 1)).data.toList = [s[k]] := by
  rw [ByteArray.data_extract]
  have h2 : k < s.data.size := h
  rw [Array.toList_extract]
  simp [List.extract]
  rw [List.drop_eq_getElem_cons (by simpa using h2)]
  simp
  rfl
theorem root_eq {s : ByteArray} (h1 : s.size = 1) (h : s.data.toList[0]? = some 47) : (s.toList == [47]) = true := by
  rw [ByteArray.toList_eq]
  have hl : s.data.toList.length = 1 := by simpa using h1
  match hx : s.data.toList, hl with
  | [c], _ =>
    rw [hx] at h
    have : c = 47 := by simpa using h
    subst this; rfl
theorem root_ne {s : ByteArray} (h1 : ¬ s.size = 1) : (s.toList == [47]) = false := by
  rw [ByteArray.toList_eq, beq_eq_false_iff_ne]
  intro h
  have hl : s.data.toList.length = s.size := by simp
  rw [h] at hl
  exact h1 hl.symm
theorem strOf_data (s : ByteArray) : strOf s.data.toList = s := rfl
theorem strOf_size (l : List UInt8) : (strOf l).size = l.length := by simp [strOf, ByteArray.size]
def strsRow (l : List ByteArray) : List Value := l.map Value.string
theorem parts_ne (l : List UInt8) : ∀ word, parts l word ≠ [] := by
  induction l with
  | nil => intro word; simp [parts]
  | cons c r ih => intro word; unfold parts; split <;> simp [ih]
theorem parts_slash (l : List UInt8) (i : Nat) (word : List UInt8) (h : l[i]? = some 47) : parts (l.drop i) word = word :: parts (l.drop (i + 1)) [] := by
  have hi := (List.getElem?_eq_some_iff.1 h).1
  rw [List.drop_eq_getElem_cons hi, parts, if_pos (by rw [List.getElem?_eq_getElem hi] at h; exact Option.some.inj h)]
theorem parts_char (l : List UInt8) (i : Nat) (word : List UInt8) (c : UInt8) (h : l[i]? = some c) (hc : c ≠ 47) : parts (l.drop i) word = parts (l.drop (i + 1)) (word ++ [c]) := by
  have hi := (List.getElem?_eq_some_iff.1 h).1
  have e : l[i] = c := by rw [List.getElem?_eq_getElem hi] at h; exact Option.some.inj h
  rw [List.drop_eq_getElem_cons hi, parts, e, if_neg hc]
theorem strInfo : (Tryz.prog.info? 9).map (fun i => (i.zero, i.size, i.bytes)) = some (some (.string ByteArray.empty), 1, 16) := by kernel_rfl
theorem info_of {P : Program} {t : TypeId} {z : Value} {a b : Nat} (h : (P.info? t).map (fun i => (i.zero, i.size, i.bytes)) = some (some z, a, b)) : ∃ i, P.info? t = some i ∧ i.zero = some z ∧ i.size = a ∧ i.bytes = b := by
  obtain ⟨i, hi, h2⟩ := Option.map_eq_some_iff.1 h
  simp only [Prod.mk.injEq] at h2
  exact ⟨i, hi, h2.1, h2.2.1, h2.2.2⟩
theorem names_bad {s : ByteArray} (h1 : s.size ≤ 60) (h2 : ¬ s.size = 0) (h5 : ¬ s.size = 1) {c : UInt8} (hd : s.data.toList[0]? = some c) (hc : c = 47) {D : List ByteArray} {W : ByteArray} (h : ∃ r, pathParts s = D ++ W :: r) (hn : nameOk W = false) : namesOf s = none := by
  unfold namesOf
  rw [if_neg (by rintro (h | h | h); omega; omega; exact h (by rw [hd, hc])), if_neg h5, if_neg]
  obtain ⟨r, h⟩ := h
  rw [h, List.all_append, List.all_cons, hn]
  simp
def NamesPost (s : ByteArray) (w : World) (e : Ending) (w' : World) : Prop :=
  (namesOf s = none ∧ e = .returned (.tuple #[.slice none 0 0, .bool false]) ∨ ∃ l, namesOf s = some l ∧ ∃ v, e = .returned (.tuple #[v, .bool true]) ∧ w'.ownsRow w.heap.size 9 1 v l.length (strsRow l)) ∧ Below w.heap.size w w'

set_option maxRecDepth 100000 in
set_option maxHeartbeats 1000000 in
theorem refNames_any (s : ByteArray) (w : World) (hs : s.size ≤ maxLen) : Calls Tryz.prog 76 #[.string s] w fun e w' => NamesPost s w e w' := by
  unfold maxLen at hs
  by_cases h1 : s.size ≤ 60
  case neg =>
    have hr : namesOf s = none := by unfold namesOf; rw [if_pos (.inl (by omega))]
    have HR := hide hr
    clear hr
    go_enter Tryz.func76, Tryz.ntmps76
    go_wp2
    go_ret2
    exact ⟨.inl ⟨unhide HR, rfl⟩, Below.refl _ _⟩
  by_cases h2 : s.size = 0
  · have hr : namesOf s = none := by unfold namesOf; rw [if_pos (.inr (.inl h2))]
    have HR := hide hr
    clear hr
    go_enter Tryz.func76, Tryz.ntmps76
    go_wp2
    go_ret2
    exact ⟨.inl ⟨unhide HR, rfl⟩, Below.refl _ _⟩
  have h0 : 0 < s.size := by omega
  have g0 : ((s.size : Int) == 0) = false := by rw [beq_eq_false_iff_ne]; omega
  have hd0 := data_get s 0 h0
  by_cases h3 : s[0] = 47
  case neg =>
    have hr : namesOf s = none := by unfold namesOf; rw [if_pos (.inr (.inr (by rw [hd0]; intro e; exact h3 (Option.some.inj e))))]
    have HR := hide hr
    have g : ((s[0].toNat : Int) != 47) = true := by
      have := byte_int47 s[0]
      have h4 : (s[0] == 47) = false := by simpa using h3
      rw [h4] at this
      simpa using this
    clear hr hd0 h3
    go_enter Tryz.func76, Tryz.ntmps76
    go_wp2
    go_ret2
    exact ⟨.inl ⟨unhide HR, rfl⟩, Below.refl _ _⟩
  have g : ((s[0].toNat : Int) != 47) = false := by rw [h3]; rfl
  by_cases h5 : s.size = 1
  · have hr : namesOf s = some [] := by unfold namesOf; rw [if_neg (by rintro (h | h | h); omega; omega; exact h (by rw [hd0, h3])), if_pos h5]
    have HR := hide hr
    have g2 := root_eq h5 (hd0.trans (by rw [h3]))
    clear hr hd0 h3
    go_enter Tryz.func76, Tryz.ntmps76
    go_wp2
    go_ret2
    exact ⟨.inr ⟨[], unhide HR, _, rfl, World.ownsRow_nil _ _ _ _⟩, Below.refl _ _⟩
  have g2 := root_ne h5
  have HD := hide (And.intro h3 hd0)
  obtain ⟨is, his, hz0, hz1, hz2⟩ := info_of strInfo
  have HIS := hide (And.intro his (And.intro hz0 (And.intro hz1 hz2)))
  clear h3 hd0 his hz0 hz1 hz2
  go_enter Tryz.func76, Tryz.ntmps76
  go_wp2
  go_loopw [4, 5, 6] (fun l word i wr => ∃ k : Nat, ∃ W : ByteArray, ∃ D : List ByteArray, 1 ≤ k ∧ k ≤ s.size + 1 ∧ i = .int .i64 k ∧ word = .string W ∧ Hid (D.all nameOk = true) ∧ D.length ≤ k ∧ W.size ≤ k ∧
      Hid ((k ≤ s.size → pathParts s = D ++ (parts (s.data.toList.drop k) W.data.toList).map strOf) ∧ (k = s.size + 1 → pathParts s = D)) ∧ Hid (wr.ownsRow w.heap.size 9 1 l D.length (strsRow D)) ∧ Hid (Below w.heap.size w wr)) (fun _ _ i _ => s.size + 1 - (intOf i).toNat)
  case atStart => exact ⟨1, ByteArray.empty, [], by omega, by omega, rfl, rfl, hide rfl, by simp, by simp, hide ⟨fun _ => rfl, fun h => by omega⟩, hide (World.ownsRow_nil _ _ _ _), hide (Below.refl _ _)⟩
  case round =>
    obtain ⟨k, W, D, hk1, hk, rfl, rfl, HAL, hDl, hWl, HPT, HOW, HBL⟩ := hrel
    by_cases hlt : k < s.size
    · by_cases c1 : s[k] = 47
      · have g3 : ((s[k].toNat : Int) != 47) = false := by rw [c1]; rfl
        have hpt := (unhide HPT).1 (by omega)
        rw [parts_slash s.data.toList k W.data.toList (by rw [data_get s k hlt, c1])] at hpt
        have HNX := hide (show (k + 1 ≤ s.size → pathParts s = (D ++ [W]) ++ (parts (s.data.toList.drop (k + 1)) ByteArray.empty.data.toList).map strOf) ∧ (k + 1 = s.size + 1 → pathParts s = D ++ [W]) from
          ⟨fun _ => by rw [hpt, List.append_assoc]; rfl, fun h => by omega⟩)
        have HEQ := hide (show ∃ r, pathParts s = D ++ W :: r from ⟨_, by rw [hpt]; rfl⟩)
        have HNM := hide (refIsName_any W wr (by omega))
        have hsz := (unhide HBL).size
        obtain ⟨b, hb⟩ : ∃ b, b = nameOk W := ⟨_, rfl⟩
        rw [← hb] at HNM
        have HBB := hide hb
        clear hpt hb c1
        go_wp2_with fail
        refine (unhide HNM).mono ?_
        rintro e w1 ⟨rfl, hw1⟩
        subst hw1
        cases b
        · have HR := hide (names_bad h1 h2 h5 (unhide HD).2 (unhide HD).1 (unhide HEQ) (unhide HBB).symm)
          go_wp2
          go_ret2
          exact ⟨.inl ⟨unhide HR, rfl⟩, unhide HBL⟩
        · go_wp2_with (at_builtin; refine wpList_append_lies _ (by rfl) _ _ 50 (by rfl) w.heap.size 9 is _ 1 16 Tryz.underlying50 (unhide HIS).1 (unhide HIS).2.1 (unhide HIS).2.2.1 (unhide HIS).2.2.2 rfl (by decide) _ _ _ (by rfl) ((unhide HOW).alloc _) ⟨w1.heap.size, 0, none⟩ 1 1 [.string W] (by rfl) (by rfl) (World.news_of_block (cs := #[.string W]) (t := 9) (fr := (0, 0)) (heap_alloc_new w1 _)) (by simp [Value.oneCell']) (by omega) (by unfold maxLen; omega) (by omega) (by simp; omega) (w1.heap.size + 1) (by simp) ?_; intro g cap5 w5 hown5 hgrow5 hat5 hlt5)
          have q1 : w5.ownsRow w.heap.size 9 1 (.slice (some ⟨g, 0, none⟩) (D.length + 1) cap5) (D ++ [W]).length (strsRow (D ++ [W])) := by
            rw [List.length_append, show strsRow (D ++ [W]) = strsRow D ++ [.string W] from by simp [strsRow]]; exact hown5
          have q2 : Below w.heap.size w w5 := ((unhide HBL).alloc (by omega) _).grown hgrow5 (by simp; omega) (by intro q h; have := (unhide HOW).lt q h; omega)
          have Q1 := hide q1
          have Q2 := hide q2
          clear hown5 hgrow5 hat5 q1 q2
          go_roundw
          case rel => exact ⟨k + 1, ByteArray.empty, D ++ [W], by omega, by omega, by go_num, rfl, hide (by rw [List.all_append, unhide HAL]; simp; exact (unhide HBB).symm), by rw [List.length_append]; simp; omega, by simp, HNX, Q1, Q2⟩
          case measure => simp [intOf]; omega
      · have g3 : ((s[k].toNat : Int) != 47) = true := by
          have := byte_int47 s[k]
          have h4 : (s[k] == 47) = false := by simpa using c1
          rw [h4] at this
          simpa using this
        have hpt := (unhide HPT).1 (by omega)
        rw [parts_char s.data.toList k W.data.toList _ (data_get s k hlt) c1] at hpt
        obtain ⟨C, hC⟩ : ∃ C, C = s.extract k (k + 1) := ⟨_, rfl⟩
        have hsl : ∀ w, (Instr.slice 9 (.string s) (some (.int .i64 (k : Int))) (some (.int .i64 ((k : Int) + 1))) none).run Tryz.prog w = .ok (.string C) w := by
          intro w
          rw [run_slice_string w 9 s .i64 .i64 (k : Int) ((k : Int) + 1) Tryz.underlying9 (by omega) (by omega) (by omega), hC]
          rfl
        have hCd : C.data.toList = [s[k]] := by rw [hC]; exact extract_one s k hlt
        have hCs : C.size = 1 := by rw [← ByteArray.size_data, ← Array.length_toList, hCd]; rfl
        have HNX := hide (show (k + 1 ≤ s.size → pathParts s = D ++ (parts (s.data.toList.drop (k + 1)) (W ++ C).data.toList).map strOf) ∧ (k + 1 = s.size + 1 → pathParts s = D) from
          ⟨fun _ => by rw [hpt, append_data, hCd], fun h => by omega⟩)
        have hWC : (W ++ C).size ≤ k + 1 := by rw [ByteArray.size_append]; omega
        have hsm : W.size + C.size ≤ 9223372036854775807 := by omega
        clear hpt c1 hC hCd hCs
        go_wp2
        go_roundw
        case rel => exact ⟨k + 1, W ++ C, D, by omega, by omega, by go_num, rfl, HAL, by omega, hWC, HNX, HOW, HBL⟩
        case measure => simp [intOf]; omega
    · by_cases hke : k = s.size
      · subst hke
        have hpt := (unhide HPT).1 (Nat.le_refl _)
        rw [show s.data.toList.drop s.size = [] from List.drop_eq_nil_of_le (by simp)] at hpt
        have hpt2 : pathParts s = D ++ [W] := hpt
        have HNX := hide (show (s.size + 1 ≤ s.size → pathParts s = (D ++ [W]) ++ (parts (s.data.toList.drop (s.size + 1)) ByteArray.empty.data.toList).map strOf) ∧ (s.size + 1 = s.size + 1 → pathParts s = D ++ [W]) from
          ⟨fun h => by omega, fun _ => hpt2⟩)
        have HPL := hide hpt2
        have HEQ := hide (show ∃ r, pathParts s = D ++ W :: r from ⟨[], hpt2⟩)
        have HNM := hide (refIsName_any W wr (by omega))
        have hsz := (unhide HBL).size
        obtain ⟨b, hb⟩ : ∃ b, b = nameOk W := ⟨_, rfl⟩
        rw [← hb] at HNM
        have HBB := hide hb
        clear hpt hpt2 hb
        go_wp2_with fail
        refine (unhide HNM).mono ?_
        rintro e w1 ⟨rfl, hw1⟩
        subst hw1
        cases b
        · have HR := hide (names_bad h1 h2 h5 (unhide HD).2 (unhide HD).1 (unhide HEQ) (unhide HBB).symm)
          go_wp2
          go_ret2
          exact ⟨.inl ⟨unhide HR, rfl⟩, unhide HBL⟩
        · go_wp2_with (at_builtin; refine wpList_append_lies _ (by rfl) _ _ 50 (by rfl) w.heap.size 9 is _ 1 16 Tryz.underlying50 (unhide HIS).1 (unhide HIS).2.1 (unhide HIS).2.2.1 (unhide HIS).2.2.2 rfl (by decide) _ _ _ (by rfl) ((unhide HOW).alloc _) ⟨w1.heap.size, 0, none⟩ 1 1 [.string W] (by rfl) (by rfl) (World.news_of_block (cs := #[.string W]) (t := 9) (fr := (0, 0)) (heap_alloc_new w1 _)) (by simp [Value.oneCell']) (by omega) (by unfold maxLen; omega) (by omega) (by simp; omega) (w1.heap.size + 1) (by simp) ?_; intro g cap5 w5 hown5 hgrow5 hat5 hlt5)
          have q1 : w5.ownsRow w.heap.size 9 1 (.slice (some ⟨g, 0, none⟩) (D.length + 1) cap5) (D ++ [W]).length (strsRow (D ++ [W])) := by
            rw [List.length_append, show strsRow (D ++ [W]) = strsRow D ++ [.string W] from by simp [strsRow]]; exact hown5
          have q2 : Below w.heap.size w w5 := ((unhide HBL).alloc (by omega) _).grown hgrow5 (by simp; omega) (by intro q h; have := (unhide HOW).lt q h; omega)
          have Q1 := hide q1
          have Q2 := hide q2
          clear hown5 hgrow5 hat5 q1 q2
          go_roundw
          case rel => exact ⟨s.size + 1, ByteArray.empty, D ++ [W], by omega, by omega, by go_num, rfl, hide (by rw [List.all_append, unhide HAL]; simp; exact (unhide HBB).symm), by rw [List.length_append]; simp; omega, by simp, hide ⟨fun h => by omega, fun _ => unhide HPL⟩, Q1, Q2⟩
          case measure => simp [intOf]
      · have hke2 : k = s.size + 1 := by omega
        subst hke2
        have hpt := (unhide HPT).2 rfl
        have hr : namesOf s = some D := by
          unfold namesOf
          rw [if_neg (by rintro (h | h | h); omega; omega; exact h (by rw [(unhide HD).2, (unhide HD).1])), if_neg h5, hpt, if_pos (unhide HAL)]
        have HR := hide hr
        clear hpt hr
        go_wp2
        go_ret2
        exact ⟨.inr ⟨D, unhide HR, _, rfl, unhide HOW⟩, unhide HBL⟩
end Go.Proofs.YtkokiefclmbgaaaGreatDoor

/- 'copy(dst, s)' of a string, as one step of a region that draws its order. -/
namespace Go.Proofs.YtkokiefclmbgaaaGreatDoor
open Go Go.RowKit
theorem grown_setRow {w : World} {g : Nat} (cs : Array Value) : w.grownBy (w.setRow g cs) (some g) :=
  ⟨rfl, rfl, rfl, by simp [World.setRow], fun k hk hne => setRow_other w g k cs (fun e => hne (by simp [e]))⟩
theorem step_copy_str {P : Program} {ops : Array Oper} {o : Oper} {a : Act} {w : World} {K : Act → World → Prop} {Q : Exit → Act → World → Prop} {E : Prop} (hgd : o.guard = none) (d s : Operand) (dT sT : TypeId)
    (ho : o.op = .call { callee := .builtin .copy, args := #[d, s], argTypes := #[dT, sT] }) (elem : TypeId) (hu : P.underlying dT = some (.slice elem)) (hsz : (P.info? elem).map (·.size) = some 1)
    (g off dLen dCap : Nat) (str : ByteArray) (hd : a.eval d = .slice (some ⟨g, off, none⟩) dLen dCap) (hs : a.eval s = .string str)
    (cur : List Value) (t : TypeId) (hg : Holds w g t cur) (hle : str.size ≤ dLen) (hfit : off + str.size ≤ cur.length)
    (h : ∀ w', Hid (Holds w' g t (splice cur off (Lib.byteCells str.data.toList))) → w.grownBy w' (some g) → K (a.put o.dst (goInt str.size)) w') :
    if Region.wanted o (yielded ops a.tmps) = true then Oper.wp P o a w K Q else E := by
  have hw : Region.wanted o (yielded ops a.tmps) = true := by simp [Region.wanted, hgd]
  rw [if_pos hw]
  have hrun := Lib.run_copy_row_string (P := P) w dT sT o.type elem g off dLen dCap str cur.toArray t hu hsz hg hle (by simpa using hfit)
  have hlen : (Lib.byteCells str.data.toList).length = str.size := by rw [Lib.byteCells_length, ← Lib.size_eq]
  unfold Oper.wp
  simp [execOp, ho, resolve, invoke, builtin, hd, hs, hrun, Result.andThen]
  refine h _ ?_ (grown_setRow _)
  show Holds _ _ _ _
  unfold Holds
  rw [setRow_heap w g _ _ t _ hg]
  unfold splice
  rw [hlen]
/-- The same of a slice. -/
theorem step_copy_row {P : Program} {ops : Array Oper} {o : Oper} {a : Act} {w : World} {K : Act → World → Prop} {Q : Exit → Act → World → Prop} {E : Prop} (hgd : o.guard = none) (d s : Operand) (dT sT : TypeId)
    (ho : o.op = .call { callee := .builtin .copy, args := #[d, s], argTypes := #[dT, sT] }) (elem : TypeId) (hu : P.underlying dT = some (.slice elem)) (hsz : (P.info? elem).map (·.size) = some 1)
    (g off dLen dCap : Nat) (q qo sLen sCap : Nat) (hd : a.eval d = .slice (some ⟨g, off, none⟩) dLen dCap) (hs : a.eval s = .slice (some ⟨q, qo, none⟩) sLen sCap)
    (cur : List Value) (t : TypeId) (hg : Holds w g t cur) (cs : List Value) (hn : cs.length = Nat.min sLen dLen) (hsrc : ∀ j v, cs[j]? = some v → w.cell? ⟨q, qo + j, none⟩ = some v)
    (h1 : ∀ v ∈ cs, v.oneCell' = true) (hfit : off + cs.length ≤ cur.length)
    (h : ∀ w', Hid (Holds w' g t (splice cur off cs)) → w.grownBy w' (some g) → K (a.put o.dst (goInt cs.length)) w') :
    if Region.wanted o (yielded ops a.tmps) = true then Oper.wp P o a w K Q else E := by
  have hw : Region.wanted o (yielded ops a.tmps) = true := by simp [Region.wanted, hgd]
  rw [if_pos hw]
  have hrun := run_copy_row (P := P) w dT sT o.type elem g off dLen dCap ⟨q, qo, none⟩ sLen sCap cur.toArray t cs hu hsz hg hn (fun j v hv => by rw [show (⟨q, qo, none⟩ : Addr).add j = ⟨q, qo + j, none⟩ from by unfold Addr.add; split <;> simp_all]; exact hsrc j v hv) (by simpa using hfit) h1
  unfold Oper.wp
  simp [execOp, ho, resolve, invoke, builtin, hd, hs, hrun, Result.andThen]
  refine h _ ?_ (grown_setRow _)
  show Holds _ _ _ _
  unfold Holds
  rw [setRow_heap w g _ _ t _ hg]
  simp [splice]
end Go.Proofs.YtkokiefclmbgaaaGreatDoor
