/- Rows of cells in a block, and what is laid over them: plain lemmas, no program. -/
import Derived.WalkKit
import Derived.Laws.CopyOwn
namespace Go.Proofs.YtkkpeboejgkmaaaDoor
open Go Go.RowKit

theorem hide {p : Prop} (h : p) : Hid p := h
theorem unhide {p : Prop} (h : Hid p) : p := h

theorem bcell {W w1 : World} (hb : Below W.heap.size W w1) : (∀ b o, b < W.heap.size → w1.cell? ⟨b, o, none⟩ = W.cell? ⟨b, o, none⟩) ∧ (∀ b o, b < W.heap.size → w1.frozen? ⟨b, o, none⟩ = W.frozen? ⟨b, o, none⟩) :=
  ⟨fun b o h => hb.cell (p := ⟨b, o, none⟩) h, fun b o h => hb.frozen (p := ⟨b, o, none⟩) h⟩

/-- Block b is a row of just these cells. -/
def Holds (W : World) (b : Nat) (t : TypeId) (vs : List Value) : Prop := W.heap[b]? = some (.cells vs.toArray t (0, 0))

theorem Holds.cell {W : World} {b : Nat} {t : TypeId} {vs : List Value} (h : Holds W b t vs) {j : Nat} {v : Value} (hj : vs[j]? = some v) : W.cell? ⟨b, j, none⟩ = some v := by
  unfold Holds at h; simp [World.cell?, h, hj]
theorem Holds.frozen {W : World} {b : Nat} {t : TypeId} {vs : List Value} (h : Holds W b t vs) (j : Nat) : W.frozen? ⟨b, j, none⟩ = false := by
  unfold Holds at h; simp [World.frozen?, h]
theorem Holds.lt {W : World} {b : Nat} {t : TypeId} {vs : List Value} (h : Holds W b t vs) : b < W.heap.size := by
  unfold Holds at h
  exact (Array.getElem?_eq_some_iff.1 h).1
theorem Holds.set {W : World} {b : Nat} {t : TypeId} {vs : List Value} (h : Holds W b t vs) (j : Nat) (v : Value) : Holds (W.setCell ⟨b, j, none⟩ v) b t (vs.set j v) := by
  unfold Holds at h ⊢
  simp only [World.setCell, Array.getElem?_modify, h]
  simp
theorem Holds.set_other {W : World} {b c : Nat} {t : TypeId} {vs : List Value} (h : Holds W b t vs) (hne : b ≠ c) (j : Nat) (v : Value) : Holds (W.setCell ⟨c, j, none⟩ v) b t vs := by
  unfold Holds at h ⊢
  rw [Below.heap_setCell _ _ _ _ hne]; exact h
theorem Holds.grown {W W' : World} {b : Nat} {t : TypeId} {vs : List Value} {row : Option Nat} (h : Holds W b t vs) (hg : W.grownBy W' row) (hne : some b ≠ row) : Holds W' b t vs := by
  have hl := h.lt
  unfold Holds at h ⊢
  rw [hg.block b hl hne]; exact h
theorem Holds.below {W W' : World} {b B : Nat} {t : TypeId} {vs : List Value} (h : Holds W b t vs) (hg : Below B W W') (hlt : b < B) : Holds W' b t vs := by
  unfold Holds at h ⊢
  rw [hg.block b hlt]; exact h
theorem Holds.alloc {W : World} {b : Nat} {t : TypeId} {vs : List Value} (h : Holds W b t vs) (o : Obj) : Holds (W.alloc o) b t vs := by
  have hl := h.lt
  unfold Holds at h ⊢
  rw [Below.heap_alloc _ _ _ hl]; exact h
theorem Holds.new (W : World) (t : TypeId) (vs : List Value) : Holds (W.alloc (.cells vs.toArray t)) W.heap.size t vs := by
  unfold Holds
  show (W.heap.push _)[W.heap.size]? = _
  simp
theorem Holds.heap {W W' : World} {b : Nat} {t : TypeId} {vs : List Value} (h : Holds W b t vs) (he : W'.heap = W.heap) : Holds W' b t vs := by
  unfold Holds at h ⊢; rw [he]; exact h
theorem grown_set {w wr : World} {b : Nat} (h : w.grownBy wr (some b)) (j : Nat) (v : Value) : w.grownBy (wr.setCell ⟨b, j, none⟩ v) (some b) :=
  ⟨h.os, h.tape, h.output, by simp only [World.setCell, Array.size_modify]; exact h.size, fun k hk hne => by
    rw [Below.heap_setCell _ _ _ _ (fun e => hne (by simp [e])), h.block k hk hne]⟩
theorem grown_trans {a b c : World} {row : Option Nat} (h : a.grownBy b row) (k : b.grownBy c row) : a.grownBy c row :=
  ⟨k.os.trans h.os, k.tape.trans h.tape, k.output.trans h.output, Nat.le_trans h.size k.size, fun i hi hne => (k.block i (Nat.lt_of_lt_of_le hi h.size) hne).trans (h.block i hi hne)⟩
theorem below_grown {B b : Nat} {w wr : World} (h : w.grownBy wr (some b)) (hB : B ≤ b) (hw : B ≤ w.heap.size) : Below B w wr :=
  ⟨h.os, h.tape, h.output, h.size, fun k hk => h.block k (by omega) (fun e => by simp at e; omega)⟩

theorem grown_cell {w w' : World} {g b : Nat} (hg : w.grownBy w' (some g)) (hb : b < w.heap.size) (hne : b ≠ g) (o : Nat) : w'.cell? ⟨b, o, none⟩ = w.cell? ⟨b, o, none⟩ :=
  World.cell?_of_block (a := ⟨b, o, none⟩) (hg.block b hb (by simpa using hne))

/-! ### Lists -/
theorem splice_get {α : Type} (L : List α) (off : Nat) (cs : List α) (h : off + cs.length ≤ L.length) (j : Nat) :
    (splice L off cs)[j]? = if j < off then L[j]? else if j < off + cs.length then cs[j - off]? else L[j]? := by
  unfold splice
  rw [List.getElem?_append]
  have e : (L.take off).length = off := by simp; omega
  rw [e]
  split
  · rw [List.getElem?_take]; simp [*]
  · rw [List.getElem?_append]
    split
    · rw [if_pos (by omega)]
    · rw [if_neg (by omega), List.getElem?_drop]
      congr 1; omega
theorem splice_nil {α : Type} (L : List α) (off : Nat) : splice L off [] = L := by simp [splice]
theorem splice_length {α : Type} (L : List α) (off : Nat) (cs : List α) (h : off + cs.length ≤ L.length) : (splice L off cs).length = L.length := length_splice L off cs h
theorem splice_set {α : Type} (L : List α) (off : Nat) (xs : List α) (k : Nat) (x : α) (hx : xs[k]? = some x) (h : off + xs.length ≤ L.length) :
    (splice L off (xs.take k)).set (off + k) x = splice L off (xs.take (k + 1)) := by
  have hk : k < xs.length := (List.getElem?_eq_some_iff.1 hx).1
  have h1 : off + (xs.take k).length ≤ L.length := by simp; omega
  have h2 : off + (xs.take (k + 1)).length ≤ L.length := by simp; omega
  apply List.ext_getElem?
  intro j
  rw [List.getElem?_set, splice_get _ _ _ h1, splice_get _ _ _ h2, splice_length _ _ _ h1]
  have e1 : (xs.take k).length = k := by simp; omega
  have e2 : (xs.take (k + 1)).length = k + 1 := by simp; omega
  rw [e1, e2]
  by_cases hj : off + k = j
  · subst hj
    rw [if_pos rfl, if_pos (by omega), if_neg (by omega), if_pos (by omega), Nat.add_sub_cancel_left, List.getElem?_take, if_pos (by omega), hx]
  · rw [if_neg hj]
    by_cases a : j < off
    · simp [a]
    · by_cases c : j < off + k
      · rw [if_neg a, if_pos c, if_neg a, if_pos (by omega), List.getElem?_take, List.getElem?_take, if_pos (by omega), if_pos (by omega)]
      · rw [if_neg a, if_neg c, if_neg a, if_neg (by omega)]
theorem splice_splice {α : Type} (L : List α) (off : Nat) (xs ys : List α) (h : off + xs.length + ys.length ≤ L.length) :
    splice (splice L off xs) (off + xs.length) ys = splice L off (xs ++ ys) := by
  have h1 : off + xs.length ≤ L.length := by omega
  apply List.ext_getElem?
  intro j
  rw [splice_get _ _ _ (by rw [splice_length _ _ _ h1]; exact h), splice_get _ _ _ h1, splice_get _ _ _ (by simp; omega), List.length_append]
  by_cases a : j < off
  · simp [a]; intro; omega
  · by_cases c : j < off + xs.length
    · rw [if_pos c, if_neg a, if_pos c, if_neg a, if_pos (by omega), List.getElem?_append_left (by omega)]
    · by_cases d : j < off + xs.length + ys.length
      · rw [if_neg c, if_pos d, if_neg a, if_pos (by omega), List.getElem?_append_right (by omega)]
        congr 1; omega
      · rw [if_neg c, if_neg d, if_neg a, if_neg c, if_neg a, if_neg (by omega)]

/-- Bytes as cells. -/
def bytesRow (L : List Int) : List Value := L.map (Value.int .u8)
theorem bytesRow_length (L : List Int) : (bytesRow L).length = L.length := by simp [bytesRow]
theorem bytesRow_get (L : List Int) (j : Nat) (h : j < L.length) : (bytesRow L)[j]? = some (.int .u8 (L.getD j 0)) := by
  simp [bytesRow, List.getD, List.getElem?_eq_getElem h]
theorem bytesRow_set (L : List Int) (j : Nat) (x : Int) : (bytesRow L).set j (.int .u8 x) = bytesRow (L.set j x) := by
  simp [bytesRow, List.map_set]
theorem bytesRow_splice (L : List Int) (off : Nat) (xs : List Int) : splice (bytesRow L) off (bytesRow xs) = bytesRow (splice L off xs) := by
  simp [bytesRow, splice, List.map_take, List.map_drop]
theorem Holds.bytes {W : World} {b : Nat} {t : TypeId} {L : List Int} (h : Holds W b t (bytesRow L)) : ∀ j, j < L.length → W.cell? ⟨b, j, none⟩ = some (.int .u8 (L.getD j 0)) :=
  fun j hj => h.cell (bytesRow_get L j hj)

/-- The 8 bytes of a number, the lowest first. -/
def bytes8 (n : Int) : List Int := (List.range 8).map fun k => n / 2 ^ (8 * k) % 256
theorem bytes8_length (n : Int) : (bytes8 n).length = 8 := by simp [bytes8]
theorem bytes8_get (n : Int) (k : Nat) (h : k < 8) : (bytes8 n)[k]? = some (n / 2 ^ (8 * k) % 256) := by
  simp [bytes8, h]

/-- Words as cells. -/
def wordsRow (ws : List Int) : List Value := ws.map (Value.int .u64)
theorem wordsRow_get (L : List Int) (j : Nat) (h : j < L.length) : (wordsRow L)[j]? = some (.int .u64 (L.getD j 0)) := by
  simp [wordsRow, List.getD, List.getElem?_eq_getElem h]
theorem wordsRow_set (L : List Int) (j : Nat) (x : Int) : (wordsRow L).set j (.int .u64 x) = wordsRow (L.set j x) := by
  simp [wordsRow, List.map_set]
def words8 (ws : List Int) : List Int := ws.flatMap bytes8
theorem words8_length (ws : List Int) : (words8 ws).length = 8 * ws.length := by
  unfold words8
  induction ws with
  | nil => rfl
  | cons w r ih => rw [List.flatMap_cons, List.length_append, ih, bytes8_length, List.length_cons]; omega
theorem words8_get (ws : List Int) : ∀ (i k : Nat), k < 8 → i < ws.length → (words8 ws)[8 * i + k]? = some (ws.getD i 0 / 2 ^ (8 * k) % 256) := by
  induction ws with
  | nil => intro i k _ h; simp at h
  | cons w r ih =>
    intro i k hk hi
    unfold words8
    rw [List.flatMap_cons]
    cases i with
    | zero =>
      rw [List.getElem?_append_left (by rw [bytes8_length]; omega)]
      simpa using bytes8_get w k hk
    | succ i =>
      rw [List.getElem?_append_right (by rw [bytes8_length]; omega), bytes8_length]
      have := ih i k hk (by simpa using hi)
      unfold words8 at this
      have e : 8 * (i + 1) + k - 8 = 8 * i + k := by omega
      rw [e, this]; simp
theorem own_below {W w7 : World} {base size n : Nat} {e : TypeId} {v : Value} {xs : List Value} (h : W.ownsRow base e size v n xs) (hb : Hid (Below W.heap.size W w7)) : w7.ownsRow base e size v n xs :=
  h.kept (row := none) ⟨(unhide hb).os, (unhide hb).tape, (unhide hb).output, (unhide hb).size, fun k hk _ => (unhide hb).block k hk⟩ (by
    cases hv : Value.ownBlock v with
    | none => exact .inl rfl
    | some q => exact .inr (by simp))
end Go.Proofs.YtkkpeboejgkmaaaDoor
