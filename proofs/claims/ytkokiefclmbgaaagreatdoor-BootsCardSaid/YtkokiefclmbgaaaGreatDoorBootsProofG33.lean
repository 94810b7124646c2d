import Derived.Test.YtkokiefclmbgaaaGreatDoorBootsProofG28
/- tinyoslaw: boot: what it has made behind some of the files. -/
namespace Go.Proofs.YtkokiefclmbgaaaGreatDoor
open Go.RowKit
set_option linter.unusedVariables false
set_option linter.unusedSimpArgs false

/-- The files of a setting as they lie, and where their bytes lie. -/
structure FilesInL (w : World) (fb foff : Nat) (FZ : List PFile) (LS : List FLoc) : Prop where
  len : LS.length = FZ.length
  at_ : ∀ (i : Nat) (f : PFile) (l : FLoc), FZ[i]? = some f → LS[i]? = some l → w.cell? ⟨fb, foff + i * 3, none⟩ = some (.string f.path) ∧ w.cell? ⟨fb, foff + i * 3 + 1, none⟩ = some (.bool f.dir) ∧ w.cell? ⟨fb, foff + i * 3 + 2, none⟩ = some (.slice l.a f.bytes.length l.c) ∧ (0 < f.bytes.length → l.a = some ⟨l.q, l.o, none⟩ ∧ l.q < w.heap.size) ∧ BView w l.q l.o f.bytes
theorem FilesInL.in {w : World} {fb foff : Nat} {FZ : List PFile} {LS : List FLoc} (h : FilesInL w fb foff FZ LS) : FilesIn w fb foff FZ := by
  have hl : ∀ (i : Nat) (f : PFile), FZ[i]? = some f → ∃ l, LS[i]? = some l := fun i f hf => ⟨_, List.getElem?_eq_getElem (by rw [h.len]; exact (List.getElem?_eq_some_iff.1 hf).1)⟩
  refine ⟨fun i f hf => ?_, fun i f hf => ?_, fun i f hf => ?_⟩
  · obtain ⟨l, hl⟩ := hl i f hf; exact (h.at_ i f l hf hl).1
  · obtain ⟨l, hl⟩ := hl i f hf; exact (h.at_ i f l hf hl).2.1
  · obtain ⟨l, hl⟩ := hl i f hf
    obtain ⟨_, _, a, b, c⟩ := h.at_ i f l hf hl
    exact ⟨l.a, l.q, l.o, l.c, a, b, c⟩
def pathsTo (FZ : List PFile) (n : Nat) : List Value := (FZ.take n).map (fun f => .string f.path)
def dirsTo (FZ : List PFile) (n : Nat) : List Value := (FZ.take n).map (fun f => .bool f.dir)
def bytesTo (FZ : List PFile) (LS : List FLoc) (n : Nat) : List Value := ((FZ.zip LS).take n).map (fun x => .slice x.2.a x.1.bytes.length x.2.c)
def fileRow (f : PFile) (r : Nat) : List Value := [.string f.path, .bool f.dir, .slice (some ⟨r, 0, none⟩) f.bytes.length (f.bytes.length + 2)]
def filesTo (FZ : List PFile) (RS : List Nat) (n : Nat) : List Value := ((FZ.zip RS).take n).flatMap (fun x => fileRow x.1 x.2)
theorem pathsTo_succ {FZ : List PFile} {n : Nat} {f : PFile} (h : FZ[n]? = some f) : pathsTo FZ (n + 1) = pathsTo FZ n ++ [.string f.path] := by
  unfold pathsTo; rw [List.take_add_one, h]; simp
theorem dirsTo_succ {FZ : List PFile} {n : Nat} {f : PFile} (h : FZ[n]? = some f) : dirsTo FZ (n + 1) = dirsTo FZ n ++ [.bool f.dir] := by
  unfold dirsTo; rw [List.take_add_one, h]; simp
theorem zip_get {α β : Type} {xs : List α} {ys : List β} {n : Nat} {x : α} {y : β} (h : xs[n]? = some x) (k : ys[n]? = some y) : (xs.zip ys)[n]? = some (x, y) := by
  rw [List.getElem?_zip_eq_some]; exact ⟨h, k⟩
theorem bytesTo_succ {FZ : List PFile} {LS : List FLoc} {n : Nat} {f : PFile} {l : FLoc} (h : FZ[n]? = some f) (k : LS[n]? = some l) : bytesTo FZ LS (n + 1) = bytesTo FZ LS n ++ [.slice l.a f.bytes.length l.c] := by
  unfold bytesTo; rw [List.take_add_one, zip_get h k]; simp
theorem filesTo_succ {FZ : List PFile} {RS : List Nat} {n : Nat} {f : PFile} {r : Nat} (h : FZ[n]? = some f) (k : RS[n]? = some r) : filesTo FZ RS (n + 1) = filesTo FZ RS n ++ fileRow f r := by
  unfold filesTo; rw [List.take_add_one, zip_get h k]; simp [List.flatMap_append]
theorem filesTo_snoc {FZ : List PFile} {RS : List Nat} {n : Nat} (r : Nat) (hn : n ≤ RS.length) : filesTo FZ (RS ++ [r]) n = filesTo FZ RS n := by
  unfold filesTo
  congr 1
  show List.take n (List.zipWith Prod.mk FZ (RS ++ [r])) = List.take n (List.zipWith Prod.mk FZ RS)
  rw [List.take_zipWith, List.take_zipWith, List.take_append_of_le_length hn]
/-- The row that is written into is of this type. -/
def RowType (w : World) (row : Option Nat) (e : TypeId) : Prop := row = none ∨ ∃ g cur fr, row = some g ∧ w.heap[g]? = some (.cells cur e fr)
theorem own_rowType {w : World} {base : Nat} {e : TypeId} {size n : Nat} {v : Value} {xs : List Value} (h : w.ownsRow base e size v n xs) : RowType w v.ownBlock e := by
  rcases h.2 with ⟨rfl, _⟩ | ⟨g, cap, cur, rfl, _, hg, _⟩
  · exact .inl rfl
  · exact .inr ⟨g, cur, (0, 0), rfl, hg⟩
theorem own_type {w : World} {base : Nat} {e e' : TypeId} {size n : Nat} {v : Value} {xs : List Value} {row : Option Nat} (h : w.ownsRow base e size v n xs) (hr : RowType w row e') (hne : e ≠ e') : v.ownBlock = none ∨ v.ownBlock ≠ row := by
  rcases h.2 with ⟨rfl, _⟩ | ⟨g, cap, cur, rfl, _, hg, _⟩
  · exact .inl rfl
  · refine .inr (fun he => ?_)
    rcases hr with rfl | ⟨g', cur', fr, rfl, hg'⟩
    · simp [Value.ownBlock] at he
    · simp [Value.ownBlock] at he
      subst he
      rw [hg] at hg'
      simp at hg'
      exact hne hg'.2.1
theorem holds_type {w : World} {b : Nat} {e e' : TypeId} {vs : List Value} {row : Option Nat} (h : Holds w b e vs) (hr : RowType w row e') (hne : e ≠ e') : some b ≠ row := by
  intro he
  rcases hr with rfl | ⟨g', cur', fr, rfl, hg'⟩
  · simp at he
  · simp at he
    subst he
    unfold Holds at h
    rw [h] at hg'
    simp at hg'
    exact hne hg'.2.1
structure BState (w wr : World) (sv : List Value) (FZ : List PFile) (LS : List FLoc) (RS : List Nat) (a b c d : Nat) (v5 v6 v7 v8 : Value) : Prop where
  s : Holds wr w.heap.size 26 sv
  p : wr.ownsRow (w.heap.size + 1) 9 1 v5 a (pathsTo FZ a)
  di : wr.ownsRow (w.heap.size + 1) 4 1 v6 b (dirsTo FZ b)
  by_ : wr.ownsRow (w.heap.size + 1) 32 1 v7 c (bytesTo FZ LS c)
  fi : wr.ownsRow (w.heap.size + 1) 44 3 v8 d (filesTo FZ RS d)
  rs : ∀ (i r : Nat) (f : PFile), RS[i]? = some r → FZ[i]? = some f → w.heap.size < r ∧ r < wr.heap.size ∧ Holds wr r 5 (bytesRow (f.bytes ++ [71, 72]))
  inc : ∀ (i j r q : Nat), i < j → RS[i]? = some r → RS[j]? = some q → r < q
  bl : Below w.heap.size w wr
theorem BState.move {w wr w' : World} {sv : List Value} {FZ : List PFile} {LS : List FLoc} {RS : List Nat} {a b c d : Nat} {v5 v6 v7 v8 : Value} (h : BState w wr sv FZ LS RS a b c d v5 v6 v7 v8) (hb : Below wr.heap.size wr w') : BState w w' sv FZ LS RS a b c d v5 v6 v7 v8 := by
  have hg : wr.grownBy w' none := ⟨hb.os, hb.tape, hb.output, hb.size, fun k hk _ => hb.block k hk⟩
  have hn : ∀ v : Value, v.ownBlock = none ∨ v.ownBlock ≠ none := fun v => by cases v.ownBlock <;> simp
  refine ⟨h.s.grown hg (by simp), h.p.kept hg (hn _), h.di.kept hg (hn _), h.by_.kept hg (hn _), h.fi.kept hg (hn _), fun i r f hr hf => ?_, h.inc, h.bl.trans (hb.mono h.bl.size)⟩
  obtain ⟨x, y, z⟩ := h.rs i r f hr hf
  exact ⟨x, by have := hb.size; omega, z.grown hg (by simp)⟩
theorem bl_grown {w wr w' : World} {row : Option Nat} (h : Below w.heap.size w wr) (hg : wr.grownBy w' row) (hr : ∀ g, row = some g → w.heap.size + 1 ≤ g) : Below w.heap.size w w' :=
  h.trans ⟨hg.os, hg.tape, hg.output, hg.size, fun k hk => hg.block k (by have := h.size; omega) (fun e => by have := hr k e.symm; omega)⟩
theorem BState.app5 {w wr w' : World} {sv : List Value} {FZ : List PFile} {LS : List FLoc} {RS : List Nat} {a b c d : Nat} {v5 v6 v7 v8 v : Value} (h : BState w wr sv FZ LS RS a b c d v5 v6 v7 v8) (hg : wr.grownBy w' v5.ownBlock) (ho : w'.ownsRow (w.heap.size + 1) 9 1 v (a + 1) (pathsTo FZ (a + 1))) : BState w w' sv FZ LS RS (a + 1) b c d v v6 v7 v8 := by
  have ht := own_rowType h.p
  refine ⟨h.s.grown hg (holds_type h.s ht (by decide)), ho, h.di.kept hg (own_type h.di ht (by decide)), h.by_.kept hg (own_type h.by_ ht (by decide)), h.fi.kept hg (own_type h.fi ht (by decide)), fun i r f hr hf => ?_, h.inc, bl_grown h.bl hg (fun g he => (h.p.lt g he).1)⟩
  obtain ⟨x, y, z⟩ := h.rs i r f hr hf
  exact ⟨x, by have := hg.size; omega, z.grown hg (holds_type z ht (by decide))⟩
theorem BState.app6 {w wr w' : World} {sv : List Value} {FZ : List PFile} {LS : List FLoc} {RS : List Nat} {a b c d : Nat} {v5 v6 v7 v8 v : Value} (h : BState w wr sv FZ LS RS a b c d v5 v6 v7 v8) (hg : wr.grownBy w' v6.ownBlock) (ho : w'.ownsRow (w.heap.size + 1) 4 1 v (b + 1) (dirsTo FZ (b + 1))) : BState w w' sv FZ LS RS a (b + 1) c d v5 v v7 v8 := by
  have ht := own_rowType h.di
  refine ⟨h.s.grown hg (holds_type h.s ht (by decide)), h.p.kept hg (own_type h.p ht (by decide)), ho, h.by_.kept hg (own_type h.by_ ht (by decide)), h.fi.kept hg (own_type h.fi ht (by decide)), fun i r f hr hf => ?_, h.inc, bl_grown h.bl hg (fun g he => (h.di.lt g he).1)⟩
  obtain ⟨x, y, z⟩ := h.rs i r f hr hf
  exact ⟨x, by have := hg.size; omega, z.grown hg (holds_type z ht (by decide))⟩
theorem BState.app7 {w wr w' : World} {sv : List Value} {FZ : List PFile} {LS : List FLoc} {RS : List Nat} {a b c d : Nat} {v5 v6 v7 v8 v : Value} (h : BState w wr sv FZ LS RS a b c d v5 v6 v7 v8) (hg : wr.grownBy w' v7.ownBlock) (ho : w'.ownsRow (w.heap.size + 1) 32 1 v (c + 1) (bytesTo FZ LS (c + 1))) : BState w w' sv FZ LS RS a b (c + 1) d v5 v6 v v8 := by
  have ht := own_rowType h.by_
  refine ⟨h.s.grown hg (holds_type h.s ht (by decide)), h.p.kept hg (own_type h.p ht (by decide)), h.di.kept hg (own_type h.di ht (by decide)), ho, h.fi.kept hg (own_type h.fi ht (by decide)), fun i r f hr hf => ?_, h.inc, bl_grown h.bl hg (fun g he => (h.by_.lt g he).1)⟩
  obtain ⟨x, y, z⟩ := h.rs i r f hr hf
  exact ⟨x, by have := hg.size; omega, z.grown hg (holds_type z ht (by decide))⟩
theorem BState.app8 {w wr w' : World} {sv : List Value} {FZ : List PFile} {LS : List FLoc} {RS : List Nat} {a b c d : Nat} {v5 v6 v7 v8 v : Value} (h : BState w wr sv FZ LS RS a b c d v5 v6 v7 v8) (hg : wr.grownBy w' v8.ownBlock) (ho : w'.ownsRow (w.heap.size + 1) 44 3 v (d + 1) (filesTo FZ RS (d + 1))) : BState w w' sv FZ LS RS a b c (d + 1) v5 v6 v7 v := by
  have ht := own_rowType h.fi
  refine ⟨h.s.grown hg (holds_type h.s ht (by decide)), h.p.kept hg (own_type h.p ht (by decide)), h.di.kept hg (own_type h.di ht (by decide)), h.by_.kept hg (own_type h.by_ ht (by decide)), ho, fun i r f hr hf => ?_, h.inc, bl_grown h.bl hg (fun g he => (h.fi.lt g he).1)⟩
  obtain ⟨x, y, z⟩ := h.rs i r f hr hf
  exact ⟨x, by have := hg.size; omega, z.grown hg (holds_type z ht (by decide))⟩
/-- One more roomy copy. -/
theorem BState.room {w wr w' : World} {sv : List Value} {FZ : List PFile} {LS : List FLoc} {RS : List Nat} {a b c d : Nat} {v5 v6 v7 v8 : Value} (h : BState w wr sv FZ LS RS a b c d v5 v6 v7 v8) (hb : Below wr.heap.size wr w') (hd : d = RS.length) {f : PFile} (hf : FZ[RS.length]? = some f) (hh : Holds w' wr.heap.size 5 (bytesRow (f.bytes ++ [71, 72]))) : BState w w' sv FZ LS (RS ++ [wr.heap.size]) a b c d v5 v6 v7 v8 := by
  have m := h.move hb
  refine ⟨m.s, m.p, m.di, m.by_, by rw [filesTo_snoc _ (by omega)]; exact m.fi, fun i r g hr hg => ?_, fun i j r q hij hr hq => ?_, m.bl⟩
  · rw [List.getElem?_append] at hr
    split at hr
    · exact m.rs i r g hr hg
    · rename_i hi
      have hi2 : i - RS.length = 0 := by
        have := (List.getElem?_eq_some_iff.1 hr).1
        simp at this; omega
      have : i = RS.length := by omega
      subst this
      have e : wr.heap.size = r := by simpa using hr
      subst e
      rw [hf] at hg
      obtain rfl := Option.some.inj hg
      exact ⟨by have := h.s.lt; omega, hh.lt, hh⟩
  · rw [List.getElem?_append] at hr hq
    split at hr
    · split at hq
      · exact h.inc i j r q hij hr hq
      · rename_i hi hj
        have hj2 : j - RS.length = 0 := by
          have := (List.getElem?_eq_some_iff.1 hq).1
          simp at this; omega
        rw [hj2] at hq
        have e : wr.heap.size = q := by simpa using hq
        subst e
        obtain ⟨g, hg⟩ : ∃ g, FZ[i]? = some g := ⟨_, List.getElem?_eq_getElem (by have := (List.getElem?_eq_some_iff.1 hf).1; omega)⟩
        exact (h.rs i r g hr hg).2.1
    · rename_i hi
      split at hq
      · omega
      · have h1 := (List.getElem?_eq_some_iff.1 hr).1
        have h2 := (List.getElem?_eq_some_iff.1 hq).1
        simp at h1 h2; omega
end Go.Proofs.YtkokiefclmbgaaaGreatDoor

/- tinyoslaw: boot: what is behind the first loop. -/
namespace Go.Proofs.YtkokiefclmbgaaaGreatDoor
open Go.RowKit
set_option linter.unusedVariables false
set_option linter.unusedSimpArgs false

theorem own_slice {w : World} {base : Nat} {e : TypeId} {size n : Nat} {v : Value} {xs : List Value} (h : w.ownsRow base e size v n xs) : ∃ a b c, v = .slice a n c ∧ (0 < n → a = some ⟨b, 0, none⟩ ∧ base ≤ b ∧ b < w.heap.size ∧ ∀ j u, xs[j]? = some u → w.cell? ⟨b, j, none⟩ = some u) := by
  rcases h.2 with ⟨hv, h0⟩ | ⟨g, cap, cur, hv, hb, hg, _⟩
  · subst h0
    exact ⟨none, 0, 0, hv, fun h => by omega⟩
  · refine ⟨some ⟨g, 0, none⟩, g, cap, hv, fun h0 => ⟨rfl, hb, (Array.getElem?_eq_some_iff.1 hg).1, fun j u hu => ?_⟩⟩
    have := h.cells (g := g) (by rw [hv]; rfl) j u hu
    rwa [addr_add, Nat.zero_add] at this
theorem filesTo_get : ∀ (FZ : List PFile) (RS : List Nat) (n i c r : Nat) (f : PFile) (v : Value), i < n → FZ[i]? = some f → RS[i]? = some r → c < 3 → (fileRow f r)[c]? = some v → (filesTo FZ RS n)[i * 3 + c]? = some v
  | FZ, RS, 0, i, c, r, f, v, h, _, _, _, _ => by omega
  | [], RS, n + 1, i, c, r, f, v, _, h, _, _, _ => by simp at h
  | a :: FZ, [], n + 1, i, c, r, f, v, _, _, h, _, _ => by simp at h
  | a :: FZ, b :: RS, n + 1, 0, c, r, f, v, _, hf, hr, hc, hv => by
    have e1 : a = f := by simpa using hf
    have e2 : b = r := by simpa using hr
    subst e1 e2
    show (fileRow a b ++ filesTo FZ RS n)[0 * 3 + c]? = _
    rw [List.getElem?_append_left (by show 0 * 3 + c < 3; omega)]
    simpa using hv
  | a :: FZ, b :: RS, n + 1, i + 1, c, r, f, v, h, hf, hr, hc, hv => by
    show (fileRow a b ++ filesTo FZ RS n)[(i + 1) * 3 + c]? = _
    rw [List.getElem?_append_right (by show 3 ≤ (i + 1) * 3 + c; omega), show (i + 1) * 3 + c - (fileRow a b).length = i * 3 + c from by show (i + 1) * 3 + c - 3 = _; omega]
    exact filesTo_get FZ RS n i c r f v (by omega) (by simpa using hf) (by simpa using hr) hc hv
theorem pathsTo_get {FZ : List PFile} {i : Nat} {f : PFile} (h : FZ[i]? = some f) : (pathsTo FZ FZ.length)[i]? = some (.string f.path) := by
  unfold pathsTo; rw [List.take_length, List.getElem?_map, h]; rfl
theorem dirsTo_get {FZ : List PFile} {i : Nat} {f : PFile} (h : FZ[i]? = some f) : (dirsTo FZ FZ.length)[i]? = some (.bool f.dir) := by
  unfold dirsTo; rw [List.take_length, List.getElem?_map, h]; rfl
theorem bytesTo_get {FZ : List PFile} {LS : List FLoc} {i : Nat} {f : PFile} {l : FLoc} (h : FZ[i]? = some f) (k : LS[i]? = some l) : (bytesTo FZ LS FZ.length)[i]? = some (.slice l.a f.bytes.length l.c) := by
  unfold bytesTo
  rw [List.getElem?_map, List.getElem?_take, if_pos (List.getElem?_eq_some_iff.1 h).1, zip_get h k]; rfl
theorem room_view {w : World} {g : Nat} {B : List Int} (h : Holds w g 5 (bytesRow (B ++ [71, 72]))) : BView w g 0 B := fun j hj => by
  rw [Nat.zero_add]
  refine h.cell ?_
  rw [bytesRow_get _ _ (by simp; omega)]
  simp [List.getD, List.getElem?_append_left hj]
def roomLocs (FZ : List PFile) (RS : List Nat) : List FLoc := (FZ.zip RS).map (fun x => ⟨some ⟨x.2, 0, none⟩, x.2, 0, x.1.bytes.length + 2⟩)
theorem roomLocs_get {FZ : List PFile} {RS : List Nat} {i : Nat} {f : PFile} {l : FLoc} (h : FZ[i]? = some f) (k : (roomLocs FZ RS)[i]? = some l) : ∃ r, RS[i]? = some r ∧ l = ⟨some ⟨r, 0, none⟩, r, 0, f.bytes.length + 2⟩ := by
  unfold roomLocs at k
  rw [List.getElem?_map] at k
  cases hz : (FZ.zip RS)[i]? with
  | none => rw [hz] at k; cases k
  | some x =>
    rw [hz] at k
    obtain ⟨h1, h2⟩ := List.getElem?_zip_eq_some.1 hz
    rw [h] at h1
    obtain rfl := Option.some.inj h1
    exact ⟨x.2, h2, (Option.some.inj k).symm⟩
/-- The files as they are handed to the program's Boot. -/
theorem BState.handed {w wr : World} {sv : List Value} {FZ : List PFile} {LS : List FLoc} {RS : List Nat} {v5 v6 v7 : Value} {a : Option Addr} {b c : Nat} (h : BState w wr sv FZ LS RS FZ.length FZ.length FZ.length FZ.length v5 v6 v7 (.slice a FZ.length c)) (hr : RS.length = FZ.length)
    (hb : 0 < FZ.length → a = some ⟨b, 0, none⟩ ∧ ∀ j u, (filesTo FZ RS FZ.length)[j]? = some u → wr.cell? ⟨b, j, none⟩ = some u) : FilesInL wr b 0 FZ (roomLocs FZ RS) := by
  refine ⟨by simp [roomLocs, List.length_zip, hr], fun i f l hf hl => ?_⟩
  have hi := (List.getElem?_eq_some_iff.1 hf).1
  obtain ⟨r, hri, rfl⟩ := roomLocs_get hf hl
  have hc : ∀ c v, c < 3 → (fileRow f r)[c]? = some v → wr.cell? ⟨b, 0 + i * 3 + c, none⟩ = some v := fun c v hc hv => by
    rw [Nat.zero_add]; exact (hb (by omega)).2 _ _ (filesTo_get FZ RS FZ.length i c r f v hi hf hri hc hv)
  obtain ⟨x, y, z⟩ := h.rs i r f hri hf
  exact ⟨hc 0 _ (by omega) rfl, hc 1 _ (by omega) rfl, hc 2 _ (by omega) rfl, fun _ => ⟨rfl, y⟩, room_view z⟩
/-- The files as they are handed to the document's Boot. -/
theorem filesAt_of {w wr : World} {FZ : List PFile} {LS : List FLoc} {fb foff pb db bb : Nat} (hf : FilesInL w fb foff FZ LS) (hbl : Below w.heap.size w wr)
    (h5 : ∀ (i : Nat) (f : PFile), FZ[i]? = some f → wr.cell? ⟨pb, i, none⟩ = some (.string f.path)) (h6 : ∀ (i : Nat) (f : PFile), FZ[i]? = some f → wr.cell? ⟨db, i, none⟩ = some (.bool f.dir))
    (h7 : ∀ (i : Nat) (f : PFile) (l : FLoc), FZ[i]? = some f → LS[i]? = some l → wr.cell? ⟨bb, i, none⟩ = some (.slice l.a f.bytes.length l.c)) : FilesAt wr pb 0 db 0 bb 0 FZ := by
  refine ⟨fun i f h => by rw [Nat.zero_add]; exact h5 i f h, fun i f h => by rw [Nat.zero_add]; exact h6 i f h, fun i f h => ?_⟩
  obtain ⟨l, hl⟩ : ∃ l, LS[i]? = some l := ⟨_, List.getElem?_eq_getElem (by rw [hf.len]; exact (List.getElem?_eq_some_iff.1 h).1)⟩
  obtain ⟨_, _, _, hq, hv⟩ := hf.at_ i f l h hl
  refine ⟨l.a, l.q, l.o, l.c, by rw [Nat.zero_add]; exact h7 i f l h hl, fun h0 => ⟨(hq h0).1, by have := (hq h0).2; have := hbl.size; omega⟩, fun j hj => ?_⟩
  rw [hbl.cell (p := ⟨l.q, l.o + j, none⟩) (hq (by omega)).2]
  exact hv j hj
/-- Only the first j roomy copies may have turned. -/
structure OnlyRoom (w w' : World) (RS : List Nat) (j : Nat) : Prop where
  os : w'.os = w.os
  tape : w'.tape = w.tape
  output : w'.output = w.output
  size : w.heap.size ≤ w'.heap.size
  block : ∀ k, k < w.heap.size → (∀ (i r : Nat), i < j → RS[i]? = some r → k ≠ r) → w'.heap[k]? = w.heap[k]?
theorem OnlyRoom.step {w w' w'' : World} {RS : List Nat} {j r : Nat} (h : OnlyRoom w w' RS j) (hr : RS[j]? = some r) (hg : w'.grownBy w'' (some r)) : OnlyRoom w w'' RS (j + 1) :=
  ⟨hg.os.trans h.os, hg.tape.trans h.tape, hg.output.trans h.output, Nat.le_trans h.size hg.size, fun k hk hne => (hg.block k (by have := h.size; omega) (by simp; exact hne j r (by omega) hr)).trans (h.block k hk (fun i q hi hq => hne i q (by omega) hq))⟩
theorem OnlyRoom.holds {w w' : World} {RS : List Nat} {j b : Nat} {t : TypeId} {vs : List Value} (h : OnlyRoom w w' RS j) (hh : Holds w b t vs) (hne : ∀ (i r : Nat), i < j → RS[i]? = some r → b ≠ r) : Holds w' b t vs := by
  have hl := hh.lt
  unfold Holds at hh ⊢
  rw [h.block b hl hne]; exact hh
theorem OnlyRoom.below {w w' : World} {RS : List Nat} {j B : Nat} (h : OnlyRoom w w' RS j) (hB : B ≤ w.heap.size) (hr : ∀ (i r : Nat), RS[i]? = some r → B ≤ r) : Below B w w' :=
  ⟨h.os, h.tape, h.output, h.size, fun k hk => h.block k (by omega) (fun i r _ hi e => by have := hr i r hi; omega)⟩
theorem OnlyRoom.cell {w w' : World} {RS : List Nat} {j : Nat} {b o : Nat} {v : Value} (h : OnlyRoom w w' RS j) (hc : w.cell? ⟨b, o, none⟩ = some v) (hne : ∀ (i r : Nat), i < j → RS[i]? = some r → b ≠ r) : w'.cell? ⟨b, o, none⟩ = some v := by
  have hl := World.block_lt_of_cell? w _ hc
  rw [World.cell?_of_block (a := ⟨b, o, none⟩) (h.block b hl hne)]; exact hc
end Go.Proofs.YtkokiefclmbgaaaGreatDoor
