import Derived.Test.YtkmbleboceedbaaGreatDoorBootsProofG30
import Derived.Test.YtkmbleboceedbaaGreatDoorBootsProofG34
import Derived.Test.YtkmbleboceedbaaGreatDoorBootsProofG40
/- The program's list of what is below a node. -/
namespace Go.Proofs.YtkmbleboceedbaaGreatDoor
open Go Go.RowKit Go.Maps
set_option linter.unusedVariables false
set_option linter.unusedSimpArgs false

/-- What list answers. -/
def ListPost (p : PK) (i : Nat) (w : World) (e : Ending) (w' : World) : Prop := ∃ v EL, e = .returned v ∧ LRep p w' w.heap.size v EL ∧ (EL.map Prod.fst).Nodup ∧ (∀ j, j ∈ EL.map Prod.fst ↔ Desc p.xs i j) ∧ Below w.heap.size w w'
structure LLoop (p : PK) (i : Nat) (D : DataW Unit) (w : World) (wr : World) (left : Lit → Bool) (v : Value) (EL : List (Nat × FLoc)) (PR : List Nat) : Prop where
  rep : LRep p wr (w.heap.size + 1) v EL
  nodup : (EL.map Prod.fst).Nodup
  mem : ∀ j, j ∈ EL.map Prod.fst ↔ ∃ c ∈ PR, j = c ∨ Desc p.xs c j
  done : ∀ j ∈ PR, Kid p.xs i j ∧ ∀ y, p.xs[j]? = some y → left (.string y.name.data.toList) = false
  todo : ∀ j y, Kid p.xs i j → p.xs[j]? = some y → j ∈ PR ∨ left (.string y.name.data.toList) = true
  sub : ∀ kl, left kl = true → Maps.has D kl = true
  below : Below w.heap.size w wr
  low : w.heap.size < wr.heap.size
theorem LLoop.start {p : PK} (hi : PInv p) {i m n : Nat} {D : DataW Unit} {w wr : World} {NB : List Nat} {x : Ino} (hx : p.xs[i]? = some x) (hl : NB.length = p.xs.length) (hf : ∀ s : ByteArray, D.atKey (.string s.data.toList) .nil = nodeDatum (kidOf p.xs NB x.id s)) (hb : Below w.heap.size w wr) (hs : w.heap.size < wr.heap.size) : LLoop p i D w wr (Maps.has D) (.slice none 0 0) [] [] := by
  refine ⟨LRep.empty _ _ _, by simp, fun j => by simp, fun j hj => absurd hj (by simp), fun j y hk hy => .inr ?_, fun kl h => h, hb, hs⟩
  have hjl := (List.getElem?_eq_some_iff.1 hy).1
  have h1 := hf y.name
  rw [map_of_kid hi hx hy hk hl, List.getElem?_eq_getElem (by omega)] at h1
  cases hh : Maps.has D (.string y.name.data.toList) with
  | true => rfl
  | false =>
    rw [Maps.atKey_of_not_has hh] at h1
    cases h1
theorem LLoop.fin {p : PK} {i : Nat} {D : DataW Unit} {w wr : World} {left : Lit → Bool} {v : Value} {EL : List (Nat × FLoc)} {PR : List Nat} (h : LLoop p i D w wr left v EL PR) (hl : ∀ kl, left kl = false) : ListPost p i w (.returned v) wr := by
  refine ⟨v, EL, rfl, h.rep.base (by omega), h.nodup, fun j => ?_, h.below⟩
  rw [h.mem j]
  constructor
  · rintro ⟨c, hc, rfl | hd⟩
    · exact .kid (h.done _ hc).1
    · exact .cons (h.done _ hc).1 hd
  · intro hd
    obtain ⟨c, hk, hc⟩ := hd.head
    obtain ⟨y, hy⟩ : ∃ y, p.xs[c]? = some y := ⟨_, List.getElem?_eq_getElem hk.bound.2⟩
    rcases h.todo c y hk hy with q | q
    · exact ⟨c, q, by rcases hc with e | e; exact .inl e.symm; exact .inr e⟩
    · rw [hl] at q; cases q
/-- One child more. -/
theorem LLoop.next {p : PK} (hi : PInv p) {i j : Nat} {D : DataW Unit} {w wr w9 : World} {left : Lit → Bool} {v v9 : Value} {EL EL2 : List (Nat × FLoc)} {PR : List Nat} {l : FLoc} {y : Ino} (h : LLoop p i D w wr left v EL PR) (hk : Kid p.xs i j) (hy : p.xs[j]? = some y) (hlk : left (.string y.name.data.toList) = true)
    (hn2 : (EL2.map Prod.fst).Nodup) (hm2 : ∀ k, k ∈ EL2.map Prod.fst ↔ Desc p.xs j k) (hrep : LRep p w9 (w.heap.size + 1) v9 (EL ++ [(j, l)] ++ EL2)) (hb : Below w.heap.size w w9) (hs : w.heap.size < w9.heap.size) : LLoop p i D w w9 (fun z => left z && !z.sameKey (.string y.name.data.toList)) v9 (EL ++ [(j, l)] ++ EL2) (j :: PR) := by
  have hno : ∀ c ∈ PR, c ≠ j := fun c hc e => by
    subst e
    rw [(h.done c hc).2 y hy] at hlk
    cases hlk
  have hse : ∀ s t : List UInt8, (Lit.string s).sameKey (.string t) = decide (s = t) := fun s t => by
    by_cases e : s = t
    · subst e; simp [Lit.sameKey]
    · simp [Lit.sameKey, e]
  refine ⟨hrep, ?_, fun k => ?_, fun c hc => ?_, fun c z hc hz => ?_, fun kl hkl => h.sub kl (by simp at hkl; exact hkl.1), hb, hs⟩
  · rw [List.map_append, List.map_append]
    refine List.nodup_append.2 ⟨List.nodup_append.2 ⟨h.nodup, by simp, fun a ha b hb' e => ?_⟩, hn2, fun a ha b hb' e => ?_⟩
    · have : b = j := by simpa using hb'
      subst this; subst e
      obtain ⟨c, hc, hd⟩ := (h.mem a).1 ha
      exact hno c hc (sib hi (h.done c hc).1 hk hd (.inl rfl))
    · subst e
      have hd2 := (hm2 a).1 hb'
      rcases List.mem_append.1 ha with ha | ha
      · obtain ⟨c, hc, hd⟩ := (h.mem a).1 ha
        exact hno c hc (sib hi (h.done c hc).1 hk hd (.inr hd2))
      · have : a = j := by simpa using ha
        subst this
        have := hd2.lt hi
        omega
  · rw [List.map_append, List.map_append, List.mem_append, List.mem_append, h.mem k, hm2 k]
    constructor
    · rintro ((⟨c, hc, hd⟩ | hj) | hd)
      · exact ⟨c, by simp [hc], hd⟩
      · exact ⟨j, by simp, .inl (by simpa using hj)⟩
      · exact ⟨j, by simp, .inr hd⟩
    · rintro ⟨c, hc, hd⟩
      rcases List.mem_cons.1 hc with rfl | hc
      · rcases hd with rfl | hd
        · exact .inl (.inr (by simp))
        · exact .inr hd
      · exact .inl (.inl ⟨c, hc, hd⟩)
  · rcases List.mem_cons.1 hc with rfl | hc
    · refine ⟨hk, fun z hz => ?_⟩
      rw [hy] at hz
      obtain rfl := Option.some.inj hz
      simp [hse]
    · refine ⟨(h.done c hc).1, fun z hz => ?_⟩
      rw [(h.done c hc).2 z hz]
      rfl
  · by_cases e : c = j
    · left; rw [e]; simp
    · rcases h.todo c z hc hz with q | q
      · left; simp [q]
      · right
        have hne : z.name.data.toList ≠ y.name.data.toList := by
          intro e2
          obtain ⟨a1, b1, c1, d1, e1, f1⟩ := hc
          obtain ⟨a2, b2, c2, d2, e2', f2⟩ := hk
          rw [hz] at d1
          obtain rfl := Option.some.inj d1
          rw [hy] at d2
          obtain rfl := Option.some.inj d2
          rw [c1] at c2
          obtain rfl := Option.some.inj c2
          exact e (idx_eq hi.incr hz hy (hi.kids z (List.mem_of_getElem? hz) y (List.mem_of_getElem? hy) (by omega) f1 (by rw [ByteArray.toList_eq, ByteArray.toList_eq]; exact e2)))
        simp [q, hse, hne]
theorem invStr (key : Value) (kl : Lit) (h : keyOf Tryz.prog 9 key = some kl) : ∃ x, key = Value.string x := by
  obtain ⟨x, rfl, _⟩ := Maps.keyOf_string_inv Tryz.underlying9 h
  exact ⟨x, rfl⟩
theorem str_key {x : ByteArray} {kl : Lit} (h : keyOf Tryz.prog 9 (.string x) = some kl) : kl = .string x.data.toList := by
  simp [keyOf, mapKey, Tryz.underlying9] at h
  first | exact h.2.symm | exact h.symm | (obtain ⟨_, h⟩ := h; exact h.symm) | (trace_state; sorry)
theorem bcloneEnter : ∀ args w, (callFunc 91 args).run Tryz.prog w = .ok (.enter 91 args) w := enters_of Tryz.func91 (by kernel_rfl) rfl
theorem file_built (s : ByteArray) (d : Bool) (a : Option Addr) (n c : Nat) (w : World) : (Instr.build 44 #[(0, .string s), (1, .bool d), (2, .slice a n c)]).run Tryz.prog w = .ok (.agg #[.string s, .bool d, .slice a n c]) w := by kernel_rfl
end Go.Proofs.YtkmbleboceedbaaGreatDoor
