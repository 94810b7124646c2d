import Derived.Test.YtkmbleboceedbaaGreatDoorBootsProofG27
import Derived.Test.YtkmbleboceedbaaGreatDoorBootsProofG26
import Derived.Shelf.SlIterI.Nil
import Derived.Shelf.SortM.Plain
import Derived.Shelf.SortM.SortNone
import Derived.Shelf.SlSortCmp.SmallK
import Derived.Shelf.SlicesE.Clone
import Derived.Shelf.Small.Strs
import Derived.Test.YtkmbleboceedbaaGreatDoorBootsProofG01
import Derived.Test.YtkmbleboceedbaaGreatDoorBootsProofG19
import Derived.Deep.QuietTactic
/- The program's tree with the bytes of its files. -/
namespace Go.Proofs.YtkmbleboceedbaaGreatDoor
open Go Go.RowKit Go.Maps
set_option linter.unusedVariables false
set_option linter.unusedSimpArgs false

/-- A slice of bytes of a block of its own, from its head on; or none. -/
def BytesIs (w : World) (B : Nat) (v : Value) (c : List Int) : Prop :=
  v = .slice none 0 0 ∧ c = [] ∨ ∃ R cp T, v = .slice (some ⟨R, 0, none⟩) c.length cp ∧ Holds w R 5 (bytesRow (c ++ T)) ∧ cp = c.length + T.length ∧ cp ≤ maxLen ∧ B ≤ R
/-- The block of a slice. -/
def blockOf : Value → Option Nat
  | .slice (some a) _ _ => some a.block
  | _ => none
structure BootRep (w : World) (B tb ab am : Nat) (p : PK) (NB MB : List Nat) (V : List Value) : Prop where
  tree : TreeRep w B tb ab am p.li p.lb (usedOf p.cs) p.xs NB MB V
  cont : ∀ (i : Nat) (v : Value) (c : List Int), V[i]? = some v → p.cs[i]? = some c → BytesIs w B v c
  own : ∀ (i j : Nat) (v u : Value) (R : Nat), V[i]? = some v → V[j]? = some u → blockOf v = some R → blockOf u = some R → i = j
theorem BytesIs.block {w w' : World} {B : Nat} {v : Value} {c : List Int} (h : BytesIs w B v c) (hk : ∀ R, blockOf v = some R → R < w.heap.size → (∃ L, Holds w R 5 L) → w'.heap[R]? = w.heap[R]?) : BytesIs w' B v c := by
  rcases h with h | ⟨R, cp, T, h1, h2, h3⟩
  · exact .inl h
  · exact .inr ⟨R, cp, T, h1, holds_block h2 (hk R (by rw [h1]; rfl) h2.lt ⟨_, h2⟩), h3⟩
theorem BytesIs.len {w : World} {B : Nat} {v : Value} {c : List Int} (h : BytesIs w B v c) : ∃ a cp, v = .slice a c.length cp := by
  rcases h with ⟨h1, h2⟩ | ⟨R, cp, T, h1, _⟩
  · exact ⟨none, 0, by rw [h1, h2]; rfl⟩
  · exact ⟨_, _, h1⟩
theorem BootRep.below {w w' : World} {B tb ab am : Nat} {p : PK} {NB MB : List Nat} {V : List Value} (h : BootRep w B tb ab am p NB MB V) (hb : Below w.heap.size w w') : BootRep w' B tb ab am p NB MB V :=
  ⟨h.tree.below hb, fun i v c hv hc => (h.cont i v c hv hc).block fun R _ hl _ => hb.block R hl, h.own⟩
theorem isMap_apart {w : World} {m R : Nat} {t : TypeId} {vs : List Value} (h : IsMap w m) (hh : Holds w R t vs) : R ≠ m := by
  intro e
  subst e
  obtain ⟨es, clock, hb⟩ := h
  unfold Holds at hh
  rw [hb] at hh
  cases hh
/-- One more node, without bytes. -/
theorem BootRep.grew {w w' : World} {B tb ab am m : Nat} {p q : PK} {NB MB NB' MB' : List Nat} {V : List Value} (h : BootRep w B tb ab am p NB MB V) (hi : PInv p) (hq : q.cs = p.cs ++ [[]]) (hf : FrameK w w' tb m) (hm : IsMap w m) (ht : TreeRep w' B tb ab am q.li q.lb (usedOf p.cs) q.xs NB' MB' (V ++ [.slice none 0 0])) : BootRep w' B tb ab am q NB' MB' (V ++ [.slice none 0 0]) := by
  have hl : V.length = p.cs.length := by rw [h.tree.vlen, hi.len]
  refine ⟨by rw [hq, used_snoc]; exact ht, fun i v c hv hc => ?_, fun i j v u R hv hu h1 h2 => ?_⟩
  · rw [hq] at hc
    by_cases hil : i < V.length
    · rw [List.getElem?_append_left hil] at hv
      rw [List.getElem?_append_left (by omega)] at hc
      exact (h.cont i v c hv hc).block fun R _ hl ⟨L, hL⟩ => hf.block R hl (holds_apart hL h.tree.tree (by decide)) (isMap_apart hm hL)
    · rw [List.getElem?_append_right (by omega)] at hv hc
      have hi0 : i - V.length = 0 := by have := (List.getElem?_eq_some_iff.1 hv).1; simp at this; omega
      rw [hi0] at hv
      rw [← hl, hi0] at hc
      simp at hv hc
      exact .inl ⟨hv.symm, hc⟩
  · have hlt : ∀ (k : Nat) (x : Value), (V ++ [Value.slice none 0 0])[k]? = some x → blockOf x = some R → k < V.length ∧ V[k]? = some x := by
      intro k x hx hb
      by_cases hk : k < V.length
      · rw [List.getElem?_append_left hk] at hx; exact ⟨hk, hx⟩
      · rw [List.getElem?_append_right (by omega)] at hx
        have hk0 : k - V.length = 0 := by have := (List.getElem?_eq_some_iff.1 hx).1; simp at this; omega
        rw [hk0] at hx
        simp at hx
        subst hx
        cases hb
    exact h.own i j v u R (hlt i v hv h1).2 (hlt j u hu h2).2 h1 h2
/-- A file's bytes were written. -/
theorem TreeRep.wrote {w w' : World} {B tb ab am : Nat} {li lb used used' : Int} {xs : List Ino} {NB MB : List Nat} {V : List Value} (h : TreeRep w B tb ab am li lb used xs NB MB V) {i b : Nat} {x : Ino} {v' mv : Value} {S : List Nat} (hx : xs[i]? = some x) (hd : x.dir = false) (hb : NB[i]? = some b)
    (ht : Holds w' tb 163 [.pointer (some ⟨ab, 0, none⟩), .int .i64 xs.length, .int .i64 li, .int .i64 used', .int .i64 lb]) (hn : Holds w' b 228 [.bool false, v', mv, .bool false, .int .i64 0]) (hmv : mv = .map none)
    (hf : FrameS w w' S) (hS : ∀ k ∈ S, k = tb ∨ k = b ∨ w.heap.size ≤ k ∨ ∃ L, Holds w k 5 L) : TreeRep w' B tb ab am li lb used' xs NB MB (V.set i v') := by
  obtain ⟨hil, hxe⟩ := List.getElem?_eq_some_iff.1 hx
  have hbN : b ∈ NB := List.mem_of_getElem? hb
  have hnodeb : ∃ vs, Holds w b 228 vs := by
    obtain ⟨v, mv, q, _⟩ := h.node i x b MB[i]! hx hb (by rw [List.getElem!_eq_getElem?_getD]; rw [List.getElem?_eq_getElem (by rw [h.len.2]; exact hil)]; rfl)
    exact ⟨_, q⟩
  have hold : ∀ (k : Nat) (t : TypeId) (vs : List Value), Holds w k t vs → k ≠ tb → k ≠ b → t ≠ 5 → Holds w' k t vs := by
    intro k t vs hk h1 h2 h3
    refine holds_block hk (hf.block k hk.lt fun e => ?_)
    rcases hS k e with q | q | q | ⟨L, q⟩
    · exact h1 q
    · exact h2 q
    · have := hk.lt; omega
    · exact holds_apart hk q h3 rfl
  have hmap : ∀ (m n : Nat) (f : ByteArray → Option Nat), DictAt w m n f → DictAt w' m n f := by
    intro m n f hm
    refine hm.block (hf.block m hm.lt fun e => ?_)
    rcases hS m e with q | q | q | ⟨L, q⟩
    · exact dict_block hm h.tree q.symm
    · obtain ⟨vs, hvs⟩ := hnodeb; exact dict_block hm hvs q.symm
    · have := hm.lt; omega
    · exact dict_block hm q rfl
  refine ⟨ht, hold ab _ _ h.above (holds_apart h.above h.tree (by decide)) (fun e => h.apart.2.2.2 (e ▸ hbN)) (by decide), hmap _ _ _ h.amap, h.len, fun j y c m hy hc hm => ?_, h.root, by rw [List.length_set]; exact h.vlen, h.apart, h.low.1, h.low.2.1, h.low.2.2.1, h.low.2.2.2.1, fun m hm => ⟨(h.low.2.2.2.2 m hm).1, by have := (h.low.2.2.2.2 m hm).2; have := hf.size; omega⟩⟩
  obtain ⟨v1, mv1, h1, h2, h3⟩ := h.node j y c m hy hc hm
  by_cases hij : j = i
  · subst hij
    rw [hx] at hy
    obtain rfl := Option.some.inj hy
    rw [hb] at hc
    obtain rfl := Option.some.inj hc
    refine ⟨v', mv, by rw [hd]; exact hn, fun q => absurd q (by rw [hd]; decide), ?_, fun _ => hmv⟩
    rw [List.getElem?_set_self (by rw [h.vlen]; exact hil)]
  · have hcb : c ≠ b := by
      intro e
      subst e
      obtain ⟨a1, a2⟩ := List.getElem?_eq_some_iff.1 hc
      obtain ⟨a3, a4⟩ := List.getElem?_eq_some_iff.1 hb
      exact hij ((List.getElem_inj h.apart.2.2.1).1 (a2.trans a4.symm))
    exact ⟨v1, mv1, hold c _ _ h1 (holds_apart h1 h.tree (by decide)) hcb (by decide), fun q => ⟨(h2 q).1, hmap _ _ _ (h2 q).2⟩, by rw [List.getElem?_set_ne (fun e => hij e.symm)]; exact h3.1, h3.2⟩
theorem used_set_eq : ∀ (cs : List (List Int)) (K : Nat) (c : List Int), K < cs.length → (usedOf (cs.set K c) : Int) = usedOf cs - (cs.getD K []).length + c.length
  | [], K, c, h => by simp at h
  | a :: r, 0, c, _ => by simp [usedOf]; omega
  | a :: r, K + 1, c, h => by
    have ih := used_set_eq r K c (by simpa using h)
    have e1 : usedOf ((a :: r).set (K + 1) c) = a.length + usedOf (r.set K c) := by simp [usedOf]
    have e2 : usedOf (a :: r) = a.length + usedOf r := by simp [usedOf]
    have e3 : (a :: r).getD (K + 1) [] = r.getD K [] := by simp
    rw [e1, e2, e3]; omega
theorem BootRep.wrote {w w' : World} {B tb ab am : Nat} {p : PK} {NB MB : List Nat} {V : List Value} (h : BootRep w B tb ab am p NB MB V) (hi : PInv p) {i b : Nat} {x : Ino} {v v' mv : Value} {c c' : List Int} {S : List Nat} (hx : p.xs[i]? = some x) (hd : x.dir = false) (hb : NB[i]? = some b) (hc : p.cs[i]? = some c) (hv : V[i]? = some v)
    (ht : Holds w' tb 163 [.pointer (some ⟨ab, 0, none⟩), .int .i64 p.xs.length, .int .i64 p.li, .int .i64 ((usedOf p.cs : Int) - c.length + c'.length), .int .i64 p.lb]) (hn : Holds w' b 228 [.bool false, v', mv, .bool false, .int .i64 0]) (hmv : mv = .map none)
    (hf : FrameS w w' S) (hS : ∀ k ∈ S, k = tb ∨ k = b ∨ w.heap.size ≤ k ∨ blockOf v = some k) (hv' : BytesIs w' B v' c') (hnew : ∀ R, blockOf v' = some R → w.heap.size ≤ R ∨ blockOf v = some R) : BootRep w' B tb ab am {p with cs := p.cs.set i c'} NB MB (V.set i v') := by
  have hil := (List.getElem?_eq_some_iff.1 hx).1
  have hicl : i < p.cs.length := by rw [hi.len]; exact hil
  have hivl : i < V.length := by rw [h.tree.vlen]; exact hil
  have hhold : ∀ R, blockOf v = some R → ∃ L, Holds w R 5 L := by
    intro R hR
    rcases h.cont i v c hv hc with ⟨q, _⟩ | ⟨R', cp, T, q1, q2, _⟩
    · rw [q] at hR; cases hR
    · rw [q1] at hR
      have : R' = R := by simpa [blockOf] using hR
      subst this
      exact ⟨_, q2⟩
  have hnb : ∃ vs, Holds w b 228 vs := by
    obtain ⟨v, mv, q, _⟩ := h.tree.node i x b MB[i]! hx hb (by rw [List.getElem!_eq_getElem?_getD]; rw [List.getElem?_eq_getElem (by rw [h.tree.len.2]; exact hil)]; rfl)
    exact ⟨_, q⟩
  refine ⟨?_, fun j u d hu hd' => ?_, fun j k u u' R hu hu' h1 h2 => ?_⟩
  · have e : (usedOf (p.cs.set i c') : Int) = (usedOf p.cs : Int) - c.length + c'.length := by
      rw [used_set_eq p.cs i c' hicl, List.getD_eq_getElem?_getD, hc]; rfl
    show TreeRep w' B tb ab am p.li p.lb (usedOf (p.cs.set i c')) p.xs NB MB (V.set i v')
    rw [e]
    refine h.tree.wrote hx hd hb ht hn hmv hf fun k hk => ?_
    rcases hS k hk with q | q | q | q
    · exact .inl q
    · exact .inr (.inl q)
    · exact .inr (.inr (.inl q))
    · exact .inr (.inr (.inr (hhold k q)))
  · change (p.cs.set i c')[j]? = some d at hd'
    by_cases hij : j = i
    · subst hij
      rw [List.getElem?_set_self hivl] at hu
      rw [List.getElem?_set_self hicl] at hd'
      obtain rfl := Option.some.inj hu
      obtain rfl := Option.some.inj hd'
      exact hv'
    · rw [List.getElem?_set_ne (fun e => hij e.symm)] at hu hd'
      refine (h.cont j u d hu hd').block fun R hR hl ⟨L, hL⟩ => hf.block R hl fun e => ?_
      rcases hS R e with q | q | q | q
      · exact holds_apart hL h.tree.tree (by decide) q
      · obtain ⟨vs, hvs⟩ := hnb; exact holds_apart hL hvs (by decide) q
      · omega
      · exact hij (h.own j i u v R hu hv hR q)
  · have hlow : ∀ (j : Nat) (u : Value), j ≠ i → V[j]? = some u → blockOf u = some R → R < w.heap.size ∧ blockOf v ≠ some R := by
      intro j u hj hu hR
      have hjl : j < p.cs.length := by rw [hi.len, ← h.tree.vlen]; exact (List.getElem?_eq_some_iff.1 hu).1
      refine ⟨?_, fun e => hj (h.own j i u v R hu hv hR e)⟩
      rcases h.cont j u _ hu (List.getElem?_eq_getElem hjl) with ⟨q, _⟩ | ⟨R', cp, T, q1, q2, _⟩
      · rw [q] at hR; cases hR
      · rw [q1] at hR
        have : R' = R := by simpa [blockOf] using hR
        subst this
        exact q2.lt
    by_cases hj : j = i
    · by_cases hk : k = i
      · rw [hj, hk]
      · subst hj
        rw [List.getElem?_set_self hivl] at hu
        obtain rfl := Option.some.inj hu
        rw [List.getElem?_set_ne (fun e => hk e.symm)] at hu'
        obtain ⟨q1, q2⟩ := hlow k u' hk hu' h2
        rcases hnew R h1 with q | q
        · omega
        · exact absurd q q2
    · rw [List.getElem?_set_ne (fun e => hj e.symm)] at hu
      by_cases hk : k = i
      · subst hk
        rw [List.getElem?_set_self hivl] at hu'
        obtain rfl := Option.some.inj hu'
        obtain ⟨q1, q2⟩ := hlow j u hj hu h1
        rcases hnew R h2 with q | q
        · omega
        · exact absurd q q2
      · rw [List.getElem?_set_ne (fun e => hk e.symm)] at hu'
        exact h.own j k u u' R hu hu' h1 h2
end Go.Proofs.YtkmbleboceedbaaGreatDoor

/- The shelf's layings at this seat, in plain words. Written by layker.sh: the numbers are one seat's own. -/
namespace Go.Proofs.YtkmbleboceedbaaGreatDoor
open Go.Shelf
def keysL_ren : Go.Shelf.Ren := ⟨fun | 7 => 83 | 10 => 109 | n => n, fun | 23 => 119 | 26 => 3 | 3 => 130 | 28 => 221 | 0 => 0 | 27 => 220 | 33 => 254 | 4 => 4 | n => n, fun | n => n⟩
theorem keysL : Go.Proofs.SlLaysZI.n7 Tryz.prog keysL_ren := {
  mixed := by kernel_rfl
  f7 := ⟨Tryz.f83.name, by decide, Tryz.func83.trans (congrArg some (by kernel_rfl))⟩
  f10 := ⟨Tryz.f109.name, by decide, Tryz.func109.trans (congrArg some (by kernel_rfl))⟩
  t0 := Tryz.underlying0
  a0 := Tryz.isAgg0
  z0 := Tryz.sizeOf0
  v0 := Tryz.zeroValue0
  t4 := Tryz.underlying4
  a4 := Tryz.isAgg4
  z4 := Tryz.sizeOf4
  v4 := Tryz.zeroValue4
  t23 := Tryz.underlying119
  a23 := Tryz.isAgg119
  z23 := Tryz.sizeOf119
  v23 := Tryz.zeroValue119
  t26 := Tryz.underlying3
  a26 := Tryz.isAgg3
  z26 := Tryz.sizeOf3
  v26 := Tryz.zeroValue3
  t27 := Tryz.underlying220
  a27 := Tryz.isAgg220
  z27 := Tryz.sizeOf220
  v27 := Tryz.zeroValue220
  t28 := Tryz.underlying221
  a28 := Tryz.isAgg221
  z28 := Tryz.sizeOf221
  v28 := Tryz.zeroValue221
  t33 := Tryz.underlying254
  a33 := Tryz.isAgg254
  z33 := Tryz.sizeOf254
  v33 := Tryz.zeroValue254 }
def sortedL_ren : Go.Shelf.Ren := ⟨fun | 6 => 82 | 8 => 107 | 9 => 108 | 11 => 123 | 13 => 112 | 12 => 124 | 23 => 134 | 24 => 135 | 14 => 151 | 15 => 152 | 16 => 153 | 17 => 154 | 18 => 155 | 19 => 156 | 20 => 157 | 21 => 158 | 22 => 159 | 25 => 172 | 26 => 161 | 27 => 162 | 28 => 173 | 29 => 174 | 30 => 175 | 31 => 182 | n => n, fun | 26 => 3 | 28 => 221 | 24 => 217 | 0 => 0 | 3 => 3 | 37 => 260 | 48 => 285 | 50 => 74 | 4 => 4 | 40 => 279 | 39 => 278 | 45 => 208 | 5 => 5 | 9 => 9 | 51 => 302 | 55 => 306 | 57 => 314 | 58 => 103 | 33 => 254 | n => n, fun | n => n⟩
theorem sortedL : Go.Proofs.SlLaysZI.n6 Tryz.prog sortedL_ren := {
  mixed := by kernel_rfl
  f6 := ⟨Tryz.f82.name, by decide, Tryz.func82.trans (congrArg some (by kernel_rfl))⟩
  f8 := ⟨Tryz.f107.name, by decide, Tryz.func107.trans (congrArg some (by kernel_rfl))⟩
  f11 := ⟨Tryz.f123.name, by decide, Tryz.func123.trans (congrArg some (by kernel_rfl))⟩
  t0 := Tryz.underlying0
  a0 := Tryz.isAgg0
  z0 := Tryz.sizeOf0
  v0 := Tryz.zeroValue0
  t24 := Tryz.underlying217
  a24 := Tryz.isAgg217
  z24 := Tryz.sizeOf217
  v24 := Tryz.zeroValue217
  t26 := Tryz.underlying3
  a26 := Tryz.isAgg3
  z26 := Tryz.sizeOf3
  v26 := Tryz.zeroValue3
  t28 := Tryz.underlying221
  a28 := Tryz.isAgg221
  z28 := Tryz.sizeOf221
  v28 := Tryz.zeroValue221
  i26 := by kernel_rfl }
def sortIntL_ren : Go.Shelf.Ren := ⟨fun | 5 => 108 | 8 => 112 | 7 => 124 | 19 => 134 | 20 => 135 | 10 => 151 | 11 => 152 | 12 => 153 | 13 => 154 | 14 => 155 | 15 => 156 | 16 => 157 | 17 => 158 | 18 => 159 | 30 => 172 | 31 => 161 | 32 => 162 | 33 => 173 | 34 => 174 | 35 => 175 | 40 => 182 | n => n, fun | 23 => 217 | 25 => 3 | 3 => 3 | 32 => 260 | 22 => 217 | 0 => 0 | 44 => 285 | 46 => 74 | 4 => 4 | 36 => 279 | 35 => 278 | 41 => 208 | 5 => 5 | 9 => 9 | 53 => 302 | 57 => 306 | 63 => 314 | 64 => 103 | n => n, fun | n => n⟩
theorem sortIntL : Go.Proofs.SlLaysM.n5 Tryz.prog sortIntL_ren := {
  mixed := by kernel_rfl
  f5 := ⟨Tryz.f108.name, by decide, Tryz.func108.trans (congrArg some (by kernel_rfl))⟩
  f7 := ⟨Tryz.f124.name, by decide, Tryz.func124.trans (congrArg some (by kernel_rfl))⟩
  f8 := Tryz.func112.trans (congrArg some (by kernel_rfl))
  f10 := ⟨Tryz.f151.name, by decide, Tryz.func151.trans (congrArg some (by kernel_rfl))⟩
  f11 := ⟨Tryz.f152.name, by decide, Tryz.func152.trans (congrArg some (by kernel_rfl))⟩
  f12 := ⟨Tryz.f153.name, by decide, Tryz.func153.trans (congrArg some (by kernel_rfl))⟩
  f13 := ⟨Tryz.f154.name, by decide, Tryz.func154.trans (congrArg some (by kernel_rfl))⟩
  f14 := ⟨Tryz.f155.name, by decide, Tryz.func155.trans (congrArg some (by kernel_rfl))⟩
  f15 := ⟨Tryz.f156.name, by decide, Tryz.func156.trans (congrArg some (by kernel_rfl))⟩
  f16 := ⟨Tryz.f157.name, by decide, Tryz.func157.trans (congrArg some (by kernel_rfl))⟩
  f17 := ⟨Tryz.f158.name, by decide, Tryz.func158.trans (congrArg some (by kernel_rfl))⟩
  f18 := ⟨Tryz.f159.name, by decide, Tryz.func159.trans (congrArg some (by kernel_rfl))⟩
  f19 := Tryz.func134.trans (congrArg some (by kernel_rfl))
  f20 := Tryz.func135.trans (congrArg some (by kernel_rfl))
  f30 := ⟨Tryz.f172.name, by decide, Tryz.func172.trans (congrArg some (by kernel_rfl))⟩
  f31 := Tryz.func161.trans (congrArg some (by kernel_rfl))
  f32 := Tryz.func162.trans (congrArg some (by kernel_rfl))
  f33 := ⟨Tryz.f173.name, by decide, Tryz.func173.trans (congrArg some (by kernel_rfl))⟩
  f34 := ⟨Tryz.f174.name, by decide, Tryz.func174.trans (congrArg some (by kernel_rfl))⟩
  f35 := ⟨Tryz.f175.name, by decide, Tryz.func175.trans (congrArg some (by kernel_rfl))⟩
  f40 := ⟨Tryz.f182.name, by decide, Tryz.func182.trans (congrArg some (by kernel_rfl))⟩
  t0 := Tryz.underlying0
  a0 := Tryz.isAgg0
  z0 := Tryz.sizeOf0
  v0 := Tryz.zeroValue0
  t3 := Tryz.underlying3
  a3 := Tryz.isAgg3
  z3 := Tryz.sizeOf3
  v3 := Tryz.zeroValue3
  t4 := Tryz.underlying4
  a4 := Tryz.isAgg4
  z4 := Tryz.sizeOf4
  v4 := Tryz.zeroValue4
  t5 := Tryz.underlying5
  a5 := Tryz.isAgg5
  z5 := Tryz.sizeOf5
  v5 := Tryz.zeroValue5
  t9 := Tryz.underlying9
  a9 := Tryz.isAgg9
  z9 := Tryz.sizeOf9
  v9 := Tryz.zeroValue9
  t22 := Tryz.underlying217
  a22 := Tryz.isAgg217
  z22 := Tryz.sizeOf217
  v22 := Tryz.zeroValue217
  t23 := Tryz.underlying217
  a23 := Tryz.isAgg217
  z23 := Tryz.sizeOf217
  v23 := Tryz.zeroValue217
  t25 := Tryz.underlying3
  a25 := Tryz.isAgg3
  z25 := Tryz.sizeOf3
  v25 := Tryz.zeroValue3
  t32 := Tryz.underlying260
  a32 := Tryz.isAgg260
  z32 := Tryz.sizeOf260
  v32 := Tryz.zeroValue260
  t35 := Tryz.underlying278
  a35 := Tryz.isAgg278
  z35 := Tryz.sizeOf278
  v35 := Tryz.zeroValue278
  t36 := Tryz.underlying279
  a36 := Tryz.isAgg279
  z36 := Tryz.sizeOf279
  v36 := Tryz.zeroValue279
  t41 := Tryz.underlying208
  a41 := Tryz.isAgg208
  z41 := Tryz.sizeOf208
  v41 := Tryz.zeroValue208
  t44 := Tryz.underlying285
  a44 := Tryz.isAgg285
  z44 := Tryz.sizeOf285
  v44 := Tryz.zeroValue285
  t46 := Tryz.underlying74
  a46 := Tryz.isAgg74
  z46 := Tryz.sizeOf74
  v46 := Tryz.zeroValue74
  t53 := Tryz.underlying302
  a53 := Tryz.isAgg302
  z53 := Tryz.sizeOf302
  v53 := Tryz.zeroValue302
  t57 := Tryz.underlying306
  a57 := Tryz.isAgg306
  z57 := Tryz.sizeOf306
  v57 := Tryz.zeroValue306
  t63 := Tryz.underlying314
  a63 := Tryz.isAgg314
  z63 := Tryz.sizeOf314
  v63 := Tryz.zeroValue314
  t64 := Tryz.underlying103
  a64 := Tryz.isAgg103
  z64 := Tryz.sizeOf103
  v64 := Tryz.zeroValue103 }
def sortFileL_ren : Go.Shelf.Ren := ⟨fun | 6 => 88 | 15 => 112 | 14 => 111 | 28 => 134 | 29 => 135 | 20 => 126 | 21 => 127 | 22 => 128 | 23 => 129 | 24 => 130 | 25 => 131 | 26 => 132 | 27 => 133 | 46 => 160 | 47 => 161 | 48 => 162 | 49 => 163 | 50 => 164 | 57 => 176 | n => n, fun | 22 => 24 | 24 => 44 | 25 => 232 | 3 => 3 | 39 => 260 | 0 => 0 | 53 => 285 | 55 => 74 | 4 => 4 | 46 => 279 | 45 => 278 | 50 => 208 | 5 => 5 | 9 => 9 | 66 => 302 | 70 => 306 | 76 => 314 | 77 => 103 | n => n, fun | n => n⟩
theorem sortFileL : Go.Proofs.SlLaysF0.n6 Tryz.prog sortFileL_ren := {
  mixed := by kernel_rfl
  f6 := ⟨Tryz.f88.name, by decide, Tryz.func88.trans (congrArg some (by kernel_rfl))⟩
  f14 := ⟨Tryz.f111.name, by decide, Tryz.func111.trans (congrArg some (by kernel_rfl))⟩
  f15 := Tryz.func112.trans (congrArg some (by kernel_rfl))
  f20 := ⟨Tryz.f126.name, by decide, Tryz.func126.trans (congrArg some (by kernel_rfl))⟩
  f21 := ⟨Tryz.f127.name, by decide, Tryz.func127.trans (congrArg some (by kernel_rfl))⟩
  f22 := ⟨Tryz.f128.name, by decide, Tryz.func128.trans (congrArg some (by kernel_rfl))⟩
  f23 := ⟨Tryz.f129.name, by decide, Tryz.func129.trans (congrArg some (by kernel_rfl))⟩
  f24 := ⟨Tryz.f130.name, by decide, Tryz.func130.trans (congrArg some (by kernel_rfl))⟩
  f25 := ⟨Tryz.f131.name, by decide, Tryz.func131.trans (congrArg some (by kernel_rfl))⟩
  f26 := ⟨Tryz.f132.name, by decide, Tryz.func132.trans (congrArg some (by kernel_rfl))⟩
  f27 := ⟨Tryz.f133.name, by decide, Tryz.func133.trans (congrArg some (by kernel_rfl))⟩
  f28 := Tryz.func134.trans (congrArg some (by kernel_rfl))
  f29 := Tryz.func135.trans (congrArg some (by kernel_rfl))
  f46 := ⟨Tryz.f160.name, by decide, Tryz.func160.trans (congrArg some (by kernel_rfl))⟩
  f47 := Tryz.func161.trans (congrArg some (by kernel_rfl))
  f48 := Tryz.func162.trans (congrArg some (by kernel_rfl))
  f49 := ⟨Tryz.f163.name, by decide, Tryz.func163.trans (congrArg some (by kernel_rfl))⟩
  f50 := ⟨Tryz.f164.name, by decide, Tryz.func164.trans (congrArg some (by kernel_rfl))⟩
  f57 := ⟨Tryz.f176.name, by decide, Tryz.func176.trans (congrArg some (by kernel_rfl))⟩
  t0 := Tryz.underlying0
  a0 := Tryz.isAgg0
  z0 := Tryz.sizeOf0
  v0 := Tryz.zeroValue0
  t3 := Tryz.underlying3
  a3 := Tryz.isAgg3
  z3 := Tryz.sizeOf3
  v3 := Tryz.zeroValue3
  t4 := Tryz.underlying4
  a4 := Tryz.isAgg4
  z4 := Tryz.sizeOf4
  v4 := Tryz.zeroValue4
  t5 := Tryz.underlying5
  a5 := Tryz.isAgg5
  z5 := Tryz.sizeOf5
  v5 := Tryz.zeroValue5
  t9 := Tryz.underlying9
  a9 := Tryz.isAgg9
  z9 := Tryz.sizeOf9
  v9 := Tryz.zeroValue9
  t22 := Tryz.underlying24
  a22 := Tryz.isAgg24
  z22 := Tryz.sizeOf24
  v22 := Tryz.zeroValue24
  t25 := Tryz.underlying232
  a25 := Tryz.isAgg232
  z25 := Tryz.sizeOf232
  v25 := Tryz.zeroValue232
  t39 := Tryz.underlying260
  a39 := Tryz.isAgg260
  z39 := Tryz.sizeOf260
  v39 := Tryz.zeroValue260
  t45 := Tryz.underlying278
  a45 := Tryz.isAgg278
  z45 := Tryz.sizeOf278
  v45 := Tryz.zeroValue278
  t46 := Tryz.underlying279
  a46 := Tryz.isAgg279
  z46 := Tryz.sizeOf279
  v46 := Tryz.zeroValue279
  t50 := Tryz.underlying208
  a50 := Tryz.isAgg208
  z50 := Tryz.sizeOf208
  v50 := Tryz.zeroValue208
  t53 := Tryz.underlying285
  a53 := Tryz.isAgg285
  z53 := Tryz.sizeOf285
  v53 := Tryz.zeroValue285
  t55 := Tryz.underlying74
  a55 := Tryz.isAgg74
  z55 := Tryz.sizeOf74
  v55 := Tryz.zeroValue74
  t66 := Tryz.underlying302
  a66 := Tryz.isAgg302
  z66 := Tryz.sizeOf302
  v66 := Tryz.zeroValue302
  t70 := Tryz.underlying306
  a70 := Tryz.isAgg306
  z70 := Tryz.sizeOf306
  v70 := Tryz.zeroValue306
  t76 := Tryz.underlying314
  a76 := Tryz.isAgg314
  z76 := Tryz.sizeOf314
  v76 := Tryz.zeroValue314
  t77 := Tryz.underlying103
  a77 := Tryz.isAgg103
  z77 := Tryz.sizeOf103
  v77 := Tryz.zeroValue103 }
def cloneBL_ren : Go.Shelf.Ren := ⟨fun | 41 => 91 | n => n, fun | 22 => 32 | 23 => 5 | 4 => 4 | n => n, fun | n => n⟩
theorem cloneBL : Go.Proofs.SlLaysE0.n41 Tryz.prog cloneBL_ren := {
  mixed := by kernel_rfl
  f41 := ⟨Tryz.f91.name, by decide, Tryz.func91.trans (congrArg some (by kernel_rfl))⟩
  t4 := Tryz.underlying4
  a4 := Tryz.isAgg4
  z4 := Tryz.sizeOf4
  v4 := Tryz.zeroValue4
  t22 := Tryz.underlying32
  a22 := Tryz.isAgg32
  z22 := Tryz.sizeOf32
  v22 := Tryz.zeroValue32 }
def compareSL_ren : Go.Shelf.Ren := ⟨fun | 106 => 90 | 213 => 113 | 265 => 136 | n => n, fun | 9 => 9 | 3 => 3 | n => n, fun | n => n⟩
theorem compareSL : Go.Proofs.Lays.n106 Tryz.prog compareSL_ren := {
  mixed := by kernel_rfl
  f106 := Tryz.func90.trans (congrArg some (by kernel_rfl))
  f213 := Tryz.func113.trans (congrArg some (by kernel_rfl))
  f265 := Tryz.func136.trans (congrArg some (by kernel_rfl))
  t3 := Tryz.underlying3
  a3 := Tryz.isAgg3
  z3 := Tryz.sizeOf3
  v3 := Tryz.zeroValue3
  t9 := Tryz.underlying9
  a9 := Tryz.isAgg9
  z9 := Tryz.sizeOf9
  v9 := Tryz.zeroValue9 }
end Go.Proofs.YtkmbleboceedbaaGreatDoor

/- tinyoslaw: small, of a setting alone. -/
namespace Go.Proofs.YtkmbleboceedbaaGreatDoor
open Go.RowKit
set_option linter.unusedVariables false
set_option linter.unusedSimpArgs false

/-- The files of a setting as they lie: three cells each. -/
structure FilesIn (w : World) (fb foff : Nat) (FS : List PFile) : Prop where
  path : ∀ (i : Nat) (f : PFile), FS[i]? = some f → w.cell? ⟨fb, foff + i * 3, none⟩ = some (.string f.path)
  dir : ∀ (i : Nat) (f : PFile), FS[i]? = some f → w.cell? ⟨fb, foff + i * 3 + 1, none⟩ = some (.bool f.dir)
  bytes : ∀ (i : Nat) (f : PFile), FS[i]? = some f → ∃ a q o c, w.cell? ⟨fb, foff + i * 3 + 2, none⟩ = some (.slice a f.bytes.length c) ∧ (0 < f.bytes.length → a = some ⟨q, o, none⟩ ∧ q < w.heap.size) ∧ BView w q o f.bytes
def setting (lp lf lo li lb : Int) (v : Value) : List Value := [.int .i64 lp, .int .i64 lf, .int .i64 lo, .int .i64 li, .int .i64 lb, v]
def fileWeight (f : PFile) : Nat := f.path.size + f.bytes.length
def weightTo (FS : List PFile) (j : Nat) : Nat := ((FS.take j).map fileWeight).sum
theorem weightTo_succ {FS : List PFile} {j : Nat} {f : PFile} (h : FS[j]? = some f) : weightTo FS (j + 1) = weightTo FS j + fileWeight f := by
  unfold weightTo
  rw [List.take_add_one, h]; simp
theorem weightTo_le {FS : List PFile} {M : Nat} (hb : ∀ f ∈ FS, fileWeight f ≤ M) : ∀ j, weightTo FS j ≤ j * M
  | 0 => by simp [weightTo]
  | j + 1 => by
    have h2 := weightTo_le hb j
    rw [Nat.succ_mul]
    cases h : FS[j]? with
    | none =>
      have e : FS.take (j + 1) = FS.take j := by rw [List.take_add_one, h]; simp
      have e2 : weightTo FS (j + 1) = weightTo FS j := by unfold weightTo; rw [e]
      omega
    | some f =>
      have h1 := hb f (List.mem_of_getElem? h)
      rw [weightTo_succ h]; omega
def isSmall (FS : List PFile) : Bool := decide (FS.length ≤ 100) && decide ((FS.map fileWeight).sum ≤ 200000)

set_option maxRecDepth 100000 in
set_option maxHeartbeats 4000000 in
theorem small_nil (lp lf lo li lb : Int) (fa : Option Addr) (fb foff fcap : Nat) (FS : List PFile) (w : World) (hfa : 0 < FS.length → fa = some ⟨fb, foff, none⟩) (hfb : 0 < FS.length → fb < w.heap.size) (hf : FilesIn w fb foff FS) (hb : ∀ f ∈ FS, f.path.size ≤ 140737488355328 ∧ f.bytes.length ≤ 140737488355328) (hl : FS.length ≤ 140737488355328) :
    Calls Tryz.prog 5 #[.agg #[.int .i64 lp, .int .i64 lf, .int .i64 lo, .int .i64 li, .int .i64 lb, .slice fa FS.length fcap], .slice none 0 0] w fun e w' => e = .returned (.bool (isSmall FS)) ∧ Below w.heap.size w w' := by
  have HB0 := hide (show Below w.heap.size w (w.alloc (Obj.cells (setting lp lf lo li lb (.slice fa FS.length fcap)).toArray 26)) from (Below.refl _ _).alloc (Nat.le_refl _) _)
  have HN0 := hide (Holds.new w 26 (setting lp lf lo li lb (.slice fa FS.length fcap)))
  have HF := hide hf
  have HFA := hide hfa
  have HFB := hide hfb
  have HW := hide (weightTo_le (M := 281474976710656) (fun f hf => by have := hb f hf; unfold fileWeight; omega))
  have HBB := hide hb
  clear hf hfa hfb hb
  by_cases h100 : FS.length ≤ 100
  case neg =>
    have hx : (100 : Int) < (FS.length : Int) := by omega
    have HR := hide (show isSmall FS = false from by unfold isSmall; rw [decide_eq_false h100]; rfl)
    clear h100
    go_enter Tryz.func5, Tryz.ntmps5
    go_wp2
    go_ret
    exact ⟨by rw [unhide HR]; rfl, unhide HB0⟩
  have hx : ¬ (100 : Int) < (FS.length : Int) := by omega
  go_enter Tryz.func5, Tryz.ntmps5
  go_wp2
  go_loopw [5, 6] (fun n i wr => ∃ j : Nat, j ≤ FS.length ∧ i = .int .i64 j ∧ n = .int .i64 (weightTo FS j) ∧ Hid (Holds wr w.heap.size 26 (setting lp lf lo li lb (.slice fa FS.length fcap))) ∧ Hid (Below w.heap.size w wr)) (fun _ i _ => FS.length - (intOf i).toNat)
  case atStart => exact ⟨0, by omega, rfl, rfl, HN0, HB0⟩
  case round =>
    obtain ⟨j, hj, rfl, rfl, HS, HB⟩ := hrel
    have c5 : wr.cell? ⟨w.heap.size, 5, none⟩ = some (.slice fa FS.length fcap) := (unhide HS).cell rfl
    by_cases hlt : j < FS.length
    · obtain ⟨f, hf⟩ : ∃ f, FS[j]? = some f := ⟨_, List.getElem?_eq_getElem hlt⟩
      obtain rfl := (unhide HFA) (by omega)
      have hfb := unhide HFB (by omega)
      obtain ⟨a, q, o, c, hcb, haq, hbv⟩ := (unhide HF).bytes j f hf
      have d0 : wr.cell? ⟨fb, foff + j * 3, none⟩ = some (.string f.path) := by rw [(unhide HB).cell (p := ⟨fb, foff + j * 3, none⟩) hfb]; exact (unhide HF).path j f hf
      have d2 : wr.cell? ⟨fb, foff + j * 3 + 2, none⟩ = some (.slice a f.bytes.length c) := by rw [(unhide HB).cell (p := ⟨fb, foff + j * 3 + 2, none⟩) hfb]; exact hcb
      have hsz := unhide HBB f (List.mem_of_getElem? hf)
      have hw0 := unhide HW j
      have hws := weightTo_succ hf
      unfold fileWeight at hws
      have HWS := hide hws
      obtain ⟨A, hA⟩ : ∃ A, A = weightTo FS j := ⟨_, rfl⟩
      rw [← hA] at hw0 HWS ⊢
      have hA1 : (A : Int) + (f.path.size : Int) ≤ 100000000000000000 := by omega
      have hA2 : (A : Int) + (f.path.size : Int) + (f.bytes.length : Int) ≤ 100000000000000000 := by omega
      have hj0 : (0 : Int) ≤ (j : Int) := by omega
      have hj1 : (j : Int) < (FS.length : Int) := by omega
      have hj2 : (j : Int) ≤ 1000 := by omega
      generalize hps : f.path = ps at d0 HWS hA1 hA2 hsz
      generalize f.bytes.length = bl at d2 HWS hA2 hsz
      clear hf hcb haq hbv hws hA hsz hw0 hps
      go_wp2
      go_quiet (fail)
      go_wp2
      go_roundw
      case rel => exact ⟨j + 1, by omega, by go_num, by rw [unhide HWS]; go_num, hide ((unhide HS).heap rfl), hide ⟨(unhide HB).os, (unhide HB).tape, (unhide HB).output, (unhide HB).size, (unhide HB).block⟩⟩
      case measure => simp [intOf]; omega
    · have hje : j = FS.length := by omega
      subst hje
      have HR := hide (show isSmall FS = decide ((weightTo FS FS.length : Int) ≤ 200000) from by
        unfold isSmall weightTo
        rw [decide_eq_true h100, List.take_length, Bool.true_and]
        exact decide_eq_decide.2 (by omega))
      generalize weightTo FS FS.length = A at HR ⊢
      go_wp2
      go_loopw [5, 7] (fun n i w2 => n = .int .i64 A ∧ i = .int .i64 0 ∧ w2 = wr) (fun _ _ _ => 0)
      case atStart => exact ⟨rfl, rfl, rfl⟩
      case round =>
        obtain ⟨rfl, rfl, rfl⟩ := hrel
        go_wp2
        go_ret
        exact ⟨by rw [unhide HR]; rfl, unhide HB⟩
end Go.Proofs.YtkmbleboceedbaaGreatDoor
