import Derived.Test.YtkokiefclmbgaaaGreatDoorBootsProofG27
import Derived.Test.YtkokiefclmbgaaaGreatDoorBootsProofG25
import Derived.Test.YtkokiefclmbgaaaGreatDoorBootsProofG31
/- The program's tree with the bytes of its files. -/
namespace Go.Proofs.YtkokiefclmbgaaaGreatDoor
open Go Go.RowKit Go.Maps
set_option linter.unusedVariables false
set_option linter.unusedSimpArgs false

/-- A slice of bytes of a block of its own, from its head on; or none. -/
def BytesIs (w : World) (B : Nat) (v : Value) (c : List Int) : Prop :=
  v = .slice none 0 0 ∧ c = [] ∨ ∃ R cp T, v = .slice (some ⟨R, 0, none⟩) c.length cp ∧ Holds w R 5 (bytesRow (c ++ T)) ∧ cp = c.length + T.length ∧ cp ≤ maxLen ∧ B ≤ R
/-- The block of a slice. -/
def blockOf : Value → Option Nat
  | .slice (some a) _ _ => some a.block
  | _ => none
structure BootRep (w : World) (B tb ab am : Nat) (p : PK) (NB MB : List Nat) (V : List Value) : Prop where
  tree : TreeRep w B tb ab am p.li p.lb (usedOf p.cs) p.xs NB MB V
  cont : ∀ (i : Nat) (v : Value) (c : List Int), V[i]? = some v → p.cs[i]? = some c → BytesIs w B v c
  own : ∀ (i j : Nat) (v u : Value) (R : Nat), V[i]? = some v → V[j]? = some u → blockOf v = some R → blockOf u = some R → i = j
theorem BytesIs.block {w w' : World} {B : Nat} {v : Value} {c : List Int} (h : BytesIs w B v c) (hk : ∀ R, blockOf v = some R → R < w.heap.size → (∃ L, Holds w R 5 L) → w'.heap[R]? = w.heap[R]?) : BytesIs w' B v c := by
  rcases h with h | ⟨R, cp, T, h1, h2, h3⟩
  · exact .inl h
  · exact .inr ⟨R, cp, T, h1, holds_block h2 (hk R (by rw [h1]; rfl) h2.lt ⟨_, h2⟩), h3⟩
theorem BytesIs.len {w : World} {B : Nat} {v : Value} {c : List Int} (h : BytesIs w B v c) : ∃ a cp, v = .slice a c.length cp := by
  rcases h with ⟨h1, h2⟩ | ⟨R, cp, T, h1, _⟩
  · exact ⟨none, 0, by rw [h1, h2]; rfl⟩
  · exact ⟨_, _, h1⟩
theorem BootRep.below {w w' : World} {B tb ab am : Nat} {p : PK} {NB MB : List Nat} {V : List Value} (h : BootRep w B tb ab am p NB MB V) (hb : Below w.heap.size w w') : BootRep w' B tb ab am p NB MB V :=
  ⟨h.tree.below hb, fun i v c hv hc => (h.cont i v c hv hc).block fun R _ hl _ => hb.block R hl, h.own⟩
theorem isMap_apart {w : World} {m R : Nat} {t : TypeId} {vs : List Value} (h : IsMap w m) (hh : Holds w R t vs) : R ≠ m := by
  intro e
  subst e
  obtain ⟨es, clock, hb⟩ := h
  unfold Holds at hh
  rw [hb] at hh
  cases hh
/-- One more node, without bytes. -/
theorem BootRep.grew {w w' : World} {B tb ab am m : Nat} {p q : PK} {NB MB NB' MB' : List Nat} {V : List Value} (h : BootRep w B tb ab am p NB MB V) (hi : PInv p) (hq : q.cs = p.cs ++ [[]]) (hf : FrameK w w' tb m) (hm : IsMap w m) (ht : TreeRep w' B tb ab am q.li q.lb (usedOf p.cs) q.xs NB' MB' (V ++ [.slice none 0 0])) : BootRep w' B tb ab am q NB' MB' (V ++ [.slice none 0 0]) := by
  have hl : V.length = p.cs.length := by rw [h.tree.vlen, hi.len]
  refine ⟨by rw [hq, used_snoc]; exact ht, fun i v c hv hc => ?_, fun i j v u R hv hu h1 h2 => ?_⟩
  · rw [hq] at hc
    by_cases hil : i < V.length
    · rw [List.getElem?_append_left hil] at hv
      rw [List.getElem?_append_left (by omega)] at hc
      exact (h.cont i v c hv hc).block fun R _ hl ⟨L, hL⟩ => hf.block R hl (holds_apart hL h.tree.tree (by decide)) (isMap_apart hm hL)
    · rw [List.getElem?_append_right (by omega)] at hv hc
      have hi0 : i - V.length = 0 := by have := (List.getElem?_eq_some_iff.1 hv).1; simp at this; omega
      rw [hi0] at hv
      rw [← hl, hi0] at hc
      simp at hv hc
      exact .inl ⟨hv.symm, hc⟩
  · have hlt : ∀ (k : Nat) (x : Value), (V ++ [Value.slice none 0 0])[k]? = some x → blockOf x = some R → k < V.length ∧ V[k]? = some x := by
      intro k x hx hb
      by_cases hk : k < V.length
      · rw [List.getElem?_append_left hk] at hx; exact ⟨hk, hx⟩
      · rw [List.getElem?_append_right (by omega)] at hx
        have hk0 : k - V.length = 0 := by have := (List.getElem?_eq_some_iff.1 hx).1; simp at this; omega
        rw [hk0] at hx
        simp at hx
        subst hx
        cases hb
    exact h.own i j v u R (hlt i v hv h1).2 (hlt j u hu h2).2 h1 h2
/-- A file's bytes were written. -/
theorem TreeRep.wrote {pth : ByteArray} {w w' : World} {B tb ab am : Nat} {li lb used used' : Int} {xs : List Ino} {NB MB : List Nat} {V : List Value} (h : TreeRep w B tb ab am li lb used xs NB MB V) {i b : Nat} {x : Ino} {v' mv : Value} {S : List Nat} (hx : xs[i]? = some x) (hd : x.dir = false) (hb : NB[i]? = some b)
    (ht : Holds w' tb 163 [.pointer (some ⟨ab, 0, none⟩), .int .i64 xs.length, .int .i64 li, .int .i64 used', .int .i64 lb]) (hn : Holds w' b 230 [.string pth, .bool false, v', mv, .int .i64 0]) (hmv : mv = .map none)
    (hf : FrameS w w' S) (hS : ∀ k ∈ S, k = tb ∨ k = b ∨ w.heap.size ≤ k ∨ ∃ L, Holds w k 5 L) : TreeRep w' B tb ab am li lb used' xs NB MB (V.set i v') := by
  obtain ⟨hil, hxe⟩ := List.getElem?_eq_some_iff.1 hx
  have hbN : b ∈ NB := List.mem_of_getElem? hb
  have hnodeb : ∃ vs, Holds w b 230 vs := by
    obtain ⟨qn, v, mv, q, _⟩ := h.node i x b MB[i]! hx hb (by rw [List.getElem!_eq_getElem?_getD]; rw [List.getElem?_eq_getElem (by rw [h.len.2]; exact hil)]; rfl)
    exact ⟨_, q⟩
  have hold : ∀ (k : Nat) (t : TypeId) (vs : List Value), Holds w k t vs → k ≠ tb → k ≠ b → t ≠ 5 → Holds w' k t vs := by
    intro k t vs hk h1 h2 h3
    refine holds_block hk (hf.block k hk.lt fun e => ?_)
    rcases hS k e with q | q | q | ⟨L, q⟩
    · exact h1 q
    · exact h2 q
    · have := hk.lt; omega
    · exact holds_apart hk q h3 rfl
  have hmap : ∀ (m n : Nat) (f : ByteArray → Option Nat), DictAt w m n f → DictAt w' m n f := by
    intro m n f hm
    refine hm.block (hf.block m hm.lt fun e => ?_)
    rcases hS m e with q | q | q | ⟨L, q⟩
    · exact dict_block hm h.tree q.symm
    · obtain ⟨vs, hvs⟩ := hnodeb; exact dict_block hm hvs q.symm
    · have := hm.lt; omega
    · exact dict_block hm q rfl
  refine ⟨ht, hold ab _ _ h.above (holds_apart h.above h.tree (by decide)) (fun e => h.apart.2.2.2 (e ▸ hbN)) (by decide), hmap _ _ _ h.amap, h.len, fun j y c m hy hc hm => ?_, h.root, by rw [List.length_set]; exact h.vlen, h.apart, h.low.1, h.low.2.1, h.low.2.2.1, h.low.2.2.2.1, fun m hm => ⟨(h.low.2.2.2.2 m hm).1, by have := (h.low.2.2.2.2 m hm).2; have := hf.size; omega⟩⟩
  obtain ⟨qn, v1, mv1, h1, h2, h3⟩ := h.node j y c m hy hc hm
  by_cases hij : j = i
  · subst hij
    rw [hx] at hy
    obtain rfl := Option.some.inj hy
    rw [hb] at hc
    obtain rfl := Option.some.inj hc
    refine ⟨pth, v', mv, by rw [hd]; exact hn, fun q => absurd q (by rw [hd]; decide), ?_, fun _ => hmv⟩
    rw [List.getElem?_set_self (by rw [h.vlen]; exact hil)]
  · have hcb : c ≠ b := by
      intro e
      subst e
      obtain ⟨a1, a2⟩ := List.getElem?_eq_some_iff.1 hc
      obtain ⟨a3, a4⟩ := List.getElem?_eq_some_iff.1 hb
      exact hij ((List.getElem_inj h.apart.2.2.1).1 (a2.trans a4.symm))
    exact ⟨qn, v1, mv1, hold c _ _ h1 (holds_apart h1 h.tree (by decide)) hcb (by decide), fun q => ⟨(h2 q).1, hmap _ _ _ (h2 q).2⟩, by rw [List.getElem?_set_ne (fun e => hij e.symm)]; exact h3.1, h3.2⟩
theorem used_set_eq : ∀ (cs : List (List Int)) (K : Nat) (c : List Int), K < cs.length → (usedOf (cs.set K c) : Int) = usedOf cs - (cs.getD K []).length + c.length
  | [], K, c, h => by simp at h
  | a :: r, 0, c, _ => by simp [usedOf]; omega
  | a :: r, K + 1, c, h => by
    have ih := used_set_eq r K c (by simpa using h)
    have e1 : usedOf ((a :: r).set (K + 1) c) = a.length + usedOf (r.set K c) := by simp [usedOf]
    have e2 : usedOf (a :: r) = a.length + usedOf r := by simp [usedOf]
    have e3 : (a :: r).getD (K + 1) [] = r.getD K [] := by simp
    rw [e1, e2, e3]; omega
theorem BootRep.wrote {pth : ByteArray} {w w' : World} {B tb ab am : Nat} {p : PK} {NB MB : List Nat} {V : List Value} (h : BootRep w B tb ab am p NB MB V) (hi : PInv p) {i b : Nat} {x : Ino} {v v' mv : Value} {c c' : List Int} {S : List Nat} (hx : p.xs[i]? = some x) (hd : x.dir = false) (hb : NB[i]? = some b) (hc : p.cs[i]? = some c) (hv : V[i]? = some v)
    (ht : Holds w' tb 163 [.pointer (some ⟨ab, 0, none⟩), .int .i64 p.xs.length, .int .i64 p.li, .int .i64 ((usedOf p.cs : Int) - c.length + c'.length), .int .i64 p.lb]) (hn : Holds w' b 230 [.string pth, .bool false, v', mv, .int .i64 0]) (hmv : mv = .map none)
    (hf : FrameS w w' S) (hS : ∀ k ∈ S, k = tb ∨ k = b ∨ w.heap.size ≤ k ∨ blockOf v = some k) (hv' : BytesIs w' B v' c') (hnew : ∀ R, blockOf v' = some R → w.heap.size ≤ R ∨ blockOf v = some R) : BootRep w' B tb ab am {p with cs := p.cs.set i c'} NB MB (V.set i v') := by
  have hil := (List.getElem?_eq_some_iff.1 hx).1
  have hicl : i < p.cs.length := by rw [hi.len]; exact hil
  have hivl : i < V.length := by rw [h.tree.vlen]; exact hil
  have hhold : ∀ R, blockOf v = some R → ∃ L, Holds w R 5 L := by
    intro R hR
    rcases h.cont i v c hv hc with ⟨q, _⟩ | ⟨R', cp, T, q1, q2, _⟩
    · rw [q] at hR; cases hR
    · rw [q1] at hR
      have : R' = R := by simpa [blockOf] using hR
      subst this
      exact ⟨_, q2⟩
  have hnb : ∃ vs, Holds w b 230 vs := by
    obtain ⟨qn, v, mv, q, _⟩ := h.tree.node i x b MB[i]! hx hb (by rw [List.getElem!_eq_getElem?_getD]; rw [List.getElem?_eq_getElem (by rw [h.tree.len.2]; exact hil)]; rfl)
    exact ⟨_, q⟩
  refine ⟨?_, fun j u d hu hd' => ?_, fun j k u u' R hu hu' h1 h2 => ?_⟩
  · have e : (usedOf (p.cs.set i c') : Int) = (usedOf p.cs : Int) - c.length + c'.length := by
      rw [used_set_eq p.cs i c' hicl, List.getD_eq_getElem?_getD, hc]; rfl
    show TreeRep w' B tb ab am p.li p.lb (usedOf (p.cs.set i c')) p.xs NB MB (V.set i v')
    rw [e]
    refine h.tree.wrote hx hd hb ht hn hmv hf fun k hk => ?_
    rcases hS k hk with q | q | q | q
    · exact .inl q
    · exact .inr (.inl q)
    · exact .inr (.inr (.inl q))
    · exact .inr (.inr (.inr (hhold k q)))
  · change (p.cs.set i c')[j]? = some d at hd'
    by_cases hij : j = i
    · subst hij
      rw [List.getElem?_set_self hivl] at hu
      rw [List.getElem?_set_self hicl] at hd'
      obtain rfl := Option.some.inj hu
      obtain rfl := Option.some.inj hd'
      exact hv'
    · rw [List.getElem?_set_ne (fun e => hij e.symm)] at hu hd'
      refine (h.cont j u d hu hd').block fun R hR hl ⟨L, hL⟩ => hf.block R hl fun e => ?_
      rcases hS R e with q | q | q | q
      · exact holds_apart hL h.tree.tree (by decide) q
      · obtain ⟨vs, hvs⟩ := hnb; exact holds_apart hL hvs (by decide) q
      · omega
      · exact hij (h.own j i u v R hu hv hR q)
  · have hlow : ∀ (j : Nat) (u : Value), j ≠ i → V[j]? = some u → blockOf u = some R → R < w.heap.size ∧ blockOf v ≠ some R := by
      intro j u hj hu hR
      have hjl : j < p.cs.length := by rw [hi.len, ← h.tree.vlen]; exact (List.getElem?_eq_some_iff.1 hu).1
      refine ⟨?_, fun e => hj (h.own j i u v R hu hv hR e)⟩
      rcases h.cont j u _ hu (List.getElem?_eq_getElem hjl) with ⟨q, _⟩ | ⟨R', cp, T, q1, q2, _⟩
      · rw [q] at hR; cases hR
      · rw [q1] at hR
        have : R' = R := by simpa [blockOf] using hR
        subst this
        exact q2.lt
    by_cases hj : j = i
    · by_cases hk : k = i
      · rw [hj, hk]
      · subst hj
        rw [List.getElem?_set_self hivl] at hu
        obtain rfl := Option.some.inj hu
        rw [List.getElem?_set_ne (fun e => hk e.symm)] at hu'
        obtain ⟨q1, q2⟩ := hlow k u' hk hu' h2
        rcases hnew R h1 with q | q
        · omega
        · exact absurd q q2
    · rw [List.getElem?_set_ne (fun e => hj e.symm)] at hu
      by_cases hk : k = i
      · subst hk
        rw [List.getElem?_set_self hivl] at hu'
        obtain rfl := Option.some.inj hu'
        obtain ⟨q1, q2⟩ := hlow j u hj hu h1
        rcases hnew R h2 with q | q
        · omega
        · exact absurd q q2
      · rw [List.getElem?_set_ne (fun e => hk e.symm)] at hu'
        exact h.own j k u u' R hu hu' h1 h2
end Go.Proofs.YtkokiefclmbgaaaGreatDoor

/- The program's makeFile: what it stands on. -/
namespace Go.Proofs.YtkokiefclmbgaaaGreatDoor
open Go Go.RowKit Go.Maps
set_option linter.unusedVariables false
set_option linter.unusedSimpArgs false

theorem place_idx {xs : List Ino} {i : Nat} {x : Ino} (hinc : xs.Pairwise (fun x y => x.id < y.id)) (hx : xs[i]? = some x) : placeOf xs x.id = i := by
  refine place_some hx (by simp) fun j y hj hy => ?_
  obtain ⟨hi1, hi2⟩ := List.getElem?_eq_some_iff.1 hx
  obtain ⟨hj1, hj2⟩ := List.getElem?_eq_some_iff.1 hy
  have := List.pairwise_iff_getElem.1 hinc j i hj1 hi1 hj
  rw [hj2, hi2] at this
  have hne : y.id ≠ x.id := by omega
  simpa using hne
/-- The place that a path leads to, as it lies. -/
theorem place_at {w : World} {B tb ab am : Nat} {used : Int} {p : PK} {NB MB : List Nat} {V : List Value} {s : ByteArray} {b : Nat} {name : ByteArray} (hr : TreeRep w B tb ab am p.li p.lb used p.xs NB MB V) (hi : PInv p) (he : (walkOf p.xs s).e = 0) (hp : PlaceIs p.xs NB ab s b name) :
    ∃ (m k : Nat) (f : ByteArray → Option Nat) (dvs : List Value), Holds w b 230 dvs ∧ dvs[3]? = some (.map (some m)) ∧ DictAt w m k f ∧ k ≤ p.xs.length + 1 ∧ name.size ≤ 14 ∧ B ≤ m ∧
      ((walkOf p.xs s).n ≠ 0 ∧ (∃ (i : Nat) (x : Ino) (c : Nat), p.xs[i]? = some x ∧ x.id = (walkOf p.xs s).n ∧ NB[i]? = some c ∧ f name = some c) ∨
       (walkOf p.xs s).n = 0 ∧ f name = none ∧ ∃ (pi : Nat) (px : Ino), p.xs[pi]? = some px ∧ px.dir = true ∧ MB[pi]? = some m ∧ px.id = (walkOf p.xs s).dir ∧ name = (walkOf p.xs s).name ∧ k = p.xs.length ∧ f = kidOf p.xs NB px.id) := by
  have hne : p.xs ≠ [] := by obtain ⟨x, hx, _⟩ := hi.root; intro e; rw [e] at hx; cases hx
  have hid : ∀ x ∈ p.xs, 1 ≤ x.id := fun x hx => (hi.ids x hx).1
  obtain ⟨x0, hx0, hx01, hx0d⟩ := hr.root hne
  have hx0l := (List.getElem?_eq_some_iff.1 hx0).1
  obtain ⟨b0, hb0⟩ : ∃ b0, NB[0]? = some b0 := ⟨_, List.getElem?_eq_getElem (by rw [hr.len.1]; exact hx0l)⟩
  rcases hp with ⟨hnm, rfl, rfl⟩ | ⟨⟨a, r, hnm⟩, ⟨i, x, hx, hxi, hb⟩, hxd, rfl⟩
  · have hw : walkOf p.xs s = ⟨0, ByteArray.empty, 1, 0⟩ := by unfold walkOf; rw [hnm]
    rw [hw]
    refine ⟨am, 1, _, _, hr.above, rfl, hr.amap, by omega, by decide, hr.low.2.2.1, .inl ⟨by decide, 0, x0, b0, hx0, hx01, hb0, ?_⟩⟩
    show (if ByteArray.empty.data.toList = [] then NB[0]? else none) = some b0
    rw [if_pos (show ByteArray.empty.data.toList = [] from rfl), hb0]
  · obtain ⟨hok, hn, hdir⟩ := walk_some (xs := p.xs) hnm he
    have hil := (List.getElem?_eq_some_iff.1 hx).1
    obtain ⟨m, hmm⟩ : ∃ m, MB[i]? = some m := ⟨_, List.getElem?_eq_getElem (by rw [hr.len.2]; exact hil)⟩
    have hdx : x.dir = true := by rw [← hxi, dirOf_at hi.incr hx] at hxd; exact hxd
    obtain ⟨qn, v, mv, hnode, hkids, _⟩ := hr.node i x b m hx hb hmm
    obtain ⟨hmv, hdict⟩ := hkids hdx
    subst hmv
    refine ⟨m, p.xs.length, _, _, hnode, rfl, hdict, by omega, nameOk_size hok, (hr.low.2.2.2.2 m (List.mem_of_getElem? hmm)).1, ?_⟩
    rw [hn, ← hxi]
    by_cases q : childOf p.xs x.id (walkOf p.xs s).name = 0
    · refine .inr ⟨q, kid_none hid q, i, x, hx, hdx, hmm, hxi ▸ rfl, rfl, rfl, rfl⟩
    · obtain ⟨j, y, c, h1, h2, h3, h4⟩ := kid_some (NB := NB) hr.len.1 q
      exact .inl ⟨q, j, y, c, h1, h2, h3, h4⟩

/-- Blocks that are neither a tree's nor a node's nor bytes are as they were. -/
def KeepsT (w w' : World) : Prop := ∀ (k : Nat) (t : TypeId) (vs : List Value), Holds w k t vs → t ≠ 163 → t ≠ 230 → t ≠ 5 → Holds w' k t vs
theorem KeepsT.below {w w' : World} (h : Below w.heap.size w w') : KeepsT w w' := fun k t vs hk _ _ _ => hk.below h hk.lt
/-- Write of all of a file's bytes from its head on. -/
theorem write_any (p : PK) (B tb ab am i b q o c1 : Nat) (a : Option Addr) (NB MB : List Nat) (V : List Value) (x : Ino) (L c : List Int) (w : World) (hr : BootRep w B tb ab am p NB MB V) (hi : PInv p) (hx : p.xs[i]? = some x) (hd : x.dir = false) (hb : NB[i]? = some b) (hc : p.cs[i]? = some c) (hL : L.length ≤ 1000000) (hu : usedOf p.cs ≤ 1000000) (hlb : 0 ≤ p.lb ∧ p.lb ≤ 1000000) (hli : (p.xs.length : Int) ≤ p.li ∧ p.li ≤ 1000000)
    (ha : 0 < L.length → a = some ⟨q, o, none⟩ ∧ q < B) (hv : BView w q o L) (hB : B ≤ w.heap.size) :
    Calls Tryz.prog 64 #[.pointer (some ⟨tb, 0, none⟩), .pointer (some ⟨b, 0, none⟩), .int .i64 0, .slice a L.length c1] w fun e w' => (Below B w w' ∧ KeepsT w w') ∧
      ((0 < L.length ∧ p.lb < (usedOf p.cs : Int) - (c.length : Int) + ((max L.length c.length : Nat) : Int)) ∧ e = errnoRet 12 ∨
       ¬ (0 < L.length ∧ p.lb < (usedOf p.cs : Int) - (c.length : Int) + ((max L.length c.length : Nat) : Int)) ∧ e = .returned .nilIface ∧ ∃ V', BootRep w' B tb ab am (if L.length = 0 then p else {p with cs := p.cs.set i (over c L)}) NB MB V') := by
  by_cases h0 : L.length = 0
  · rw [h0]
    refine (fsWrite_none tb b 0 a c1 w).mono fun e w' h => ?_
    obtain ⟨rfl, rfl⟩ := h
    refine ⟨⟨Below.refl _ _, KeepsT.below (Below.refl _ _)⟩, .inr ⟨by omega, rfl, V, ?_⟩⟩
    rw [if_pos rfl]; exact hr
  · have hpos : 0 < L.length := by omega
    obtain ⟨rfl, hqB⟩ := ha hpos
    have hil := (List.getElem?_eq_some_iff.1 hx).1
    obtain ⟨m, hm⟩ : ∃ m, MB[i]? = some m := ⟨_, List.getElem?_eq_getElem (by rw [hr.tree.len.2]; exact hil)⟩
    obtain ⟨qn, v, mv, hn, _, hvi, hmn⟩ := hr.tree.node i x b m hx hb hm
    rw [hd] at hn
    have hcv := hr.cont i v c hvi hc
    have hcu := used_ge hc
    have hlow := hr.tree.low
    have hbB : B ≤ b := hlow.2.2.2.1 b (List.mem_of_getElem? hb)
    obtain ⟨va, vc, hvs⟩ := hcv.len
    by_cases hf : p.lb < (usedOf p.cs : Int) - (c.length : Int) + ((max L.length c.length : Nat) : Int)
    · refine (fsWrite_full tb ab b p.xs.length p.li (usedOf p.cs) p.lb c.length vc L.length c1 va (some ⟨q, o, none⟩) w hr.tree.tree (by rw [← hvs]; exact hn.cell rfl) ⟨by omega, hli.1⟩ hli.2 hpos (by omega) hL ⟨by omega, by omega, hlb⟩ (by omega)).mono fun e w' h => ?_
      exact ⟨⟨h.2.mono hB, KeepsT.below h.2⟩, .inl ⟨⟨hpos, hf⟩, h.1⟩⟩
    · rcases hcv with ⟨rfl, rfl⟩ | ⟨R, cp, T, rfl, hR, hcp, hcm, hRB⟩
      · refine (fsWrite_new tb ab b q o p.xs.length p.li (usedOf p.cs) p.lb L.length c1 mv L w rfl (by omega) (by omega) (by omega) hv hr.tree.tree hn ⟨by omega, hli.1⟩ hli.2 hpos hL ⟨by omega, by omega, hlb⟩ (by simp at hf; omega)).mono fun e w' h => ?_
        obtain ⟨rfl, h1, h2, R, cp, h3, h4, h5, h6, h7⟩ := h
        have ho : over ([] : List Int) L = L := by unfold over; simp
        refine ⟨⟨h2.below (by omega) hbB hB, fun k t vs hk t1 t2 t3 => holds_block hk (h2.block k hk.lt (holds_apart hk hr.tree.tree t1) (holds_apart hk hn t2))⟩, .inr ⟨fun q => hf q.2, rfl, V.set i (.slice (some ⟨R, 0, none⟩) L.length cp), ?_⟩⟩
        rw [if_neg h0, ho]
        refine hr.wrote hi hx hd hb hc hvi (S := [tb, b]) ?_ h6 (hmn hd) (FrameS.ofK h2) (fun k hk => ?_) (.inr ⟨R, cp, List.replicate (cp - L.length) 0, rfl, h7, by simp; omega, h5, by omega⟩) (fun R' hR' => ?_)
        · rw [show (usedOf p.cs : Int) - (([] : List Int).length : Int) + (L.length : Int) = (usedOf p.cs : Int) + (L.length : Int) by simp]; exact h1
        · simp at hk; rcases hk with q | q
          · exact .inl q
          · exact .inr (.inl q)
        · have : R = R' := by simpa [blockOf] using hR'
          subst this; exact .inl h3
      · refine (fsWrite_old tb ab b q o R p.xs.length p.li (usedOf p.cs) p.lb L.length c1 cp mv L c T w rfl (by omega) (by omega) (by omega) (by omega) hv hr.tree.tree hn hR hcp hcm (by omega) ⟨by omega, hli.1⟩ hli.2 hpos hL ⟨by omega, by omega, hlb⟩ (by omega)).mono fun e w' h => ?_
        obtain ⟨rfl, h1, h2, R', cp', T', h3, h4, h5, h6, h7⟩ := h
        refine ⟨⟨h2.below (fun k hk => by simp at hk; rcases hk with rfl | rfl | rfl <;> omega) hB, fun k t vs hk t1 t2 t3 => holds_block hk (h2.block k hk.lt (by simp [holds_apart hk hr.tree.tree t1, holds_apart hk hn t2, holds_apart hk hR t3]))⟩, .inr ⟨fun q => hf q.2, rfl, V.set i (.slice (some ⟨R', 0, none⟩) (over c L).length cp'), ?_⟩⟩
        rw [if_neg h0]
        refine hr.wrote hi hx hd hb hc hvi (S := [tb, b, R]) ?_ h6 (hmn hd) h2 (fun k hk => ?_) (.inr ⟨R', cp', T', rfl, h7, h4, h5, by rcases h3 with q | q <;> omega⟩) (fun R'' hR'' => ?_)
        · rw [over_len (M := max L.length c.length) rfl, show (usedOf p.cs : Int) - (c.length : Int) + ((max L.length c.length : Nat) : Int) = (usedOf p.cs : Int) + ((L.length - c.length : Nat) : Int) by omega]; exact h1
        · simp at hk; rcases hk with q | q | q
          · exact .inl q
          · exact .inr (.inl q)
          · exact .inr (.inr (.inr (by rw [q]; rfl)))
        · have : R' = R'' := by simpa [blockOf] using hR''
          subst this
          rcases h3 with q | q
          · exact .inr (by rw [q]; rfl)
          · exact .inl q
/-- What a file's opening leaves. -/
theorem opened_old {p : PK} (hi : PInv p) {s : ByteArray} (h0 : (walkOf p.xs s).e = 0) {i : Nat} {x : Ino} (hn : (walkOf p.xs s).n ≠ 0) (hx : p.xs[i]? = some x) (hxi : x.id = (walkOf p.xs s).n) : p.opened s = (p, x.id) ∧ dirOf p.xs x.id = x.dir ∧ (placeOf p.xs x.id).toNat = i ∧ p.cs[i]? = some (p.old x.id) := by
  have hp := place_idx hi.incr hx
  have hil := (List.getElem?_eq_some_iff.1 hx).1
  refine ⟨by unfold PK.opened; rw [if_neg hn, hxi], dirOf_at hi.incr hx, by rw [hp]; rfl, ?_⟩
  unfold PK.old
  rw [hp, List.getD_eq_getElem?_getD, show ((i : Int)).toNat = i from rfl, List.getElem?_eq_getElem (by rw [hi.len]; exact hil)]
  rfl
theorem opened_new {p : PK} (hi : PInv p) {s : ByteArray} (h0 : (walkOf p.xs s).e = 0) (hn : (walkOf p.xs s).n = 0) : p.opened s = (p.add (walkOf p.xs s).dir (walkOf p.xs s).name false, p.last + 1) ∧ dirOf (p.add (walkOf p.xs s).dir (walkOf p.xs s).name false).xs (p.last + 1) = false ∧ (placeOf (p.add (walkOf p.xs s).dir (walkOf p.xs s).name false).xs (p.last + 1)).toNat = p.xs.length ∧ (p.add (walkOf p.xs s).dir (walkOf p.xs s).name false).old (p.last + 1) = [] := by
  have he : p.opened s = (p.add (walkOf p.xs s).dir (walkOf p.xs s).name false, p.last + 1) := by unfold PK.opened; rw [if_pos hn]
  have hio := hi.opened s h0
  rw [he] at hio
  have hx : (p.add (walkOf p.xs s).dir (walkOf p.xs s).name false).xs[p.xs.length]? = some (newIno (p.last + 1) (walkOf p.xs s).dir (walkOf p.xs s).name false) := by
    show (p.xs ++ [newIno (p.last + 1) (walkOf p.xs s).dir (walkOf p.xs s).name false])[p.xs.length]? = _
    rw [List.getElem?_append_right (Nat.le_refl _)]; simp
  have hp := place_idx hio.incr hx
  have hp' : placeOf (p.add (walkOf p.xs s).dir (walkOf p.xs s).name false).xs (p.last + 1) = (p.xs.length : Int) := hp
  refine ⟨he, dirOf_at hio.incr hx, by rw [hp']; rfl, ?_⟩
  unfold PK.old
  rw [hp', show ((p.xs.length : Int)).toNat = p.xs.length from rfl]
  show (p.cs ++ [[]]).getD p.xs.length [] = []
  rw [List.getD_eq_getElem?_getD, ← hi.len, List.getElem?_append_right (Nat.le_refl _)]
  simp
/-- A tree in which a file is open. -/
def FileDone (p : PK) (s : ByteArray) (B tb ab am : Nat) (w : World) (b : Nat) : Prop := ∃ (NB MB : List Nat) (V : List Value) (i : Nat) (x : Ino), BootRep w B tb ab am (p.opened s).1 NB MB V ∧ PInv (p.opened s).1 ∧ (p.opened s).1.xs[i]? = some x ∧ x.dir = false ∧ NB[i]? = some b ∧ (p.opened s).1.cs[i]? = some ((p.opened s).1.old (p.opened s).2) ∧ (placeOf (p.opened s).1.xs (p.opened s).2).toNat = i ∧ usedOf (p.opened s).1.cs = usedOf p.cs ∧ (p.opened s).1.lb = p.lb
theorem done_old {p : PK} {s : ByteArray} {B tb ab am : Nat} {w : World} {NB MB : List Nat} {V : List Value} (hr : BootRep w B tb ab am p NB MB V) (hi : PInv p) (h0 : (walkOf p.xs s).e = 0) {i b : Nat} {x : Ino} (hn : (walkOf p.xs s).n ≠ 0) (hx : p.xs[i]? = some x) (hxi : x.id = (walkOf p.xs s).n) (hd : x.dir = false) (hb : NB[i]? = some b) : FileDone p s B tb ab am w b := by
  obtain ⟨h1, h2, h3, h4⟩ := opened_old hi h0 hn hx hxi
  unfold FileDone
  rw [h1]
  exact ⟨NB, MB, V, i, x, hr, hi, hx, hd, hb, h4, h3, rfl, rfl⟩
theorem done_new {p : PK} {s : ByteArray} {B tb ab am : Nat} {w w' : World} {NB MB : List Nat} {V : List Value} (hr : BootRep w B tb ab am p NB MB V) (hi : PInv p) (h0 : (walkOf p.xs s).e = 0) (hn : (walkOf p.xs s).n = 0) {m b : Nat} {pi : Nat} {px : Ino} {name : ByteArray} (hpx : p.xs[pi]? = some px) (hpd : px.dir = true) (hpm : MB[pi]? = some m) (hpi : px.id = (walkOf p.xs s).dir) (hnm : name = (walkOf p.xs s).name) (hc : kidOf p.xs NB px.id name = none)
    (hb : w.heap.size ≤ b) (hbl : b < w'.heap.size) (hnode : ∃ q, Holds w' b 230 [.string q, .bool false, .slice none 0 0, .map none, .int .i64 0]) (hp : PutPost tb m p.xs.length ab p.xs.length p.li (usedOf p.cs) p.lb (kidOf p.xs NB px.id) name b w w') (hB : B ≤ w.heap.size) : FileDone p s B tb ab am w' b := by
  obtain ⟨h1, h2, h3, h4⟩ := opened_new hi h0 hn
  have hio := hi.opened s h0
  unfold FileDone
  rw [h1] at hio ⊢
  have hl1 := hr.tree.len.1
  have hmp : IsMap w m := by
    obtain ⟨pb, hpb⟩ : ∃ pb, NB[pi]? = some pb := ⟨_, List.getElem?_eq_getElem (by rw [hl1]; exact (List.getElem?_eq_some_iff.1 hpx).1)⟩
    obtain ⟨qn, _, _, _, q, _⟩ := hr.tree.node pi px pb m hpx hpb hpm
    exact (q hpd).2.isMap
  have ht : TreeRep w' B tb ab am p.li p.lb (usedOf p.cs) (p.xs ++ [newIno (p.last + 1) px.id name false]) (NB ++ [b]) (MB ++ [b]) (V ++ [.slice none 0 0]) := by
    refine hr.tree.added hpx hpd hpm hi.incr hc hp.1 hp.2.1 hnode (fun q => by cases q) (fun _ => rfl) hb hb hbl hp.2.2 (fun z hz => ?_) ?_ hB
    · have := (hi.down z hz).2; have := (hi.ids z hz).2; omega
    · have := (hi.ids px (List.mem_of_getElem? hpx)).2; omega
  rw [hpi, hnm] at ht
  have hg := hr.grew (q := p.add (walkOf p.xs s).dir (walkOf p.xs s).name false) hi rfl hp.2.2 hmp ht
  refine ⟨NB ++ [b], MB ++ [b], V ++ [.slice none 0 0], p.xs.length, newIno (p.last + 1) (walkOf p.xs s).dir (walkOf p.xs s).name false, hg, hio, ?_, rfl, ?_, ?_, h3, used_snoc _, rfl⟩
  · show (p.xs ++ [newIno (p.last + 1) (walkOf p.xs s).dir (walkOf p.xs s).name false])[p.xs.length]? = _
    rw [List.getElem?_append_right (Nat.le_refl _)]; simp
  · rw [← hl1, List.getElem?_append_right (Nat.le_refl _)]; simp
  · rw [h4]
    show (p.cs ++ [[]])[p.xs.length]? = some []
    rw [← hi.len, List.getElem?_append_right (Nat.le_refl _)]; simp
end Go.Proofs.YtkokiefclmbgaaaGreatDoor

/- The program's makeFile. -/
namespace Go.Proofs.YtkokiefclmbgaaaGreatDoor
open Go Go.RowKit Go.Maps
set_option linter.unusedVariables false
set_option linter.unusedSimpArgs false

def MakePost (p : PK) (f : PFile) (B tb ab am : Nat) (w : World) (e : Ending) (w' : World) : Prop :=
  Below B w w' ∧ ((p.put f).1 ≠ 0 ∧ e = errnoRet (p.put f).1 ∨ (p.put f).1 = 0 ∧ e = .returned .nilIface ∧ ∃ NB MB V, BootRep w' B tb ab am (p.put f).2 NB MB V)
theorem fileEnter : ∀ args w, (callFunc 65 args).run Tryz.prog w = .ok (.enter 65 args) w := enters_of Tryz.func65 (by kernel_rfl) rfl
theorem writeEnter : ∀ args w, (callFunc 64 args).run Tryz.prog w = .ok (.enter 64 args) w := enters_of Tryz.func64 (by kernel_rfl) rfl

theorem step_call2x {P : Program} {ops : Array Oper} {o : Oper} {a : Act} {w : World} {K : Act → World → Prop} {Q : Exit → Act → World → Prop} {E : Prop} (hgd : o.guard = none) (f n1 n2 : Nat) (t1 t2 : TypeId)
    (ho : o.op = .call { callee := .value (.func f), args := #[.tmp n1, .tmp n2], argTypes := #[t1, t2] }) (v1 v2 : Value) (h1 : a.eval (.tmp n1) = v1) (h2 : a.eval (.tmp n2) = v2)
    (he : ∀ args w, (callFunc f args).run P w = .ok (.enter f args) w) (post : Ending → World → Prop) (hp : ∀ e w', post e w' → ∃ r, e = .returned r) (hc : Calls P f #[v1, v2] w post) (d : Option Tmp) (hd : o.dst = d)
    (h : ∀ r w', post (.returned r) w' → K (a.put d r) w') :
    if Region.wanted o (yielded ops a.tmps) = true then Oper.wp P o a w K Q else E := by
  have hw : Region.wanted o (yielded ops a.tmps) = true := by simp [Region.wanted, hgd]
  have h1' : a.tmps[n1]?.getD undef = v1 := by rw [← h1]; simp [go_sem]
  have h2' : a.tmps[n2]?.getD undef = v2 := by rw [← h2]; simp [go_sem]
  rw [if_pos hw]
  subst hd
  unfold Oper.wp
  simp [execOp, ho, resolve, invoke, h1', h2', Result.andThen, go_sem, he]
  refine hc.mono ?_
  intro e w' hpe
  obtain ⟨r, rfl⟩ := hp e w' hpe
  have := h r w' hpe
  simpa [go_sem] using this
theorem step_call4c {P : Program} {ops : Array Oper} {o : Oper} {a : Act} {w : World} {K : Act → World → Prop} {Q : Exit → Act → World → Prop} {E : Prop} (hgd : o.guard = none) (f n1 n2 n4 : Nat) (v3 : Value) (ts : Array TypeId)
    (ho : o.op = .call { callee := .value (.func f), args := #[.tmp n1, .tmp n2, .const v3, .tmp n4], argTypes := ts }) (v1 v2 v4 : Value) (h1 : a.eval (.tmp n1) = v1) (h2 : a.eval (.tmp n2) = v2) (h4 : a.eval (.tmp n4) = v4)
    (he : ∀ args w, (callFunc f args).run P w = .ok (.enter f args) w) (post : Ending → World → Prop) (hp : ∀ e w', post e w' → ∃ r, e = .returned r) (hc : Calls P f #[v1, v2, v3, v4] w post) (d : Option Tmp) (hd : o.dst = d)
    (h : ∀ r w', post (.returned r) w' → K (a.put d r) w') :
    if Region.wanted o (yielded ops a.tmps) = true then Oper.wp P o a w K Q else E := by
  have hw : Region.wanted o (yielded ops a.tmps) = true := by simp [Region.wanted, hgd]
  have h1' : a.tmps[n1]?.getD undef = v1 := by rw [← h1]; simp [go_sem]
  have h2' : a.tmps[n2]?.getD undef = v2 := by rw [← h2]; simp [go_sem]
  have h4' : a.tmps[n4]?.getD undef = v4 := by rw [← h4]; simp [go_sem]
  rw [if_pos hw]
  subst hd
  unfold Oper.wp
  simp [execOp, ho, resolve, invoke, h1', h2', h4', Result.andThen, go_sem, he]
  refine hc.mono ?_
  intro e w' hpe
  obtain ⟨r, rfl⟩ := hp e w' hpe
  have := h r w' hpe
  simpa [go_sem] using this

set_option maxRecDepth 100000 in
set_option maxHeartbeats 2000000 in
theorem makeFile_any (p : PK) (B tb ab am q o c : Nat) (a : Option Addr) (NB MB : List Nat) (V : List Value) (f : PFile) (mm : Int) (w : World) (hr : BootRep w B tb ab am p NB MB V) (hi : PInv p) (hlen : p.xs.length ≤ 900000) (hu : usedOf p.cs ≤ 1000000) (hlb : 0 ≤ p.lb ∧ p.lb ≤ 1000000) (hli : (p.xs.length : Int) ≤ p.li ∧ p.li ≤ 1000000) (hul : (usedOf p.cs : Int) ≤ p.lb) (hs : f.path.size ≤ maxLen) (hL : f.bytes.length ≤ 1000000)
    (ha : 0 < f.bytes.length → a = some ⟨q, o, none⟩ ∧ q < B) (hv : BView w q o f.bytes) (hB : B ≤ w.heap.size) (hm : w.cell? ⟨2, 0, none⟩ = some (.int .i64 mm)) (hml : 2 < B) :
    Calls Tryz.prog 39 #[.pointer (some ⟨tb, 0, none⟩), .agg #[.string f.path, .bool f.dir, .slice a f.bytes.length c]] w (MakePost p f B tb ab am w) := by
  obtain ⟨W0, hW0⟩ : ∃ W0, W0 = w.alloc (Obj.cells #[.string f.path, .bool f.dir, .slice a f.bytes.length c] 44) := ⟨_, rfl⟩
  have hb0 : Below w.heap.size w W0 := by rw [hW0]; exact (Below.refl _ _).alloc (Nat.le_refl _) _
  have hp0 : Holds W0 w.heap.size 44 [.string f.path, .bool f.dir, .slice a f.bytes.length c] := by rw [hW0]; exact Holds.new w 44 _
  have c0 : W0.cell? ⟨w.heap.size, 0, none⟩ = some (.string f.path) := hp0.cell rfl
  have c1 : W0.cell? ⟨w.heap.size, 1, none⟩ = some (.bool f.dir) := hp0.cell rfl
  have hr0 := hr.below hb0
  have hm0 : W0.cell? ⟨2, 0, none⟩ = some (.int .i64 mm) := by rw [hb0.cell (p := ⟨2, 0, none⟩) (show 2 < w.heap.size by omega)]; exact hm
  have HR0 := hide hr0
  have HM0 := hide hm0
  have HW0 := hide hW0
  have HP0 := hide hp0
  have HB0 := hide hb0
  have HA := hide ha
  have HV := hide hv
  have HI := hide hi
  have HLN := hide (show p.xs.length ≤ 900000 ∧ usedOf p.cs ≤ 1000000 ∧ (0 ≤ p.lb ∧ p.lb ≤ 1000000) ∧ f.path.size ≤ maxLen ∧ f.bytes.length ≤ 1000000 ∧ B ≤ w.heap.size ∧ 2 < B from ⟨hlen, hu, hlb, hs, hL, hB, hml⟩)
  have HLI := hide (show (p.xs.length : Int) ≤ p.li ∧ p.li ≤ 1000000 ∧ (usedOf p.cs : Int) ≤ p.lb from ⟨hli.1, hli.2, hul⟩)
  have hs0 : w.heap.size ≤ W0.heap.size := hb0.size
  have HFD := hide (show W0.heap.size ≥ w.heap.size from hs0)
  obtain ⟨d, hd⟩ : ∃ d, d = f.dir := ⟨_, rfl⟩
  rw [← hd] at c1
  have HD := hide hd
  clear hr hi ha hv hm hW0 hb0 hp0 hr0 hm0 hlen hu hlb hli hul hs hL hB hml hs0 hd
  go_enter Tryz.func39, Tryz.ntmps39
  go_upto_region 1 with fail
  rw [← unhide HW0, ← unhide HD]
  cases d with
  | true =>
    have HMK := hide (fsMkdir_any p B tb ab am (usedOf p.cs) NB MB V f.path mm W0 (unhide HR0).tree (unhide HI) (unhide HLN).1 ⟨by have := (unhide HLI).1; omega, (unhide HLI).2.1⟩ ⟨by omega, (unhide HLI).2.2⟩ (unhide HLN).2.2.1.2 (unhide HLN).2.2.2.1 (unhide HM0) (by have := (unhide HLN).2.2.2.2.2; have := unhide HFD; omega) (by have := (unhide HLN).2.2.2.2.2; have := unhide HFD; omega))
    go_wp2_with fail
    refine (unhide HMK).mono ?_
    intro e w1 h1
    have HP := hide (show MakePost p f B tb ab am w e w1 from by
      have hput : p.put f = p.mkdir f.path := by unfold PK.put; rw [if_pos (unhide HD).symm]
      have hlow := (unhide HR0).tree.low
      have hl := (unhide HLN).2.2.2.2.2
      have hsz := (unhide HB0).size
      unfold MakePost
      rw [hput]
      rcases h1 with ⟨x1, x2, x3⟩ | ⟨x1, x2, m, nb, nm, x3, x4, x5, x6⟩
      · exact ⟨((unhide HB0).trans (x3.mono hsz)).mono hl.1, .inl ⟨x1, x2⟩⟩
      · refine ⟨((unhide HB0).mono hl.1).trans (x4.below hlow.1 x5 (by omega)), .inr ⟨x1, x2, NB ++ [nb], MB ++ [nm], V ++ [.slice none 0 0], ?_⟩⟩
        have hadd : (p.mkdir f.path).2 = p.add (walkOf p.xs f.path).dir (walkOf p.xs f.path).name true := by
          unfold PK.mkdir at x1 ⊢
          split at x1
          · rename_i y; exact absurd x1 y
          rename_i y1
          rw [if_neg y1]
          split at x1
          · exact absurd x1 (show ¬ (10 : Int) = 0 by decide)
          rename_i y2
          rw [if_neg y2]
          split at x1
          · exact absurd x1 (show ¬ (12 : Int) = 0 by decide)
          rename_i y3
          rw [if_neg y3]
        have hq : (p.mkdir f.path).2.cs = p.cs ++ [[]] := by rw [hadd]; rfl
        have hli : (p.mkdir f.path).2.li = p.li ∧ (p.mkdir f.path).2.lb = p.lb := by rw [hadd]; exact ⟨rfl, rfl⟩
        exact (unhide HR0).grew (unhide HI) hq x4 x6 (by rw [hli.1, hli.2]; exact x3))
    obtain ⟨v, rfl⟩ : ∃ v, e = .returned v := by
      rcases h1 with ⟨_, x2, _⟩ | ⟨_, x2, _⟩
      · exact ⟨_, x2⟩
      · exact ⟨_, x2⟩
    clear h1 HMK c0 c1
    go_wp2
    go_ret
    exact unhide HP
  | false =>
    have hne : p.xs ≠ [] := by obtain ⟨x, hx, _⟩ := (unhide HI).root; intro e; rw [e] at hx; cases hx
    have HFW := hide (fsFollow_any B tb ab am p.li p.lb (usedOf p.cs) p.xs NB MB V f.path mm W0 (unhide HR0).tree (fun _ => hne) (fun x hx => ((unhide HI).ids x hx).1) (unhide HI).incr (unhide HLN).2.2.2.1 (unhide HM0) (by have := (unhide HLN).2.2.2.2.2; have := unhide HFD; omega))
    have hput : p.put f = (p.fileCode f.path f.bytes, p.fileOut f.path f.bytes) := by unfold PK.put; rw [if_neg (by rw [← unhide HD]; decide)]
    have HPT := hide hput
    clear hne hput
    go_wp2_with fail
    refine (unhide HFW).mono ?_
    rintro e w1 ⟨hb1, (⟨he, rfl⟩ | ⟨he, b, name, hpl, rfl⟩)⟩
    · have HP := hide (show MakePost p f B tb ab am w (errnoRet (walkOf p.xs f.path).e) (w1.alloc (Obj.cells #[.pointer none, .string ByteArray.empty, .string ByteArray.empty] 166)) from by
        have hl := (unhide HLN).2.2.2.2.2
        have hc : (p.put f).1 = (walkOf p.xs f.path).e := by rw [unhide HPT]; show p.fileCode f.path f.bytes = _; unfold PK.fileCode; rw [if_pos he]
        refine ⟨((unhide HB0).trans ((hb1.alloc hb1.size _).mono (unhide HB0).size)).mono hl.1, .inl ⟨by rw [hc]; exact he, by rw [hc]⟩⟩)
      clear hb1 he HFW c0 c1
      unfold placeErr
      go_wp2
      go_ret
      exact unhide HP
    · have hl := unhide HLN
      have hs0 := (unhide HB0).size
      obtain ⟨W2, hW2⟩ : ∃ W2, W2 = w1.alloc (Obj.cells #[.pointer (some ⟨b, 0, none⟩), .string name, .string f.path] 166) := ⟨_, rfl⟩
      have hb2 : Below W0.heap.size W0 W2 := by rw [hW2]; exact hb1.alloc hb1.size _
      have hp2 : Holds W2 w1.heap.size 166 [.pointer (some ⟨b, 0, none⟩), .string name, .string f.path] := by rw [hW2]; exact Holds.new w1 166 _
      have hf2 := (unhide HP0).below hb2 (unhide HP0).lt
      have hr2 := (unhide HR0).below hb2
      obtain ⟨m, k, ff, dvs, hdn, hd2, hdd, hk, hns, hBm, hcase⟩ := place_at hr2.tree (unhide HI) he hpl
      obtain ⟨dv, hdv⟩ : ∃ dv : Bool, ∀ c, ff name = some c → ∃ v0 vs, Holds W2 c 230 (v0 :: .bool dv :: vs) := by
        rcases hcase with ⟨_, i, x, c, y1, y2, y3, y4⟩ | ⟨_, y, _⟩
        · obtain ⟨mi, hmi⟩ : ∃ mi, MB[i]? = some mi := ⟨_, List.getElem?_eq_getElem (by rw [hr2.tree.len.2]; exact (List.getElem?_eq_some_iff.1 y1).1)⟩
          obtain ⟨qn, v1, mv1, z1, _⟩ := hr2.tree.node i x c mi y1 y3 hmi
          exact ⟨x.dir, fun c' hc' => by rw [y4] at hc'; obtain rfl := Option.some.inj hc'; exact ⟨_, _, z1⟩⟩
        · exact ⟨false, fun c hc => by rw [y] at hc; cases hc⟩
      have HMO := hide (fsMayOpen_any tb ab b m k p.xs.length p.li (usedOf p.cs) p.lb ff name f.path true dv dvs W2 hr2.tree.tree ⟨by omega, by omega⟩ ⟨by have := (unhide HLI).1; omega, (unhide HLI).2.1⟩ ⟨by omega, (unhide HLI).2.2⟩ hl.2.2.1.2 hdn hd2 hdd (by omega) hdv)
      have HW2 := hide hW2
      have HB2 := hide hb2
      have HP2 := hide hp2
      have HF2 := hide hf2
      have HR2 := hide hr2
      have HDN := hide (And.intro hdn (And.intro hd2 (And.intro hdd (And.intro hk (And.intro hns hBm)))))
      have HCA := hide hcase
      have HDV := hide hdv
      have HE := hide he
      obtain ⟨PB, hPB⟩ : ∃ PB, PB = w1.heap.size := ⟨_, rfl⟩
      clear hb1 hW2 hb2 hp2 hf2 hr2 hdn hd2 hdd hk hns hBm hcase hdv he hpl hl hs0 HFW
      unfold placeAt
      go_upto_region 4 with fail
      rw [← unhide HW2]
      rw [← hPB] at HP2 ⊢
      clear HW2 hPB c0 c1
      have c0 : W2.cell? ⟨PB, 0, none⟩ = some (.pointer (some ⟨b, 0, none⟩)) := (unhide HP2).cell rfl
      have c1 : W2.cell? ⟨PB, 1, none⟩ = some (.string name) := (unhide HP2).cell rfl
      have c2 : W2.cell? ⟨PB, 2, none⟩ = some (.string f.path) := (unhide HP2).cell rfl
      go_wp2_with fail
      refine (unhide HMO).mono ?_
      rintro e w3 ⟨rfl, hb3⟩
      have hB3 : Below W0.heap.size W0 w3 := (unhide HB2).trans (hb3.mono (unhide HB2).size)
      have hr3 := (unhide HR2).below hb3
      have hdir : ∀ c, ff name = some c → ∀ v0 vs d, Holds W2 c 230 (v0 :: .bool d :: vs) → d = dv := by
        intro c hc v0 vs d hh
        obtain ⟨v0', vs', hh'⟩ := unhide HDV c hc
        unfold Holds at hh hh'
        rw [hh] at hh'
        injection hh' with hh'
        injection hh' with hh'
        have := congrArg Array.toList hh'
        simp at this
        exact this.2.1
      -- what stands against it
      have hcode : ∀ c : Int, mayOf (ff name).isSome true (decide (p.li ≤ (p.xs.length : Int))) dv = c → c ≠ 0 → (p.put f).1 = c := by
        intro c hc hc0
        rw [unhide HPT]
        show p.fileCode f.path f.bytes = c
        unfold PK.fileCode
        rw [if_neg (by simpa using unhide HE)]
        rcases unhide HCA with ⟨hn, i, x, c', y1, y2, y3, y4⟩ | ⟨hn, y, _⟩
        · rw [if_neg (fun q => hn q.1)]
          obtain ⟨q1, q2, _⟩ := opened_old (unhide HI) (unhide HE) hn y1 y2
          rw [q1]
          have hxd : x.dir = dv := by
            obtain ⟨mi, hmi⟩ : ∃ mi, MB[i]? = some mi := ⟨_, List.getElem?_eq_getElem (by rw [(unhide HR2).tree.len.2]; exact (List.getElem?_eq_some_iff.1 y1).1)⟩
            obtain ⟨qn, v1, mv1, z1, _⟩ := (unhide HR2).tree.node i x c' mi y1 y3 hmi
            exact hdir c' y4 _ _ _ z1
          rw [y4] at hc
          show (if dirOf p.xs x.id = true then _ else _) = c
          rw [q2, hxd]
          cases dv with
          | true => exact hc
          | false => exact absurd hc.symm hc0
        · rw [y] at hc
          by_cases hfl : p.li ≤ (p.xs.length : Int)
          · rw [if_pos ⟨hn, hfl⟩]
            rw [decide_eq_true hfl] at hc
            exact hc
          · rw [decide_eq_false hfl] at hc
            exact absurd hc.symm hc0
      obtain ⟨mc, hmc⟩ : ∃ mc, mc = mayOf (ff name).isSome true (decide (p.li ≤ (p.xs.length : Int))) dv := ⟨_, rfl⟩
      rw [← hmc]
      by_cases hz : mc = 0
      · have HFD2 := hide (And.intro hB3 hr3)
        have HMC := hide (show mayOf (ff name).isSome true (decide (p.li ≤ (p.xs.length : Int))) dv = 0 from by rw [← hmc]; exact hz)
        have HDI := hide hdir
        subst hz
        have HP3 := hide ((unhide HP2).below hb3 (unhide HP2).lt)
        have HF3 := hide ((unhide HF2).below hb3 (unhide HF2).lt)
        have HB23 := hide hb3
        clear hcode hb3 hB3 hr3 hdir hmc HMO c0 c1 c2
        rw [show errRet 0 = .returned .nilIface from rfl]
        have c0 : w3.cell? ⟨PB, 0, none⟩ = some (.pointer (some ⟨b, 0, none⟩)) := (unhide HP3).cell rfl
        have c1 : w3.cell? ⟨PB, 1, none⟩ = some (.string name) := (unhide HP3).cell rfl
        have c2 : w3.cell? ⟨PB, 2, none⟩ = some (.string f.path) := (unhide HP3).cell rfl
        go_upto_region 9 with fail
        have hl := unhide HLN
        have hbd : Below w3.heap.size w3 w3.drew := ⟨rfl, rfl, rfl, Nat.le_refl _, fun _ _ => rfl⟩
        have hbW : Below W2.heap.size W2 w3.drew := (unhide HB23).trans (hbd.mono (unhide HB23).size)
        have hr3 : BootRep w3.drew B tb ab am p NB MB V := (unhide HFD2).2.below hbd
        have hdn3 : Holds w3.drew b 230 dvs := (unhide HDN).1.below hbW (unhide HDN).1.lt
        have hdd3 : DictAt w3.drew m k ff := (unhide HDN).2.2.1.kept (grown_below hbW) (by simp)
        have hB3 : B ≤ w3.heap.size := by have := (unhide HB0).size; have := (unhide HFD2).1.size; omega
        have hFile : Calls Tryz.prog 65 #[.pointer (some ⟨tb, 0, none⟩), .agg #[.pointer (some ⟨b, 0, none⟩), .string name, .string f.path]] w3.drew fun e w5 => ∃ b5, e = .returned (.pointer (some ⟨b5, 0, none⟩)) ∧ FileDone p f.path B tb ab am w5 b5 ∧ Below B w3 w5 ∧ KeepsT w3 w5 := by
          refine (fsFile_any tb ab b m k p.xs.length p.li (usedOf p.cs) p.lb ff name f.path dvs w3.drew hr3.tree.tree ⟨by omega, by omega⟩ (by have := walk_size (unhide HE); omega) hdn3 (unhide HDN).2.1 hdd3 (by have := (unhide HDN).2.2.2.1; omega) (by have := (unhide HDN).2.2.2.2.1; omega)).mono ?_
          rintro e w5 (⟨c5, hc5, rfl, hb5⟩ | ⟨hno, nb, rfl, z1, z2, z3, z4⟩)
          · have hb35 : Below w3.heap.size w3 w5 := hbd.trans hb5
            refine ⟨c5, rfl, ?_, hb35.mono hB3, KeepsT.below hb35⟩
            rcases unhide HCA with ⟨hn, i, x, c', y1, y2, y3, y4⟩ | ⟨hn, y, _⟩
            · rw [y4] at hc5
              obtain rfl := Option.some.inj hc5
              have hxd : x.dir = false := by
                obtain ⟨mi, hmi⟩ : ∃ mi, MB[i]? = some mi := ⟨_, List.getElem?_eq_getElem (by rw [(unhide HR2).tree.len.2]; exact (List.getElem?_eq_some_iff.1 y1).1)⟩
                obtain ⟨qn, v1, mv1, q1, _⟩ := (unhide HR2).tree.node i x c' mi y1 y3 hmi
                have hdv := unhide HDI c' y4 _ _ _ q1
                have hm0 := unhide HMC
                rw [y4] at hm0
                rw [hdv]
                cases dv with
                | true => exact absurd hm0 (show ¬ (11 : Int) = 0 by decide)
                | false => rfl
              exact done_old (hr3.below hb5) (unhide HI) (unhide HE) hn y1 y2 hxd y3
            · rw [y] at hc5; cases hc5
          · have hlow := hr3.tree.low
            have hmB := (unhide HDN).2.2.2.2.2
            refine ⟨nb, rfl, ?_, ?_, fun kk t vs hkk t1 t2 t3 => ?_⟩
            · rcases unhide HCA with ⟨hn, i, x, c', y1, y2, y3, y4⟩ | ⟨hn, y, pi, px, x1, x2, x3, x4, x5, x6, x7⟩
              · rw [y4] at hno; cases hno
              · subst x6 x7
                exact done_new hr3 (unhide HI) (unhide HE) hn x1 x2 x3 x4 x5 y z1 z2 z3 z4 hB3
            · have := z4.2.2.below (B := B) hlow.1 hmB hB3
              exact ⟨this.os, this.tape, this.output, this.size, this.block⟩
            · have hk' : Holds w3.drew kk t vs := hkk.heap rfl
              exact holds_block hk' (z4.2.2.block kk hk'.lt (holds_apart hk' hr3.tree.tree t1) (dict_block hdd3 hk'))
        have hS3 : w3.cell? ⟨PB, 0, none⟩ = some (.pointer (some ⟨b, 0, none⟩)) ∧ w3.cell? ⟨PB, 1, none⟩ = some (.string name) ∧ w3.cell? ⟨PB, 2, none⟩ = some (.string f.path) ∧ w3.cell? ⟨w.heap.size, 2, none⟩ = some (.slice a f.bytes.length c) := ⟨c0, c1, c2, (unhide HF3).cell rfl⟩
        have R1 := hide (show ∀ w' : World, (w'.cell? ⟨PB, 0, none⟩ = some (.pointer (some ⟨b, 0, none⟩)) ∧ w'.cell? ⟨PB, 1, none⟩ = some (.string name) ∧ w'.cell? ⟨PB, 2, none⟩ = some (.string f.path) ∧ w'.cell? ⟨w.heap.size, 2, none⟩ = some (.slice a f.bytes.length c)) → (Instr.loadAt 166 (.pointer (some ⟨PB, 0, none⟩))).run Tryz.prog w' = .ok (.agg #[.pointer (some ⟨b, 0, none⟩), .string name, .string f.path]) w' from fun w' h => by
          have c := h.1
          have d := h.2.1
          have d' := h.2.2.1
          clear h hS3 hFile hr3 hdn3 hdd3
          go_simp)
        have R2 := hide (show ∀ w' : World, (w'.cell? ⟨PB, 0, none⟩ = some (.pointer (some ⟨b, 0, none⟩)) ∧ w'.cell? ⟨PB, 1, none⟩ = some (.string name) ∧ w'.cell? ⟨PB, 2, none⟩ = some (.string f.path) ∧ w'.cell? ⟨w.heap.size, 2, none⟩ = some (.slice a f.bytes.length c)) → (Instr.loadAt 32 (.pointer (some ⟨w.heap.size, 2, none⟩))).run Tryz.prog w' = .ok (.slice a f.bytes.length c) w' from fun w' h => by
          have d := h.2.2.2
          clear h hS3 hFile hr3 hdn3 hdd3
          go_simp)
        have HFI := hide hFile
        have HS3 := hide hS3
        clear hFile hS3 hr3 hdn3 hdd3 hbd hbW hl c0 c1 c2
        refine act_gen ?_
        intro A hA
        have e0 : A.eval (.tmp 0) = .pointer (some ⟨tb, 0, none⟩) := by rw [hA]; rfl
        have e3 : A.eval (.tmp 3) = .pointer (some ⟨w.heap.size, 0, none⟩) := by rw [hA]; rfl
        have e5 : A.eval (.tmp 5) = .pointer (some ⟨PB, 0, none⟩) := by rw [hA]; rfl
        have esz : A.tmps.size = 37 := by rw [hA]; rfl
        have HA9 := hide hA
        clear hA
        refine wp_region_held_drew (S := fun w' => w'.cell? ⟨PB, 0, none⟩ = some (.pointer (some ⟨b, 0, none⟩)) ∧ w'.cell? ⟨PB, 1, none⟩ = some (.string name) ∧ w'.cell? ⟨PB, 2, none⟩ = some (.string f.path) ∧ w'.cell? ⟨w.heap.size, 2, none⟩ = some (.slice a f.bytes.length c)) (by kernel_rfl) (unhide HS3) (fun hS => ?_)
        refine takeH (i := 0) (some 30) rfl rfl (by kernel_rfl) (by kernel_rfl) (by kernel_rfl) (fun _ _ _ h => h) (yields_move rfl _ rfl (.pointer (some ⟨tb, 0, none⟩)) (by simp [put_eval, put_size, esz, e0, e3, e5])) hS ?_
        refine takeH (i := 1) (some 31) rfl rfl (by kernel_rfl) (by kernel_rfl) (by kernel_rfl) (fun _ _ _ h => h) (yields_move rfl _ rfl (.pointer (some ⟨tb, 0, none⟩)) (by simp [put_eval, put_size, esz, e0, e3, e5])) hS ?_
        refine takeH (i := 2) (some 32) rfl rfl (by kernel_rfl) (by kernel_rfl) (by kernel_rfl) (fun _ _ _ h => h) (yields_load1 rfl _ _ rfl ⟨PB, 0, none⟩ (by simp [put_eval, put_size, esz, e0, e3, e5]) (.agg #[.pointer (some ⟨b, 0, none⟩), .string name, .string f.path]) (unhide R1)) hS ?_
        refine takeH (i := 4) (some 34) rfl rfl (by kernel_rfl) (by kernel_rfl) (by kernel_rfl) (fun _ _ _ h => h) (yields_field rfl _ _ _ rfl (.pointer (some ⟨w.heap.size, 0, none⟩)) (by simp [put_eval, put_size, esz, e0, e3, e5]) (.pointer (some ⟨w.heap.size, 2, none⟩)) (fun w' => by go_simp)) hS ?_
        refine takeH (i := 5) (some 35) rfl rfl (by kernel_rfl) (by kernel_rfl) (by kernel_rfl) (fun _ _ _ h => h) (yields_load1 rfl _ _ rfl ⟨w.heap.size, 2, none⟩ (by simp [put_eval, put_size, esz, e0, e3, e5]) (.slice a f.bytes.length c) (unhide R2)) hS ?_
        refine wpAnyH_ready (rs := [3]) (by kernel_rfl) (by simp) (AllReadyH.cons rfl (fun K hK => ?_) AllReadyH.nil)
        refine step_call2x rfl 65 31 32 _ _ rfl (.pointer (some ⟨tb, 0, none⟩)) (.agg #[.pointer (some ⟨b, 0, none⟩), .string name, .string f.path]) (by simp [put_eval, put_size, esz, e0, e3, e5]) (by simp [put_eval, put_size, esz, e0, e3, e5]) fileEnter _ (fun e w' h => by obtain ⟨b5, h, _⟩ := h; exact ⟨_, h⟩) (unhide HFI) (some 33) rfl ?_
        rintro r5 w5 ⟨b5, hr5, hdone, hb5, hk5⟩
        have hr5 : r5 = .pointer (some ⟨b5, 0, none⟩) := by injection hr5
        subst hr5
        have hPB5 := hk5 PB _ _ (unhide HP3) (by decide) (by decide) (by decide)
        have hF5 := hk5 w.heap.size _ _ (unhide HF3) (by decide) (by decide) (by decide)
        refine hK.out _ _ ⟨hPB5.cell rfl, hPB5.cell rfl, hPB5.cell rfl, hF5.cell rfl⟩ (fun _ => ?_)
        clear hK K
        obtain ⟨NB5, MB5, V5, i5, x5, d1, d2, d3, d4, d5, d6, d7, d8, d9⟩ := hdone
        have hl := unhide HLN
        have hB5 : B ≤ w5.heap.size := by have := hb5.size; omega
        have hWB : Below B w w5 := (((unhide HB0).mono hl.2.2.2.2.2.1).trans ((unhide HFD2).1.mono (by have := (unhide HB0).size; omega))).trans hb5
        have hv5 : BView w5 q o f.bytes := by
          intro j hj
          have hq := (unhide HA (by omega)).2
          rw [hWB.cell (p := ⟨q, o + j, none⟩) hq]
          exact unhide HV j hj
        have hn0 : ¬ ((walkOf p.xs f.path).n = 0 ∧ p.li ≤ (p.xs.length : Int)) := by
          rintro ⟨q1, q2⟩
          have hm0 := unhide HMC
          rcases unhide HCA with ⟨hn, _⟩ | ⟨_, y, _⟩
          · exact hn q1
          · rw [y, decide_eq_true q2] at hm0; exact absurd hm0 (show ¬ (12 : Int) = 0 by decide)
        have hol : ((p.opened f.path).1.xs.length : Int) ≤ (p.opened f.path).1.li ∧ (p.opened f.path).1.li ≤ 1000000 := by
          have := unhide HLI
          unfold PK.opened
          split
          · rename_i q
            refine ⟨?_, this.2.1⟩
            show (((p.xs ++ [newIno (p.last + 1) (walkOf p.xs f.path).dir (walkOf p.xs f.path).name false]).length : Nat) : Int) ≤ p.li
            rw [List.length_append]
            have : ¬ p.li ≤ (p.xs.length : Int) := fun q2 => hn0 ⟨q, q2⟩
            simp
            omega
          · exact ⟨this.1, this.2.1⟩
        have HWR := hide (write_any (p.opened f.path).1 B tb ab am i5 b5 q o c a NB5 MB5 V5 x5 f.bytes _ w5 d1 d2 d3 d4 d5 d6 hl.2.2.2.2.1 (by rw [d8]; exact hl.2.1) (by rw [d9]; exact hl.2.2.1) hol (unhide HA) hv5 hB5)
        have g30 : ((((((A.put (some 30) (.pointer (some ⟨tb, 0, none⟩))).put (some 31) (.pointer (some ⟨tb, 0, none⟩))).put (some 32) (.agg #[.pointer (some ⟨b, 0, none⟩), .string name, .string f.path])).put (some 34) (.pointer (some ⟨w.heap.size, 2, none⟩))).put (some 35) (.slice a f.bytes.length c)).put (some 33) (.pointer (some ⟨b5, 0, none⟩))).eval (.tmp 30) = .pointer (some ⟨tb, 0, none⟩) := by simp [put_eval, put_size, esz, e0, e3, e5]
        have g33 : ((((((A.put (some 30) (.pointer (some ⟨tb, 0, none⟩))).put (some 31) (.pointer (some ⟨tb, 0, none⟩))).put (some 32) (.agg #[.pointer (some ⟨b, 0, none⟩), .string name, .string f.path])).put (some 34) (.pointer (some ⟨w.heap.size, 2, none⟩))).put (some 35) (.slice a f.bytes.length c)).put (some 33) (.pointer (some ⟨b5, 0, none⟩))).eval (.tmp 33) = .pointer (some ⟨b5, 0, none⟩) := by simp [put_eval, put_size, esz, e0, e3, e5]
        have g35 : ((((((A.put (some 30) (.pointer (some ⟨tb, 0, none⟩))).put (some 31) (.pointer (some ⟨tb, 0, none⟩))).put (some 32) (.agg #[.pointer (some ⟨b, 0, none⟩), .string name, .string f.path])).put (some 34) (.pointer (some ⟨w.heap.size, 2, none⟩))).put (some 35) (.slice a f.bytes.length c)).put (some 33) (.pointer (some ⟨b5, 0, none⟩))).eval (.tmp 35) = .slice a f.bytes.length c := by simp [put_eval, put_size, esz, e0, e3, e5]
        refine wpAnyH_ready (rs := [6]) (by kernel_rfl) (by simp) (AllReadyH.cons rfl (fun K hK => ?_) AllReadyH.nil)
        refine step_call4c rfl 64 30 33 35 (.int .i64 0) _ rfl (.pointer (some ⟨tb, 0, none⟩)) (.pointer (some ⟨b5, 0, none⟩)) (.slice a f.bytes.length c) g30 g33 g35 writeEnter _ (fun e w' h => by
          rcases h.2 with ⟨_, q⟩ | ⟨_, q, _⟩
          · exact ⟨_, q⟩
          · exact ⟨_, q⟩) (unhide HWR) (some 36) rfl ?_
        intro r6 w6 h6
        have hPB6 := h6.1.2 PB _ _ hPB5 (by decide) (by decide) (by decide)
        have hF6 := h6.1.2 w.heap.size _ _ hF5 (by decide) (by decide) (by decide)
        refine hK.out _ _ ⟨hPB6.cell rfl, hPB6.cell rfl, hPB6.cell rfl, hF6.cell rfl⟩ (fun hS6 => ?_)
        clear hK K
        have HP := hide (show MakePost p f B tb ab am w (.returned r6) w6 from by
          have hdo : dirOf (p.opened f.path).1.xs (p.opened f.path).2 = false := by
            rcases unhide HCA with ⟨hn, i, x, c', y1, y2, y3, y4⟩ | ⟨hn, y, _⟩
            · obtain ⟨q1, q2, q3, _⟩ := opened_old (unhide HI) (unhide HE) hn y1 y2
              rw [q1] at d3 d7 ⊢
              have hii : i5 = i := by rw [← d7]; exact q3
              subst hii
              have d3' : p.xs[i5]? = some x5 := d3
              rw [y1] at d3'
              obtain rfl := Option.some.inj d3'
              exact q2.trans d4
            · obtain ⟨q1, q2, _⟩ := opened_new (unhide HI) (unhide HE) hn
              rw [q1]; exact q2
          have hcd : (p.put f).1 = if 0 < f.bytes.length ∧ p.lb < (usedOf (p.opened f.path).1.cs : Int) - (((p.opened f.path).1.old (p.opened f.path).2).length : Int) + ((max f.bytes.length ((p.opened f.path).1.old (p.opened f.path).2).length : Nat) : Int) then 12 else 0 := by
            rw [unhide HPT]
            show p.fileCode f.path f.bytes = _
            unfold PK.fileCode
            rw [if_neg (by simpa using unhide HE), if_neg hn0, if_neg (by rw [hdo]; decide)]
          have hot : (p.put f).2 = if f.bytes.length = 0 then (p.opened f.path).1 else {(p.opened f.path).1 with cs := (p.opened f.path).1.cs.set i5 (over ((p.opened f.path).1.old (p.opened f.path).2) f.bytes)} := by
            rw [unhide HPT, ← d7]
            rfl
          refine ⟨hWB.trans h6.1.1, ?_⟩
          rcases h6.2 with ⟨q1, q2⟩ | ⟨q1, q2, V', q3⟩
          · rw [d9] at q1
            rw [if_pos q1] at hcd
            exact .inl ⟨by rw [hcd]; decide, by rw [hcd]; exact q2⟩
          · rw [d9] at q1
            rw [if_neg q1] at hcd
            exact .inr ⟨hcd, q2, NB5, MB5, V', by rw [hot]; exact q3⟩)
        refine takeH (i := 7) (some 4) rfl rfl (by kernel_rfl) (by kernel_rfl) (by kernel_rfl) (fun _ _ _ h => h) (yields_assign rfl _ rfl r6 (by simp [put_eval, put_size, esz])) hS6 ?_
        refine wpAnyH_done (by kernel_rfl) ?_ _
        rw [unhide HA9]
        simp only [Act.put, List.setIfInBounds_toArray, List.set_cons_zero, List.set_cons_succ]
        clear hPB6 hF6 h6 g30 g33 g35 HWR hn0 hol hv5 hWB hB5 hl d1 d2 d3 d4 d5 d6 d7 d8 d9 hPB5 hF5 hb5 hk5 HA9 e0 e3 e5 esz hS hS6 HFI R1 R2
        go_wp2
        go_ret
        exact unhide HP
      · have HP := hide (show MakePost p f B tb ab am w (errnoRet mc) w3 from by
          have hc := hcode mc hmc.symm hz
          have hl := (unhide HLN).2.2.2.2.2
          refine ⟨((unhide HB0).trans (hB3.mono (unhide HB0).size)).mono hl.1, .inl ⟨by rw [hc]; exact hz, by rw [hc]⟩⟩)
        rw [show errRet mc = errnoRet mc from by unfold errRet; rw [if_neg hz]]
        clear hcode hb3 hB3 hr3 hdir hmc HMO c0 c1 c2 hz
        unfold errnoRet
        go_wp2
        go_ret
        exact unhide HP
end Go.Proofs.YtkokiefclmbgaaaGreatDoor

/- The program's freeFrames. -/
namespace Go.Proofs.YtkokiefclmbgaaaGreatDoor
open Go Go.RowKit Go.Maps
set_option linter.unusedVariables false
set_option linter.unusedSimpArgs false

theorem yields_len {P : Program} {ops : Array Oper} {S : World → Prop} {o : Oper} {A : Act} (hg : o.guard = none) (t : Nat) (ts : Array TypeId) (ho : o.op = .call { callee := .builtin .len, args := #[.tmp t], argTypes := ts }) (v : Value) (hx : A.eval (.tmp t) = v) (r : Value) (hrun : ∀ w', S w' → (Builtin.len_ ts o.type #[v]).run P w' = .ok r w') : YieldsIf P ops S o r A :=
  yields_run hg fun w' hS => by
    have hx' : A.tmps[t]?.getD undef = v := by rw [← hx]; simp [go_sem]
    have := hrun w' hS
    simp [execOp, ho, hx', invoke, resolve, go_sem, this]
theorem yields_build {P : Program} {ops : Array Oper} {S : World → Prop} {o : Oper} {A : Act} (hg : o.guard = none) (ty : TypeId) (parts : Array (Nat × Operand)) (ho : o.op = .build ty parts) (vals : Array (Nat × Value)) (hv : (parts.map fun (i, x) => (i, A.eval x)) = vals) (v : Value) (hrun : ∀ w, (Instr.build ty vals).run P w = .ok v w) : YieldsIf P ops S o v A :=
  yields_run hg fun w' hS => by
    simp only [execOp, ho]
    rw [hv]
    simp [hrun]
theorem step_store_part {P : Program} {ops : Array Oper} {o : Oper} {a : Act} {w : World} {K : Act → World → Prop} {Q : Exit → Act → World → Prop} {E : Prop} (hgd : o.guard = none) (ty : TypeId) (x y : Operand) (ho : o.op = .store ty x y)
    (g off : Nat) (cs : List Value) (hx : a.eval x = .pointer (some ⟨g, off, none⟩)) (hy : a.eval y = .agg cs.toArray)
    (t : TypeId) (old : List Value) (hg : Holds w g t old) (hi : (P.info? ty).map (·.size) = some cs.length) (hfit : off + cs.length ≤ old.length) (h1 : ∀ v ∈ cs, v.oneCell' = true) (hd : o.dst = none)
    (h : ∀ w', Hid (Holds w' g t (splice old off cs)) → Hid (w.grownBy w' (some g)) → K a w') :
    if Region.wanted o (yielded ops a.tmps) = true then Oper.wp P o a w K Q else E := by
  have hw : Region.wanted o (yielded ops a.tmps) = true := by simp [Region.wanted, hgd]
  rw [if_pos hw]
  refine wp_store_mid ty x y ho g off cs.toArray hx hy (holds_there hg _ _ (by simpa using hfit)) (by simpa using hi) (all_oneCell_toArray h1) ?_
  rw [hd]
  exact h _ (hide (holds_setCells cs off _ _ hg hfit)) (hide (grown_setCells cs off w ⟨rfl, rfl, rfl, Nat.le_refl _, fun _ _ _ => rfl⟩))
theorem step_call3c {P : Program} {ops : Array Oper} {o : Oper} {a : Act} {w : World} {K : Act → World → Prop} {Q : Exit → Act → World → Prop} {E : Prop} (hgd : o.guard = none) (f n1 n2 : Nat) (v3 : Value) (ts : Array TypeId)
    (ho : o.op = .call { callee := .value (.func f), args := #[.tmp n1, .tmp n2, .const v3], argTypes := ts }) (v1 v2 : Value) (h1 : a.eval (.tmp n1) = v1) (h2 : a.eval (.tmp n2) = v2)
    (he : ∀ args w, (callFunc f args).run P w = .ok (.enter f args) w) (post : Ending → World → Prop) (hp : ∀ e w', post e w' → ∃ r, e = .returned r) (hc : Calls P f #[v1, v2, v3] w post) (d : Option Tmp) (hd : o.dst = d)
    (h : ∀ r w', post (.returned r) w' → K (a.put d r) w') :
    if Region.wanted o (yielded ops a.tmps) = true then Oper.wp P o a w K Q else E := by
  have hw : Region.wanted o (yielded ops a.tmps) = true := by simp [Region.wanted, hgd]
  have h1' : a.tmps[n1]?.getD undef = v1 := by rw [← h1]; simp [go_sem]
  have h2' : a.tmps[n2]?.getD undef = v2 := by rw [← h2]; simp [go_sem]
  rw [if_pos hw]
  subst hd
  unfold Oper.wp
  simp [execOp, ho, resolve, invoke, h1', h2', Result.andThen, go_sem, he]
  refine hc.mono ?_
  intro e w' hpe
  obtain ⟨r, rfl⟩ := hp e w' hpe
  have := h r w' hpe
  simpa [go_sem] using this
theorem framesEnter : ∀ args w, (callFunc 54 args).run Tryz.prog w = .ok (.enter 54 args) w := enters_of Tryz.func54 (by kernel_rfl) rfl

set_option maxRecDepth 100000 in
set_option maxHeartbeats 1000000 in
theorem freeFrames_any (kb pm pb : Nat) (lp lf lo li lb : Int) (tb cb : Nat) (PS : List Pg) (w : World) (hk : Holds w kb 121 (kernelRow lp lf lo li lb tb cb pm)) (hm : OneProc w pm pb) (hpl : pb < w.heap.size) (hp : PermsAt w pb PS) (hok : PgsOk PS) (hn : PS.length ≤ 256) (hlf : 0 ≤ lf ∧ lf ≤ 1000000) :
    Calls Tryz.prog 70 #[.pointer (some ⟨kb, 0, none⟩)] w fun e w' => e = .returned (.int .i64 (lf - (PS.length : Int))) ∧ Below w.heap.size w w' := by
  have hbd : Below w.heap.size w w.drew := ⟨rfl, rfl, rfl, Nat.le_refl _, fun _ _ => rfl⟩
  have HFR := hide (frames_any kb pm pb lp lf lo li lb tb cb PS w.drew (hk.heap rfl) (hm.kept (grown_below hbd) (by simp)) hpl (hp.below hbd hpl) hok hn)
  have hS0 : w.cell? ⟨kb, 1, none⟩ = some (.int .i64 lf) := hk.cell rfl
  have hkl := hk.lt
  have R1 := hide (show ∀ w' : World, w'.cell? ⟨kb, 1, none⟩ = some (.int .i64 lf) → (Instr.loadAt 3 (.pointer (some ⟨kb, 1, none⟩))).run Tryz.prog w' = .ok (.int .i64 lf) w' from fun w' h => by
    clear hS0 hk hm hp
    go_simp)
  have HS0 := hide hS0
  have hw1 : -9223372036854775808 ≤ lf - (PS.length : Int) := by omega
  have hw2 : lf - (PS.length : Int) ≤ 9223372036854775807 := by omega
  have R2 := hide (show ∀ w' : World, ((do eqGuard .sub 3 (.tmp 7) (.tmp 9) (.int .i64 lf) (.int .i64 (PS.length : Nat)); binOp .sub 3 (.int .i64 lf) (.int .i64 (PS.length : Nat)) : Sem Value)).run Tryz.prog w' = .ok (.int .i64 (lf - (PS.length : Int))) w' from fun w' => by
    clear hS0 hk hm hp
    go_simp
    rw [IntKind.wrap_i64]
    omega)
  clear hk hm hp hok hS0 hbd hn hlf
  go_enter Tryz.func70, Tryz.ntmps70
  go_upto_region 1 with fail
  refine act_gen ?_
  intro A hA
  have e0 : A.eval (.tmp 0) = .pointer (some ⟨kb, 0, none⟩) := by rw [hA]; rfl
  have esz : A.tmps.size = 11 := by rw [hA]; rfl
  have HA := hide hA
  clear hA
  refine wp_region_held_drew (S := fun w' => w'.cell? ⟨kb, 1, none⟩ = some (.int .i64 lf)) (by kernel_rfl) (unhide HS0) (fun hS => ?_)
  refine takeH (i := 0) (some 3) rfl rfl (by kernel_rfl) (by kernel_rfl) (by kernel_rfl) (fun _ _ _ h => h) (yields_move rfl _ rfl (.pointer (some ⟨kb, 0, none⟩)) (by simp [put_eval, put_size, esz, e0])) hS ?_
  refine takeH (i := 1) (some 4) rfl rfl (by kernel_rfl) (by kernel_rfl) (by kernel_rfl) (fun _ _ _ h => h) (yields_nil rfl _ rfl ⟨kb, 0, none⟩ (by simp [put_eval, put_size, esz, e0])) hS ?_
  refine takeH (i := 2) (some 5) rfl rfl (by kernel_rfl) (by kernel_rfl) (by kernel_rfl) (fun _ _ _ h => h) (yields_field rfl _ _ _ rfl (.pointer (some ⟨kb, 0, none⟩)) (by simp [put_eval, put_size, esz, e0]) (.pointer (some ⟨kb, 0, none⟩)) (fun w' => by go_simp)) hS ?_
  refine takeH (i := 3) (some 6) rfl rfl (by kernel_rfl) (by kernel_rfl) (by kernel_rfl) (fun _ _ _ h => h) (yields_field rfl _ _ _ rfl (.pointer (some ⟨kb, 0, none⟩)) (by simp [put_eval, put_size, esz, e0]) (.pointer (some ⟨kb, 1, none⟩)) (fun w' => by go_simp)) hS ?_
  refine takeH (i := 4) (some 7) rfl rfl (by kernel_rfl) (by kernel_rfl) (by kernel_rfl) (fun _ _ _ h => h) (yields_load1 rfl _ _ rfl ⟨kb, 1, none⟩ (by simp [put_eval, put_size, esz, e0]) (.int .i64 lf) (unhide R1)) hS ?_
  refine takeH (i := 5) (some 8) rfl rfl (by kernel_rfl) (by kernel_rfl) (by kernel_rfl) (fun _ _ _ h => h) (yields_move rfl _ rfl (.pointer (some ⟨kb, 0, none⟩)) (by simp [put_eval, put_size, esz, e0])) hS ?_
  refine wpAnyH_ready (rs := [6]) (by kernel_rfl) (by simp) (AllReadyH.cons rfl (fun K hK => ?_) AllReadyH.nil)
  refine step_call1' rfl 54 8 _ rfl (.pointer (some ⟨kb, 0, none⟩)) (by simp [put_eval, put_size, esz, e0]) framesEnter _ (.int .i64 (PS.length : Nat)) (fun e w' h => h.1) (unhide HFR) (some 9) rfl ?_
  rintro w2 ⟨_, hb2⟩
  have hb2' : Below w.heap.size w w2 := ⟨hb2.os, hb2.tape, hb2.output, hb2.size, hb2.block⟩
  refine hK.out _ _ (by rw [hb2'.cell (p := ⟨kb, 1, none⟩) hkl]; exact unhide HS0) (fun hS2 => ?_)
  clear hK K
  refine takeH (i := 7) (some 10) rfl rfl (by kernel_rfl) (by kernel_rfl) (by kernel_rfl) (fun _ _ _ h => h) (yields_bin rfl .sub 3 _ (.tmp 7) (.tmp 9) rfl (.int .i64 lf) (.int .i64 (PS.length : Nat)) (by simp [put_eval, put_size, esz, e0]) (by simp [put_eval, put_size, esz, e0]) (.int .i64 (lf - (PS.length : Int))) (unhide R2)) hS2 ?_
  refine takeH (i := 8) (some 2) rfl rfl (by kernel_rfl) (by kernel_rfl) (by kernel_rfl) (fun _ _ _ h => h) (yields_assign rfl _ rfl (.int .i64 (lf - (PS.length : Int))) (by simp [put_eval, put_size, esz])) hS2 ?_
  refine wpAnyH_done (by kernel_rfl) ?_ _
  have HB2 := hide hb2'
  rw [unhide HA]
  simp only [Act.put, List.setIfInBounds_toArray, List.set_cons_zero, List.set_cons_succ]
  clear hb2 hb2' hS hS2 HA e0 esz R1 R2 HFR
  go_wp2
  go_ret
  exact ⟨rfl, unhide HB2⟩
end Go.Proofs.YtkokiefclmbgaaaGreatDoor
