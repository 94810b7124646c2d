import Derived.Test.YtkmbleboceedbaaGreatDoorBootsProofG28
/- The program's makeFile: what it stands on. -/
namespace Go.Proofs.YtkmbleboceedbaaGreatDoor
open Go Go.RowKit Go.Maps
set_option linter.unusedVariables false
set_option linter.unusedSimpArgs false

theorem place_idx {xs : List Ino} {i : Nat} {x : Ino} (hinc : xs.Pairwise (fun x y => x.id < y.id)) (hx : xs[i]? = some x) : placeOf xs x.id = i := by
  refine place_some hx (by simp) fun j y hj hy => ?_
  obtain ⟨hi1, hi2⟩ := List.getElem?_eq_some_iff.1 hx
  obtain ⟨hj1, hj2⟩ := List.getElem?_eq_some_iff.1 hy
  have := List.pairwise_iff_getElem.1 hinc j i hj1 hi1 hj
  rw [hj2, hi2] at this
  have hne : y.id ≠ x.id := by omega
  simpa using hne
/-- The place that a path leads to, as it lies. -/
theorem place_at {w : World} {B tb ab am : Nat} {used : Int} {p : PK} {NB MB : List Nat} {V : List Value} {s : ByteArray} {b : Nat} {name : ByteArray} (hr : TreeRep w B tb ab am p.li p.lb used p.xs NB MB V) (hi : PInv p) (he : (walkOf p.xs s).e = 0) (hp : PlaceIs p.xs NB ab s b name) :
    ∃ (m k : Nat) (f : ByteArray → Option Nat) (dvs : List Value), Holds w b 228 dvs ∧ dvs[2]? = some (.map (some m)) ∧ DictAt w m k f ∧ k ≤ p.xs.length + 1 ∧ name.size ≤ 14 ∧ B ≤ m ∧
      ((walkOf p.xs s).n ≠ 0 ∧ (∃ (i : Nat) (x : Ino) (c : Nat), p.xs[i]? = some x ∧ x.id = (walkOf p.xs s).n ∧ NB[i]? = some c ∧ f name = some c) ∨
       (walkOf p.xs s).n = 0 ∧ f name = none ∧ ∃ (pi : Nat) (px : Ino), p.xs[pi]? = some px ∧ px.dir = true ∧ MB[pi]? = some m ∧ px.id = (walkOf p.xs s).dir ∧ name = (walkOf p.xs s).name ∧ k = p.xs.length ∧ f = kidOf p.xs NB px.id) := by
  have hne : p.xs ≠ [] := by obtain ⟨x, hx, _⟩ := hi.root; intro e; rw [e] at hx; cases hx
  have hid : ∀ x ∈ p.xs, 1 ≤ x.id := fun x hx => (hi.ids x hx).1
  obtain ⟨x0, hx0, hx01, hx0d⟩ := hr.root hne
  have hx0l := (List.getElem?_eq_some_iff.1 hx0).1
  obtain ⟨b0, hb0⟩ : ∃ b0, NB[0]? = some b0 := ⟨_, List.getElem?_eq_getElem (by rw [hr.len.1]; exact hx0l)⟩
  rcases hp with ⟨hnm, rfl, rfl⟩ | ⟨⟨a, r, hnm⟩, ⟨i, x, hx, hxi, hb⟩, hxd, rfl⟩
  · have hw : walkOf p.xs s = ⟨0, ByteArray.empty, 1, 0⟩ := by unfold walkOf; rw [hnm]
    rw [hw]
    refine ⟨am, 1, _, _, hr.above, rfl, hr.amap, by omega, by decide, hr.low.2.2.1, .inl ⟨by decide, 0, x0, b0, hx0, hx01, hb0, ?_⟩⟩
    show (if ByteArray.empty.data.toList = [] then NB[0]? else none) = some b0
    rw [if_pos (show ByteArray.empty.data.toList = [] from rfl), hb0]
  · obtain ⟨hok, hn, hdir⟩ := walk_some (xs := p.xs) hnm he
    have hil := (List.getElem?_eq_some_iff.1 hx).1
    obtain ⟨m, hmm⟩ : ∃ m, MB[i]? = some m := ⟨_, List.getElem?_eq_getElem (by rw [hr.len.2]; exact hil)⟩
    have hdx : x.dir = true := by rw [← hxi, dirOf_at hi.incr hx] at hxd; exact hxd
    obtain ⟨v, mv, hnode, hkids, _⟩ := hr.node i x b m hx hb hmm
    obtain ⟨hmv, hdict⟩ := hkids hdx
    subst hmv
    refine ⟨m, p.xs.length, _, _, hnode, rfl, hdict, by omega, nameOk_size hok, (hr.low.2.2.2.2 m (List.mem_of_getElem? hmm)).1, ?_⟩
    rw [hn, ← hxi]
    by_cases q : childOf p.xs x.id (walkOf p.xs s).name = 0
    · refine .inr ⟨q, kid_none hid q, i, x, hx, hdx, hmm, hxi ▸ rfl, rfl, rfl, rfl⟩
    · obtain ⟨j, y, c, h1, h2, h3, h4⟩ := kid_some (NB := NB) hr.len.1 q
      exact .inl ⟨q, j, y, c, h1, h2, h3, h4⟩

/-- Blocks that are neither a tree's nor a node's nor bytes are as they were. -/
def KeepsT (w w' : World) : Prop := ∀ (k : Nat) (t : TypeId) (vs : List Value), Holds w k t vs → t ≠ 163 → t ≠ 228 → t ≠ 5 → Holds w' k t vs
theorem KeepsT.below {w w' : World} (h : Below w.heap.size w w') : KeepsT w w' := fun k t vs hk _ _ _ => hk.below h hk.lt
/-- Write of all of a file's bytes from its head on. -/
theorem write_any (p : PK) (B tb ab am i b q o c1 : Nat) (a : Option Addr) (NB MB : List Nat) (V : List Value) (x : Ino) (L c : List Int) (w : World) (hr : BootRep w B tb ab am p NB MB V) (hi : PInv p) (hx : p.xs[i]? = some x) (hd : x.dir = false) (hb : NB[i]? = some b) (hc : p.cs[i]? = some c) (hL : L.length ≤ 1000000) (hu : usedOf p.cs ≤ 1000000) (hlb : 0 ≤ p.lb ∧ p.lb ≤ 1000000)
    (ha : 0 < L.length → a = some ⟨q, o, none⟩ ∧ q < B) (hv : BView w q o L) (hB : B ≤ w.heap.size) :
    Calls Tryz.prog 64 #[.pointer (some ⟨tb, 0, none⟩), .pointer (some ⟨b, 0, none⟩), .int .i64 0, .slice a L.length c1] w fun e w' => (Below B w w' ∧ KeepsT w w') ∧
      ((0 < L.length ∧ p.lb < (usedOf p.cs : Int) - (c.length : Int) + ((max L.length c.length : Nat) : Int)) ∧ e = errnoRet 12 ∨
       ¬ (0 < L.length ∧ p.lb < (usedOf p.cs : Int) - (c.length : Int) + ((max L.length c.length : Nat) : Int)) ∧ e = .returned .nilIface ∧ ∃ V', BootRep w' B tb ab am (if L.length = 0 then p else {p with cs := p.cs.set i (over c L)}) NB MB V') := by
  by_cases h0 : L.length = 0
  · rw [h0]
    refine (fsWrite_none tb b 0 a c1 w).mono fun e w' h => ?_
    obtain ⟨rfl, rfl⟩ := h
    refine ⟨⟨Below.refl _ _, KeepsT.below (Below.refl _ _)⟩, .inr ⟨by omega, rfl, V, ?_⟩⟩
    rw [if_pos rfl]; exact hr
  · have hpos : 0 < L.length := by omega
    obtain ⟨rfl, hqB⟩ := ha hpos
    have hil := (List.getElem?_eq_some_iff.1 hx).1
    obtain ⟨m, hm⟩ : ∃ m, MB[i]? = some m := ⟨_, List.getElem?_eq_getElem (by rw [hr.tree.len.2]; exact hil)⟩
    obtain ⟨v, mv, hn, _, hvi, hmn⟩ := hr.tree.node i x b m hx hb hm
    rw [hd] at hn
    have hcv := hr.cont i v c hvi hc
    have hcu := used_ge hc
    have hlow := hr.tree.low
    have hbB : B ≤ b := hlow.2.2.2.1 b (List.mem_of_getElem? hb)
    obtain ⟨va, vc, hvs⟩ := hcv.len
    by_cases hf : p.lb < (usedOf p.cs : Int) - (c.length : Int) + ((max L.length c.length : Nat) : Int)
    · refine (fsWrite_full tb ab b p.xs.length p.li (usedOf p.cs) p.lb c.length vc L.length c1 va (some ⟨q, o, none⟩) w hr.tree.tree (by rw [← hvs]; exact hn.cell rfl) hpos (by omega) hL ⟨by omega, by omega, hlb⟩ (by omega)).mono fun e w' h => ?_
      exact ⟨⟨h.2.mono hB, KeepsT.below h.2⟩, .inl ⟨⟨hpos, hf⟩, h.1⟩⟩
    · rcases hcv with ⟨rfl, rfl⟩ | ⟨R, cp, T, rfl, hR, hcp, hcm, hRB⟩
      · refine (fsWrite_new tb ab b q o p.xs.length p.li (usedOf p.cs) p.lb L.length c1 mv L w rfl (by omega) (by omega) (by omega) hv hr.tree.tree hn hpos hL ⟨by omega, by omega, hlb⟩ (by simp at hf; omega)).mono fun e w' h => ?_
        obtain ⟨rfl, h1, h2, R, cp, h3, h4, h5, h6, h7⟩ := h
        have ho : over ([] : List Int) L = L := by unfold over; simp
        refine ⟨⟨h2.below (by omega) hbB hB, fun k t vs hk t1 t2 t3 => holds_block hk (h2.block k hk.lt (holds_apart hk hr.tree.tree t1) (holds_apart hk hn t2))⟩, .inr ⟨fun q => hf q.2, rfl, V.set i (.slice (some ⟨R, 0, none⟩) L.length cp), ?_⟩⟩
        rw [if_neg h0, ho]
        refine hr.wrote hi hx hd hb hc hvi (S := [tb, b]) ?_ h6 (hmn hd) (FrameS.ofK h2) (fun k hk => ?_) (.inr ⟨R, cp, List.replicate (cp - L.length) 0, rfl, h7, by simp; omega, h5, by omega⟩) (fun R' hR' => ?_)
        · rw [show (usedOf p.cs : Int) - (([] : List Int).length : Int) + (L.length : Int) = (usedOf p.cs : Int) + (L.length : Int) by simp]; exact h1
        · simp at hk; rcases hk with q | q
          · exact .inl q
          · exact .inr (.inl q)
        · have : R = R' := by simpa [blockOf] using hR'
          subst this; exact .inl h3
      · refine (fsWrite_old tb ab b q o R p.xs.length p.li (usedOf p.cs) p.lb L.length c1 cp mv L c T w rfl (by omega) (by omega) (by omega) (by omega) hv hr.tree.tree hn hR hcp hcm (by omega) hpos hL ⟨by omega, by omega, hlb⟩ (by omega)).mono fun e w' h => ?_
        obtain ⟨rfl, h1, h2, R', cp', T', h3, h4, h5, h6, h7⟩ := h
        refine ⟨⟨h2.below (fun k hk => by simp at hk; rcases hk with rfl | rfl | rfl <;> omega) hB, fun k t vs hk t1 t2 t3 => holds_block hk (h2.block k hk.lt (by simp [holds_apart hk hr.tree.tree t1, holds_apart hk hn t2, holds_apart hk hR t3]))⟩, .inr ⟨fun q => hf q.2, rfl, V.set i (.slice (some ⟨R', 0, none⟩) (over c L).length cp'), ?_⟩⟩
        rw [if_neg h0]
        refine hr.wrote hi hx hd hb hc hvi (S := [tb, b, R]) ?_ h6 (hmn hd) h2 (fun k hk => ?_) (.inr ⟨R', cp', T', rfl, h7, h4, h5, by rcases h3 with q | q <;> omega⟩) (fun R'' hR'' => ?_)
        · rw [over_len (M := max L.length c.length) rfl, show (usedOf p.cs : Int) - (c.length : Int) + ((max L.length c.length : Nat) : Int) = (usedOf p.cs : Int) + ((L.length - c.length : Nat) : Int) by omega]; exact h1
        · simp at hk; rcases hk with q | q | q
          · exact .inl q
          · exact .inr (.inl q)
          · exact .inr (.inr (.inr (by rw [q]; rfl)))
        · have : R' = R'' := by simpa [blockOf] using hR''
          subst this
          rcases h3 with q | q
          · exact .inr (by rw [q]; rfl)
          · exact .inl q
/-- What a file's opening leaves. -/
theorem opened_old {p : PK} (hi : PInv p) {s : ByteArray} (h0 : (walkOf p.xs s).e = 0) {i : Nat} {x : Ino} (hn : (walkOf p.xs s).n ≠ 0) (hx : p.xs[i]? = some x) (hxi : x.id = (walkOf p.xs s).n) : p.opened s = (p, x.id) ∧ dirOf p.xs x.id = x.dir ∧ (placeOf p.xs x.id).toNat = i ∧ p.cs[i]? = some (p.old x.id) := by
  have hp := place_idx hi.incr hx
  have hil := (List.getElem?_eq_some_iff.1 hx).1
  refine ⟨by unfold PK.opened; rw [if_neg hn, hxi], dirOf_at hi.incr hx, by rw [hp]; rfl, ?_⟩
  unfold PK.old
  rw [hp, List.getD_eq_getElem?_getD, show ((i : Int)).toNat = i from rfl, List.getElem?_eq_getElem (by rw [hi.len]; exact hil)]
  rfl
theorem opened_new {p : PK} (hi : PInv p) {s : ByteArray} (h0 : (walkOf p.xs s).e = 0) (hn : (walkOf p.xs s).n = 0) : p.opened s = (p.add (walkOf p.xs s).dir (walkOf p.xs s).name false, p.last + 1) ∧ dirOf (p.add (walkOf p.xs s).dir (walkOf p.xs s).name false).xs (p.last + 1) = false ∧ (placeOf (p.add (walkOf p.xs s).dir (walkOf p.xs s).name false).xs (p.last + 1)).toNat = p.xs.length ∧ (p.add (walkOf p.xs s).dir (walkOf p.xs s).name false).old (p.last + 1) = [] := by
  have he : p.opened s = (p.add (walkOf p.xs s).dir (walkOf p.xs s).name false, p.last + 1) := by unfold PK.opened; rw [if_pos hn]
  have hio := hi.opened s h0
  rw [he] at hio
  have hx : (p.add (walkOf p.xs s).dir (walkOf p.xs s).name false).xs[p.xs.length]? = some (newIno (p.last + 1) (walkOf p.xs s).dir (walkOf p.xs s).name false) := by
    show (p.xs ++ [newIno (p.last + 1) (walkOf p.xs s).dir (walkOf p.xs s).name false])[p.xs.length]? = _
    rw [List.getElem?_append_right (Nat.le_refl _)]; simp
  have hp := place_idx hio.incr hx
  have hp' : placeOf (p.add (walkOf p.xs s).dir (walkOf p.xs s).name false).xs (p.last + 1) = (p.xs.length : Int) := hp
  refine ⟨he, dirOf_at hio.incr hx, by rw [hp']; rfl, ?_⟩
  unfold PK.old
  rw [hp', show ((p.xs.length : Int)).toNat = p.xs.length from rfl]
  show (p.cs ++ [[]]).getD p.xs.length [] = []
  rw [List.getD_eq_getElem?_getD, ← hi.len, List.getElem?_append_right (Nat.le_refl _)]
  simp
/-- A tree in which a file is open. -/
def FileDone (p : PK) (s : ByteArray) (B tb ab am : Nat) (w : World) (b : Nat) : Prop := ∃ (NB MB : List Nat) (V : List Value) (i : Nat) (x : Ino), BootRep w B tb ab am (p.opened s).1 NB MB V ∧ PInv (p.opened s).1 ∧ (p.opened s).1.xs[i]? = some x ∧ x.dir = false ∧ NB[i]? = some b ∧ (p.opened s).1.cs[i]? = some ((p.opened s).1.old (p.opened s).2) ∧ (placeOf (p.opened s).1.xs (p.opened s).2).toNat = i ∧ usedOf (p.opened s).1.cs = usedOf p.cs ∧ (p.opened s).1.lb = p.lb
theorem done_old {p : PK} {s : ByteArray} {B tb ab am : Nat} {w : World} {NB MB : List Nat} {V : List Value} (hr : BootRep w B tb ab am p NB MB V) (hi : PInv p) (h0 : (walkOf p.xs s).e = 0) {i b : Nat} {x : Ino} (hn : (walkOf p.xs s).n ≠ 0) (hx : p.xs[i]? = some x) (hxi : x.id = (walkOf p.xs s).n) (hd : x.dir = false) (hb : NB[i]? = some b) : FileDone p s B tb ab am w b := by
  obtain ⟨h1, h2, h3, h4⟩ := opened_old hi h0 hn hx hxi
  unfold FileDone
  rw [h1]
  exact ⟨NB, MB, V, i, x, hr, hi, hx, hd, hb, h4, h3, rfl, rfl⟩
theorem done_new {p : PK} {s : ByteArray} {B tb ab am : Nat} {w w' : World} {NB MB : List Nat} {V : List Value} (hr : BootRep w B tb ab am p NB MB V) (hi : PInv p) (h0 : (walkOf p.xs s).e = 0) (hn : (walkOf p.xs s).n = 0) {m b : Nat} {pi : Nat} {px : Ino} {name : ByteArray} (hpx : p.xs[pi]? = some px) (hpd : px.dir = true) (hpm : MB[pi]? = some m) (hpi : px.id = (walkOf p.xs s).dir) (hnm : name = (walkOf p.xs s).name) (hc : kidOf p.xs NB px.id name = none)
    (hb : w.heap.size ≤ b) (hbl : b < w'.heap.size) (hnode : Holds w' b 228 [.bool false, .slice none 0 0, .map none, .bool false, .int .i64 0]) (hp : PutPost tb m p.xs.length ab p.xs.length p.li (usedOf p.cs) p.lb (kidOf p.xs NB px.id) name b w w') (hB : B ≤ w.heap.size) : FileDone p s B tb ab am w' b := by
  obtain ⟨h1, h2, h3, h4⟩ := opened_new hi h0 hn
  have hio := hi.opened s h0
  unfold FileDone
  rw [h1] at hio ⊢
  have hl1 := hr.tree.len.1
  have hmp : IsMap w m := by
    obtain ⟨pb, hpb⟩ : ∃ pb, NB[pi]? = some pb := ⟨_, List.getElem?_eq_getElem (by rw [hl1]; exact (List.getElem?_eq_some_iff.1 hpx).1)⟩
    obtain ⟨_, _, _, q, _⟩ := hr.tree.node pi px pb m hpx hpb hpm
    exact (q hpd).2.isMap
  have ht : TreeRep w' B tb ab am p.li p.lb (usedOf p.cs) (p.xs ++ [newIno (p.last + 1) px.id name false]) (NB ++ [b]) (MB ++ [b]) (V ++ [.slice none 0 0]) := by
    refine hr.tree.added hpx hpd hpm hi.incr hc hp.1 hp.2.1 hnode (fun q => by cases q) (fun _ => rfl) hb hb hbl hp.2.2 (fun z hz => ?_) ?_ hB
    · have := (hi.down z hz).2; have := (hi.ids z hz).2; omega
    · have := (hi.ids px (List.mem_of_getElem? hpx)).2; omega
  rw [hpi, hnm] at ht
  have hg := hr.grew (q := p.add (walkOf p.xs s).dir (walkOf p.xs s).name false) hi rfl hp.2.2 hmp ht
  refine ⟨NB ++ [b], MB ++ [b], V ++ [.slice none 0 0], p.xs.length, newIno (p.last + 1) (walkOf p.xs s).dir (walkOf p.xs s).name false, hg, hio, ?_, rfl, ?_, ?_, h3, used_snoc _, rfl⟩
  · show (p.xs ++ [newIno (p.last + 1) (walkOf p.xs s).dir (walkOf p.xs s).name false])[p.xs.length]? = _
    rw [List.getElem?_append_right (Nat.le_refl _)]; simp
  · rw [← hl1, List.getElem?_append_right (Nat.le_refl _)]; simp
  · rw [h4]
    show (p.cs ++ [[]])[p.xs.length]? = some []
    rw [← hi.len, List.getElem?_append_right (Nat.le_refl _)]; simp
end Go.Proofs.YtkmbleboceedbaaGreatDoor
