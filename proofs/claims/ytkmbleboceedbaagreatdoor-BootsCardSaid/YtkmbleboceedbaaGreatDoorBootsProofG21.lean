import Derived.Test.YtkmbleboceedbaaGreatDoorBootsProofG03
import Derived.Test.YtkmbleboceedbaaGreatDoorBootsProofG20
import Derived.Maps.OwnSet
import Derived.Maps.OwnOps
/- The program's tree of files as it lies. -/
namespace Go.Proofs.YtkmbleboceedbaaGreatDoor
open Go Go.RowKit Go.Maps
set_option linter.unusedVariables false
set_option linter.unusedSimpArgs false

/-- How a pointer to a node reads: by its block's number. -/
def ptrElem : Value → Option (DataW Unit × List MemPlace)
  | .pointer none => some (.nil, [])
  | .pointer (some ⟨b, 0, none⟩) => some (.lit (.int .i64 b), [])
  | _ => none
def nodeDatum : Option Nat → DataW Unit
  | some b => .lit (.int .i64 b)
  | none => .nil
def nodePtr : Option Nat → Value
  | some b => .pointer (some ⟨b, 0, none⟩)
  | none => .pointer none
theorem ptrElem_inv {v : Value} {o : Option Nat} {ps : List MemPlace} (h : ptrElem v = some (nodeDatum o, ps)) : v = nodePtr o := by
  unfold ptrElem at h
  split at h
  · cases o with
    | none => rfl
    | some b => simp [nodeDatum] at h
  · rename_i b
    cases o with
    | none => simp [nodeDatum] at h
    | some c =>
      simp [nodeDatum] at h
      have e : b = c := by omega
      subst e
      rfl
  · cases h
/-- Each key of such a map is a name with a node. -/
def KeysOk (D : DataW Unit) (f : ByteArray → Option Nat) : Prop := ∀ kl, Maps.has D kl = true → ∃ (s : ByteArray) (b : Nat), kl = .string s.data.toList ∧ f s = some b
/-- A map from names to nodes. -/
def DictAt (w : World) (m n : Nat) (f : ByteArray → Option Nat) : Prop :=
  ∃ D : DataW Unit, w.ownsMap Tryz.prog 9 ptrElem m n D ∧ (∀ s : ByteArray, D.atKey (.string s.data.toList) .nil = nodeDatum (f s)) ∧ KeysOk D f
theorem strKeyed : Keyed Tryz.prog 9 := string_keyed Tryz.underlying9
theorem ptrZero (w : World) : (zeroValue 160).run Tryz.prog w = .ok (.pointer none) w := by kernel_rfl
theorem DictAt.look {w : World} {m n : Nat} {f : ByteArray → Option Nat} (h : DictAt w m n f) (s : ByteArray) (hs : s.size ≤ maxLen) : (Instr.lookup 226 (.map (some m)) (.string s) false).run Tryz.prog w = .ok (nodePtr (f s)) w := by
  obtain ⟨D, hD, hf, _⟩ := h
  obtain ⟨v, ps, hrun, hv⟩ := hD.lookup strKeyed Tryz.underlying226 (ptrZero w) (show ptrElem (.pointer none) = some (.nil, []) from rfl) (Go.WideMaps.keyOf_string_mk Tryz.underlying9 hs)
  rw [hf s] at hv
  rw [← ptrElem_inv hv]
  exact hrun
theorem DictAt.kept {w w' : World} {m n : Nat} {f : ByteArray → Option Nat} {row : Option Nat} (h : DictAt w m n f) (hg : w.grownBy w' row) (hne : some m ≠ row) : DictAt w' m n f := by
  obtain ⟨D, hD, hf⟩ := h
  exact ⟨D, hD.kept hg hne, hf⟩
/-- The child of a directory, by its name: its node. -/
def kidOf (xs : List Ino) (NB : List Nat) (d : Int) (name : ByteArray) : Option Nat := match xs.findIdx? (isChild d name) with | some i => NB[i]? | none => none
structure TreeRep (w : World) (B tb ab am : Nat) (li lb used : Int) (xs : List Ino) (NB MB : List Nat) (V : List Value) : Prop where
  tree : Holds w tb 163 [.pointer (some ⟨ab, 0, none⟩), .int .i64 xs.length, .int .i64 li, .int .i64 used, .int .i64 lb]
  above : Holds w ab 228 [.bool true, .slice none 0 0, .map (some am), .bool false, .int .i64 0]
  amap : DictAt w am 1 (fun s => if s.data.toList = [] then NB[0]? else none)
  len : NB.length = xs.length ∧ MB.length = xs.length
  node : ∀ (i : Nat) (x : Ino) (b m : Nat), xs[i]? = some x → NB[i]? = some b → MB[i]? = some m → ∃ v mv, Holds w b 228 [.bool x.dir, v, mv, .bool false, .int .i64 0] ∧ (x.dir = true → mv = .map (some m) ∧ DictAt w m xs.length (kidOf xs NB x.id)) ∧ V[i]? = some v ∧ (x.dir = false → mv = .map none)
  root : xs ≠ [] → ∃ x, xs[0]? = some x ∧ x.id = 1 ∧ x.dir = true
  vlen : V.length = xs.length
  apart : MB.Nodup ∧ am ∉ MB ∧ NB.Nodup ∧ ab ∉ NB
  low : B ≤ tb ∧ B ≤ ab ∧ B ≤ am ∧ (∀ b ∈ NB, B ≤ b) ∧ ∀ m ∈ MB, B ≤ m ∧ m < w.heap.size
/-- Where the node with this number lies. -/
def NodeIs (xs : List Ino) (NB : List Nat) (id : Int) (b : Nat) : Prop := ∃ (i : Nat) (x : Ino), xs[i]? = some x ∧ x.id = id ∧ NB[i]? = some b
theorem kid_some {xs : List Ino} {NB : List Nat} {d : Int} {name : ByteArray} (hl : NB.length = xs.length) (h : childOf xs d name ≠ 0) : ∃ (i : Nat) (x : Ino) (b : Nat), xs[i]? = some x ∧ x.id = childOf xs d name ∧ NB[i]? = some b ∧ kidOf xs NB d name = some b := by
  unfold childOf at h ⊢
  cases hf : xs.find? (isChild d name) with
  | none => rw [hf] at h; exact absurd rfl h
  | some x =>
    obtain ⟨he, i, hi, hx, hlt⟩ := List.find?_eq_some_iff_getElem.1 hf
    have hfi : xs.findIdx? (isChild d name) = some i := by
      rw [List.findIdx?_eq_some_iff_getElem]
      exact ⟨hi, by rw [hx]; exact he, fun j hj => by simpa using hlt j hj⟩
    have hib : i < NB.length := by omega
    refine ⟨i, x, NB[i], by rw [List.getElem?_eq_getElem hi, hx], rfl, List.getElem?_eq_getElem hib, ?_⟩
    unfold kidOf
    rw [hfi]
    exact List.getElem?_eq_getElem hib
theorem kid_none {xs : List Ino} {NB : List Nat} {d : Int} {name : ByteArray} (hid : ∀ x ∈ xs, 1 ≤ x.id) (h : childOf xs d name = 0) : kidOf xs NB d name = none := by
  have hno := child_zero hid h
  unfold kidOf
  cases hf : xs.findIdx? (isChild d name) with
  | none => rfl
  | some i =>
    obtain ⟨hi, he, _⟩ := List.findIdx?_eq_some_iff_getElem.1 hf
    rw [hno _ (List.getElem_mem hi)] at he
    cases he
theorem dirOf_at {xs : List Ino} {i : Nat} {x : Ino} (hinc : xs.Pairwise (fun x y => x.id < y.id)) (hx : xs[i]? = some x) : dirOf xs x.id = x.dir := by
  unfold dirOf
  cases hf : xs.find? (fun y => y.id == x.id) with
  | none =>
    have := List.find?_eq_none.1 hf x (List.mem_of_getElem? hx)
    simp at this
  | some y =>
    obtain ⟨he, j, hj, hy, _⟩ := List.find?_eq_some_iff_getElem.1 hf
    have he' : y.id = x.id := by simpa using he
    obtain ⟨hi, hxi⟩ := List.getElem?_eq_some_iff.1 hx
    have hp := List.pairwise_iff_getElem.1 hinc
    have hij : i = j := by
      rcases Nat.lt_trichotomy i j with h | h | h
      · have := hp i j hi hj h; rw [hxi, hy] at this; omega
      · exact h
      · have := hp j i hj hi h; rw [hxi, hy] at this; omega
    subst hij
    rw [← hxi, ← hy]
end Go.Proofs.YtkmbleboceedbaaGreatDoor

/- The program's Follow. -/
namespace Go.Proofs.YtkmbleboceedbaaGreatDoor
open Go Go.RowKit Go.Maps
set_option linter.unusedVariables false
set_option linter.unusedSimpArgs false

def placeErr (e : Int) : Ending := .returned (.tuple #[.agg #[.pointer none, .string ByteArray.empty], .iface 45 (.int .i64 e)])
def placeAt (b : Nat) (name : ByteArray) : Ending := .returned (.tuple #[.agg #[.pointer (some ⟨b, 0, none⟩), .string name], .nilIface])
/-- Where a path leads to. -/
def PlaceIs (xs : List Ino) (NB : List Nat) (ab : Nat) (s : ByteArray) (b : Nat) (name : ByteArray) : Prop :=
  namesOf s = some [] ∧ b = ab ∧ name = ByteArray.empty ∨ (∃ a r, namesOf s = some (a :: r)) ∧ NodeIs xs NB (walkOf xs s).dir b ∧ dirOf xs (walkOf xs s).dir = true ∧ name = (walkOf xs s).name
def FollowPost (xs : List Ino) (NB : List Nat) (ab : Nat) (s : ByteArray) (w : World) (e : Ending) (w' : World) : Prop :=
  Below w.heap.size w w' ∧ ((walkOf xs s).e ≠ 0 ∧ e = placeErr (walkOf xs s).e ∨ (walkOf xs s).e = 0 ∧ ∃ b name, PlaceIs xs NB ab s b name ∧ e = placeAt b name)
theorem TreeRep.below {w w' : World} {B tb ab am : Nat} {li lb used : Int} {xs : List Ino} {NB MB : List Nat} {V : List Value} (h : TreeRep w B tb ab am li lb used xs NB MB V) (hb : Below w.heap.size w w') : TreeRep w' B tb ab am li lb used xs NB MB V := by
  have hg : w.grownBy w' none := ⟨hb.os, hb.tape, hb.output, hb.size, fun k hk _ => hb.block k hk⟩
  refine ⟨h.tree.grown hg (by simp), h.above.grown hg (by simp), h.amap.kept hg (by simp), h.len, fun i x b m hx hb hm => ?_, h.root, h.vlen, h.apart, h.low.1, h.low.2.1, h.low.2.2.1, h.low.2.2.2.1, fun m hm => ⟨(h.low.2.2.2.2 m hm).1, by have := (h.low.2.2.2.2 m hm).2; have := hb.size; omega⟩⟩
  obtain ⟨v, mv, h1, h2, h3⟩ := h.node i x b m hx hb hm
  exact ⟨v, mv, h1.grown hg (by simp), fun hd => ⟨(h2 hd).1, (h2 hd).2.kept hg (by simp)⟩, h3⟩

theorem names_small {s : ByteArray} {l : List ByteArray} (h : namesOf s = some l) {a : ByteArray} (ha : a ∈ l) : a.size ≤ maxLen := by
  unfold namesOf at h
  split at h
  · cases h
  · split at h
    · obtain rfl := Option.some.inj h
      simp at ha
    · split at h
      · rename_i hall
        rw [← Option.some.inj h] at ha
        have := List.all_eq_true.1 hall a ha
        unfold nameOk at this
        simp only [Bool.and_eq_true, decide_eq_true_eq] at this
        have := this.1.1.1.2
        unfold maxLen
        omega
      · cases h
theorem holds2_cells {W : World} {b : Nat} {t : TypeId} {x y : Value} (h : Holds W b t [x, y]) (u v : Value) : ((W.setCell ⟨b, 0, none⟩ u).setCell ⟨b, 1, none⟩ v).cell? ⟨b, 0, none⟩ = some u ∧ ((W.setCell ⟨b, 0, none⟩ u).setCell ⟨b, 1, none⟩ v).cell? ⟨b, 1, none⟩ = some v := by
  have h2 := (h.set 0 u).set 1 v
  exact ⟨h2.cell (j := 0) rfl, h2.cell (j := 1) rfl⟩
theorem place_below {w w1 : World} (h : Below w.heap.size w w1) (u v : Value) : Below w.heap.size w ((w1.setCell ⟨w.heap.size, 0, none⟩ u).setCell ⟨w.heap.size, 1, none⟩ v) := (h.setCell (p := ⟨w.heap.size, 0, none⟩) (Nat.le_refl _) u).setCell (p := ⟨w.heap.size, 1, none⟩) (Nat.le_refl _) v
set_option maxRecDepth 100000 in
set_option maxHeartbeats 8000000 in
theorem fsFollow_any (B tb ab am : Nat) (li lb used : Int) (xs : List Ino) (NB MB : List Nat) (V : List Value) (s : ByteArray) (m : Int) (w : World) (hr : TreeRep w B tb ab am li lb used xs NB MB V) (hne : namesOf s ≠ some [] → xs ≠ []) (hid : ∀ x ∈ xs, 1 ≤ x.id) (hinc : xs.Pairwise (fun x y => x.id < y.id)) (hs : s.size ≤ maxLen) (hm : w.cell? ⟨2, 0, none⟩ = some (.int .i64 m)) (hml : 2 < w.heap.size) :
    Calls Tryz.prog 62 #[.pointer (some ⟨tb, 0, none⟩), .string s] w (FollowPost xs NB ab s w) := by
  obtain ⟨W0, hW0⟩ : ∃ W0, W0 = w.alloc (Obj.cells #[.pointer none, .string ⟨#[]⟩] 166) := ⟨_, rfl⟩
  have hb0 : Below w.heap.size w W0 := by rw [hW0]; exact (Below.refl _ _).alloc (Nat.le_refl _) _
  have hp0 : Holds W0 w.heap.size 166 [.pointer none, .string ⟨#[]⟩] := by rw [hW0]; exact Holds.new w 166 _
  have HNM := hide (fsNames_any s m W0 hs (by rw [hb0.cell (p := ⟨2, 0, none⟩) hml]; exact hm))
  have HR := hide hr
  have HID := hide hid
  have HNE := hide hne
  clear hne
  have HINC := hide hinc
  have HB0 := hide hb0
  have HP0 := hide hp0
  have HW0 := hide hW0
  clear hr hid hinc hb0 hp0 hW0 hm
  go_enter Tryz.func62, Tryz.ntmps62
  go_upto_region 1 with fail
  rw [← unhide HW0]
  go_wp2_with fail
  refine (unhide HNM).mono ?_
  rintro e w1 ⟨hb1, (⟨hno, rfl⟩ | ⟨l, hl, hl100, rfl, hrow⟩)⟩
  · have hp1 := (unhide HP0).below hb1 (unhide HP0).lt
    have x0 := hp1.cell (j := 0) rfl
    have x1 := hp1.cell (j := 1) rfl
    have f0 := hp1.frozen 0
    have f1 := hp1.frozen 1
    have HWK := hide (show walkOf xs s = walkErr 8 by unfold walkOf; rw [hno])
    have HB1 := hide ((unhide HB0).trans (hb1.mono (unhide HB0).size))
    have hp1' := hp1
    clear hno hb1 hp1 HNM
    have hz := holds2_cells hp1' (.pointer none) (.string ⟨#[]⟩)
    have d0 := hz.1
    have d1 := hz.2
    have HBZ := hide (place_below (unhide HB1) (.pointer none) (.string ⟨#[]⟩))
    clear hz hp1'
    go_wp2
    exact bodyPost_ret (v := .tuple #[.agg #[.pointer none, .string ⟨#[]⟩], .iface 45 (.int .i64 8)]) (by simp [results, Tryz.results62, go_sem, d0, d1]) rfl ⟨unhide HBZ, .inl (by rw [unhide HWK]; exact ⟨show (8 : Int) ≠ 0 by decide, rfl⟩)⟩
  · have HB1 := hide ((unhide HB0).trans (hb1.mono (unhide HB0).size))
    have HR1 := hide ((unhide HR).below (unhide HB1))
    have hp1 := (unhide HP0).below hb1 (unhide HP0).lt
    have HP1 := hide hp1
    have HROW := hide hrow
    have HL := hide hl
    obtain ⟨RB, hRB⟩ : ∃ RB, RB = W0.heap.size := ⟨_, rfl⟩
    rw [← hRB] at HROW ⊢
    have t0 : w1.cell? ⟨tb, 0, none⟩ = some (.pointer (some ⟨ab, 0, none⟩)) := (unhide HR1).tree.cell rfl
    have k1 : (l.length : Int) + 1 - 1 = (l.length : Int) := by omega
    have k2 : (0 : Int) ≤ (l.length : Int) := by omega
    clear hb1 hp1 hrow hl HNM hRB
    have q0 : w1.cell? ⟨w.heap.size, 0, none⟩ = some (.pointer none) := (unhide HP1).cell (j := 0) rfl
    have q1 : w1.cell? ⟨w.heap.size, 1, none⟩ = some (.string ⟨#[]⟩) := (unhide HP1).cell (j := 1) rfl
    have r0 := (unhide HP1).frozen 0
    have r1 := (unhide HP1).frozen 1
    go_wp2
    go_loop [9, 33] (fun dv i => ∃ (k d : Nat), k ≤ l.length ∧ i = .int .i64 k ∧ dv = .pointer (some ⟨d, 0, none⟩) ∧ Hid (k = 0 ∧ d = ab ∨ 1 ≤ k ∧ ∃ id, NodeIs xs NB id d ∧ dirOf xs id = true ∧ walkOf xs s = follow xs id (l.drop (k - 1)))) (fun _ i => l.length - (intOf i).toNat)
    case atStart => exact ⟨0, ab, by omega, rfl, rfl, hide (.inl ⟨rfl, rfl⟩)⟩
    case round =>
      obtain ⟨k, d, hk, rfl, rfl, HD⟩ := hrel
      by_cases hlt : k < l.length
      · have hk0 : (0 : Int) ≤ (k : Int) := by omega
        have hk1 : (k : Int) < (l.length : Int) := by omega
        rcases unhide HD with ⟨rfl, rfl⟩ | ⟨hk2, id, ⟨i, x, hx, hxi, hb⟩, hdir, hw⟩
        · -- the root
          have c0 : w1.cell? ⟨RB, 0, none⟩ = some (.string ByteArray.empty) := (unhide HROW).cell (j := 0) rfl
          obtain ⟨x, hx, hxi, hxd⟩ := (unhide HR1).root ((unhide HNE) (by rw [unhide HL]; intro h; injection h with h; rw [h] at hlt; simp at hlt))
          have hxl := (List.getElem?_eq_some_iff.1 hx).1
          obtain ⟨b, hb⟩ : ∃ b, NB[0]? = some b := ⟨_, List.getElem?_eq_getElem (by rw [(unhide HR1).len.1]; exact hxl)⟩
          obtain ⟨mm, hmm⟩ : ∃ mm, MB[0]? = some mm := ⟨_, List.getElem?_eq_getElem (by rw [(unhide HR1).len.2]; exact hxl)⟩
          have a2 : w1.cell? ⟨d, 2, none⟩ = some (.map (some am)) := (unhide HR1).above.cell rfl
          have hlk := (unhide HR1).amap.look ByteArray.empty (by decide)
          rw [if_pos (show ByteArray.empty.data.toList = [] from rfl), hb] at hlk
          obtain ⟨v, mv, hnode, _⟩ := (unhide HR1).node 0 x b mm hx hb hmm
          rw [hxd] at hnode
          have n0 : w1.cell? ⟨b, 0, none⟩ = some (.bool true) := hnode.cell rfl
          have HNX := hide (show NodeIs xs NB 1 b ∧ dirOf xs 1 = true ∧ walkOf xs s = follow xs 1 (l.drop (0 + 1 - 1)) from by
            refine ⟨⟨0, x, hx, hxi, hb⟩, ?_, ?_⟩
            · have := dirOf_at (unhide HINC) hx
              rw [hxi, hxd] at this; exact this
            · unfold walkOf
              rw [unhide HL]
              cases l with
              | nil => simp at hlt
              | cons a r => rfl)
          unfold nodePtr at hlk
          clear hx hxi hxd hxl hb hmm hnode
          go_wp2
          go_round
          case rel => exact ⟨1, b, by omega, rfl, rfl, hide (.inr ⟨Nat.le_refl 1, 1, unhide HNX⟩)⟩
          case measure => simp [intOf]; omega
        · -- a name
          obtain ⟨a, ha⟩ : ∃ a, l[k - 1]? = some a := ⟨_, List.getElem?_eq_getElem (by omega)⟩
          have c0 : w1.cell? ⟨RB, k, none⟩ = some (.string a) := (unhide HROW).cell (by
            rw [show k = (k - 1) + 1 by omega]
            show (strsRow l)[k - 1]? = _
            simp [strsRow, ha])
          obtain ⟨a', b', r, ha', hd1, hd2⟩ := drop_two (l := l) (k := k - 1) (by omega)
          rw [ha] at ha'
          obtain rfl := Option.some.inj ha'
          rw [show k - 1 + 1 = k by omega] at hd2
          rw [hd1] at hw
          unfold follow at hw
          have hxl := (List.getElem?_eq_some_iff.1 hx).1
          obtain ⟨mm, hmm⟩ : ∃ mm, MB[i]? = some mm := ⟨_, List.getElem?_eq_getElem (by rw [(unhide HR1).len.2]; exact hxl)⟩
          obtain ⟨v, mv, hnode, hkids, _⟩ := (unhide HR1).node i x d mm hx hb hmm
          have hxd : x.dir = true := by rw [← dirOf_at (unhide HINC) hx, hxi]; exact hdir
          obtain ⟨rfl, hdict⟩ := hkids hxd
          rw [hxi] at hdict
          have n2 : w1.cell? ⟨d, 2, none⟩ = some (.map (some mm)) := hnode.cell rfl
          have hlk := hdict.look a (names_small (unhide HL) (List.mem_of_getElem? ha))
          by_cases hz : childOf xs id a = 0
          · rw [kid_none (unhide HID) hz] at hlk
            unfold nodePtr at hlk
            rw [if_pos hz] at hw
            have HWK := hide hw
            obtain ⟨d0, d1⟩ := holds2_cells (unhide HP1) (.pointer none) (.string ⟨#[]⟩)
            have HBZ := hide (place_below (unhide HB1) (.pointer none) (.string ⟨#[]⟩))
            clear hx hxi hb hdir hw ha hd1 hd2 hxl hmm hnode hkids hxd hdict hz
            go_wp2
            exact bodyPost_ret (v := .tuple #[.agg #[.pointer none, .string ⟨#[]⟩], .iface 45 (.int .i64 9)]) (by simp [results, Tryz.results62, go_sem, d0, d1]) rfl ⟨unhide HBZ, .inl (by rw [unhide HWK]; exact ⟨show (9 : Int) ≠ 0 by decide, rfl⟩)⟩
          · obtain ⟨i2, x2, b2, hx2, hxi2, hb2, hk2'⟩ := kid_some (NB := NB) (unhide HR1).len.1 hz
            rw [hk2'] at hlk
            unfold nodePtr at hlk
            rw [if_neg hz] at hw
            have hxl2 := (List.getElem?_eq_some_iff.1 hx2).1
            obtain ⟨m2, hm2⟩ : ∃ m2, MB[i2]? = some m2 := ⟨_, List.getElem?_eq_getElem (by rw [(unhide HR1).len.2]; exact hxl2)⟩
            obtain ⟨v2, mv2, hnode2, _⟩ := (unhide HR1).node i2 x2 b2 m2 hx2 hb2 hm2
            have hdi2 := dirOf_at (unhide HINC) hx2
            rw [hxi2] at hdi2
            have n0 : w1.cell? ⟨b2, 0, none⟩ = some (.bool x2.dir) := hnode2.cell rfl
            cases hdd : x2.dir with
            | false =>
              rw [hdd] at n0 hdi2
              rw [if_neg (by rw [hdi2]; decide)] at hw
              have HWK := hide hw
              obtain ⟨d0, d1⟩ := holds2_cells (unhide HP1) (.pointer none) (.string ⟨#[]⟩)
              have HBZ := hide (place_below (unhide HB1) (.pointer none) (.string ⟨#[]⟩))
              clear hx hxi hb hdir hw ha hd1 hd2 hxl hmm hnode hkids hxd hdict hz hx2 hxi2 hb2 hk2' hxl2 hm2 hnode2 hdi2 hdd
              go_wp2
              exact bodyPost_ret (v := .tuple #[.agg #[.pointer none, .string ⟨#[]⟩], .iface 45 (.int .i64 11)]) (by simp [results, Tryz.results62, go_sem, d0, d1]) rfl ⟨unhide HBZ, .inl (by rw [unhide HWK]; exact ⟨show (11 : Int) ≠ 0 by decide, rfl⟩)⟩
            | true =>
              rw [hdd] at n0 hdi2
              rw [if_pos hdi2, ← hd2] at hw
              have HNX := hide (show 1 ≤ k + 1 ∧ ∃ id, NodeIs xs NB id b2 ∧ dirOf xs id = true ∧ walkOf xs s = follow xs id (l.drop (k + 1 - 1)) from ⟨by omega, childOf xs id a, ⟨i2, x2, hx2, hxi2, hb2⟩, hdi2, hw⟩)
              clear hx hxi hb hdir hw ha hd1 hd2 hxl hmm hnode hkids hxd hdict hz hx2 hxi2 hb2 hk2' hxl2 hm2 hnode2 hdi2 hdd
              go_wp2
              go_round
              case rel => exact ⟨k + 1, b2, by omega, by go_num, rfl, hide (.inr (unhide HNX))⟩
              case measure => simp [intOf]; omega
      · have hke : k = l.length := by omega
        subst hke
        obtain ⟨NA, hNA, HPI⟩ : ∃ NA, w1.cell? ⟨RB, l.length, none⟩ = some (.string NA) ∧ Hid ((walkOf xs s).e = 0 ∧ PlaceIs xs NB ab s d NA) := by
          rcases unhide HD with ⟨h0, rfl⟩ | ⟨hk2, id, hnd, hdir, hw⟩
          · have hl0 : l = [] := List.eq_nil_of_length_eq_zero h0
            subst hl0
            refine ⟨ByteArray.empty, (unhide HROW).cell (j := 0) rfl, hide ⟨?_, .inl ⟨unhide HL, rfl, rfl⟩⟩⟩
            unfold walkOf
            rw [unhide HL]
          · obtain ⟨a, ha⟩ : ∃ a, l[l.length - 1]? = some a := ⟨_, List.getElem?_eq_getElem (by omega)⟩
            have hdr : l.drop (l.length - 1) = [a] := by
              have hkl : l.length - 1 < l.length := by omega
              rw [List.drop_eq_getElem_cons hkl, List.drop_eq_nil_of_le (by omega)]
              rw [List.getElem?_eq_getElem hkl] at ha
              rw [Option.some.inj ha]
            rw [hdr] at hw
            have hw' : walkOf xs s = ⟨id, a, childOf xs id a, 0⟩ := hw
            refine ⟨a, (unhide HROW).cell ?_, hide ⟨by rw [hw'], .inr ⟨?_, by rw [hw']; exact hnd, by rw [hw']; exact hdir, by rw [hw']⟩⟩⟩
            · rw [show l.length = (l.length - 1) + 1 by omega]
              show (strsRow l)[l.length - 1]? = _
              simp [strsRow, ha]
            · rw [unhide HL]
              cases l with
              | nil => simp at hk2
              | cons a r => exact ⟨a, r, rfl⟩
        obtain ⟨d0, d1⟩ := holds2_cells (unhide HP1) (.pointer (some ⟨d, 0, none⟩)) (.string NA)
        have HBZ := hide (place_below (unhide HB1) (.pointer (some ⟨d, 0, none⟩)) (.string NA))
        have k3 : (l.length : Int) < (l.length : Int) + 1 := by omega
        go_wp2
        exact bodyPost_ret (v := .tuple #[.agg #[.pointer (some ⟨d, 0, none⟩), .string NA], .nilIface]) (by simp [results, Tryz.results62, go_sem, d0, d1]) rfl ⟨unhide HBZ, .inr ⟨(unhide HPI).1, d, NA, (unhide HPI).2, rfl⟩⟩
end Go.Proofs.YtkmbleboceedbaaGreatDoor
