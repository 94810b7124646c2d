import Derived.Test.YtkmbleboceedbaaGreatDoorBootsProofG07
/- tinyosref: file, of a directory. -/
namespace Go.Proofs.YtkmbleboceedbaaGreatDoor
open Go.RowKit
set_option linter.unusedVariables false
set_option linter.unusedSimpArgs false

set_option maxRecDepth 100000 in
set_option maxHeartbeats 2000000 in
theorem refFile_dir (base kb g cap : Nat) (k : RK) (s : ByteArray) (bv : Value) (w : World) (h : RepK w base kb g cap k) (hkb : kb < base) (hbs : base ≤ w.heap.size) (hn : k.inos.length ≤ 100000) (h0 : 0 ≤ k.last) (h1 : k.last ≤ 1000000) (hs : s.size ≤ maxLen) :
    Calls Tryz.prog 29 #[.pointer (some ⟨kb, 0, none⟩), .string s, .bool true, bv] w fun e w' => e = .returned (.int .i64 (mkdirOf k s).1) ∧ ∃ g' cap', RepK w' base kb g' cap' (mkdirOf k s).2 ∧ FrameK w w' kb g ∧ (g' = g ∨ w.heap.size ≤ g') := by
  have HM := hide (refMkdir_any base kb g cap k s w h hkb hbs hn h0 h1 hs)
  clear h hs
  go_enter Tryz.func29, Tryz.ntmps29
  go_wp2_with fail
  refine (unhide HM).mono ?_
  rintro e w1 ⟨rfl, hr⟩
  have HR := hide hr
  clear hr
  go_wp2
  go_ret
  exact ⟨rfl, unhide HR⟩
theorem InvK.add {k : RK} (h : InvK k) (dir : Int) (name : ByteArray) (is : Bool) : InvK (k.add dir name is) := by
  obtain ⟨h1, ⟨x, hx, he⟩, h2⟩ := h
  refine ⟨fun y hy => ?_, ⟨x, by simp [RK.add, hx], he⟩, by show 1 ≤ k.last + 1; omega⟩
  have hy' : y ∈ k.inos ++ [newIno (k.last + 1) dir name is] := hy
  rcases List.mem_append.1 hy' with h | h
  · have := h1 y h; show y.id ≤ k.last + 1; omega
  · obtain rfl := List.mem_singleton.1 h
    exact Int.le_refl _
theorem InvK.mkdir {k : RK} (h : InvK k) (s : ByteArray) : InvK (mkdirOf k s).2 := by
  unfold mkdirOf
  split
  · exact h
  split
  · exact h
  split
  · exact h
  · exact h.add _ _ _
theorem InvK.opened {k k1 : RK} {cs cs1 : List (List Int)} {s : ByteArray} {n1 : Int} (h : InvK k) (ho : opened k cs s = (k1, cs1, n1)) : InvK k1 := by
  unfold Go.Proofs.YtkmbleboceedbaaGreatDoor.opened at ho
  split at ho
  · simp only [Prod.mk.injEq] at ho
    obtain ⟨rfl, _, _⟩ := ho
    exact h.add _ _ _
  · simp only [Prod.mk.injEq] at ho
    obtain ⟨rfl, _, _⟩ := ho
    exact h
/-- What an inode is, without its bytes, says all of the kernel's invariant. -/
theorem InvK.same {k k' : RK} (h : InvK k) (he : k'.inos.map erase = k.inos.map erase) (hl : k'.last = k.last) : InvK k' := by
  have hid : ∀ (a b : List Ino), a.map erase = b.map erase → a.map (·.id) = b.map (·.id) := fun a b e => by
    have := congrArg (List.map (fun x : Ino => x.id)) e
    rw [List.map_map, List.map_map] at this
    exact this
  have hm := hid _ _ he
  obtain ⟨h1, ⟨x, hx, hxe⟩, h2⟩ := h
  refine ⟨fun y hy => ?_, ?_, by omega⟩
  · have : y.id ∈ k.inos.map (·.id) := by rw [← hm]; exact List.mem_map.2 ⟨y, hy, rfl⟩
    obtain ⟨z, hz, hze⟩ := List.mem_map.1 this
    have := h1 z hz
    omega
  · have : x.id ∈ k'.inos.map (·.id) := by rw [hm]; exact List.mem_map.2 ⟨x, hx, rfl⟩
    obtain ⟨z, hz, hze⟩ := List.mem_map.1 this
    exact ⟨z, hz, by rw [hze, hxe]⟩
end Go.Proofs.YtkmbleboceedbaaGreatDoor

/- tinyosref: the kernel's files without memory. -/
namespace Go.Proofs.YtkmbleboceedbaaGreatDoor
open Go.RowKit
set_option linter.unusedVariables false
set_option linter.unusedSimpArgs false

theorem childOf_erase (xs : List Ino) (dir : Int) (name : ByteArray) : childOf (xs.map erase) dir name = childOf xs dir name := by
  unfold childOf
  rw [List.find?_map, show isChild dir name ∘ erase = isChild dir name from rfl]
  cases xs.find? (isChild dir name) <;> rfl
theorem placeOf_erase (xs : List Ino) (n : Int) : placeOf (xs.map erase) n = placeOf xs n := by
  unfold placeOf
  rw [List.findIdx?_map, show (fun x : Ino => x.id == n) ∘ erase = (fun x : Ino => x.id == n) from rfl]
theorem dirOf_erase (xs : List Ino) (n : Int) : dirOf (xs.map erase) n = dirOf xs n := by
  unfold dirOf
  rw [List.find?_map, show (fun x : Ino => x.id == n) ∘ erase = (fun x : Ino => x.id == n) from rfl]
  cases xs.find? (fun x : Ino => x.id == n) <;> rfl
theorem follow_erase (xs : List Ino) : ∀ (l : List ByteArray) (dir : Int), follow (xs.map erase) dir l = follow xs dir l
  | [], _ => rfl
  | [a], dir => by simp only [follow, childOf_erase]
  | a :: b :: r, dir => by
    simp only [follow, childOf_erase, dirOf_erase]
    split
    · rfl
    · split
      · exact follow_erase xs (b :: r) _
      · rfl
theorem walkOf_erase (xs : List Ino) (s : ByteArray) : walkOf (xs.map erase) s = walkOf xs s := by
  unfold walkOf
  split
  · rfl
  · rfl
  · exact follow_erase xs _ 1

/-- The document's files without memory: limits, inodes (their bytes left out), the files' bytes, the last number. -/
structure PK where
  lp : Int
  lf : Int
  lo : Int
  li : Int
  lb : Int
  last : Int
  xs : List Ino
  cs : List (List Int)
def RK.toP (k : RK) (cs : List (List Int)) : PK := ⟨k.lp, k.lf, k.lo, k.li, k.lb, k.last, k.inos.map erase, cs⟩
def PK.add (p : PK) (dir : Int) (name : ByteArray) (is : Bool) : PK := {p with xs := p.xs ++ [newIno (p.last + 1) dir name is], cs := p.cs ++ [[]], last := p.last + 1}
def PK.mkdir (p : PK) (s : ByteArray) : Int × PK :=
  if (walkOf p.xs s).e ≠ 0 then ((walkOf p.xs s).e, p) else if (walkOf p.xs s).n ≠ 0 then (10, p) else if p.li ≤ (p.xs.length : Int) then (12, p) else (0, p.add (walkOf p.xs s).dir (walkOf p.xs s).name true)
def PK.opened (p : PK) (s : ByteArray) : PK × Int := if (walkOf p.xs s).n = 0 then (p.add (walkOf p.xs s).dir (walkOf p.xs s).name false, p.last + 1) else (p, (walkOf p.xs s).n)
def PK.old (p : PK) (n : Int) : List Int := p.cs.getD (placeOf p.xs n).toNat []
def PK.fileCode (p : PK) (s : ByteArray) (B : List Int) : Int :=
  if (walkOf p.xs s).e ≠ 0 then (walkOf p.xs s).e
  else if (walkOf p.xs s).n = 0 ∧ p.li ≤ (p.xs.length : Int) then 12
  else if dirOf (p.opened s).1.xs (p.opened s).2 = true then 11
  else if 0 < B.length ∧ p.lb < (usedOf (p.opened s).1.cs : Int) - (((p.opened s).1.old (p.opened s).2).length : Int) + ((max B.length ((p.opened s).1.old (p.opened s).2).length : Nat) : Int) then 12 else 0
def PK.fileOut (p : PK) (s : ByteArray) (B : List Int) : PK :=
  if B.length = 0 then (p.opened s).1 else {(p.opened s).1 with cs := (p.opened s).1.cs.set (placeOf (p.opened s).1.xs (p.opened s).2).toNat (over ((p.opened s).1.old (p.opened s).2) B)}
theorem add_toP (k : RK) (cs : List (List Int)) (dir : Int) (name : ByteArray) (is : Bool) : (k.add dir name is).toP (cs ++ [[]]) = (k.toP cs).add dir name is := by
  unfold RK.toP RK.add PK.add
  simp only [List.map_append, List.map_cons, List.map_nil]
  rfl
theorem mkdir_toP (k : RK) (cs : List (List Int)) (s : ByteArray) : ((k.toP cs).mkdir s).1 = (mkdirOf k s).1 ∧ ((mkdirOf k s).1 = 0 → ((k.toP cs).mkdir s).2 = (mkdirOf k s).2.toP (cs ++ [[]])) := by
  have hw : walkOf (k.toP cs).xs s = walkOf k.inos s := walkOf_erase k.inos s
  have hl : (k.toP cs).xs.length = k.inos.length := List.length_map _
  unfold PK.mkdir mkdirOf
  rw [hw, hl, show (k.toP cs).li = k.li from rfl]
  split
  · rename_i h
    exact ⟨rfl, fun h0 => absurd h0 h⟩
  split
  · exact ⟨rfl, fun h0 => absurd h0 (show ¬ (10 : Int) = 0 by decide)⟩
  split
  · exact ⟨rfl, fun h0 => absurd h0 (show ¬ (12 : Int) = 0 by decide)⟩
  · exact ⟨rfl, fun _ => (add_toP k cs _ _ _).symm⟩
theorem opened_toP (k : RK) (cs : List (List Int)) (s : ByteArray) : (k.toP cs).opened s = ((Go.Proofs.YtkmbleboceedbaaGreatDoor.opened k cs s).1.toP (Go.Proofs.YtkmbleboceedbaaGreatDoor.opened k cs s).2.1, (Go.Proofs.YtkmbleboceedbaaGreatDoor.opened k cs s).2.2) := by
  have hw : walkOf (k.toP cs).xs s = walkOf k.inos s := walkOf_erase k.inos s
  unfold PK.opened Go.Proofs.YtkmbleboceedbaaGreatDoor.opened
  rw [hw]
  split
  · rw [← add_toP]; rfl
  · rfl
theorem old_toP (k : RK) (cs : List (List Int)) (n : Int) : (k.toP cs).old n = oldOf (k, cs, n) := by
  unfold PK.old oldOf
  show cs.getD (placeOf (k.inos.map erase) n).toNat [] = _
  rw [placeOf_erase]
theorem file_toP (k : RK) (cs : List (List Int)) (s : ByteArray) (B : List Int) : (k.toP cs).fileCode s B = fileCode k cs s B := by
  have hw : walkOf (k.toP cs).xs s = walkOf k.inos s := walkOf_erase k.inos s
  have hl : (k.toP cs).xs.length = k.inos.length := List.length_map _
  unfold PK.fileCode fileCode
  rw [hw, hl, opened_toP]
  simp only [old_toP]
  rw [show (k.toP cs).li = k.li from rfl, show (k.toP cs).lb = k.lb from rfl]
  rw [show ((Go.Proofs.YtkmbleboceedbaaGreatDoor.opened k cs s).1.toP (Go.Proofs.YtkmbleboceedbaaGreatDoor.opened k cs s).2.1).xs = (Go.Proofs.YtkmbleboceedbaaGreatDoor.opened k cs s).1.inos.map erase from rfl, dirOf_erase]
  rfl
theorem fileOut_toP (k k' : RK) (cs : List (List Int)) (s : ByteArray) (B : List Int) (he : k'.inos.map erase = (Go.Proofs.YtkmbleboceedbaaGreatDoor.opened k cs s).1.inos.map erase) (hk : {k' with inos := []} = {(Go.Proofs.YtkmbleboceedbaaGreatDoor.opened k cs s).1 with inos := []}) :
    (k.toP cs).fileOut s B = k'.toP (fileCs k cs s B) := by
  have hf : ∀ cc, k'.toP cc = (Go.Proofs.YtkmbleboceedbaaGreatDoor.opened k cs s).1.toP cc := fun cc => by
    unfold RK.toP
    rw [he]
    simp only [RK.mk.injEq] at hk
    obtain ⟨h1, h2, h3, h4, h5, _, _, _, _, _, _, _, h6⟩ := hk
    rw [h1, h2, h3, h4, h5, h6]
  rw [hf]
  unfold PK.fileOut fileCs
  rw [opened_toP]
  simp only [old_toP]
  split
  · rfl
  · rw [show ((Go.Proofs.YtkmbleboceedbaaGreatDoor.opened k cs s).1.toP (Go.Proofs.YtkmbleboceedbaaGreatDoor.opened k cs s).2.1).xs = (Go.Proofs.YtkmbleboceedbaaGreatDoor.opened k cs s).1.inos.map erase from rfl, placeOf_erase]
    rfl
end Go.Proofs.YtkmbleboceedbaaGreatDoor

/- tinyosref: Path. -/
namespace Go.Proofs.YtkmbleboceedbaaGreatDoor
open Go.RowKit
set_option linter.unusedVariables false
set_option linter.unusedSimpArgs false

def slashB : ByteArray := ⟨#[47]⟩
/-- The path of an inode, from its number up; t: what stands behind it already. -/
def pathGo (xs : List Ino) : Nat → Int → ByteArray → ByteArray
  | 0, _, t => t
  | n + 1, id, t => if id ≤ 1 then t else match xs.find? (fun x => x.id == id) with | some x => pathGo xs n x.parent (slashB ++ x.name ++ t) | none => t
def pathOf (xs : List Ino) (id : Int) : ByteArray := pathGo xs id.toNat id ByteArray.empty
/-- Numbers go down along the path, and each directory is there. -/
structure TreeInv (xs : List Ino) : Prop where
  down : ∀ x ∈ xs, x.parent < x.id
  there : ∀ x ∈ xs, 1 < x.parent → ∃ y ∈ xs, y.id = x.parent
  names : ∀ x ∈ xs, x.name.size ≤ 14
theorem pathGo_le {xs : List Ino} {n : Nat} {id : Int} {t : ByteArray} (h : id ≤ 1) : pathGo xs n id t = t := by
  cases n with
  | zero => rfl
  | succ n => unfold pathGo; rw [if_pos h]
theorem pathGo_fuel {xs : List Ino} (hd : ∀ x ∈ xs, x.parent < x.id) : ∀ (n m : Nat) (id : Int) (t : ByteArray), id ≤ n + 1 → id ≤ m + 1 → pathGo xs n id t = pathGo xs m id t
  | 0, m, id, t, h1, h2 => by rw [pathGo_le (by omega), pathGo_le (by omega)]
  | n + 1, 0, id, t, h1, h2 => by rw [pathGo_le (by omega), pathGo_le (by omega)]
  | n + 1, m + 1, id, t, h1, h2 => by
    unfold pathGo
    split
    · rfl
    · cases hx : xs.find? (fun x => x.id == id) with
      | none => rfl
      | some x =>
        have h3 := hd x (List.mem_of_find?_eq_some hx)
        have h4 : x.id = id := by have := List.find?_some hx; simpa using this
        exact pathGo_fuel hd n m x.parent _ (by omega) (by omega)
theorem pathOf_root {xs : List Ino} {id : Int} (h : id ≤ 1) : pathOf xs id = ByteArray.empty := pathGo_le h
theorem pathGo_up {xs : List Ino} (hd : ∀ x ∈ xs, x.parent < x.id) {n : Nat} {id : Int} {x : Ino} {t : ByteArray} (h1 : 1 < id) (hn : id ≤ n) (hx : xs.find? (fun x => x.id == id) = some x) : pathGo xs n id t = pathGo xs n x.parent (slashB ++ x.name ++ t) := by
  cases n with
  | zero => omega
  | succ n =>
    have h3 := hd x (List.mem_of_find?_eq_some hx)
    have h4 : x.id = id := by have := List.find?_some hx; simpa using this
    rw [show pathGo xs (n + 1) id t = pathGo xs n x.parent (slashB ++ x.name ++ t) from by conv => lhs; unfold pathGo; rw [if_neg (by omega), hx]]
    exact pathGo_fuel hd n (n + 1) _ _ (by omega) (by omega)
/-- What stands behind is kept. -/
theorem pathGo_tail (xs : List Ino) : ∀ (n : Nat) (id : Int) (t : ByteArray), pathGo xs n id t = pathGo xs n id ByteArray.empty ++ t
  | 0, id, t => by show t = ByteArray.empty ++ t; simp
  | n + 1, id, t => by
    unfold pathGo
    split
    · simp
    · cases xs.find? (fun x => x.id == id) with
      | none => simp
      | some x =>
        show pathGo xs n x.parent (slashB ++ x.name ++ t) = pathGo xs n x.parent (slashB ++ x.name ++ ByteArray.empty) ++ t
        rw [pathGo_tail xs n x.parent (slashB ++ x.name ++ t), pathGo_tail xs n x.parent (slashB ++ x.name ++ ByteArray.empty)]
        simp [ByteArray.append_assoc]

set_option maxRecDepth 100000 in
set_option maxHeartbeats 4000000 in
theorem refPath_any (kb g cap : Nat) (xs : List Ino) (id0 : Int) (w : World) (h : InosAt w kb g cap xs) (hn : xs.length ≤ 1000000) (ht : TreeInv xs) (hid : 1 < id0 → ∃ y ∈ xs, y.id = id0) (hi : id0 ≤ 1000000) :
    Calls Tryz.prog 21 #[.pointer (some ⟨kb, 0, none⟩), .int .i64 id0] w fun e w' => e = .returned (.string (pathOf xs id0)) ∧ w' = w := by
  have H := hide h
  have HT := hide ht
  have HID := hide hid
  clear h ht hid
  go_enter Tryz.func21, Tryz.ntmps21
  go_wp2
  go_loop [1, 5] (fun i s => ∃ (id : Int) (t : ByteArray), i = .int .i64 id ∧ s = .string t ∧ id ≤ id0 ∧ Hid (1 < id → ∃ y ∈ xs, y.id = id) ∧ Hid ((t.size : Int) ≤ 15 * (id0 - id)) ∧ Hid (pathGo xs id0.toNat id t = pathOf xs id0)) (fun i _ => (intOf i).toNat)
  case atStart => exact ⟨id0, ByteArray.empty, rfl, rfl, by omega, HID, hide (by simp), hide rfl⟩
  case round =>
    obtain ⟨id, t, rfl, rfl, hle, HI, HS, HP⟩ := hrel
    by_cases hlt : 1 < id
    · obtain ⟨x, hx⟩ := find_id (unhide HI hlt)
      obtain ⟨K, hK, hKx⟩ := place_of_mem hx
      have hKl := (List.getElem?_eq_some_iff.1 hKx).1
      have HIN := hide (refInode_any kb g cap xs id w (unhide H) hn)
      rw [hK] at HIN
      have c1 : w.cell? ⟨g, K * 5 + 1, none⟩ = some (.int .i64 x.parent) := (unhide H).cell hKx (i := 1) (by omega) rfl
      have c2 : w.cell? ⟨g, K * 5 + 2, none⟩ = some (.string x.name) := (unhide H).cell hKx (i := 2) (by omega) rfl
      have c7 := (unhide H).1
      have hxm := List.mem_of_find?_eq_some hx
      have hxi : x.id = id := by have := List.find?_some hx; simpa using this
      have hdn := (unhide HT).down x hxm
      have hnm := (unhide HT).names x hxm
      have HS2 := hide (show ((slashB ++ x.name ++ t).size : Int) ≤ 15 * (id0 - x.parent) from by
        have h1 := unhide HS
        rw [ByteArray.size_append, ByteArray.size_append]
        have h2 : slashB.size = 1 := rfl
        omega)
      have HP2 := hide ((pathGo_up (unhide HT).down (n := id0.toNat) hlt (by omega) hx).symm.trans (unhide HP))
      have HI2 := hide (fun h1 => (unhide HT).there x hxm h1)
      have hpl : x.parent < id := by omega
      have hts : t.size ≤ 100000000 := by have := unhide HS; omega
      have hns : x.name.size ≤ 100000000 := by omega
      have hK0 : (0 : Int) ≤ (K : Int) := by omega
      have hK1 : (K : Int) < (xs.length : Int) := by omega
      generalize x.parent = PA at *
      generalize x.name = NA at *
      clear hx hK hKx hxm hxi hnm hdn HP HS HI
      go_wp2_with fail
      refine (unhide HIN).mono ?_
      rintro e w3 ⟨rfl, hw3⟩
      subst hw3
      go_wp2
      go_round
      case rel => exact ⟨PA, slashB ++ NA ++ t, rfl, rfl, by omega, HI2, HS2, HP2⟩
      case measure => simp [intOf]; omega
    · have HR := hide ((pathGo_le (xs := xs) (n := id0.toNat) (t := t) (show id ≤ 1 by omega)).symm.trans (unhide HP))
      go_wp2
      go_ret
      exact ⟨by rw [← unhide HR]; rfl, rfl⟩
end Go.Proofs.YtkmbleboceedbaaGreatDoor
