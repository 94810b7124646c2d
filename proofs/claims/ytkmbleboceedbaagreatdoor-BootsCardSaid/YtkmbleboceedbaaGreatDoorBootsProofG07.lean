import Derived.Test.YtkmbleboceedbaaGreatDoorBootsProofG06
import Derived.Test.YtkmbleboceedbaaGreatDoorBootsProofG05
/- tinyosref: file, of a directory. -/
namespace Go.Proofs.YtkmbleboceedbaaGreatDoor
open Go.RowKit
set_option linter.unusedVariables false
set_option linter.unusedSimpArgs false

set_option maxRecDepth 100000 in
set_option maxHeartbeats 2000000 in
theorem refFile_dir (base kb g cap : Nat) (k : RK) (s : ByteArray) (bv : Value) (w : World) (h : RepK w base kb g cap k) (hkb : kb < base) (hbs : base ≤ w.heap.size) (hn : k.inos.length ≤ 100000) (h0 : 0 ≤ k.last) (h1 : k.last ≤ 1000000) (hs : s.size ≤ maxLen) :
    Calls Tryz.prog 29 #[.pointer (some ⟨kb, 0, none⟩), .string s, .bool true, bv] w fun e w' => e = .returned (.int .i64 (mkdirOf k s).1) ∧ ∃ g' cap', RepK w' base kb g' cap' (mkdirOf k s).2 ∧ FrameK w w' kb g ∧ (g' = g ∨ w.heap.size ≤ g') := by
  have HM := hide (refMkdir_any base kb g cap k s w h hkb hbs hn h0 h1 hs)
  clear h hs
  go_enter Tryz.func29, Tryz.ntmps29
  go_wp2_with fail
  refine (unhide HM).mono ?_
  rintro e w1 ⟨rfl, hr⟩
  have HR := hide hr
  clear hr
  go_wp2
  go_ret
  exact ⟨rfl, unhide HR⟩
theorem InvK.add {k : RK} (h : InvK k) (dir : Int) (name : ByteArray) (is : Bool) : InvK (k.add dir name is) := by
  obtain ⟨h1, ⟨x, hx, he⟩, h2⟩ := h
  refine ⟨fun y hy => ?_, ⟨x, by simp [RK.add, hx], he⟩, by show 1 ≤ k.last + 1; omega⟩
  have hy' : y ∈ k.inos ++ [newIno (k.last + 1) dir name is] := hy
  rcases List.mem_append.1 hy' with h | h
  · have := h1 y h; show y.id ≤ k.last + 1; omega
  · obtain rfl := List.mem_singleton.1 h
    exact Int.le_refl _
theorem InvK.mkdir {k : RK} (h : InvK k) (s : ByteArray) : InvK (mkdirOf k s).2 := by
  unfold mkdirOf
  split
  · exact h
  split
  · exact h
  split
  · exact h
  · exact h.add _ _ _
theorem InvK.opened {k k1 : RK} {cs cs1 : List (List Int)} {s : ByteArray} {n1 : Int} (h : InvK k) (ho : opened k cs s = (k1, cs1, n1)) : InvK k1 := by
  unfold Go.Proofs.YtkmbleboceedbaaGreatDoor.opened at ho
  split at ho
  · simp only [Prod.mk.injEq] at ho
    obtain ⟨rfl, _, _⟩ := ho
    exact h.add _ _ _
  · simp only [Prod.mk.injEq] at ho
    obtain ⟨rfl, _, _⟩ := ho
    exact h
/-- What an inode is, without its bytes, says all of the kernel's invariant. -/
theorem InvK.same {k k' : RK} (h : InvK k) (he : k'.inos.map erase = k.inos.map erase) (hl : k'.last = k.last) : InvK k' := by
  have hid : ∀ (a b : List Ino), a.map erase = b.map erase → a.map (·.id) = b.map (·.id) := fun a b e => by
    have := congrArg (List.map (fun x : Ino => x.id)) e
    rw [List.map_map, List.map_map] at this
    exact this
  have hm := hid _ _ he
  obtain ⟨h1, ⟨x, hx, hxe⟩, h2⟩ := h
  refine ⟨fun y hy => ?_, ?_, by omega⟩
  · have : y.id ∈ k.inos.map (·.id) := by rw [← hm]; exact List.mem_map.2 ⟨y, hy, rfl⟩
    obtain ⟨z, hz, hze⟩ := List.mem_map.1 this
    have := h1 z hz
    omega
  · have : x.id ∈ k'.inos.map (·.id) := by rw [hm]; exact List.mem_map.2 ⟨x, hx, rfl⟩
    obtain ⟨z, hz, hze⟩ := List.mem_map.1 this
    exact ⟨z, hz, by rw [hze, hxe]⟩
end Go.Proofs.YtkmbleboceedbaaGreatDoor

/- tinyosref: the kernel's files without memory. -/
namespace Go.Proofs.YtkmbleboceedbaaGreatDoor
open Go.RowKit
set_option linter.unusedVariables false
set_option linter.unusedSimpArgs false

theorem childOf_erase (xs : List Ino) (dir : Int) (name : ByteArray) : childOf (xs.map erase) dir name = childOf xs dir name := by
  unfold childOf
  rw [List.find?_map, show isChild dir name ∘ erase = isChild dir name from rfl]
  cases xs.find? (isChild dir name) <;> rfl
theorem placeOf_erase (xs : List Ino) (n : Int) : placeOf (xs.map erase) n = placeOf xs n := by
  unfold placeOf
  rw [List.findIdx?_map, show (fun x : Ino => x.id == n) ∘ erase = (fun x : Ino => x.id == n) from rfl]
theorem dirOf_erase (xs : List Ino) (n : Int) : dirOf (xs.map erase) n = dirOf xs n := by
  unfold dirOf
  rw [List.find?_map, show (fun x : Ino => x.id == n) ∘ erase = (fun x : Ino => x.id == n) from rfl]
  cases xs.find? (fun x : Ino => x.id == n) <;> rfl
theorem follow_erase (xs : List Ino) : ∀ (l : List ByteArray) (dir : Int), follow (xs.map erase) dir l = follow xs dir l
  | [], _ => rfl
  | [a], dir => by simp only [follow, childOf_erase]
  | a :: b :: r, dir => by
    simp only [follow, childOf_erase, dirOf_erase]
    split
    · rfl
    · split
      · exact follow_erase xs (b :: r) _
      · rfl
theorem walkOf_erase (xs : List Ino) (s : ByteArray) : walkOf (xs.map erase) s = walkOf xs s := by
  unfold walkOf
  split
  · rfl
  · rfl
  · exact follow_erase xs _ 1

/-- The document's files without memory: limits, inodes (their bytes left out), the files' bytes, the last number. -/
structure PK where
  lp : Int
  lf : Int
  lo : Int
  li : Int
  lb : Int
  last : Int
  xs : List Ino
  cs : List (List Int)
def RK.toP (k : RK) (cs : List (List Int)) : PK := ⟨k.lp, k.lf, k.lo, k.li, k.lb, k.last, k.inos.map erase, cs⟩
def PK.add (p : PK) (dir : Int) (name : ByteArray) (is : Bool) : PK := {p with xs := p.xs ++ [newIno (p.last + 1) dir name is], cs := p.cs ++ [[]], last := p.last + 1}
def PK.mkdir (p : PK) (s : ByteArray) : Int × PK :=
  if (walkOf p.xs s).e ≠ 0 then ((walkOf p.xs s).e, p) else if (walkOf p.xs s).n ≠ 0 then (10, p) else if p.li ≤ (p.xs.length : Int) then (12, p) else (0, p.add (walkOf p.xs s).dir (walkOf p.xs s).name true)
def PK.opened (p : PK) (s : ByteArray) : PK × Int := if (walkOf p.xs s).n = 0 then (p.add (walkOf p.xs s).dir (walkOf p.xs s).name false, p.last + 1) else (p, (walkOf p.xs s).n)
def PK.old (p : PK) (n : Int) : List Int := p.cs.getD (placeOf p.xs n).toNat []
def PK.fileCode (p : PK) (s : ByteArray) (B : List Int) : Int :=
  if (walkOf p.xs s).e ≠ 0 then (walkOf p.xs s).e
  else if (walkOf p.xs s).n = 0 ∧ p.li ≤ (p.xs.length : Int) then 12
  else if dirOf (p.opened s).1.xs (p.opened s).2 = true then 11
  else if 0 < B.length ∧ p.lb < (usedOf (p.opened s).1.cs : Int) - (((p.opened s).1.old (p.opened s).2).length : Int) + ((max B.length ((p.opened s).1.old (p.opened s).2).length : Nat) : Int) then 12 else 0
def PK.fileOut (p : PK) (s : ByteArray) (B : List Int) : PK :=
  if B.length = 0 then (p.opened s).1 else {(p.opened s).1 with cs := (p.opened s).1.cs.set (placeOf (p.opened s).1.xs (p.opened s).2).toNat (over ((p.opened s).1.old (p.opened s).2) B)}
theorem add_toP (k : RK) (cs : List (List Int)) (dir : Int) (name : ByteArray) (is : Bool) : (k.add dir name is).toP (cs ++ [[]]) = (k.toP cs).add dir name is := by
  unfold RK.toP RK.add PK.add
  simp only [List.map_append, List.map_cons, List.map_nil]
  rfl
theorem mkdir_toP (k : RK) (cs : List (List Int)) (s : ByteArray) : ((k.toP cs).mkdir s).1 = (mkdirOf k s).1 ∧ ((mkdirOf k s).1 = 0 → ((k.toP cs).mkdir s).2 = (mkdirOf k s).2.toP (cs ++ [[]])) := by
  have hw : walkOf (k.toP cs).xs s = walkOf k.inos s := walkOf_erase k.inos s
  have hl : (k.toP cs).xs.length = k.inos.length := List.length_map _
  unfold PK.mkdir mkdirOf
  rw [hw, hl, show (k.toP cs).li = k.li from rfl]
  split
  · rename_i h
    exact ⟨rfl, fun h0 => absurd h0 h⟩
  split
  · exact ⟨rfl, fun h0 => absurd h0 (show ¬ (10 : Int) = 0 by decide)⟩
  split
  · exact ⟨rfl, fun h0 => absurd h0 (show ¬ (12 : Int) = 0 by decide)⟩
  · exact ⟨rfl, fun _ => (add_toP k cs _ _ _).symm⟩
theorem opened_toP (k : RK) (cs : List (List Int)) (s : ByteArray) : (k.toP cs).opened s = ((Go.Proofs.YtkmbleboceedbaaGreatDoor.opened k cs s).1.toP (Go.Proofs.YtkmbleboceedbaaGreatDoor.opened k cs s).2.1, (Go.Proofs.YtkmbleboceedbaaGreatDoor.opened k cs s).2.2) := by
  have hw : walkOf (k.toP cs).xs s = walkOf k.inos s := walkOf_erase k.inos s
  unfold PK.opened Go.Proofs.YtkmbleboceedbaaGreatDoor.opened
  rw [hw]
  split
  · rw [← add_toP]; rfl
  · rfl
theorem old_toP (k : RK) (cs : List (List Int)) (n : Int) : (k.toP cs).old n = oldOf (k, cs, n) := by
  unfold PK.old oldOf
  show cs.getD (placeOf (k.inos.map erase) n).toNat [] = _
  rw [placeOf_erase]
theorem file_toP (k : RK) (cs : List (List Int)) (s : ByteArray) (B : List Int) : (k.toP cs).fileCode s B = fileCode k cs s B := by
  have hw : walkOf (k.toP cs).xs s = walkOf k.inos s := walkOf_erase k.inos s
  have hl : (k.toP cs).xs.length = k.inos.length := List.length_map _
  unfold PK.fileCode fileCode
  rw [hw, hl, opened_toP]
  simp only [old_toP]
  rw [show (k.toP cs).li = k.li from rfl, show (k.toP cs).lb = k.lb from rfl]
  rw [show ((Go.Proofs.YtkmbleboceedbaaGreatDoor.opened k cs s).1.toP (Go.Proofs.YtkmbleboceedbaaGreatDoor.opened k cs s).2.1).xs = (Go.Proofs.YtkmbleboceedbaaGreatDoor.opened k cs s).1.inos.map erase from rfl, dirOf_erase]
  rfl
theorem fileOut_toP (k k' : RK) (cs : List (List Int)) (s : ByteArray) (B : List Int) (he : k'.inos.map erase = (Go.Proofs.YtkmbleboceedbaaGreatDoor.opened k cs s).1.inos.map erase) (hk : {k' with inos := []} = {(Go.Proofs.YtkmbleboceedbaaGreatDoor.opened k cs s).1 with inos := []}) :
    (k.toP cs).fileOut s B = k'.toP (fileCs k cs s B) := by
  have hf : ∀ cc, k'.toP cc = (Go.Proofs.YtkmbleboceedbaaGreatDoor.opened k cs s).1.toP cc := fun cc => by
    unfold RK.toP
    rw [he]
    simp only [RK.mk.injEq] at hk
    obtain ⟨h1, h2, h3, h4, h5, _, _, _, _, _, _, _, h6⟩ := hk
    rw [h1, h2, h3, h4, h5, h6]
  rw [hf]
  unfold PK.fileOut fileCs
  rw [opened_toP]
  simp only [old_toP]
  split
  · rfl
  · rw [show ((Go.Proofs.YtkmbleboceedbaaGreatDoor.opened k cs s).1.toP (Go.Proofs.YtkmbleboceedbaaGreatDoor.opened k cs s).2.1).xs = (Go.Proofs.YtkmbleboceedbaaGreatDoor.opened k cs s).1.inos.map erase from rfl, placeOf_erase]
    rfl
end Go.Proofs.YtkmbleboceedbaaGreatDoor

/- exe.readSegment. -/
namespace Go.Proofs.YtkmbleboceedbaaGreatDoor
open Go.RowKit
set_option linter.unusedVariables false
set_option linter.unusedSimpArgs false

/-- What stands at a place of the file's segments. -/
structure Seg where
  perm : Int
  offs : Int
  addr : Int
  inFile : Int
  mem : Int
def segAt (B : List Int) (p : Nat) : Seg := ⟨numAt B (p + 4) 4, numAt B (p + 8) 8, numAt B (p + 16) 8, numAt B (p + 32) 8, numAt B (p + 40) 8⟩
def permOk (P : Int) : Prop := 1 ≤ P ∧ P ≤ 7 ∧ bits BinOp.and IntKind.u64 P 3 ≠ 3
/-- A segment that is right. -/
def SegOk (B : List Int) (p : Nat) : Prop := numAt B p 4 = 1 ∧ permOk (segAt B p).perm ∧ 1 ≤ (segAt B p).mem ∧ (segAt B p).inFile ≤ (segAt B p).mem ∧ (segAt B p).offs + (segAt B p).inFile ≤ (B.length : Int) ∧
  (segAt B p).offs % 256 = (segAt B p).addr % 256 ∧ (segAt B p).addr + (segAt B p).mem ≤ 65024

set_option maxHeartbeats 400000 in
theorem within_yes (s c e : Int) (w : World) (hs : 0 ≤ s) (hc : 0 ≤ c) (h : s + c ≤ e) (he : e < 1000000) : Calls Tryz.prog 141 #[.int .u64 s, .int .u64 c, .int .u64 e] w fun r w' => r = .returned (.bool true) ∧ w' = w := by
  have h1 : c ≤ e := by omega
  have h2 : s ≤ e - c := by omega
  have h3 : IntKind.u64.wrap (e - c) = e - c := by rw [IntKind.wrap_u64]; omega
  go_enter Tryz.func141, Tryz.ntmps141
  go_wp2
  go_ret
  exact ⟨rfl, rfl⟩
set_option maxHeartbeats 400000 in
theorem within_no (s c e : Int) (w : World) (hs : 0 ≤ s) (hc : 0 ≤ c) (h : e < s + c) (he : e < 1000000) (he0 : 0 ≤ e) : Calls Tryz.prog 141 #[.int .u64 s, .int .u64 c, .int .u64 e] w fun r w' => r = .returned (.bool false) ∧ w' = w := by
  by_cases h1 : c ≤ e
  · have h2 : ¬ s ≤ e - c := by omega
    have h3 : IntKind.u64.wrap (e - c) = e - c := by rw [IntKind.wrap_u64]; omega
    go_enter Tryz.func141, Tryz.ntmps141
    go_wp2
    go_ret
    exact ⟨rfl, rfl⟩
  · go_enter Tryz.func141, Tryz.ntmps141
    go_wp2
    go_ret
    exact ⟨rfl, rfl⟩
set_option maxHeartbeats 400000 in
theorem isPerm_yes (P : Int) (w : World) (h : permOk P) : Calls Tryz.prog 140 #[.int .u64 P] w fun r w' => r = .returned (.bool true) ∧ w' = w := by
  obtain ⟨h1, h2, h3⟩ := h
  have h4 : (bits BinOp.and IntKind.u64 P 3 != 3) = true := by simpa using h3
  clear h3
  go_enter Tryz.func140, Tryz.ntmps140
  go_wp2
  go_ret
  exact ⟨rfl, rfl⟩
set_option maxHeartbeats 400000 in
theorem isPerm_no (P : Int) (w : World) (h : ¬ permOk P) : Calls Tryz.prog 140 #[.int .u64 P] w fun r w' => r = .returned (.bool false) ∧ w' = w := by
  by_cases h1 : 1 ≤ P
  · by_cases h2 : P ≤ 7
    · have h3 : bits BinOp.and IntKind.u64 P 3 = 3 := Decidable.byContradiction fun e => h ⟨h1, h2, e⟩
      have h4 : (bits BinOp.and IntKind.u64 P 3 != 3) = false := by simpa using h3
      clear h3 h
      go_enter Tryz.func140, Tryz.ntmps140
      go_wp2
      go_ret
      exact ⟨rfl, rfl⟩
    · clear h
      go_enter Tryz.func140, Tryz.ntmps140
      go_wp2
      go_ret
      exact ⟨rfl, rfl⟩
  · clear h
    go_enter Tryz.func140, Tryz.ntmps140
    go_wp2
    go_ret
    exact ⟨rfl, rfl⟩

/-- Where a segment's bytes begin: a slice that can hold nothing stays where it was cut from. -/
def segPtr (off cap : Nat) (s : Seg) : Nat := if cap = s.offs.toNat then off else off + s.offs.toNat
def segVal (b off cap : Nat) (s : Seg) : Value := .agg #[.int .u8 s.perm, .int .u64 s.addr, .slice (some ⟨b, segPtr off cap s, none⟩) s.inFile.toNat (cap - s.offs.toNat), .int .i64 (s.addr / 256), .int .i64 ((s.addr + s.mem - 1) / 256)]
def noSeg : Value := .agg #[.int .u8 0, .int .u64 0, .slice none 0 0, .int .i64 0, .int .i64 0]
def SegPost (b off cap : Nat) (B : List Int) (p : Nat) (w : World) (e : Ending) (w' : World) : Prop :=
  (SegOk B p ∧ e = .returned (.tuple #[segVal b off cap (segAt B p), .bool true]) ∨ ¬ SegOk B p ∧ e = .returned (.tuple #[noSeg, .bool false])) ∧ Below w.heap.size w w'

set_option maxRecDepth 100000 in
set_option maxHeartbeats 2000000 in
theorem readSegment_any (b off cap : Nat) (B : List Int) (p : Nat) (w : World) (hB : IsBytes B) (hcap : B.length ≤ cap) (hlen : B.length ≤ 500000) (hv : BView w b off B) (hbw : b < w.heap.size) (hp : p + 56 ≤ B.length) :
    Calls Tryz.prog 118 #[.slice (some ⟨b, off, none⟩) B.length cap, .int .i64 p] w fun e w' => SegPost b off cap B p w e w' := by
  have HBB := hide hB
  have HV := hide hv
  obtain ⟨a4, ha4⟩ : ∃ a, a = p + 4 := ⟨_, rfl⟩
  obtain ⟨P, hP⟩ : ∃ x, x = numAt B (p + 4) 4 := ⟨_, rfl⟩
  have bP := numAt_8 hB (p + 4) 4 (by omega)
  have NP : Hid (∀ w', BView w' b off B → Calls Tryz.prog 101 #[.slice (some ⟨b, off, none⟩) B.length cap, .int .i64 a4, .int .i64 4] w' fun e w'' => e = .returned (.int .u64 P) ∧ w'' = w') := hide (fun w' h => by rw [hP, ha4]; exact number_any b off cap B (p + 4) 4 w' hB (by omega) (by omega) (by omega) (by omega) (by omega) h)
  have e4 : (p : Int) + 4 = (a4 : Int) := by omega
  obtain ⟨a8, ha8⟩ : ∃ a, a = p + 8 := ⟨_, rfl⟩
  obtain ⟨O, hO⟩ : ∃ x, x = numAt B (p + 8) 8 := ⟨_, rfl⟩
  have bO := numAt_8 hB (p + 8) 8 (by omega)
  have NO : Hid (∀ w', BView w' b off B → Calls Tryz.prog 101 #[.slice (some ⟨b, off, none⟩) B.length cap, .int .i64 a8, .int .i64 8] w' fun e w'' => e = .returned (.int .u64 O) ∧ w'' = w') := hide (fun w' h => by rw [hO, ha8]; exact number_any b off cap B (p + 8) 8 w' hB (by omega) (by omega) (by omega) (by omega) (by omega) h)
  have e8 : (p : Int) + 8 = (a8 : Int) := by omega
  obtain ⟨a16, ha16⟩ : ∃ a, a = p + 16 := ⟨_, rfl⟩
  obtain ⟨A, hA⟩ : ∃ x, x = numAt B (p + 16) 8 := ⟨_, rfl⟩
  have bA := numAt_8 hB (p + 16) 8 (by omega)
  have NA : Hid (∀ w', BView w' b off B → Calls Tryz.prog 101 #[.slice (some ⟨b, off, none⟩) B.length cap, .int .i64 a16, .int .i64 8] w' fun e w'' => e = .returned (.int .u64 A) ∧ w'' = w') := hide (fun w' h => by rw [hA, ha16]; exact number_any b off cap B (p + 16) 8 w' hB (by omega) (by omega) (by omega) (by omega) (by omega) h)
  have e16 : (p : Int) + 16 = (a16 : Int) := by omega
  obtain ⟨a32, ha32⟩ : ∃ a, a = p + 32 := ⟨_, rfl⟩
  obtain ⟨F, hF⟩ : ∃ x, x = numAt B (p + 32) 8 := ⟨_, rfl⟩
  have bF := numAt_8 hB (p + 32) 8 (by omega)
  have NF : Hid (∀ w', BView w' b off B → Calls Tryz.prog 101 #[.slice (some ⟨b, off, none⟩) B.length cap, .int .i64 a32, .int .i64 8] w' fun e w'' => e = .returned (.int .u64 F) ∧ w'' = w') := hide (fun w' h => by rw [hF, ha32]; exact number_any b off cap B (p + 32) 8 w' hB (by omega) (by omega) (by omega) (by omega) (by omega) h)
  have e32 : (p : Int) + 32 = (a32 : Int) := by omega
  obtain ⟨a40, ha40⟩ : ∃ a, a = p + 40 := ⟨_, rfl⟩
  obtain ⟨M, hM⟩ : ∃ x, x = numAt B (p + 40) 8 := ⟨_, rfl⟩
  have bM := numAt_8 hB (p + 40) 8 (by omega)
  have NM : Hid (∀ w', BView w' b off B → Calls Tryz.prog 101 #[.slice (some ⟨b, off, none⟩) B.length cap, .int .i64 a40, .int .i64 8] w' fun e w'' => e = .returned (.int .u64 M) ∧ w'' = w') := hide (fun w' h => by rw [hM, ha40]; exact number_any b off cap B (p + 40) 8 w' hB (by omega) (by omega) (by omega) (by omega) (by omega) h)
  have e40 : (p : Int) + 40 = (a40 : Int) := by omega
  obtain ⟨K, hK⟩ : ∃ x, x = numAt B p 4 := ⟨_, rfl⟩
  have bK := numAt_8 hB p 4 (by omega)
  have NK : Hid (∀ w', BView w' b off B → Calls Tryz.prog 101 #[.slice (some ⟨b, off, none⟩) B.length cap, .int .i64 p, .int .i64 4] w' fun e w'' => e = .returned (.int .u64 K) ∧ w'' = w') := hide (fun w' h => by rw [hK]; exact number_any b off cap B p 4 w' hB (by omega) (by omega) (by omega) (by omega) (by omega) h)
  have hok : SegOk B p ↔ (K = 1 ∧ permOk P ∧ 1 ≤ M ∧ F ≤ M ∧ O + F ≤ (B.length : Int) ∧ O % 256 = A % 256 ∧ A + M ≤ 65024) := by
    rw [hK, hP, hM, hF, hO, hA]; rfl
  have hseg : segAt B p = ⟨P, O, A, F, M⟩ := by rw [hP, hM, hF, hO, hA]; rfl
  rw [← hP] at bP
  rw [← hO] at bO
  rw [← hA] at bA
  rw [← hF] at bF
  rw [← hM] at bM
  rw [← hK] at bK
  have HOK := hide hok
  have HSG := hide hseg
  obtain ⟨P0, P1⟩ := bP
  obtain ⟨O0, O1⟩ := bO
  obtain ⟨A0, A1⟩ := bA
  obtain ⟨F0, F1⟩ := bF
  obtain ⟨M0, M1⟩ := bM
  clear hB hv hok hseg hP hO hA hF hM hK ha4 ha8 ha16 ha32 ha40 bK P1 O1 A1 F1 M1
  have hvz : BView (w.alloc (.cells #[.int .u8 0, .int .u64 0, .slice none 0 0, .int .i64 0, .int .i64 0] 242)) b off B := (unhide HV).below ((Below.refl _ _).alloc (Nat.le_refl _) _) hbw
  have HVZ := hide hvz
  have hl5 : (B.length : Int) < 1000000 := by omega
  have hl0 : (0 : Int) ≤ (B.length : Int) := by omega
  clear hvz
  go_enter Tryz.func118, Tryz.ntmps118
  go_wp2_with fail
  refine (unhide NP _ (unhide HVZ)).mono ?_
  rintro e w1 ⟨rfl, hw1⟩
  subst hw1
  go_wp2_with fail
  refine (unhide NO _ (unhide HVZ)).mono ?_
  rintro e w1 ⟨rfl, hw1⟩
  subst hw1
  go_wp2_with fail
  refine (unhide NA _ (unhide HVZ)).mono ?_
  rintro e w1 ⟨rfl, hw1⟩
  subst hw1
  go_wp2_with fail
  refine (unhide NF _ (unhide HVZ)).mono ?_
  rintro e w1 ⟨rfl, hw1⟩
  subst hw1
  go_wp2_with fail
  refine (unhide NM _ (unhide HVZ)).mono ?_
  rintro e w1 ⟨rfl, hw1⟩
  subst hw1
  go_wp2_with fail
  refine (unhide NK _ (unhide HVZ)).mono ?_
  rintro e w1 ⟨rfl, hw1⟩
  subst hw1
  clear e4 e8 e16 e32 e40 NP NO NA NF NM NK
  have y0 : IntKind.u64.wrap (B.length : Int) = (B.length : Int) := by rw [IntKind.wrap_u64]; omega
  have HL := hide (And.intro hl5 (And.intro hl0 (And.intro hcap (And.intro hlen hp))))
  clear hl5 hl0 hcap hlen hp
  by_cases t1 : K = 1
  case neg =>
    have f1 : (K != 1) = true := by simpa using t1
    have T1 := hide t1
    clear t1
    go_wp2
    exact bodyPost_ret (v := .tuple #[noSeg, .bool false]) (by simp [results, Tryz.results118, go_sem, noSeg]) rfl ⟨.inr ⟨fun h => unhide T1 ((unhide HOK).1 h).1, rfl⟩, (Below.refl _ _).alloc (Nat.le_refl _) _⟩
  have f1 : (K != 1) = false := by simpa using t1
  have T1 := hide t1
  clear t1
  go_wp2_with fail
  by_cases t2 : permOk P
  case neg =>
    refine (isPerm_no P _ t2).mono ?_
    rintro e w1 ⟨rfl, hw1⟩
    subst hw1
    have T2 := hide t2
    clear t2
    go_wp2
    exact bodyPost_ret (v := .tuple #[noSeg, .bool false]) (by simp [results, Tryz.results118, go_sem, noSeg]) rfl ⟨.inr ⟨fun h => unhide T2 ((unhide HOK).1 h).2.1, rfl⟩, (Below.refl _ _).alloc (Nat.le_refl _) _⟩
  refine (isPerm_yes P _ t2).mono ?_
  rintro e w1 ⟨rfl, hw1⟩
  subst hw1
  have T2 := hide t2
  have P7 : P ≤ 7 := t2.2.1
  clear t2
  by_cases t3 : 1 ≤ M
  case neg =>
    have f3 : (M == 0) = true := by simp; omega
    go_wp2
    exact bodyPost_ret (v := .tuple #[noSeg, .bool false]) (by simp [results, Tryz.results118, go_sem, noSeg]) rfl ⟨.inr ⟨fun h => by (have := ((unhide HOK).1 h).2.2.1; omega), rfl⟩, (Below.refl _ _).alloc (Nat.le_refl _) _⟩
  have f3 : (M == 0) = false := by simp; omega
  by_cases t4 : F ≤ M
  case neg =>
    go_wp2
    exact bodyPost_ret (v := .tuple #[noSeg, .bool false]) (by simp [results, Tryz.results118, go_sem, noSeg]) rfl ⟨.inr ⟨fun h => by (have := ((unhide HOK).1 h).2.2.2.1; omega), rfl⟩, (Below.refl _ _).alloc (Nat.le_refl _) _⟩
  go_wp2_with fail
  by_cases t5 : O + F ≤ (B.length : Int)
  case neg =>
    refine (within_no O F (B.length : Int) _ O0 F0 (by omega) (unhide HL).1 (unhide HL).2.1).mono ?_
    rintro e w1 ⟨rfl, hw1⟩
    subst hw1
    go_wp2
    exact bodyPost_ret (v := .tuple #[noSeg, .bool false]) (by simp [results, Tryz.results118, go_sem, noSeg]) rfl ⟨.inr ⟨fun h => by (have := ((unhide HOK).1 h).2.2.2.2.1; omega), rfl⟩, (Below.refl _ _).alloc (Nat.le_refl _) _⟩
  refine (within_yes O F (B.length : Int) _ O0 F0 t5 (unhide HL).1).mono ?_
  rintro e w1 ⟨rfl, hw1⟩
  subst hw1
  by_cases t6 : O % 256 = A % 256
  case neg =>
    have f6 : (O % 256 != A % 256) = true := by simpa using t6
    have T6 := hide t6
    clear t6
    go_wp2
    exact bodyPost_ret (v := .tuple #[noSeg, .bool false]) (by simp [results, Tryz.results118, go_sem, noSeg]) rfl ⟨.inr ⟨fun h => unhide T6 ((unhide HOK).1 h).2.2.2.2.2.1, rfl⟩, (Below.refl _ _).alloc (Nat.le_refl _) _⟩
  have f6 : (O % 256 != A % 256) = false := by simpa using t6
  have T6 := hide t6
  clear t6
  go_wp2_with fail
  by_cases t7 : A + M ≤ 65024
  case neg =>
    refine (within_no A M 65024 _ A0 M0 (by omega) (by omega) (by omega)).mono ?_
    rintro e w1 ⟨rfl, hw1⟩
    subst hw1
    go_wp2
    exact bodyPost_ret (v := .tuple #[noSeg, .bool false]) (by simp [results, Tryz.results118, go_sem, noSeg]) rfl ⟨.inr ⟨fun h => by (have := ((unhide HOK).1 h).2.2.2.2.2.2; omega), rfl⟩, (Below.refl _ _).alloc (Nat.le_refl _) _⟩
  refine (within_yes A M 65024 _ A0 M0 t7 (by omega)).mono ?_
  rintro e w1 ⟨rfl, hw1⟩
  subst hw1
  obtain ⟨o, rfl⟩ := Int.eq_ofNat_of_zero_le O0
  obtain ⟨f, rfl⟩ := Int.eq_ofNat_of_zero_le F0
  obtain ⟨hl5, hl0, hcap, hlen, hp⟩ := unhide HL
  obtain ⟨q, hq⟩ : ∃ q, q = o + f := ⟨_, rfl⟩
  have g1 : (o : Int) + (f : Int) = (q : Int) := by omega
  have g3 : q - o = f := by omega
  have g4 : o ≤ q := by omega
  have g5 : q ≤ cap := by omega
  have g6 : (q : Int) ≤ (cap : Int) := by omega
  have g7 : (o : Int) ≤ (q : Int) := by omega
  have g8 : (q : Int) < 1000000 := by omega
  clear hq f6 f1
  by_cases g2 : cap = o
  · go_wp2
    exact bodyPost_ret (v := .tuple #[segVal b off cap ⟨P, (o : Int), A, (f : Int), M⟩, .bool true]) (by simp [results, Tryz.results118, go_sem, segVal, segPtr, g2]) rfl ⟨.inl ⟨(unhide HOK).2 ⟨unhide T1, unhide T2, t3, t4, t5, unhide T6, t7⟩, by rw [unhide HSG]⟩, (Below.refl _ _).alloc (Nat.le_refl _) _⟩
  go_wp2
  exact bodyPost_ret (v := .tuple #[segVal b off cap ⟨P, (o : Int), A, (f : Int), M⟩, .bool true]) (by simp [results, Tryz.results118, go_sem, segVal, segPtr, g2]) rfl ⟨.inl ⟨(unhide HOK).2 ⟨unhide T1, unhide T2, t3, t4, t5, unhide T6, t7⟩, by rw [unhide HSG]⟩, (Below.refl _ _).alloc (Nat.le_refl _) _⟩
end Go.Proofs.YtkmbleboceedbaaGreatDoor
