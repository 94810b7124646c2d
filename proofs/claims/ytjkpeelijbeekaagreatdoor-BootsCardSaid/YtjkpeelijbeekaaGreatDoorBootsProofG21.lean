import Derived.Test.YtjkpeelijbeekaaGreatDoorBootsProofG20
import Derived.Test.YtjkpeelijbeekaaGreatDoorBootsProofG08
import Derived.Deep.QuietTactic
/- tinyosref: Boot without memory. -/
namespace Go.Proofs.YtjkpeelijbeekaaGreatDoor
open Go.RowKit
set_option linter.unusedVariables false
set_option linter.unusedSimpArgs false

def rk0 (lp lf lo li lb : Int) : RK := ⟨lp, lf, lo, li, lb, .slice none 0 0, .slice none 0 0, .slice none 0 0, .slice none 0 0, .slice none 0 0, .slice none 0 0, [], 0⟩
def rk1 (lp lf lo li lb : Int) : RK := {rk0 lp lf lo li lb with inos := [root], last := 1}
theorem rk1_inv (lp lf lo li lb : Int) : InvK (rk1 lp lf lo li lb) := by
  refine ⟨fun x hx => ?_, ⟨root, by simp [rk1], rfl⟩, Int.le_refl 1⟩
  have : x = root := by simpa [rk1] using hx
  subst this; exact Int.le_refl 1
theorem rk1_toP (lp lf lo li lb : Int) : (rk1 lp lf lo li lb).toP [[]] = boot0 lp lf lo li lb := rfl
/-- Nothing but files, and the limits. -/
def NilK (lp lf lo li lb : Int) (k : RK) : Prop := {k with inos := [], last := 0} = rk0 lp lf lo li lb
theorem NilK.add {lp lf lo li lb : Int} {k : RK} (h : NilK lp lf lo li lb k) (dir : Int) (name : ByteArray) (is : Bool) : NilK lp lf lo li lb (k.add dir name is) := h
theorem NilK.pv {lp lf lo li lb : Int} {k : RK} (h : NilK lp lf lo li lb k) : k.pv = .slice none 0 0 := congrArg RK.pv h
theorem NilK.ov {lp lf lo li lb : Int} {k : RK} (h : NilK lp lf lo li lb k) : k.ov = .slice none 0 0 := congrArg RK.ov h
theorem NilK.opened {lp lf lo li lb : Int} {k : RK} (h : NilK lp lf lo li lb k) (cs : List (List Int)) (s : ByteArray) : NilK lp lf lo li lb (Go.Proofs.YtjkpeelijbeekaaGreatDoor.opened k cs s).1 := by
  unfold Go.Proofs.YtjkpeelijbeekaaGreatDoor.opened
  split
  · exact h.add _ _ _
  · exact h
theorem NilK.file {lp lf lo li lb : Int} {k k' : RK} (h : NilK lp lf lo li lb k) {cs : List (List Int)} {s : ByteArray} (hk : {k' with inos := []} = {(Go.Proofs.YtjkpeelijbeekaaGreatDoor.opened k cs s).1 with inos := []}) : NilK lp lf lo li lb k' := by
  have h1 := h.opened cs s
  unfold NilK at h1 ⊢
  rw [← h1]
  exact congrArg (fun x : RK => {x with last := 0}) hk
theorem NilK.mkdir {lp lf lo li lb : Int} {k : RK} (h : NilK lp lf lo li lb k) (s : ByteArray) : NilK lp lf lo li lb (mkdirOf k s).2 := by
  unfold mkdirOf
  split
  · exact h
  split
  · exact h
  split
  · exact h
  · exact h.add _ _ _

theorem puts_snoc {p q : PK} {FZ : List PFile} {j : Nat} {f : PFile} (h : p.puts (FZ.take j) = (0, q)) (hf : FZ[j]? = some f) (h1 : (q.put f).1 = 0) : p.puts (FZ.take (j + 1)) = (0, (q.put f).2) := by
  have e : FZ.take (j + 1) = FZ.take j ++ [f] := by rw [List.take_add_one, hf]; rfl
  rw [e]
  generalize FZ.take j = l at h
  induction l generalizing p with
  | nil =>
    have : p = q := by have := congrArg Prod.snd h; exact this
    subst this
    show PK.puts p [f] = _
    unfold PK.puts
    rw [if_neg (by rw [h1]; decide)]; rfl
  | cons a r ih =>
    show PK.puts p (a :: (r ++ [f])) = _
    unfold PK.puts at h ⊢
    split at h
    · rename_i hx
      exact absurd (congrArg Prod.fst h) hx
    · rename_i hx
      rw [if_neg hx]
      exact ih h
theorem puts_stop {p q : PK} {FZ : List PFile} {j : Nat} {f : PFile} (h : p.puts (FZ.take j) = (0, q)) (hf : FZ[j]? = some f) (h1 : (q.put f).1 ≠ 0) : (p.puts FZ).1 = (q.put f).1 := by
  have e : FZ = FZ.take j ++ f :: FZ.drop (j + 1) := by
    obtain ⟨hl, hg⟩ := List.getElem?_eq_some_iff.1 hf
    have e2 : FZ.drop j = f :: FZ.drop (j + 1) := by rw [List.drop_eq_getElem_cons hl, hg]
    rw [← e2, List.take_append_drop]
  rw [e]
  generalize FZ.drop (j + 1) = t
  clear e hf
  generalize FZ.take j = l at h
  induction l generalizing p with
  | nil =>
    have : p = q := by have := congrArg Prod.snd h; exact this
    subst this
    show (PK.puts p (f :: t)).1 = _
    unfold PK.puts
    rw [if_pos h1]
  | cons a r ih =>
    show (PK.puts p (a :: (r ++ f :: t))).1 = _
    unfold PK.puts at h ⊢
    split at h
    · rename_i hx
      exact absurd (congrArg Prod.fst h) hx
    · rename_i hx
      rw [if_neg hx]
      exact ih h
theorem puts_dir {k : RK} {cs : List (List Int)} {f : PFile} (hd : f.dir = true) : ((k.toP cs).put f).1 = (mkdirOf k f.path).1 ∧ ((mkdirOf k f.path).1 = 0 → ((k.toP cs).put f).2 = (mkdirOf k f.path).2.toP (cs ++ [[]])) := by
  unfold PK.put
  rw [if_pos hd]
  exact mkdir_toP k cs f.path
theorem puts_file {k : RK} {cs : List (List Int)} {f : PFile} (hd : f.dir = false) : ((k.toP cs).put f).1 = fileCode k cs f.path f.bytes ∧ ∀ k' : RK, k'.inos.map erase = (Go.Proofs.YtjkpeelijbeekaaGreatDoor.opened k cs f.path).1.inos.map erase → {k' with inos := []} = {(Go.Proofs.YtjkpeelijbeekaaGreatDoor.opened k cs f.path).1 with inos := []} → ((k.toP cs).put f).2 = k'.toP (fileCs k cs f.path f.bytes) := by
  unfold PK.put
  rw [if_neg (by rw [hd]; decide)]
  exact ⟨file_toP k cs f.path f.bytes, fun k' h1 h2 => fileOut_toP k k' cs f.path f.bytes h1 h2⟩
theorem mkdir_add {k : RK} {s : ByteArray} (h : (mkdirOf k s).1 = 0) : (mkdirOf k s).2 = k.add (walkOf k.inos s).dir (walkOf k.inos s).name true := by
  unfold mkdirOf at h ⊢
  split at h
  · rename_i h1; exact absurd h h1
  rename_i h1
  rw [if_neg h1]
  split at h
  · exact absurd h (show ¬ (10 : Int) = 0 by decide)
  rename_i h2
  rw [if_neg h2]
  split at h
  · exact absurd h (show ¬ (12 : Int) = 0 by decide)
  rename_i h3
  rw [if_neg h3]

theorem used_snoc (cs : List (List Int)) : usedOf (cs ++ [[]]) = usedOf cs := by simp [usedOf]
theorem used_set : ∀ (cs : List (List Int)) (K : Nat) (c : List Int), usedOf (cs.set K c) ≤ usedOf cs - (cs.getD K []).length + c.length ∧ (cs.getD K []).length ≤ usedOf cs
  | [], K, c => by simp [usedOf]
  | a :: r, 0, c => by simp [usedOf]; omega
  | a :: r, K + 1, c => by
    have ih := used_set r K c
    have e1 : usedOf ((a :: r).set (K + 1) c) = a.length + usedOf (r.set K c) := by simp [usedOf]
    have e2 : usedOf (a :: r) = a.length + usedOf r := by simp [usedOf]
    have e3 : (a :: r).getD (K + 1) [] = r.getD K [] := by simp
    rw [e1, e2, e3]; omega
theorem opened_used (k : RK) (cs : List (List Int)) (s : ByteArray) : usedOf (Go.Proofs.YtjkpeelijbeekaaGreatDoor.opened k cs s).2.1 = usedOf cs := by
  unfold Go.Proofs.YtjkpeelijbeekaaGreatDoor.opened
  split
  · exact used_snoc cs
  · rfl
theorem fileCs_used (k : RK) (cs : List (List Int)) (s : ByteArray) (B : List Int) : usedOf (fileCs k cs s B) ≤ usedOf cs + B.length := by
  unfold fileCs
  split
  · rw [opened_used]; omega
  · have h := used_set (Go.Proofs.YtjkpeelijbeekaaGreatDoor.opened k cs s).2.1 (placeOf (Go.Proofs.YtjkpeelijbeekaaGreatDoor.opened k cs s).1.inos (Go.Proofs.YtjkpeelijbeekaaGreatDoor.opened k cs s).2.2).toNat (over (oldOf (Go.Proofs.YtjkpeelijbeekaaGreatDoor.opened k cs s)) B)
    rw [over_len (M := max B.length (oldOf (Go.Proofs.YtjkpeelijbeekaaGreatDoor.opened k cs s)).length) rfl, opened_used] at h
    have e : oldOf (Go.Proofs.YtjkpeelijbeekaaGreatDoor.opened k cs s) = (Go.Proofs.YtjkpeelijbeekaaGreatDoor.opened k cs s).2.1.getD (placeOf (Go.Proofs.YtjkpeelijbeekaaGreatDoor.opened k cs s).1.inos (Go.Proofs.YtjkpeelijbeekaaGreatDoor.opened k cs s).2.2).toNat [] := rfl
    rw [← e] at h
    omega
theorem isBytes_mem {B : List Int} : IsBytes B ↔ ∀ x ∈ B, 0 ≤ x ∧ x ≤ 255 := by
  constructor
  · intro h x hx
    obtain ⟨j, hj⟩ := List.mem_iff_getElem?.1 hx
    have := h j
    rw [List.getD_eq_getElem?_getD, hj] at this
    exact this
  · intro h j
    rw [List.getD_eq_getElem?_getD]
    cases hj : B[j]? with
    | none => exact ⟨Int.le_refl 0, by decide⟩
    | some x => exact h x (List.mem_of_getElem? hj)
def AllBytes (cs : List (List Int)) : Prop := ∀ c ∈ cs, IsBytes c
theorem isBytes_nils : AllBytes [[]] := fun c hc => by
  have : c = [] := by simpa using hc
  subst this
  exact isBytes_mem.2 (fun x hx => absurd hx (by simp))
theorem AllBytes.snoc {cs : List (List Int)} (h : AllBytes cs) : AllBytes (cs ++ [[]]) := by
  intro c hc
  rcases List.mem_append.1 hc with h1 | h1
  · exact h c h1
  · have : c = [] := by simpa using h1
    subst this; exact isBytes_mem.2 (fun x hx => absurd hx (by simp))
theorem AllBytes.opened {cs : List (List Int)} (h : AllBytes cs) (k : RK) (s : ByteArray) : AllBytes (Go.Proofs.YtjkpeelijbeekaaGreatDoor.opened k cs s).2.1 := by
  unfold Go.Proofs.YtjkpeelijbeekaaGreatDoor.opened
  split
  · exact h.snoc
  · exact h
theorem AllBytes.file {cs : List (List Int)} (h : AllBytes cs) (k : RK) (s : ByteArray) {B : List Int} (hB : IsBytes B) : AllBytes (fileCs k cs s B) := by
  unfold fileCs
  split
  · exact h.opened k s
  · intro c hc
    rcases List.mem_or_eq_of_mem_set hc with h1 | h1
    · exact h.opened k s c h1
    · subst h1
      have ho : IsBytes (oldOf (Go.Proofs.YtjkpeelijbeekaaGreatDoor.opened k cs s)) := by
        unfold oldOf
        rw [List.getD_eq_getElem?_getD]
        cases hg : (Go.Proofs.YtjkpeelijbeekaaGreatDoor.opened k cs s).2.1[(placeOf (Go.Proofs.YtjkpeelijbeekaaGreatDoor.opened k cs s).1.inos (Go.Proofs.YtjkpeelijbeekaaGreatDoor.opened k cs s).2.2).toNat]? with
        | none => exact isBytes_mem.2 (fun x hx => absurd hx (by simp))
        | some c => exact h.opened k s c (List.mem_of_getElem? hg)
      refine isBytes_mem.2 (fun x hx => ?_)
      unfold over at hx
      rcases List.mem_append.1 hx with h2 | h2
      · exact isBytes_mem.1 hB x h2
      · exact isBytes_mem.1 ho x (List.mem_of_mem_drop h2)
/-- Exec without memory. -/
def PK.fileOf (p : PK) (s : ByteArray) : List Int := p.cs.getD (placeOf p.xs (walkOf p.xs s).n).toNat []
def PK.ExecErr (p : PK) (PL : List Nat) (i : Nat) (s : ByteArray) (ss : List ByteArray) (c : Int) : Prop :=
  (walkOf p.xs s).e ≠ 0 ∧ c = (walkOf p.xs s).e ∨ (walkOf p.xs s).e = 0 ∧ ((walkOf p.xs s).n = 0 ∧ c = 9 ∨ (walkOf p.xs s).n ≠ 0 ∧ (dirOf p.xs (walkOf p.xs s).n = true ∧ c = 11 ∨
    dirOf p.xs (walkOf p.xs s).n = false ∧ (Bad (p.fileOf s) c ∨ Good (p.fileOf s) ∧ (okArgs ss = false ∧ c = 6 ∨
      okArgs ss = true ∧ p.lf < (PL.sum : Int) - (PL.getD i 0 : Int) + ((outPgs (p.fileOf s)).length : Int) + 2 ∧ c = 7))))
def PK.ExecOk (p : PK) (PL : List Nat) (i : Nat) (s : ByteArray) (ss : List ByteArray) : Prop :=
  (walkOf p.xs s).e = 0 ∧ (walkOf p.xs s).n ≠ 0 ∧ dirOf p.xs (walkOf p.xs s).n = false ∧ Good (p.fileOf s) ∧ okArgs ss = true ∧ (PL.sum : Int) - (PL.getD i 0 : Int) + ((outPgs (p.fileOf s)).length : Int) + 2 ≤ p.lf
theorem fileOf_toP (k : RK) (cs : List (List Int)) (s : ByteArray) : (k.toP cs).fileOf s = Go.Proofs.YtjkpeelijbeekaaGreatDoor.fileOf k cs s := by
  unfold PK.fileOf Go.Proofs.YtjkpeelijbeekaaGreatDoor.fileOf
  show cs.getD (placeOf (k.inos.map erase) (walkOf (k.inos.map erase) s).n).toNat [] = _
  rw [walkOf_erase, placeOf_erase]
theorem execErr_toP {k : RK} {cs : List (List Int)} {PL : List Nat} {i : Nat} {s : ByteArray} {ss : List ByteArray} {c : Int} (h : ExecErr k cs PL i s ss c) : (k.toP cs).ExecErr PL i s ss c := by
  unfold PK.ExecErr
  rw [fileOf_toP, show walkOf (k.toP cs).xs s = walkOf k.inos s from walkOf_erase k.inos s, show ∀ n, dirOf (k.toP cs).xs n = dirOf k.inos n from dirOf_erase k.inos]
  exact h
theorem execOk_toP {k : RK} {cs : List (List Int)} {PL : List Nat} {i : Nat} {s : ByteArray} {ss : List ByteArray} (h : ExecOk k cs PL i s ss) : (k.toP cs).ExecOk PL i s ss := by
  unfold PK.ExecOk
  rw [fileOf_toP, show walkOf (k.toP cs).xs s = walkOf k.inos s from walkOf_erase k.inos s, show ∀ n, dirOf (k.toP cs).xs n = dirOf k.inos n from dirOf_erase k.inos]
  exact h
end Go.Proofs.YtjkpeelijbeekaaGreatDoor

/- tinyosref: Path. -/
namespace Go.Proofs.YtjkpeelijbeekaaGreatDoor
open Go.RowKit
set_option linter.unusedVariables false
set_option linter.unusedSimpArgs false

def slashB : ByteArray := ⟨#[47]⟩
/-- The path of an inode, from its number up; t: what stands behind it already. -/
def pathGo (xs : List Ino) : Nat → Int → ByteArray → ByteArray
  | 0, _, t => t
  | n + 1, id, t => if id ≤ 1 then t else match xs.find? (fun x => x.id == id) with | some x => pathGo xs n x.parent (slashB ++ x.name ++ t) | none => t
def pathOf (xs : List Ino) (id : Int) : ByteArray := pathGo xs id.toNat id ByteArray.empty
/-- Numbers go down along the path, and each directory is there. -/
structure TreeInv (xs : List Ino) : Prop where
  down : ∀ x ∈ xs, x.parent < x.id
  there : ∀ x ∈ xs, 1 < x.parent → ∃ y ∈ xs, y.id = x.parent
  names : ∀ x ∈ xs, x.name.size ≤ 14
theorem pathGo_le {xs : List Ino} {n : Nat} {id : Int} {t : ByteArray} (h : id ≤ 1) : pathGo xs n id t = t := by
  cases n with
  | zero => rfl
  | succ n => unfold pathGo; rw [if_pos h]
theorem pathGo_fuel {xs : List Ino} (hd : ∀ x ∈ xs, x.parent < x.id) : ∀ (n m : Nat) (id : Int) (t : ByteArray), id ≤ n + 1 → id ≤ m + 1 → pathGo xs n id t = pathGo xs m id t
  | 0, m, id, t, h1, h2 => by rw [pathGo_le (by omega), pathGo_le (by omega)]
  | n + 1, 0, id, t, h1, h2 => by rw [pathGo_le (by omega), pathGo_le (by omega)]
  | n + 1, m + 1, id, t, h1, h2 => by
    unfold pathGo
    split
    · rfl
    · cases hx : xs.find? (fun x => x.id == id) with
      | none => rfl
      | some x =>
        have h3 := hd x (List.mem_of_find?_eq_some hx)
        have h4 : x.id = id := by have := List.find?_some hx; simpa using this
        exact pathGo_fuel hd n m x.parent _ (by omega) (by omega)
theorem pathOf_root {xs : List Ino} {id : Int} (h : id ≤ 1) : pathOf xs id = ByteArray.empty := pathGo_le h
theorem pathGo_up {xs : List Ino} (hd : ∀ x ∈ xs, x.parent < x.id) {n : Nat} {id : Int} {x : Ino} {t : ByteArray} (h1 : 1 < id) (hn : id ≤ n) (hx : xs.find? (fun x => x.id == id) = some x) : pathGo xs n id t = pathGo xs n x.parent (slashB ++ x.name ++ t) := by
  cases n with
  | zero => omega
  | succ n =>
    have h3 := hd x (List.mem_of_find?_eq_some hx)
    have h4 : x.id = id := by have := List.find?_some hx; simpa using this
    rw [show pathGo xs (n + 1) id t = pathGo xs n x.parent (slashB ++ x.name ++ t) from by conv => lhs; unfold pathGo; rw [if_neg (by omega), hx]]
    exact pathGo_fuel hd n (n + 1) _ _ (by omega) (by omega)
/-- What stands behind is kept. -/
theorem pathGo_tail (xs : List Ino) : ∀ (n : Nat) (id : Int) (t : ByteArray), pathGo xs n id t = pathGo xs n id ByteArray.empty ++ t
  | 0, id, t => by show t = ByteArray.empty ++ t; simp
  | n + 1, id, t => by
    unfold pathGo
    split
    · simp
    · cases xs.find? (fun x => x.id == id) with
      | none => simp
      | some x =>
        show pathGo xs n x.parent (slashB ++ x.name ++ t) = pathGo xs n x.parent (slashB ++ x.name ++ ByteArray.empty) ++ t
        rw [pathGo_tail xs n x.parent (slashB ++ x.name ++ t), pathGo_tail xs n x.parent (slashB ++ x.name ++ ByteArray.empty)]
        simp [ByteArray.append_assoc]

set_option maxRecDepth 100000 in
set_option maxHeartbeats 4000000 in
theorem refPath_any (kb g cap : Nat) (xs : List Ino) (id0 : Int) (w : World) (h : InosAt w kb g cap xs) (hn : xs.length ≤ 1000000) (ht : TreeInv xs) (hid : 1 < id0 → ∃ y ∈ xs, y.id = id0) (hi : id0 ≤ 1000000) :
    Calls Tryz.prog 21 #[.pointer (some ⟨kb, 0, none⟩), .int .i64 id0] w fun e w' => e = .returned (.string (pathOf xs id0)) ∧ w' = w := by
  have H := hide h
  have HT := hide ht
  have HID := hide hid
  clear h ht hid
  go_enter Tryz.func21, Tryz.ntmps21
  go_wp2
  go_loop [1, 5] (fun i s => ∃ (id : Int) (t : ByteArray), i = .int .i64 id ∧ s = .string t ∧ id ≤ id0 ∧ Hid (1 < id → ∃ y ∈ xs, y.id = id) ∧ Hid ((t.size : Int) ≤ 15 * (id0 - id)) ∧ Hid (pathGo xs id0.toNat id t = pathOf xs id0)) (fun i _ => (intOf i).toNat)
  case atStart => exact ⟨id0, ByteArray.empty, rfl, rfl, by omega, HID, hide (by simp), hide rfl⟩
  case round =>
    obtain ⟨id, t, rfl, rfl, hle, HI, HS, HP⟩ := hrel
    by_cases hlt : 1 < id
    · obtain ⟨x, hx⟩ := find_id (unhide HI hlt)
      obtain ⟨K, hK, hKx⟩ := place_of_mem hx
      have hKl := (List.getElem?_eq_some_iff.1 hKx).1
      have HIN := hide (refInode_any kb g cap xs id w (unhide H) hn)
      rw [hK] at HIN
      have c1 : w.cell? ⟨g, K * 5 + 1, none⟩ = some (.int .i64 x.parent) := (unhide H).cell hKx (i := 1) (by omega) rfl
      have c2 : w.cell? ⟨g, K * 5 + 2, none⟩ = some (.string x.name) := (unhide H).cell hKx (i := 2) (by omega) rfl
      have c7 := (unhide H).1
      have hxm := List.mem_of_find?_eq_some hx
      have hxi : x.id = id := by have := List.find?_some hx; simpa using this
      have hdn := (unhide HT).down x hxm
      have hnm := (unhide HT).names x hxm
      have HS2 := hide (show ((slashB ++ x.name ++ t).size : Int) ≤ 15 * (id0 - x.parent) from by
        have h1 := unhide HS
        rw [ByteArray.size_append, ByteArray.size_append]
        have h2 : slashB.size = 1 := rfl
        omega)
      have HP2 := hide ((pathGo_up (unhide HT).down (n := id0.toNat) hlt (by omega) hx).symm.trans (unhide HP))
      have HI2 := hide (fun h1 => (unhide HT).there x hxm h1)
      have hpl : x.parent < id := by omega
      have hts : t.size ≤ 100000000 := by have := unhide HS; omega
      have hns : x.name.size ≤ 100000000 := by omega
      have hK0 : (0 : Int) ≤ (K : Int) := by omega
      have hK1 : (K : Int) < (xs.length : Int) := by omega
      generalize x.parent = PA at *
      generalize x.name = NA at *
      clear hx hK hKx hxm hxi hnm hdn HP HS HI
      go_wp2_with fail
      refine (unhide HIN).mono ?_
      rintro e w3 ⟨rfl, hw3⟩
      subst hw3
      go_wp2
      go_round
      case rel => exact ⟨PA, slashB ++ NA ++ t, rfl, rfl, by omega, HI2, HS2, HP2⟩
      case measure => simp [intOf]; omega
    · have HR := hide ((pathGo_le (xs := xs) (n := id0.toNat) (t := t) (show id ≤ 1 by omega)).symm.trans (unhide HP))
      go_wp2
      go_ret
      exact ⟨by rw [← unhide HR]; rfl, rfl⟩
end Go.Proofs.YtjkpeelijbeekaaGreatDoor

/- tinyosref: what holds of the files of a kernel that Boot makes. -/
namespace Go.Proofs.YtjkpeelijbeekaaGreatDoor
open Go.RowKit
set_option linter.unusedVariables false
set_option linter.unusedSimpArgs false

structure PInv (p : PK) : Prop where
  ids : ∀ x ∈ p.xs, 1 ≤ x.id ∧ x.id ≤ p.last
  root : ∃ x ∈ p.xs, x.id = 1 ∧ x.dir = true
  last : 1 ≤ p.last
  incr : p.xs.Pairwise (fun x y => x.id < y.id)
  names : ∀ x ∈ p.xs, x.parent ≠ 0 → nameOk x.name = true
  kids : ∀ x ∈ p.xs, ∀ y ∈ p.xs, x.parent = y.parent → x.parent ≠ 0 → x.name.toList = y.name.toList → x.id = y.id
  parents : ∀ x ∈ p.xs, x.parent ≠ 0 → ∃ y ∈ p.xs, y.id = x.parent ∧ y.dir = true
  root1 : ∀ x ∈ p.xs, x.parent = 0 → x.id = 1 ∧ x.name = ByteArray.empty
  down : ∀ x ∈ p.xs, 0 ≤ x.parent ∧ x.parent < x.id
  len : p.cs.length = p.xs.length
  bare : ∀ (i : Nat) (x : Ino) (c : List Int), p.xs[i]? = some x → p.cs[i]? = some c → x.dir = true → c = []
theorem PInv.tree {p : PK} (h : PInv p) : TreeInv p.xs := by
  refine ⟨fun x hx => (h.down x hx).2, fun x hx hp => ?_, fun x hx => ?_⟩
  · obtain ⟨y, hy, he, _⟩ := h.parents x hx (by omega)
    exact ⟨y, hy, he⟩
  · by_cases hp : x.parent = 0
    · rw [(h.root1 x hx hp).2]; decide
    · have := h.names x hx hp
      unfold nameOk at this
      simp only [Bool.and_eq_true, decide_eq_true_eq] at this
      exact this.1.1.1.2
theorem boot0_inv (lp lf lo li lb : Int) : PInv (boot0 lp lf lo li lb) := by
  have hm : ∀ x ∈ (boot0 lp lf lo li lb).xs, x = Go.Proofs.YtjkpeelijbeekaaGreatDoor.root := fun x hx => by simpa [boot0] using hx
  refine ⟨fun x hx => ?_, ⟨Go.Proofs.YtjkpeelijbeekaaGreatDoor.root, by simp [boot0], rfl, rfl⟩, Int.le_refl 1, by simp [boot0], fun x hx hp => ?_, fun x hx y hy _ hp _ => ?_, fun x hx hp => ?_, fun x hx _ => ?_, fun x hx => ?_, rfl, fun i x c hx hc _ => ?_⟩
  · obtain rfl := hm x hx; exact ⟨Int.le_refl 1, Int.le_refl 1⟩
  · obtain rfl := hm x hx; exact absurd rfl hp
  · obtain rfl := hm x hx; obtain rfl := hm y hy; rfl
  · obtain rfl := hm x hx; exact absurd rfl hp
  · obtain rfl := hm x hx; exact ⟨rfl, rfl⟩
  · obtain rfl := hm x hx; exact ⟨Int.le_refl 0, show (0 : Int) < 1 by decide⟩
  · match i, hc with
    | 0, hc => have : [] = c := by simpa [boot0] using hc
               exact this.symm
    | (m + 1), hc => simp [boot0] at hc
theorem follow_new {xs : List Ino} : ∀ (l : List ByteArray) (dir : Int), l ≠ [] → (follow xs dir l).e = 0 → (follow xs dir l).name ∈ l ∧ (follow xs dir l).n = childOf xs (follow xs dir l).dir (follow xs dir l).name ∧ ((follow xs dir l).dir = dir ∨ ∃ y ∈ xs, y.id = (follow xs dir l).dir ∧ y.dir = true)
  | [], dir, h, _ => absurd rfl h
  | [a], dir, _, _ => ⟨by simp [follow], rfl, .inl rfl⟩
  | a :: b :: r, dir, _, h0 => by
    unfold follow at h0 ⊢
    split at h0
    · simp [walkErr] at h0
    · rename_i h1
      rw [if_neg h1]
      split at h0
      · rename_i h2
        rw [if_pos h2]
        obtain ⟨x1, x2, x3⟩ := follow_new (b :: r) (childOf xs dir a) (by simp) h0
        refine ⟨List.mem_cons_of_mem _ x1, x2, .inr ?_⟩
        rcases x3 with x3 | x3
        · rw [x3]
          unfold dirOf at h2
          cases hf : xs.find? (fun x => x.id == childOf xs dir a) with
          | none => rw [hf] at h2; cases h2
          | some y =>
            rw [hf] at h2
            exact ⟨y, List.mem_of_find?_eq_some hf, by have := List.find?_some hf; simpa using this, h2⟩
        · exact x3
      · simp [walkErr] at h0
theorem walk_new {xs : List Ino} {s : ByteArray} (h0 : (walkOf xs s).e = 0) (hn : (walkOf xs s).n = 0) : nameOk (walkOf xs s).name = true ∧ childOf xs (walkOf xs s).dir (walkOf xs s).name = 0 ∧ ((walkOf xs s).dir = 1 ∨ ∃ y ∈ xs, y.id = (walkOf xs s).dir ∧ y.dir = true) := by
  unfold walkOf at h0 hn ⊢
  split at h0
  · simp [walkErr] at h0
  · rename_i heq
    rw [heq] at hn
    exact absurd hn (show ¬ (1 : Int) = 0 by decide)
  · rename_i a r heq
    rw [heq] at hn
    obtain ⟨x1, x2, x3⟩ := follow_new (a :: r) 1 (by simp) h0
    refine ⟨?_, by rw [← x2]; exact hn, x3⟩
    have hall : ∀ m ∈ a :: r, nameOk m = true := by
      unfold namesOf at heq
      split at heq
      · cases heq
      · split at heq
        · cases heq
        · split at heq
          · rename_i ha
            rw [← Option.some.inj heq]
            exact List.all_eq_true.1 ha
          · cases heq
    exact hall _ x1
theorem child_zero {xs : List Ino} {dir : Int} {name : ByteArray} (hid : ∀ x ∈ xs, 1 ≤ x.id) (h : childOf xs dir name = 0) : ∀ x ∈ xs, isChild dir name x = false := by
  intro x hx
  unfold childOf at h
  cases hf : xs.find? (isChild dir name) with
  | none =>
    have := List.find?_eq_none.1 hf x hx
    simpa using this
  | some y =>
    rw [hf] at h
    have := hid y (List.mem_of_find?_eq_some hf)
    have h' : y.id = 0 := h
    omega
theorem PInv.add {p : PK} (h : PInv p) (dir : Int) (name : ByteArray) (is : Bool) (hn : nameOk name = true) (hc : childOf p.xs dir name = 0) (hd : dir = 1 ∨ ∃ y ∈ p.xs, y.id = dir ∧ y.dir = true) : PInv (p.add dir name is) := by
  have hno := child_zero (fun x hx => (h.ids x hx).1) hc
  obtain ⟨d, hdm, hdi, hdd⟩ : ∃ y ∈ p.xs, y.id = dir ∧ y.dir = true := by
    rcases hd with rfl | hd
    · obtain ⟨x, hx, h1, h2⟩ := h.root
      exact ⟨x, hx, h1, h2⟩
    · exact hd
  have hdr := h.ids d hdm
  have hmem : ∀ x ∈ (p.add dir name is).xs, x ∈ p.xs ∨ x = newIno (p.last + 1) dir name is := fun x hx => by
    have : x ∈ p.xs ++ [newIno (p.last + 1) dir name is] := hx
    simpa using this
  have hl := h.last
  refine ⟨fun x hx => ?_, ?_, show 1 ≤ p.last + 1 by omega, ?_, fun x hx hp => ?_, fun x hx y hy hp hp0 hnm => ?_, fun x hx hp => ?_, fun x hx hp => ?_, fun x hx => ?_, ?_, fun i x c hx hcx hxd => ?_⟩
  · show 1 ≤ x.id ∧ x.id ≤ p.last + 1
    rcases hmem x hx with h1 | rfl
    · have := h.ids x h1; omega
    · exact ⟨show 1 ≤ p.last + 1 by omega, Int.le_refl _⟩
  · obtain ⟨x, hx, h1, h2⟩ := h.root
    exact ⟨x, List.mem_append_left _ hx, h1, h2⟩
  · show (p.xs ++ [newIno (p.last + 1) dir name is]).Pairwise _
    rw [List.pairwise_append]
    refine ⟨h.incr, by simp, fun x hx y hy => ?_⟩
    have e : y = newIno (p.last + 1) dir name is := by simpa using hy
    subst e
    have := h.ids x hx
    show x.id < p.last + 1
    omega
  · rcases hmem x hx with h1 | rfl
    · exact h.names x h1 hp
    · exact hn
  · rcases hmem x hx with h1 | rfl <;> rcases hmem y hy with h2 | rfl
    · exact h.kids x h1 y h2 hp hp0 hnm
    · exfalso
      have := hno x h1
      have e1 : x.parent = dir := hp
      have e2 : x.name.toList = name.toList := hnm
      simp [isChild, e1, e2] at this
    · exfalso
      have := hno y h2
      have e1 : dir = y.parent := hp
      have e2 : name.toList = y.name.toList := hnm
      simp [isChild, ← e1, ← e2] at this
    · rfl
  · rcases hmem x hx with h1 | rfl
    · obtain ⟨y, hy, e1, e2⟩ := h.parents x h1 hp
      exact ⟨y, List.mem_append_left _ hy, e1, e2⟩
    · exact ⟨d, List.mem_append_left _ hdm, hdi, hdd⟩
  · rcases hmem x hx with h1 | rfl
    · exact h.root1 x h1 hp
    · have e : dir = 0 := hp
      omega
  · rcases hmem x hx with h1 | rfl
    · exact h.down x h1
    · show 0 ≤ dir ∧ dir < p.last + 1
      omega
  · show (p.cs ++ [[]]).length = (p.xs ++ [newIno (p.last + 1) dir name is]).length
    simp [h.len]
  · have hx' : (p.xs ++ [newIno (p.last + 1) dir name is])[i]? = some x := hx
    have hc' : (p.cs ++ [[]])[i]? = some c := hcx
    rw [List.getElem?_append] at hx' hc'
    rw [h.len] at hc'
    split at hx'
    · rename_i hi
      rw [if_pos hi] at hc'
      exact h.bare i x c hx' hc' hxd
    · rename_i hi
      rw [if_neg hi] at hc'
      have hm := List.mem_of_getElem? hc'
      simpa using hm
theorem PInv.mkdir {p : PK} (h : PInv p) (s : ByteArray) : PInv (p.mkdir s).2 := by
  unfold PK.mkdir
  split
  · exact h
  · rename_i h0
    split
    · exact h
    · rename_i h1
      split
      · exact h
      · have h0' : (walkOf p.xs s).e = 0 := Classical.byContradiction h0
        have h1' : (walkOf p.xs s).n = 0 := Classical.byContradiction h1
        obtain ⟨a, b, c⟩ := walk_new h0' h1'
        exact h.add _ _ _ a b c
theorem PInv.opened {p : PK} (h : PInv p) (s : ByteArray) (h0 : (walkOf p.xs s).e = 0) : PInv (p.opened s).1 := by
  unfold PK.opened
  split
  · rename_i h1
    obtain ⟨a, b, c⟩ := walk_new h0 h1
    exact h.add _ _ _ a b c
  · exact h
theorem PInv.cs {p : PK} (h : PInv p) {cs : List (List Int)} (hl : cs.length = p.cs.length) (hb : ∀ (i : Nat) (x : Ino) (c : List Int), p.xs[i]? = some x → cs[i]? = some c → x.dir = true → c = []) : PInv {p with cs := cs} :=
  ⟨h.ids, h.root, h.last, h.incr, h.names, h.kids, h.parents, h.root1, h.down, hl.trans h.len, hb⟩
theorem PInv.file {p : PK} (h : PInv p) (s : ByteArray) (B : List Int) (hc : p.fileCode s B = 0) : PInv (p.fileOut s B) := by
  unfold PK.fileCode at hc
  split at hc
  · rename_i h1; exact absurd hc h1
  rename_i h1
  have h0 : (walkOf p.xs s).e = 0 := Classical.byContradiction h1
  split at hc
  · exact absurd hc (show ¬ (12 : Int) = 0 by decide)
  split at hc
  · exact absurd hc (show ¬ (11 : Int) = 0 by decide)
  rename_i hd
  have ho := h.opened s h0
  unfold PK.fileOut
  split
  · exact ho
  · refine ho.cs (by simp) (fun i x c hx hcx hxd => ?_)
    rw [List.getElem?_set] at hcx
    split at hcx
    · rename_i hi
      exfalso
      apply hd
      split at hcx
      · -- the inode at that place has that number
        rename_i hlt
        have hfind : ∃ y, (p.opened s).1.xs.find? (fun z => z.id == (p.opened s).2) = some y ∧ ∃ K : Nat, placeOf (p.opened s).1.xs (p.opened s).2 = K ∧ (p.opened s).1.xs[K]? = some y := by
          cases hf : (p.opened s).1.xs.find? (fun z => z.id == (p.opened s).2) with
          | some y => obtain ⟨K, k1, k2⟩ := place_of_mem hf; exact ⟨y, rfl, K, k1, k2⟩
          | none =>
            exfalso
            have hno := List.find?_eq_none.1 hf
            have hin : ∃ z ∈ (p.opened s).1.xs, z.id = (p.opened s).2 := by
              unfold PK.opened
              split
              · exact ⟨newIno (p.last + 1) (walkOf p.xs s).dir (walkOf p.xs s).name false, by simp [PK.add], rfl⟩
              · rename_i hne
                unfold walkOf at h0 hne ⊢
                split at h0
                · simp [walkErr] at h0
                · obtain ⟨z, hz, e, _⟩ := h.root
                  exact ⟨z, hz, e⟩
                · rename_i a r heq
                  rw [heq] at hne
                  exact follow_n (a :: r) 1 h0 hne
            obtain ⟨z, hz, e⟩ := hin
            have := hno z hz
            simp [e] at this
        obtain ⟨y, hy, K, hK, hKy⟩ := hfind
        rw [hK] at hi
        have hiK : K = i := by simpa using hi
        subst hiK
        rw [hKy] at hx
        obtain rfl := Option.some.inj hx
        unfold dirOf
        rw [hy]
        exact hxd
      · cases hcx
    · exact ho.bare i x c hx hcx hxd
theorem PInv.puts {p : PK} : ∀ (FZ : List PFile) {p : PK}, PInv p → PInv (p.puts FZ).2
  | [], p, h => h
  | f :: r, p, h => by
    unfold PK.puts
    split
    · exact h
    · rename_i hc
      have hc' : (p.put f).1 = 0 := Classical.byContradiction hc
      refine PInv.puts (p := p) r ?_
      unfold PK.put at hc' ⊢
      split at hc'
      · rename_i hd
        rw [if_pos hd]
        exact h.mkdir f.path
      · rename_i hd
        rw [if_neg hd]
        exact h.file f.path f.bytes hc'
theorem puts_inv (lp lf lo li lb : Int) (FZ : List PFile) : PInv ((boot0 lp lf lo li lb).puts FZ).2 := PInv.puts (p := boot0 lp lf lo li lb) FZ (boot0_inv lp lf lo li lb)
end Go.Proofs.YtjkpeelijbeekaaGreatDoor

/- tinyoslaw: small, of a setting alone. -/
namespace Go.Proofs.YtjkpeelijbeekaaGreatDoor
open Go.RowKit
set_option linter.unusedVariables false
set_option linter.unusedSimpArgs false

/-- The files of a setting as they lie: three cells each. -/
structure FilesIn (w : World) (fb foff : Nat) (FZ : List PFile) : Prop where
  path : ∀ (i : Nat) (f : PFile), FZ[i]? = some f → w.cell? ⟨fb, foff + i * 3, none⟩ = some (.string f.path)
  dir : ∀ (i : Nat) (f : PFile), FZ[i]? = some f → w.cell? ⟨fb, foff + i * 3 + 1, none⟩ = some (.bool f.dir)
  bytes : ∀ (i : Nat) (f : PFile), FZ[i]? = some f → ∃ a q o c, w.cell? ⟨fb, foff + i * 3 + 2, none⟩ = some (.slice a f.bytes.length c) ∧ (0 < f.bytes.length → a = some ⟨q, o, none⟩ ∧ q < w.heap.size) ∧ BView w q o f.bytes
def setting (lp lf lo li lb : Int) (v : Value) : List Value := [.int .i64 lp, .int .i64 lf, .int .i64 lo, .int .i64 li, .int .i64 lb, v]
def fileWeight (f : PFile) : Nat := f.path.size + f.bytes.length
def weightTo (FZ : List PFile) (j : Nat) : Nat := ((FZ.take j).map fileWeight).sum
theorem weightTo_succ {FZ : List PFile} {j : Nat} {f : PFile} (h : FZ[j]? = some f) : weightTo FZ (j + 1) = weightTo FZ j + fileWeight f := by
  unfold weightTo
  rw [List.take_add_one, h]; simp
theorem weightTo_le {FZ : List PFile} {M : Nat} (hb : ∀ f ∈ FZ, fileWeight f ≤ M) : ∀ j, weightTo FZ j ≤ j * M
  | 0 => by simp [weightTo]
  | j + 1 => by
    have h2 := weightTo_le hb j
    rw [Nat.succ_mul]
    cases h : FZ[j]? with
    | none =>
      have e : FZ.take (j + 1) = FZ.take j := by rw [List.take_add_one, h]; simp
      have e2 : weightTo FZ (j + 1) = weightTo FZ j := by unfold weightTo; rw [e]
      omega
    | some f =>
      have h1 := hb f (List.mem_of_getElem? h)
      rw [weightTo_succ h]; omega
def isSmall (FZ : List PFile) : Bool := decide (FZ.length ≤ 100) && decide ((FZ.map fileWeight).sum ≤ 200000)

set_option maxRecDepth 100000 in
set_option maxHeartbeats 4000000 in
theorem small_nil (lp lf lo li lb : Int) (fa : Option Addr) (fb foff fcap : Nat) (FZ : List PFile) (w : World) (hfa : 0 < FZ.length → fa = some ⟨fb, foff, none⟩) (hfb : 0 < FZ.length → fb < w.heap.size) (hf : FilesIn w fb foff FZ) (hb : ∀ f ∈ FZ, f.path.size ≤ 140737488355328 ∧ f.bytes.length ≤ 140737488355328) (hl : FZ.length ≤ 140737488355328) :
    Calls Tryz.prog 5 #[.agg #[.int .i64 lp, .int .i64 lf, .int .i64 lo, .int .i64 li, .int .i64 lb, .slice fa FZ.length fcap], .slice none 0 0] w fun e w' => e = .returned (.bool (isSmall FZ)) ∧ Below w.heap.size w w' := by
  have HB0 := hide (show Below w.heap.size w (w.alloc (Obj.cells (setting lp lf lo li lb (.slice fa FZ.length fcap)).toArray 26)) from (Below.refl _ _).alloc (Nat.le_refl _) _)
  have HN0 := hide (Holds.new w 26 (setting lp lf lo li lb (.slice fa FZ.length fcap)))
  have HF := hide hf
  have HFA := hide hfa
  have HFB := hide hfb
  have HW := hide (weightTo_le (M := 281474976710656) (fun f hf => by have := hb f hf; unfold fileWeight; omega))
  have HBB := hide hb
  clear hf hfa hfb hb
  by_cases h100 : FZ.length ≤ 100
  case neg =>
    have hx : (100 : Int) < (FZ.length : Int) := by omega
    have HR := hide (show isSmall FZ = false from by unfold isSmall; rw [decide_eq_false h100]; rfl)
    clear h100
    go_enter Tryz.func5, Tryz.ntmps5
    go_wp2
    go_ret
    exact ⟨by rw [unhide HR]; rfl, unhide HB0⟩
  have hx : ¬ (100 : Int) < (FZ.length : Int) := by omega
  go_enter Tryz.func5, Tryz.ntmps5
  go_wp2
  go_loopw [5, 6] (fun n i wr => ∃ j : Nat, j ≤ FZ.length ∧ i = .int .i64 j ∧ n = .int .i64 (weightTo FZ j) ∧ Hid (Holds wr w.heap.size 26 (setting lp lf lo li lb (.slice fa FZ.length fcap))) ∧ Hid (Below w.heap.size w wr)) (fun _ i _ => FZ.length - (intOf i).toNat)
  case atStart => exact ⟨0, by omega, rfl, rfl, HN0, HB0⟩
  case round =>
    obtain ⟨j, hj, rfl, rfl, HS, HB⟩ := hrel
    have c5 : wr.cell? ⟨w.heap.size, 5, none⟩ = some (.slice fa FZ.length fcap) := (unhide HS).cell rfl
    by_cases hlt : j < FZ.length
    · obtain ⟨f, hf⟩ : ∃ f, FZ[j]? = some f := ⟨_, List.getElem?_eq_getElem hlt⟩
      obtain rfl := (unhide HFA) (by omega)
      have hfb := unhide HFB (by omega)
      obtain ⟨a, q, o, c, hcb, haq, hbv⟩ := (unhide HF).bytes j f hf
      have d0 : wr.cell? ⟨fb, foff + j * 3, none⟩ = some (.string f.path) := by rw [(unhide HB).cell (p := ⟨fb, foff + j * 3, none⟩) hfb]; exact (unhide HF).path j f hf
      have d2 : wr.cell? ⟨fb, foff + j * 3 + 2, none⟩ = some (.slice a f.bytes.length c) := by rw [(unhide HB).cell (p := ⟨fb, foff + j * 3 + 2, none⟩) hfb]; exact hcb
      have hsz := unhide HBB f (List.mem_of_getElem? hf)
      have hw0 := unhide HW j
      have hws := weightTo_succ hf
      unfold fileWeight at hws
      have HWS := hide hws
      obtain ⟨A, hA⟩ : ∃ A, A = weightTo FZ j := ⟨_, rfl⟩
      rw [← hA] at hw0 HWS ⊢
      have hA1 : (A : Int) + (f.path.size : Int) ≤ 100000000000000000 := by omega
      have hA2 : (A : Int) + (f.path.size : Int) + (f.bytes.length : Int) ≤ 100000000000000000 := by omega
      have hj0 : (0 : Int) ≤ (j : Int) := by omega
      have hj1 : (j : Int) < (FZ.length : Int) := by omega
      have hj2 : (j : Int) ≤ 1000 := by omega
      generalize hps : f.path = ps at d0 HWS hA1 hA2 hsz
      generalize f.bytes.length = bl at d2 HWS hA2 hsz
      clear hf hcb haq hbv hws hA hsz hw0 hps
      go_wp2
      go_quiet (fail)
      go_wp2
      go_roundw
      case rel => exact ⟨j + 1, by omega, by go_num, by rw [unhide HWS]; go_num, hide ((unhide HS).heap rfl), hide ⟨(unhide HB).os, (unhide HB).tape, (unhide HB).output, (unhide HB).size, (unhide HB).block⟩⟩
      case measure => simp [intOf]; omega
    · have hje : j = FZ.length := by omega
      subst hje
      have HR := hide (show isSmall FZ = decide ((weightTo FZ FZ.length : Int) ≤ 200000) from by
        unfold isSmall weightTo
        rw [decide_eq_true h100, List.take_length, Bool.true_and]
        exact decide_eq_decide.2 (by omega))
      generalize weightTo FZ FZ.length = A at HR ⊢
      go_wp2
      go_loopw [5, 7] (fun n i w2 => n = .int .i64 A ∧ i = .int .i64 0 ∧ w2 = wr) (fun _ _ _ => 0)
      case atStart => exact ⟨rfl, rfl, rfl⟩
      case round =>
        obtain ⟨rfl, rfl, rfl⟩ := hrel
        go_wp2
        go_ret
        exact ⟨by rw [unhide HR]; rfl, unhide HB⟩
end Go.Proofs.YtjkpeelijbeekaaGreatDoor
