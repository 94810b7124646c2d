import Derived.Test.YtkokiefclmbgaaaGreatDoorBootsProofG21
import Derived.Test.YtkokiefclmbgaaaGreatDoorBootsProofG10
import Derived.Test.YtkokiefclmbgaaaGreatDoorBootsProofG17
import Derived.Maps.OwnSet
import Derived.Maps.OwnOps
import Derived.Deep.QuietTactic
import Derived.Deep.RegionWith
import Derived.Test.YtkokiefclmbgaaaGreatDoorBootsProofG02
import Derived.Test.YtkokiefclmbgaaaGreatDoorBootsProofG09
/- tinyosref: Boot without memory. -/
namespace Go.Proofs.YtkokiefclmbgaaaGreatDoor
open Go.RowKit
set_option linter.unusedVariables false
set_option linter.unusedSimpArgs false

def rk0 (lp lf lo li lb : Int) : RK := ⟨lp, lf, lo, li, lb, .slice none 0 0, .slice none 0 0, .slice none 0 0, .slice none 0 0, .slice none 0 0, .slice none 0 0, [], 0⟩
def rk1 (lp lf lo li lb : Int) : RK := {rk0 lp lf lo li lb with inos := [root], last := 1}
theorem rk1_inv (lp lf lo li lb : Int) : InvK (rk1 lp lf lo li lb) := by
  refine ⟨fun x hx => ?_, ⟨root, by simp [rk1], rfl⟩, Int.le_refl 1⟩
  have : x = root := by simpa [rk1] using hx
  subst this; exact Int.le_refl 1
theorem rk1_toP (lp lf lo li lb : Int) : (rk1 lp lf lo li lb).toP [[]] = boot0 lp lf lo li lb := rfl
/-- Nothing but files, and the limits. -/
def NilK (lp lf lo li lb : Int) (k : RK) : Prop := {k with inos := [], last := 0} = rk0 lp lf lo li lb
theorem NilK.add {lp lf lo li lb : Int} {k : RK} (h : NilK lp lf lo li lb k) (dir : Int) (name : ByteArray) (is : Bool) : NilK lp lf lo li lb (k.add dir name is) := h
theorem NilK.pv {lp lf lo li lb : Int} {k : RK} (h : NilK lp lf lo li lb k) : k.pv = .slice none 0 0 := congrArg RK.pv h
theorem NilK.ov {lp lf lo li lb : Int} {k : RK} (h : NilK lp lf lo li lb k) : k.ov = .slice none 0 0 := congrArg RK.ov h
theorem NilK.opened {lp lf lo li lb : Int} {k : RK} (h : NilK lp lf lo li lb k) (cs : List (List Int)) (s : ByteArray) : NilK lp lf lo li lb (Go.Proofs.YtkokiefclmbgaaaGreatDoor.opened k cs s).1 := by
  unfold Go.Proofs.YtkokiefclmbgaaaGreatDoor.opened
  split
  · exact h.add _ _ _
  · exact h
theorem NilK.file {lp lf lo li lb : Int} {k k' : RK} (h : NilK lp lf lo li lb k) {cs : List (List Int)} {s : ByteArray} (hk : {k' with inos := []} = {(Go.Proofs.YtkokiefclmbgaaaGreatDoor.opened k cs s).1 with inos := []}) : NilK lp lf lo li lb k' := by
  have h1 := h.opened cs s
  unfold NilK at h1 ⊢
  rw [← h1]
  exact congrArg (fun x : RK => {x with last := 0}) hk
theorem NilK.mkdir {lp lf lo li lb : Int} {k : RK} (h : NilK lp lf lo li lb k) (s : ByteArray) : NilK lp lf lo li lb (mkdirOf k s).2 := by
  unfold mkdirOf
  split
  · exact h
  split
  · exact h
  split
  · exact h
  · exact h.add _ _ _

theorem puts_snoc {p q : PK} {FZ : List PFile} {j : Nat} {f : PFile} (h : p.puts (FZ.take j) = (0, q)) (hf : FZ[j]? = some f) (h1 : (q.put f).1 = 0) : p.puts (FZ.take (j + 1)) = (0, (q.put f).2) := by
  have e : FZ.take (j + 1) = FZ.take j ++ [f] := by rw [List.take_add_one, hf]; rfl
  rw [e]
  generalize FZ.take j = l at h
  induction l generalizing p with
  | nil =>
    have : p = q := by have := congrArg Prod.snd h; exact this
    subst this
    show PK.puts p [f] = _
    unfold PK.puts
    rw [if_neg (by rw [h1]; decide)]; rfl
  | cons a r ih =>
    show PK.puts p (a :: (r ++ [f])) = _
    unfold PK.puts at h ⊢
    split at h
    · rename_i hx
      exact absurd (congrArg Prod.fst h) hx
    · rename_i hx
      rw [if_neg hx]
      exact ih h
theorem puts_stop {p q : PK} {FZ : List PFile} {j : Nat} {f : PFile} (h : p.puts (FZ.take j) = (0, q)) (hf : FZ[j]? = some f) (h1 : (q.put f).1 ≠ 0) : (p.puts FZ).1 = (q.put f).1 := by
  have e : FZ = FZ.take j ++ f :: FZ.drop (j + 1) := by
    obtain ⟨hl, hg⟩ := List.getElem?_eq_some_iff.1 hf
    have e2 : FZ.drop j = f :: FZ.drop (j + 1) := by rw [List.drop_eq_getElem_cons hl, hg]
    rw [← e2, List.take_append_drop]
  rw [e]
  generalize FZ.drop (j + 1) = t
  clear e hf
  generalize FZ.take j = l at h
  induction l generalizing p with
  | nil =>
    have : p = q := by have := congrArg Prod.snd h; exact this
    subst this
    show (PK.puts p (f :: t)).1 = _
    unfold PK.puts
    rw [if_pos h1]
  | cons a r ih =>
    show (PK.puts p (a :: (r ++ f :: t))).1 = _
    unfold PK.puts at h ⊢
    split at h
    · rename_i hx
      exact absurd (congrArg Prod.fst h) hx
    · rename_i hx
      rw [if_neg hx]
      exact ih h
theorem puts_dir {k : RK} {cs : List (List Int)} {f : PFile} (hd : f.dir = true) : ((k.toP cs).put f).1 = (mkdirOf k f.path).1 ∧ ((mkdirOf k f.path).1 = 0 → ((k.toP cs).put f).2 = (mkdirOf k f.path).2.toP (cs ++ [[]])) := by
  unfold PK.put
  rw [if_pos hd]
  exact mkdir_toP k cs f.path
theorem puts_file {k : RK} {cs : List (List Int)} {f : PFile} (hd : f.dir = false) : ((k.toP cs).put f).1 = fileCode k cs f.path f.bytes ∧ ∀ k' : RK, k'.inos.map erase = (Go.Proofs.YtkokiefclmbgaaaGreatDoor.opened k cs f.path).1.inos.map erase → {k' with inos := []} = {(Go.Proofs.YtkokiefclmbgaaaGreatDoor.opened k cs f.path).1 with inos := []} → ((k.toP cs).put f).2 = k'.toP (fileCs k cs f.path f.bytes) := by
  unfold PK.put
  rw [if_neg (by rw [hd]; decide)]
  exact ⟨file_toP k cs f.path f.bytes, fun k' h1 h2 => fileOut_toP k k' cs f.path f.bytes h1 h2⟩
theorem mkdir_add {k : RK} {s : ByteArray} (h : (mkdirOf k s).1 = 0) : (mkdirOf k s).2 = k.add (walkOf k.inos s).dir (walkOf k.inos s).name true := by
  unfold mkdirOf at h ⊢
  split at h
  · rename_i h1; exact absurd h h1
  rename_i h1
  rw [if_neg h1]
  split at h
  · exact absurd h (show ¬ (10 : Int) = 0 by decide)
  rename_i h2
  rw [if_neg h2]
  split at h
  · exact absurd h (show ¬ (12 : Int) = 0 by decide)
  rename_i h3
  rw [if_neg h3]

theorem used_snoc (cs : List (List Int)) : usedOf (cs ++ [[]]) = usedOf cs := by simp [usedOf]
theorem used_set : ∀ (cs : List (List Int)) (K : Nat) (c : List Int), usedOf (cs.set K c) ≤ usedOf cs - (cs.getD K []).length + c.length ∧ (cs.getD K []).length ≤ usedOf cs
  | [], K, c => by simp [usedOf]
  | a :: r, 0, c => by simp [usedOf]; omega
  | a :: r, K + 1, c => by
    have ih := used_set r K c
    have e1 : usedOf ((a :: r).set (K + 1) c) = a.length + usedOf (r.set K c) := by simp [usedOf]
    have e2 : usedOf (a :: r) = a.length + usedOf r := by simp [usedOf]
    have e3 : (a :: r).getD (K + 1) [] = r.getD K [] := by simp
    rw [e1, e2, e3]; omega
theorem opened_used (k : RK) (cs : List (List Int)) (s : ByteArray) : usedOf (Go.Proofs.YtkokiefclmbgaaaGreatDoor.opened k cs s).2.1 = usedOf cs := by
  unfold Go.Proofs.YtkokiefclmbgaaaGreatDoor.opened
  split
  · exact used_snoc cs
  · rfl
theorem fileCs_used (k : RK) (cs : List (List Int)) (s : ByteArray) (B : List Int) : usedOf (fileCs k cs s B) ≤ usedOf cs + B.length := by
  unfold fileCs
  split
  · rw [opened_used]; omega
  · have h := used_set (Go.Proofs.YtkokiefclmbgaaaGreatDoor.opened k cs s).2.1 (placeOf (Go.Proofs.YtkokiefclmbgaaaGreatDoor.opened k cs s).1.inos (Go.Proofs.YtkokiefclmbgaaaGreatDoor.opened k cs s).2.2).toNat (over (oldOf (Go.Proofs.YtkokiefclmbgaaaGreatDoor.opened k cs s)) B)
    rw [over_len (M := max B.length (oldOf (Go.Proofs.YtkokiefclmbgaaaGreatDoor.opened k cs s)).length) rfl, opened_used] at h
    have e : oldOf (Go.Proofs.YtkokiefclmbgaaaGreatDoor.opened k cs s) = (Go.Proofs.YtkokiefclmbgaaaGreatDoor.opened k cs s).2.1.getD (placeOf (Go.Proofs.YtkokiefclmbgaaaGreatDoor.opened k cs s).1.inos (Go.Proofs.YtkokiefclmbgaaaGreatDoor.opened k cs s).2.2).toNat [] := rfl
    rw [← e] at h
    omega
theorem isBytes_mem {B : List Int} : IsBytes B ↔ ∀ x ∈ B, 0 ≤ x ∧ x ≤ 255 := by
  constructor
  · intro h x hx
    obtain ⟨j, hj⟩ := List.mem_iff_getElem?.1 hx
    have := h j
    rw [List.getD_eq_getElem?_getD, hj] at this
    exact this
  · intro h j
    rw [List.getD_eq_getElem?_getD]
    cases hj : B[j]? with
    | none => exact ⟨Int.le_refl 0, by decide⟩
    | some x => exact h x (List.mem_of_getElem? hj)
def AllBytes (cs : List (List Int)) : Prop := ∀ c ∈ cs, IsBytes c
theorem isBytes_nils : AllBytes [[]] := fun c hc => by
  have : c = [] := by simpa using hc
  subst this
  exact isBytes_mem.2 (fun x hx => absurd hx (by simp))
theorem AllBytes.snoc {cs : List (List Int)} (h : AllBytes cs) : AllBytes (cs ++ [[]]) := by
  intro c hc
  rcases List.mem_append.1 hc with h1 | h1
  · exact h c h1
  · have : c = [] := by simpa using h1
    subst this; exact isBytes_mem.2 (fun x hx => absurd hx (by simp))
theorem AllBytes.opened {cs : List (List Int)} (h : AllBytes cs) (k : RK) (s : ByteArray) : AllBytes (Go.Proofs.YtkokiefclmbgaaaGreatDoor.opened k cs s).2.1 := by
  unfold Go.Proofs.YtkokiefclmbgaaaGreatDoor.opened
  split
  · exact h.snoc
  · exact h
theorem AllBytes.file {cs : List (List Int)} (h : AllBytes cs) (k : RK) (s : ByteArray) {B : List Int} (hB : IsBytes B) : AllBytes (fileCs k cs s B) := by
  unfold fileCs
  split
  · exact h.opened k s
  · intro c hc
    rcases List.mem_or_eq_of_mem_set hc with h1 | h1
    · exact h.opened k s c h1
    · subst h1
      have ho : IsBytes (oldOf (Go.Proofs.YtkokiefclmbgaaaGreatDoor.opened k cs s)) := by
        unfold oldOf
        rw [List.getD_eq_getElem?_getD]
        cases hg : (Go.Proofs.YtkokiefclmbgaaaGreatDoor.opened k cs s).2.1[(placeOf (Go.Proofs.YtkokiefclmbgaaaGreatDoor.opened k cs s).1.inos (Go.Proofs.YtkokiefclmbgaaaGreatDoor.opened k cs s).2.2).toNat]? with
        | none => exact isBytes_mem.2 (fun x hx => absurd hx (by simp))
        | some c => exact h.opened k s c (List.mem_of_getElem? hg)
      refine isBytes_mem.2 (fun x hx => ?_)
      unfold over at hx
      rcases List.mem_append.1 hx with h2 | h2
      · exact isBytes_mem.1 hB x h2
      · exact isBytes_mem.1 ho x (List.mem_of_mem_drop h2)
/-- Exec without memory. -/
def PK.fileOf (p : PK) (s : ByteArray) : List Int := p.cs.getD (placeOf p.xs (walkOf p.xs s).n).toNat []
def PK.ExecErr (p : PK) (PL : List Nat) (i : Nat) (s : ByteArray) (ss : List ByteArray) (c : Int) : Prop :=
  (walkOf p.xs s).e ≠ 0 ∧ c = (walkOf p.xs s).e ∨ (walkOf p.xs s).e = 0 ∧ ((walkOf p.xs s).n = 0 ∧ c = 9 ∨ (walkOf p.xs s).n ≠ 0 ∧ (dirOf p.xs (walkOf p.xs s).n = true ∧ c = 11 ∨
    dirOf p.xs (walkOf p.xs s).n = false ∧ (Bad (p.fileOf s) c ∨ Good (p.fileOf s) ∧ (okArgs ss = false ∧ c = 6 ∨
      okArgs ss = true ∧ p.lf < (PL.sum : Int) - (PL.getD i 0 : Int) + ((outPgs (p.fileOf s)).length : Int) + 2 ∧ c = 7))))
def PK.ExecOk (p : PK) (PL : List Nat) (i : Nat) (s : ByteArray) (ss : List ByteArray) : Prop :=
  (walkOf p.xs s).e = 0 ∧ (walkOf p.xs s).n ≠ 0 ∧ dirOf p.xs (walkOf p.xs s).n = false ∧ Good (p.fileOf s) ∧ okArgs ss = true ∧ (PL.sum : Int) - (PL.getD i 0 : Int) + ((outPgs (p.fileOf s)).length : Int) + 2 ≤ p.lf
theorem fileOf_toP (k : RK) (cs : List (List Int)) (s : ByteArray) : (k.toP cs).fileOf s = Go.Proofs.YtkokiefclmbgaaaGreatDoor.fileOf k cs s := by
  unfold PK.fileOf Go.Proofs.YtkokiefclmbgaaaGreatDoor.fileOf
  show cs.getD (placeOf (k.inos.map erase) (walkOf (k.inos.map erase) s).n).toNat [] = _
  rw [walkOf_erase, placeOf_erase]
theorem execErr_toP {k : RK} {cs : List (List Int)} {PL : List Nat} {i : Nat} {s : ByteArray} {ss : List ByteArray} {c : Int} (h : ExecErr k cs PL i s ss c) : (k.toP cs).ExecErr PL i s ss c := by
  unfold PK.ExecErr
  rw [fileOf_toP, show walkOf (k.toP cs).xs s = walkOf k.inos s from walkOf_erase k.inos s, show ∀ n, dirOf (k.toP cs).xs n = dirOf k.inos n from dirOf_erase k.inos]
  exact h
theorem execOk_toP {k : RK} {cs : List (List Int)} {PL : List Nat} {i : Nat} {s : ByteArray} {ss : List ByteArray} (h : ExecOk k cs PL i s ss) : (k.toP cs).ExecOk PL i s ss := by
  unfold PK.ExecOk
  rw [fileOf_toP, show walkOf (k.toP cs).xs s = walkOf k.inos s from walkOf_erase k.inos s, show ∀ n, dirOf (k.toP cs).xs n = dirOf k.inos n from dirOf_erase k.inos]
  exact h
end Go.Proofs.YtkokiefclmbgaaaGreatDoor

/- tinyosref: what holds of the files of a kernel that Boot makes. -/
namespace Go.Proofs.YtkokiefclmbgaaaGreatDoor
open Go.RowKit
set_option linter.unusedVariables false
set_option linter.unusedSimpArgs false

structure PInv (p : PK) : Prop where
  ids : ∀ x ∈ p.xs, 1 ≤ x.id ∧ x.id ≤ p.last
  root : ∃ x ∈ p.xs, x.id = 1 ∧ x.dir = true
  last : 1 ≤ p.last
  incr : p.xs.Pairwise (fun x y => x.id < y.id)
  names : ∀ x ∈ p.xs, x.parent ≠ 0 → nameOk x.name = true
  kids : ∀ x ∈ p.xs, ∀ y ∈ p.xs, x.parent = y.parent → x.parent ≠ 0 → x.name.toList = y.name.toList → x.id = y.id
  parents : ∀ x ∈ p.xs, x.parent ≠ 0 → ∃ y ∈ p.xs, y.id = x.parent ∧ y.dir = true
  root1 : ∀ x ∈ p.xs, x.parent = 0 → x.id = 1 ∧ x.name = ByteArray.empty
  down : ∀ x ∈ p.xs, 0 ≤ x.parent ∧ x.parent < x.id
  len : p.cs.length = p.xs.length
  bare : ∀ (i : Nat) (x : Ino) (c : List Int), p.xs[i]? = some x → p.cs[i]? = some c → x.dir = true → c = []
theorem PInv.tree {p : PK} (h : PInv p) : TreeInv p.xs := by
  refine ⟨fun x hx => (h.down x hx).2, fun x hx hp => ?_, fun x hx => ?_⟩
  · obtain ⟨y, hy, he, _⟩ := h.parents x hx (by omega)
    exact ⟨y, hy, he⟩
  · by_cases hp : x.parent = 0
    · rw [(h.root1 x hx hp).2]; decide
    · have := h.names x hx hp
      unfold nameOk at this
      simp only [Bool.and_eq_true, decide_eq_true_eq] at this
      exact this.1.1.1.2
theorem boot0_inv (lp lf lo li lb : Int) : PInv (boot0 lp lf lo li lb) := by
  have hm : ∀ x ∈ (boot0 lp lf lo li lb).xs, x = Go.Proofs.YtkokiefclmbgaaaGreatDoor.root := fun x hx => by simpa [boot0] using hx
  refine ⟨fun x hx => ?_, ⟨Go.Proofs.YtkokiefclmbgaaaGreatDoor.root, by simp [boot0], rfl, rfl⟩, Int.le_refl 1, by simp [boot0], fun x hx hp => ?_, fun x hx y hy _ hp _ => ?_, fun x hx hp => ?_, fun x hx _ => ?_, fun x hx => ?_, rfl, fun i x c hx hc _ => ?_⟩
  · obtain rfl := hm x hx; exact ⟨Int.le_refl 1, Int.le_refl 1⟩
  · obtain rfl := hm x hx; exact absurd rfl hp
  · obtain rfl := hm x hx; obtain rfl := hm y hy; rfl
  · obtain rfl := hm x hx; exact absurd rfl hp
  · obtain rfl := hm x hx; exact ⟨rfl, rfl⟩
  · obtain rfl := hm x hx; exact ⟨Int.le_refl 0, show (0 : Int) < 1 by decide⟩
  · match i, hc with
    | 0, hc => have : [] = c := by simpa [boot0] using hc
               exact this.symm
    | (m + 1), hc => simp [boot0] at hc
theorem follow_new {xs : List Ino} : ∀ (l : List ByteArray) (dir : Int), l ≠ [] → (follow xs dir l).e = 0 → (follow xs dir l).name ∈ l ∧ (follow xs dir l).n = childOf xs (follow xs dir l).dir (follow xs dir l).name ∧ ((follow xs dir l).dir = dir ∨ ∃ y ∈ xs, y.id = (follow xs dir l).dir ∧ y.dir = true)
  | [], dir, h, _ => absurd rfl h
  | [a], dir, _, _ => ⟨by simp [follow], rfl, .inl rfl⟩
  | a :: b :: r, dir, _, h0 => by
    unfold follow at h0 ⊢
    split at h0
    · simp [walkErr] at h0
    · rename_i h1
      rw [if_neg h1]
      split at h0
      · rename_i h2
        rw [if_pos h2]
        obtain ⟨x1, x2, x3⟩ := follow_new (b :: r) (childOf xs dir a) (by simp) h0
        refine ⟨List.mem_cons_of_mem _ x1, x2, .inr ?_⟩
        rcases x3 with x3 | x3
        · rw [x3]
          unfold dirOf at h2
          cases hf : xs.find? (fun x => x.id == childOf xs dir a) with
          | none => rw [hf] at h2; cases h2
          | some y =>
            rw [hf] at h2
            exact ⟨y, List.mem_of_find?_eq_some hf, by have := List.find?_some hf; simpa using this, h2⟩
        · exact x3
      · simp [walkErr] at h0
theorem walk_new {xs : List Ino} {s : ByteArray} (h0 : (walkOf xs s).e = 0) (hn : (walkOf xs s).n = 0) : nameOk (walkOf xs s).name = true ∧ childOf xs (walkOf xs s).dir (walkOf xs s).name = 0 ∧ ((walkOf xs s).dir = 1 ∨ ∃ y ∈ xs, y.id = (walkOf xs s).dir ∧ y.dir = true) := by
  unfold walkOf at h0 hn ⊢
  split at h0
  · simp [walkErr] at h0
  · rename_i heq
    rw [heq] at hn
    exact absurd hn (show ¬ (1 : Int) = 0 by decide)
  · rename_i a r heq
    rw [heq] at hn
    obtain ⟨x1, x2, x3⟩ := follow_new (a :: r) 1 (by simp) h0
    refine ⟨?_, by rw [← x2]; exact hn, x3⟩
    have hall : ∀ m ∈ a :: r, nameOk m = true := by
      unfold namesOf at heq
      split at heq
      · cases heq
      · split at heq
        · cases heq
        · split at heq
          · rename_i ha
            rw [← Option.some.inj heq]
            exact List.all_eq_true.1 ha
          · cases heq
    exact hall _ x1
theorem child_zero {xs : List Ino} {dir : Int} {name : ByteArray} (hid : ∀ x ∈ xs, 1 ≤ x.id) (h : childOf xs dir name = 0) : ∀ x ∈ xs, isChild dir name x = false := by
  intro x hx
  unfold childOf at h
  cases hf : xs.find? (isChild dir name) with
  | none =>
    have := List.find?_eq_none.1 hf x hx
    simpa using this
  | some y =>
    rw [hf] at h
    have := hid y (List.mem_of_find?_eq_some hf)
    have h' : y.id = 0 := h
    omega
theorem PInv.add {p : PK} (h : PInv p) (dir : Int) (name : ByteArray) (is : Bool) (hn : nameOk name = true) (hc : childOf p.xs dir name = 0) (hd : dir = 1 ∨ ∃ y ∈ p.xs, y.id = dir ∧ y.dir = true) : PInv (p.add dir name is) := by
  have hno := child_zero (fun x hx => (h.ids x hx).1) hc
  obtain ⟨d, hdm, hdi, hdd⟩ : ∃ y ∈ p.xs, y.id = dir ∧ y.dir = true := by
    rcases hd with rfl | hd
    · obtain ⟨x, hx, h1, h2⟩ := h.root
      exact ⟨x, hx, h1, h2⟩
    · exact hd
  have hdr := h.ids d hdm
  have hmem : ∀ x ∈ (p.add dir name is).xs, x ∈ p.xs ∨ x = newIno (p.last + 1) dir name is := fun x hx => by
    have : x ∈ p.xs ++ [newIno (p.last + 1) dir name is] := hx
    simpa using this
  have hl := h.last
  refine ⟨fun x hx => ?_, ?_, show 1 ≤ p.last + 1 by omega, ?_, fun x hx hp => ?_, fun x hx y hy hp hp0 hnm => ?_, fun x hx hp => ?_, fun x hx hp => ?_, fun x hx => ?_, ?_, fun i x c hx hcx hxd => ?_⟩
  · show 1 ≤ x.id ∧ x.id ≤ p.last + 1
    rcases hmem x hx with h1 | rfl
    · have := h.ids x h1; omega
    · exact ⟨show 1 ≤ p.last + 1 by omega, Int.le_refl _⟩
  · obtain ⟨x, hx, h1, h2⟩ := h.root
    exact ⟨x, List.mem_append_left _ hx, h1, h2⟩
  · show (p.xs ++ [newIno (p.last + 1) dir name is]).Pairwise _
    rw [List.pairwise_append]
    refine ⟨h.incr, by simp, fun x hx y hy => ?_⟩
    have e : y = newIno (p.last + 1) dir name is := by simpa using hy
    subst e
    have := h.ids x hx
    show x.id < p.last + 1
    omega
  · rcases hmem x hx with h1 | rfl
    · exact h.names x h1 hp
    · exact hn
  · rcases hmem x hx with h1 | rfl <;> rcases hmem y hy with h2 | rfl
    · exact h.kids x h1 y h2 hp hp0 hnm
    · exfalso
      have := hno x h1
      have e1 : x.parent = dir := hp
      have e2 : x.name.toList = name.toList := hnm
      simp [isChild, e1, e2] at this
    · exfalso
      have := hno y h2
      have e1 : dir = y.parent := hp
      have e2 : name.toList = y.name.toList := hnm
      simp [isChild, ← e1, ← e2] at this
    · rfl
  · rcases hmem x hx with h1 | rfl
    · obtain ⟨y, hy, e1, e2⟩ := h.parents x h1 hp
      exact ⟨y, List.mem_append_left _ hy, e1, e2⟩
    · exact ⟨d, List.mem_append_left _ hdm, hdi, hdd⟩
  · rcases hmem x hx with h1 | rfl
    · exact h.root1 x h1 hp
    · have e : dir = 0 := hp
      omega
  · rcases hmem x hx with h1 | rfl
    · exact h.down x h1
    · show 0 ≤ dir ∧ dir < p.last + 1
      omega
  · show (p.cs ++ [[]]).length = (p.xs ++ [newIno (p.last + 1) dir name is]).length
    simp [h.len]
  · have hx' : (p.xs ++ [newIno (p.last + 1) dir name is])[i]? = some x := hx
    have hc' : (p.cs ++ [[]])[i]? = some c := hcx
    rw [List.getElem?_append] at hx' hc'
    rw [h.len] at hc'
    split at hx'
    · rename_i hi
      rw [if_pos hi] at hc'
      exact h.bare i x c hx' hc' hxd
    · rename_i hi
      rw [if_neg hi] at hc'
      have hm := List.mem_of_getElem? hc'
      simpa using hm
theorem PInv.mkdir {p : PK} (h : PInv p) (s : ByteArray) : PInv (p.mkdir s).2 := by
  unfold PK.mkdir
  split
  · exact h
  · rename_i h0
    split
    · exact h
    · rename_i h1
      split
      · exact h
      · have h0' : (walkOf p.xs s).e = 0 := Classical.byContradiction h0
        have h1' : (walkOf p.xs s).n = 0 := Classical.byContradiction h1
        obtain ⟨a, b, c⟩ := walk_new h0' h1'
        exact h.add _ _ _ a b c
theorem PInv.opened {p : PK} (h : PInv p) (s : ByteArray) (h0 : (walkOf p.xs s).e = 0) : PInv (p.opened s).1 := by
  unfold PK.opened
  split
  · rename_i h1
    obtain ⟨a, b, c⟩ := walk_new h0 h1
    exact h.add _ _ _ a b c
  · exact h
theorem PInv.cs {p : PK} (h : PInv p) {cs : List (List Int)} (hl : cs.length = p.cs.length) (hb : ∀ (i : Nat) (x : Ino) (c : List Int), p.xs[i]? = some x → cs[i]? = some c → x.dir = true → c = []) : PInv {p with cs := cs} :=
  ⟨h.ids, h.root, h.last, h.incr, h.names, h.kids, h.parents, h.root1, h.down, hl.trans h.len, hb⟩
theorem PInv.file {p : PK} (h : PInv p) (s : ByteArray) (B : List Int) (hc : p.fileCode s B = 0) : PInv (p.fileOut s B) := by
  unfold PK.fileCode at hc
  split at hc
  · rename_i h1; exact absurd hc h1
  rename_i h1
  have h0 : (walkOf p.xs s).e = 0 := Classical.byContradiction h1
  split at hc
  · exact absurd hc (show ¬ (12 : Int) = 0 by decide)
  split at hc
  · exact absurd hc (show ¬ (11 : Int) = 0 by decide)
  rename_i hd
  have ho := h.opened s h0
  unfold PK.fileOut
  split
  · exact ho
  · refine ho.cs (by simp) (fun i x c hx hcx hxd => ?_)
    rw [List.getElem?_set] at hcx
    split at hcx
    · rename_i hi
      exfalso
      apply hd
      split at hcx
      · -- the inode at that place has that number
        rename_i hlt
        have hfind : ∃ y, (p.opened s).1.xs.find? (fun z => z.id == (p.opened s).2) = some y ∧ ∃ K : Nat, placeOf (p.opened s).1.xs (p.opened s).2 = K ∧ (p.opened s).1.xs[K]? = some y := by
          cases hf : (p.opened s).1.xs.find? (fun z => z.id == (p.opened s).2) with
          | some y => obtain ⟨K, k1, k2⟩ := place_of_mem hf; exact ⟨y, rfl, K, k1, k2⟩
          | none =>
            exfalso
            have hno := List.find?_eq_none.1 hf
            have hin : ∃ z ∈ (p.opened s).1.xs, z.id = (p.opened s).2 := by
              unfold PK.opened
              split
              · exact ⟨newIno (p.last + 1) (walkOf p.xs s).dir (walkOf p.xs s).name false, by simp [PK.add], rfl⟩
              · rename_i hne
                unfold walkOf at h0 hne ⊢
                split at h0
                · simp [walkErr] at h0
                · obtain ⟨z, hz, e, _⟩ := h.root
                  exact ⟨z, hz, e⟩
                · rename_i a r heq
                  rw [heq] at hne
                  exact follow_n (a :: r) 1 h0 hne
            obtain ⟨z, hz, e⟩ := hin
            have := hno z hz
            simp [e] at this
        obtain ⟨y, hy, K, hK, hKy⟩ := hfind
        rw [hK] at hi
        have hiK : K = i := by simpa using hi
        subst hiK
        rw [hKy] at hx
        obtain rfl := Option.some.inj hx
        unfold dirOf
        rw [hy]
        exact hxd
      · cases hcx
    · exact ho.bare i x c hx hcx hxd
theorem PInv.puts {p : PK} : ∀ (FZ : List PFile) {p : PK}, PInv p → PInv (p.puts FZ).2
  | [], p, h => h
  | f :: r, p, h => by
    unfold PK.puts
    split
    · exact h
    · rename_i hc
      have hc' : (p.put f).1 = 0 := Classical.byContradiction hc
      refine PInv.puts (p := p) r ?_
      unfold PK.put at hc' ⊢
      split at hc'
      · rename_i hd
        rw [if_pos hd]
        exact h.mkdir f.path
      · rename_i hd
        rw [if_neg hd]
        exact h.file f.path f.bytes hc'
theorem puts_inv (lp lf lo li lb : Int) (FZ : List PFile) : PInv ((boot0 lp lf lo li lb).puts FZ).2 := PInv.puts (p := boot0 lp lf lo li lb) FZ (boot0_inv lp lf lo li lb)
end Go.Proofs.YtkokiefclmbgaaaGreatDoor

/- The program's tree of files as it lies. -/
namespace Go.Proofs.YtkokiefclmbgaaaGreatDoor
open Go Go.RowKit Go.Maps
set_option linter.unusedVariables false
set_option linter.unusedSimpArgs false

/-- How a pointer to a node reads: by its block's number. -/
def ptrElem : Value → Option (DataW Unit × List MemPlace)
  | .pointer none => some (.nil, [])
  | .pointer (some ⟨b, 0, none⟩) => some (.lit (.int .i64 b), [])
  | _ => none
def nodeDatum : Option Nat → DataW Unit
  | some b => .lit (.int .i64 b)
  | none => .nil
def nodePtr : Option Nat → Value
  | some b => .pointer (some ⟨b, 0, none⟩)
  | none => .pointer none
theorem ptrElem_inv {v : Value} {o : Option Nat} {ps : List MemPlace} (h : ptrElem v = some (nodeDatum o, ps)) : v = nodePtr o := by
  unfold ptrElem at h
  split at h
  · cases o with
    | none => rfl
    | some b => simp [nodeDatum] at h
  · rename_i b
    cases o with
    | none => simp [nodeDatum] at h
    | some c =>
      simp [nodeDatum] at h
      have e : b = c := by omega
      subst e
      rfl
  · cases h
/-- Each key of such a map is a name with a node. -/
def KeysOk (D : DataW Unit) (f : ByteArray → Option Nat) : Prop := ∀ kl, Maps.has D kl = true → ∃ (s : ByteArray) (b : Nat), kl = .string s.data.toList ∧ f s = some b
/-- A map from names to nodes. -/
def DictAt (w : World) (m n : Nat) (f : ByteArray → Option Nat) : Prop :=
  ∃ D : DataW Unit, w.ownsMap Tryz.prog 9 ptrElem m n D ∧ (∀ s : ByteArray, D.atKey (.string s.data.toList) .nil = nodeDatum (f s)) ∧ KeysOk D f
theorem strKeyed : Keyed Tryz.prog 9 := string_keyed Tryz.underlying9
theorem ptrZero (w : World) : (zeroValue 160).run Tryz.prog w = .ok (.pointer none) w := by kernel_rfl
theorem DictAt.look {w : World} {m n : Nat} {f : ByteArray → Option Nat} (h : DictAt w m n f) (s : ByteArray) (hs : s.size ≤ maxLen) : (Instr.lookup 228 (.map (some m)) (.string s) false).run Tryz.prog w = .ok (nodePtr (f s)) w := by
  obtain ⟨D, hD, hf, _⟩ := h
  obtain ⟨v, ps, hrun, hv⟩ := hD.lookup strKeyed Tryz.underlying228 (ptrZero w) (show ptrElem (.pointer none) = some (.nil, []) from rfl) (Go.WideMaps.keyOf_string_mk Tryz.underlying9 hs)
  rw [hf s] at hv
  rw [← ptrElem_inv hv]
  exact hrun
theorem DictAt.kept {w w' : World} {m n : Nat} {f : ByteArray → Option Nat} {row : Option Nat} (h : DictAt w m n f) (hg : w.grownBy w' row) (hne : some m ≠ row) : DictAt w' m n f := by
  obtain ⟨D, hD, hf⟩ := h
  exact ⟨D, hD.kept hg hne, hf⟩
/-- The child of a directory, by its name: its node. -/
def kidOf (xs : List Ino) (NB : List Nat) (d : Int) (name : ByteArray) : Option Nat := match xs.findIdx? (isChild d name) with | some i => NB[i]? | none => none
structure TreeRep (w : World) (B tb ab am : Nat) (li lb used : Int) (xs : List Ino) (NB MB : List Nat) (V : List Value) : Prop where
  tree : Holds w tb 163 [.pointer (some ⟨ab, 0, none⟩), .int .i64 xs.length, .int .i64 li, .int .i64 used, .int .i64 lb]
  above : Holds w ab 230 [.string ⟨#[]⟩, .bool true, .slice none 0 0, .map (some am), .int .i64 0]
  amap : DictAt w am 1 (fun s => if s.data.toList = [] then NB[0]? else none)
  len : NB.length = xs.length ∧ MB.length = xs.length
  node : ∀ (i : Nat) (x : Ino) (b m : Nat), xs[i]? = some x → NB[i]? = some b → MB[i]? = some m → ∃ qn v mv, Holds w b 230 [.string qn, .bool x.dir, v, mv, .int .i64 0] ∧ (x.dir = true → mv = .map (some m) ∧ DictAt w m xs.length (kidOf xs NB x.id)) ∧ V[i]? = some v ∧ (x.dir = false → mv = .map none)
  root : xs ≠ [] → ∃ x, xs[0]? = some x ∧ x.id = 1 ∧ x.dir = true
  vlen : V.length = xs.length
  apart : MB.Nodup ∧ am ∉ MB ∧ NB.Nodup ∧ ab ∉ NB
  low : B ≤ tb ∧ B ≤ ab ∧ B ≤ am ∧ (∀ b ∈ NB, B ≤ b) ∧ ∀ m ∈ MB, B ≤ m ∧ m < w.heap.size
/-- Where the node with this number lies. -/
def NodeIs (xs : List Ino) (NB : List Nat) (id : Int) (b : Nat) : Prop := ∃ (i : Nat) (x : Ino), xs[i]? = some x ∧ x.id = id ∧ NB[i]? = some b
theorem kid_some {xs : List Ino} {NB : List Nat} {d : Int} {name : ByteArray} (hl : NB.length = xs.length) (h : childOf xs d name ≠ 0) : ∃ (i : Nat) (x : Ino) (b : Nat), xs[i]? = some x ∧ x.id = childOf xs d name ∧ NB[i]? = some b ∧ kidOf xs NB d name = some b := by
  unfold childOf at h ⊢
  cases hf : xs.find? (isChild d name) with
  | none => rw [hf] at h; exact absurd rfl h
  | some x =>
    obtain ⟨he, i, hi, hx, hlt⟩ := List.find?_eq_some_iff_getElem.1 hf
    have hfi : xs.findIdx? (isChild d name) = some i := by
      rw [List.findIdx?_eq_some_iff_getElem]
      exact ⟨hi, by rw [hx]; exact he, fun j hj => by simpa using hlt j hj⟩
    have hib : i < NB.length := by omega
    refine ⟨i, x, NB[i], by rw [List.getElem?_eq_getElem hi, hx], rfl, List.getElem?_eq_getElem hib, ?_⟩
    unfold kidOf
    rw [hfi]
    exact List.getElem?_eq_getElem hib
theorem kid_none {xs : List Ino} {NB : List Nat} {d : Int} {name : ByteArray} (hid : ∀ x ∈ xs, 1 ≤ x.id) (h : childOf xs d name = 0) : kidOf xs NB d name = none := by
  have hno := child_zero hid h
  unfold kidOf
  cases hf : xs.findIdx? (isChild d name) with
  | none => rfl
  | some i =>
    obtain ⟨hi, he, _⟩ := List.findIdx?_eq_some_iff_getElem.1 hf
    rw [hno _ (List.getElem_mem hi)] at he
    cases he
theorem dirOf_at {xs : List Ino} {i : Nat} {x : Ino} (hinc : xs.Pairwise (fun x y => x.id < y.id)) (hx : xs[i]? = some x) : dirOf xs x.id = x.dir := by
  unfold dirOf
  cases hf : xs.find? (fun y => y.id == x.id) with
  | none =>
    have := List.find?_eq_none.1 hf x (List.mem_of_getElem? hx)
    simp at this
  | some y =>
    obtain ⟨he, j, hj, hy, _⟩ := List.find?_eq_some_iff_getElem.1 hf
    have he' : y.id = x.id := by simpa using he
    obtain ⟨hi, hxi⟩ := List.getElem?_eq_some_iff.1 hx
    have hp := List.pairwise_iff_getElem.1 hinc
    have hij : i = j := by
      rcases Nat.lt_trichotomy i j with h | h | h
      · have := hp i j hi hj h; rw [hxi, hy] at this; omega
      · exact h
      · have := hp j i hj hi h; rw [hxi, hy] at this; omega
    subst hij
    rw [← hxi, ← hy]
end Go.Proofs.YtkokiefclmbgaaaGreatDoor

/- The program's Follow. -/
namespace Go.Proofs.YtkokiefclmbgaaaGreatDoor
open Go Go.RowKit Go.Maps
set_option linter.unusedVariables false
set_option linter.unusedSimpArgs false

def placeErr (e : Int) : Ending := .returned (.tuple #[.agg #[.pointer none, .string ByteArray.empty, .string ByteArray.empty], .iface 45 (.int .i64 e)])
def placeAt (b : Nat) (name pth : ByteArray) : Ending := .returned (.tuple #[.agg #[.pointer (some ⟨b, 0, none⟩), .string name, .string pth], .nilIface])
/-- Where a path leads to. -/
def PlaceIs (xs : List Ino) (NB : List Nat) (ab : Nat) (s : ByteArray) (b : Nat) (name : ByteArray) : Prop :=
  namesOf s = some [] ∧ b = ab ∧ name = ByteArray.empty ∨ (∃ a r, namesOf s = some (a :: r)) ∧ NodeIs xs NB (walkOf xs s).dir b ∧ dirOf xs (walkOf xs s).dir = true ∧ name = (walkOf xs s).name
def FollowPost (xs : List Ino) (NB : List Nat) (ab : Nat) (s : ByteArray) (w : World) (e : Ending) (w' : World) : Prop :=
  Below w.heap.size w w' ∧ ((walkOf xs s).e ≠ 0 ∧ e = placeErr (walkOf xs s).e ∨ (walkOf xs s).e = 0 ∧ ∃ b name, PlaceIs xs NB ab s b name ∧ e = placeAt b name s)
theorem TreeRep.below {w w' : World} {B tb ab am : Nat} {li lb used : Int} {xs : List Ino} {NB MB : List Nat} {V : List Value} (h : TreeRep w B tb ab am li lb used xs NB MB V) (hb : Below w.heap.size w w') : TreeRep w' B tb ab am li lb used xs NB MB V := by
  have hg : w.grownBy w' none := ⟨hb.os, hb.tape, hb.output, hb.size, fun k hk _ => hb.block k hk⟩
  refine ⟨h.tree.grown hg (by simp), h.above.grown hg (by simp), h.amap.kept hg (by simp), h.len, fun i x b m hx hb hm => ?_, h.root, h.vlen, h.apart, h.low.1, h.low.2.1, h.low.2.2.1, h.low.2.2.2.1, fun m hm => ⟨(h.low.2.2.2.2 m hm).1, by have := (h.low.2.2.2.2 m hm).2; have := hb.size; omega⟩⟩
  obtain ⟨qn, v, mv, h1, h2, h3⟩ := h.node i x b m hx hb hm
  exact ⟨qn, v, mv, h1.grown hg (by simp), fun hd => ⟨(h2 hd).1, (h2 hd).2.kept hg (by simp)⟩, h3⟩

theorem names_small {s : ByteArray} {l : List ByteArray} (h : namesOf s = some l) {a : ByteArray} (ha : a ∈ l) : a.size ≤ maxLen := by
  unfold namesOf at h
  split at h
  · cases h
  · split at h
    · obtain rfl := Option.some.inj h
      simp at ha
    · split at h
      · rename_i hall
        rw [← Option.some.inj h] at ha
        have := List.all_eq_true.1 hall a ha
        unfold nameOk at this
        simp only [Bool.and_eq_true, decide_eq_true_eq] at this
        have := this.1.1.1.2
        unfold maxLen
        omega
      · cases h
theorem holds3_cells {W : World} {b : Nat} {t : TypeId} {x y z : Value} (h : Holds W b t [x, y, z]) (u v q : Value) : (((W.setCell ⟨b, 0, none⟩ u).setCell ⟨b, 1, none⟩ v).setCell ⟨b, 2, none⟩ q).cell? ⟨b, 0, none⟩ = some u ∧ (((W.setCell ⟨b, 0, none⟩ u).setCell ⟨b, 1, none⟩ v).setCell ⟨b, 2, none⟩ q).cell? ⟨b, 1, none⟩ = some v ∧ (((W.setCell ⟨b, 0, none⟩ u).setCell ⟨b, 1, none⟩ v).setCell ⟨b, 2, none⟩ q).cell? ⟨b, 2, none⟩ = some q := by
  have h2 := ((h.set 0 u).set 1 v).set 2 q
  exact ⟨h2.cell (j := 0) rfl, h2.cell (j := 1) rfl, h2.cell (j := 2) rfl⟩
theorem place_below {w w1 : World} (h : Below w.heap.size w w1) (u v q : Value) : Below w.heap.size w (((w1.setCell ⟨w.heap.size, 0, none⟩ u).setCell ⟨w.heap.size, 1, none⟩ v).setCell ⟨w.heap.size, 2, none⟩ q) := ((h.setCell (p := ⟨w.heap.size, 0, none⟩) (Nat.le_refl _) u).setCell (p := ⟨w.heap.size, 1, none⟩) (Nat.le_refl _) v).setCell (p := ⟨w.heap.size, 2, none⟩) (Nat.le_refl _) q
set_option maxRecDepth 100000 in
set_option maxHeartbeats 8000000 in
theorem fsFollow_any (B tb ab am : Nat) (li lb used : Int) (xs : List Ino) (NB MB : List Nat) (V : List Value) (s : ByteArray) (m : Int) (w : World) (hr : TreeRep w B tb ab am li lb used xs NB MB V) (hne : namesOf s ≠ some [] → xs ≠ []) (hid : ∀ x ∈ xs, 1 ≤ x.id) (hinc : xs.Pairwise (fun x y => x.id < y.id)) (hs : s.size ≤ maxLen) (hm : w.cell? ⟨2, 0, none⟩ = some (.int .i64 m)) (hml : 2 < w.heap.size) :
    Calls Tryz.prog 62 #[.pointer (some ⟨tb, 0, none⟩), .string s] w (FollowPost xs NB ab s w) := by
  obtain ⟨W0, hW0⟩ : ∃ W0, W0 = w.alloc (Obj.cells #[.pointer none, .string ⟨#[]⟩, .string ⟨#[]⟩] 166) := ⟨_, rfl⟩
  have hb0 : Below w.heap.size w W0 := by rw [hW0]; exact (Below.refl _ _).alloc (Nat.le_refl _) _
  have hp0 : Holds W0 w.heap.size 166 [.pointer none, .string ⟨#[]⟩, .string ⟨#[]⟩] := by rw [hW0]; exact Holds.new w 166 _
  have HNM := hide (fsNames_any s m W0 hs (by rw [hb0.cell (p := ⟨2, 0, none⟩) hml]; exact hm))
  have HR := hide hr
  have HID := hide hid
  have HNE := hide hne
  clear hne
  have HINC := hide hinc
  have HB0 := hide hb0
  have HP0 := hide hp0
  have HW0 := hide hW0
  clear hr hid hinc hb0 hp0 hW0 hm
  go_enter Tryz.func62, Tryz.ntmps62
  go_upto_region 1 with fail
  rw [← unhide HW0]
  go_wp2_with fail
  refine (unhide HNM).mono ?_
  rintro e w1 ⟨hb1, (⟨hno, rfl⟩ | ⟨l, hl, hl100, rfl, hrow⟩)⟩
  · have hp1 := (unhide HP0).below hb1 (unhide HP0).lt
    have x0 := hp1.cell (j := 0) rfl
    have x1 := hp1.cell (j := 1) rfl
    have x2 := hp1.cell (j := 2) rfl
    have f0 := hp1.frozen 0
    have f1 := hp1.frozen 1
    have f2 := hp1.frozen 2
    have HWK := hide (show walkOf xs s = walkErr 8 by unfold walkOf; rw [hno])
    have HB1 := hide ((unhide HB0).trans (hb1.mono (unhide HB0).size))
    have hp1' := hp1
    clear hno hb1 hp1 HNM
    have hz := holds3_cells hp1' (.pointer none) (.string ⟨#[]⟩) (.string ⟨#[]⟩)
    have d0 := hz.1
    have d1 := hz.2.1
    have d2 := hz.2.2
    have HBZ := hide (place_below (unhide HB1) (.pointer none) (.string ⟨#[]⟩) (.string ⟨#[]⟩))
    clear hz hp1'
    go_wp2
    exact bodyPost_ret (v := .tuple #[.agg #[.pointer none, .string ⟨#[]⟩, .string ⟨#[]⟩], .iface 45 (.int .i64 8)]) (by simp [results, Tryz.results62, go_sem, d0, d1, d2]) rfl ⟨unhide HBZ, .inl (by rw [unhide HWK]; exact ⟨show (8 : Int) ≠ 0 by decide, rfl⟩)⟩
  · have HB1 := hide ((unhide HB0).trans (hb1.mono (unhide HB0).size))
    have HR1 := hide ((unhide HR).below (unhide HB1))
    have hp1 := (unhide HP0).below hb1 (unhide HP0).lt
    have HP1 := hide hp1
    have HROW := hide hrow
    have HL := hide hl
    obtain ⟨RB, hRB⟩ : ∃ RB, RB = W0.heap.size := ⟨_, rfl⟩
    rw [← hRB] at HROW ⊢
    have t0 : w1.cell? ⟨tb, 0, none⟩ = some (.pointer (some ⟨ab, 0, none⟩)) := (unhide HR1).tree.cell rfl
    have k1 : (l.length : Int) + 1 - 1 = (l.length : Int) := by omega
    have k2 : (0 : Int) ≤ (l.length : Int) := by omega
    clear hb1 hp1 hrow hl HNM hRB
    have q0 : w1.cell? ⟨w.heap.size, 0, none⟩ = some (.pointer none) := (unhide HP1).cell (j := 0) rfl
    have q1 : w1.cell? ⟨w.heap.size, 1, none⟩ = some (.string ⟨#[]⟩) := (unhide HP1).cell (j := 1) rfl
    have q2 : w1.cell? ⟨w.heap.size, 2, none⟩ = some (.string ⟨#[]⟩) := (unhide HP1).cell (j := 2) rfl
    have r0 := (unhide HP1).frozen 0
    have r1 := (unhide HP1).frozen 1
    have r2 := (unhide HP1).frozen 2
    go_wp2
    go_loop [9, 33] (fun dv i => ∃ (k d : Nat), k ≤ l.length ∧ i = .int .i64 k ∧ dv = .pointer (some ⟨d, 0, none⟩) ∧ Hid (k = 0 ∧ d = ab ∨ 1 ≤ k ∧ ∃ id, NodeIs xs NB id d ∧ dirOf xs id = true ∧ walkOf xs s = follow xs id (l.drop (k - 1)))) (fun _ i => l.length - (intOf i).toNat)
    case atStart => exact ⟨0, ab, by omega, rfl, rfl, hide (.inl ⟨rfl, rfl⟩)⟩
    case round =>
      obtain ⟨k, d, hk, rfl, rfl, HD⟩ := hrel
      by_cases hlt : k < l.length
      · have hk0 : (0 : Int) ≤ (k : Int) := by omega
        have hk1 : (k : Int) < (l.length : Int) := by omega
        rcases unhide HD with ⟨rfl, rfl⟩ | ⟨hk2, id, ⟨i, x, hx, hxi, hb⟩, hdir, hw⟩
        · -- the root
          have c0 : w1.cell? ⟨RB, 0, none⟩ = some (.string ByteArray.empty) := (unhide HROW).cell (j := 0) rfl
          obtain ⟨x, hx, hxi, hxd⟩ := (unhide HR1).root ((unhide HNE) (by rw [unhide HL]; intro h; injection h with h; rw [h] at hlt; simp at hlt))
          have hxl := (List.getElem?_eq_some_iff.1 hx).1
          obtain ⟨b, hb⟩ : ∃ b, NB[0]? = some b := ⟨_, List.getElem?_eq_getElem (by rw [(unhide HR1).len.1]; exact hxl)⟩
          obtain ⟨mm, hmm⟩ : ∃ mm, MB[0]? = some mm := ⟨_, List.getElem?_eq_getElem (by rw [(unhide HR1).len.2]; exact hxl)⟩
          have a2 : w1.cell? ⟨d, 3, none⟩ = some (.map (some am)) := (unhide HR1).above.cell rfl
          have hlk := (unhide HR1).amap.look ByteArray.empty (by decide)
          rw [if_pos (show ByteArray.empty.data.toList = [] from rfl), hb] at hlk
          obtain ⟨qn, v, mv, hnode, _⟩ := (unhide HR1).node 0 x b mm hx hb hmm
          rw [hxd] at hnode
          have n0 : w1.cell? ⟨b, 1, none⟩ = some (.bool true) := hnode.cell rfl
          have HNX := hide (show NodeIs xs NB 1 b ∧ dirOf xs 1 = true ∧ walkOf xs s = follow xs 1 (l.drop (0 + 1 - 1)) from by
            refine ⟨⟨0, x, hx, hxi, hb⟩, ?_, ?_⟩
            · have := dirOf_at (unhide HINC) hx
              rw [hxi, hxd] at this; exact this
            · unfold walkOf
              rw [unhide HL]
              cases l with
              | nil => simp at hlt
              | cons a r => rfl)
          unfold nodePtr at hlk
          clear hx hxi hxd hxl hb hmm hnode
          go_wp2
          go_round
          case rel => exact ⟨1, b, by omega, rfl, rfl, hide (.inr ⟨Nat.le_refl 1, 1, unhide HNX⟩)⟩
          case measure => simp [intOf]; omega
        · -- a name
          obtain ⟨a, ha⟩ : ∃ a, l[k - 1]? = some a := ⟨_, List.getElem?_eq_getElem (by omega)⟩
          have c0 : w1.cell? ⟨RB, k, none⟩ = some (.string a) := (unhide HROW).cell (by
            rw [show k = (k - 1) + 1 by omega]
            show (strsRow l)[k - 1]? = _
            simp [strsRow, ha])
          obtain ⟨a', b', r, ha', hd1, hd2⟩ := drop_two (l := l) (k := k - 1) (by omega)
          rw [ha] at ha'
          obtain rfl := Option.some.inj ha'
          rw [show k - 1 + 1 = k by omega] at hd2
          rw [hd1] at hw
          unfold follow at hw
          have hxl := (List.getElem?_eq_some_iff.1 hx).1
          obtain ⟨mm, hmm⟩ : ∃ mm, MB[i]? = some mm := ⟨_, List.getElem?_eq_getElem (by rw [(unhide HR1).len.2]; exact hxl)⟩
          obtain ⟨qn, v, mv, hnode, hkids, _⟩ := (unhide HR1).node i x d mm hx hb hmm
          have hxd : x.dir = true := by rw [← dirOf_at (unhide HINC) hx, hxi]; exact hdir
          obtain ⟨rfl, hdict⟩ := hkids hxd
          rw [hxi] at hdict
          have n2 : w1.cell? ⟨d, 3, none⟩ = some (.map (some mm)) := hnode.cell rfl
          have hlk := hdict.look a (names_small (unhide HL) (List.mem_of_getElem? ha))
          by_cases hz : childOf xs id a = 0
          · rw [kid_none (unhide HID) hz] at hlk
            unfold nodePtr at hlk
            rw [if_pos hz] at hw
            have HWK := hide hw
            obtain ⟨d0, d1, d2⟩ := holds3_cells (unhide HP1) (.pointer none) (.string ⟨#[]⟩) (.string ⟨#[]⟩)
            have HBZ := hide (place_below (unhide HB1) (.pointer none) (.string ⟨#[]⟩) (.string ⟨#[]⟩))
            clear hx hxi hb hdir hw ha hd1 hd2 hxl hmm hnode hkids hxd hdict hz
            go_wp2
            exact bodyPost_ret (v := .tuple #[.agg #[.pointer none, .string ⟨#[]⟩, .string ⟨#[]⟩], .iface 45 (.int .i64 9)]) (by simp [results, Tryz.results62, go_sem, d0, d1, d2]) rfl ⟨unhide HBZ, .inl (by rw [unhide HWK]; exact ⟨show (9 : Int) ≠ 0 by decide, rfl⟩)⟩
          · obtain ⟨i2, x2, b2, hx2, hxi2, hb2, hk2'⟩ := kid_some (NB := NB) (unhide HR1).len.1 hz
            rw [hk2'] at hlk
            unfold nodePtr at hlk
            rw [if_neg hz] at hw
            have hxl2 := (List.getElem?_eq_some_iff.1 hx2).1
            obtain ⟨m2, hm2⟩ : ∃ m2, MB[i2]? = some m2 := ⟨_, List.getElem?_eq_getElem (by rw [(unhide HR1).len.2]; exact hxl2)⟩
            obtain ⟨qn, v2, mv2, hnode2, _⟩ := (unhide HR1).node i2 x2 b2 m2 hx2 hb2 hm2
            have hdi2 := dirOf_at (unhide HINC) hx2
            rw [hxi2] at hdi2
            have n0 : w1.cell? ⟨b2, 1, none⟩ = some (.bool x2.dir) := hnode2.cell rfl
            cases hdd : x2.dir with
            | false =>
              rw [hdd] at n0 hdi2
              rw [if_neg (by rw [hdi2]; decide)] at hw
              have HWK := hide hw
              obtain ⟨d0, d1, d2⟩ := holds3_cells (unhide HP1) (.pointer none) (.string ⟨#[]⟩) (.string ⟨#[]⟩)
              have HBZ := hide (place_below (unhide HB1) (.pointer none) (.string ⟨#[]⟩) (.string ⟨#[]⟩))
              clear hx hxi hb hdir hw ha hd1 hd2 hxl hmm hnode hkids hxd hdict hz hx2 hxi2 hb2 hk2' hxl2 hm2 hnode2 hdi2 hdd
              go_wp2
              exact bodyPost_ret (v := .tuple #[.agg #[.pointer none, .string ⟨#[]⟩, .string ⟨#[]⟩], .iface 45 (.int .i64 11)]) (by simp [results, Tryz.results62, go_sem, d0, d1, d2]) rfl ⟨unhide HBZ, .inl (by rw [unhide HWK]; exact ⟨show (11 : Int) ≠ 0 by decide, rfl⟩)⟩
            | true =>
              rw [hdd] at n0 hdi2
              rw [if_pos hdi2, ← hd2] at hw
              have HNX := hide (show 1 ≤ k + 1 ∧ ∃ id, NodeIs xs NB id b2 ∧ dirOf xs id = true ∧ walkOf xs s = follow xs id (l.drop (k + 1 - 1)) from ⟨by omega, childOf xs id a, ⟨i2, x2, hx2, hxi2, hb2⟩, hdi2, hw⟩)
              clear hx hxi hb hdir hw ha hd1 hd2 hxl hmm hnode hkids hxd hdict hz hx2 hxi2 hb2 hk2' hxl2 hm2 hnode2 hdi2 hdd
              go_wp2
              go_round
              case rel => exact ⟨k + 1, b2, by omega, by go_num, rfl, hide (.inr (unhide HNX))⟩
              case measure => simp [intOf]; omega
      · have hke : k = l.length := by omega
        subst hke
        obtain ⟨NA, hNA, HPI⟩ : ∃ NA, w1.cell? ⟨RB, l.length, none⟩ = some (.string NA) ∧ Hid ((walkOf xs s).e = 0 ∧ PlaceIs xs NB ab s d NA) := by
          rcases unhide HD with ⟨h0, rfl⟩ | ⟨hk2, id, hnd, hdir, hw⟩
          · have hl0 : l = [] := List.eq_nil_of_length_eq_zero h0
            subst hl0
            refine ⟨ByteArray.empty, (unhide HROW).cell (j := 0) rfl, hide ⟨?_, .inl ⟨unhide HL, rfl, rfl⟩⟩⟩
            unfold walkOf
            rw [unhide HL]
          · obtain ⟨a, ha⟩ : ∃ a, l[l.length - 1]? = some a := ⟨_, List.getElem?_eq_getElem (by omega)⟩
            have hdr : l.drop (l.length - 1) = [a] := by
              have hkl : l.length - 1 < l.length := by omega
              rw [List.drop_eq_getElem_cons hkl, List.drop_eq_nil_of_le (by omega)]
              rw [List.getElem?_eq_getElem hkl] at ha
              rw [Option.some.inj ha]
            rw [hdr] at hw
            have hw' : walkOf xs s = ⟨id, a, childOf xs id a, 0⟩ := hw
            refine ⟨a, (unhide HROW).cell ?_, hide ⟨by rw [hw'], .inr ⟨?_, by rw [hw']; exact hnd, by rw [hw']; exact hdir, by rw [hw']⟩⟩⟩
            · rw [show l.length = (l.length - 1) + 1 by omega]
              show (strsRow l)[l.length - 1]? = _
              simp [strsRow, ha]
            · rw [unhide HL]
              cases l with
              | nil => simp at hk2
              | cons a r => exact ⟨a, r, rfl⟩
        obtain ⟨d0, d1, d2⟩ := holds3_cells (unhide HP1) (.pointer (some ⟨d, 0, none⟩)) (.string NA) (.string s)
        have HBZ := hide (place_below (unhide HB1) (.pointer (some ⟨d, 0, none⟩)) (.string NA) (.string s))
        have k3 : (l.length : Int) < (l.length : Int) + 1 := by omega
        go_wp2
        exact bodyPost_ret (v := .tuple #[.agg #[.pointer (some ⟨d, 0, none⟩), .string NA, .string s], .nilIface]) (by simp [results, Tryz.results62, go_sem, d0, d1, d2]) rfl ⟨unhide HBZ, .inr ⟨(unhide HPI).1, d, NA, (unhide HPI).2, rfl⟩⟩
end Go.Proofs.YtkokiefclmbgaaaGreatDoor

/- tinyoslaw: small, of a setting alone. -/
namespace Go.Proofs.YtkokiefclmbgaaaGreatDoor
open Go.RowKit
set_option linter.unusedVariables false
set_option linter.unusedSimpArgs false

/-- The files of a setting as they lie: three cells each. -/
structure FilesIn (w : World) (fb foff : Nat) (FZ : List PFile) : Prop where
  path : ∀ (i : Nat) (f : PFile), FZ[i]? = some f → w.cell? ⟨fb, foff + i * 3, none⟩ = some (.string f.path)
  dir : ∀ (i : Nat) (f : PFile), FZ[i]? = some f → w.cell? ⟨fb, foff + i * 3 + 1, none⟩ = some (.bool f.dir)
  bytes : ∀ (i : Nat) (f : PFile), FZ[i]? = some f → ∃ a q o c, w.cell? ⟨fb, foff + i * 3 + 2, none⟩ = some (.slice a f.bytes.length c) ∧ (0 < f.bytes.length → a = some ⟨q, o, none⟩ ∧ q < w.heap.size) ∧ BView w q o f.bytes
def setting (lp lf lo li lb : Int) (v : Value) : List Value := [.int .i64 lp, .int .i64 lf, .int .i64 lo, .int .i64 li, .int .i64 lb, v]
def fileWeight (f : PFile) : Nat := f.path.size + f.bytes.length
def weightTo (FZ : List PFile) (j : Nat) : Nat := ((FZ.take j).map fileWeight).sum
theorem weightTo_succ {FZ : List PFile} {j : Nat} {f : PFile} (h : FZ[j]? = some f) : weightTo FZ (j + 1) = weightTo FZ j + fileWeight f := by
  unfold weightTo
  rw [List.take_add_one, h]; simp
theorem weightTo_le {FZ : List PFile} {M : Nat} (hb : ∀ f ∈ FZ, fileWeight f ≤ M) : ∀ j, weightTo FZ j ≤ j * M
  | 0 => by simp [weightTo]
  | j + 1 => by
    have h2 := weightTo_le hb j
    rw [Nat.succ_mul]
    cases h : FZ[j]? with
    | none =>
      have e : FZ.take (j + 1) = FZ.take j := by rw [List.take_add_one, h]; simp
      have e2 : weightTo FZ (j + 1) = weightTo FZ j := by unfold weightTo; rw [e]
      omega
    | some f =>
      have h1 := hb f (List.mem_of_getElem? h)
      rw [weightTo_succ h]; omega
def isSmall (FZ : List PFile) : Bool := decide (FZ.length ≤ 100) && decide ((FZ.map fileWeight).sum ≤ 200000)

set_option maxRecDepth 100000 in
set_option maxHeartbeats 4000000 in
theorem small_nil (lp lf lo li lb : Int) (fa : Option Addr) (fb foff fcap : Nat) (FZ : List PFile) (w : World) (hfa : 0 < FZ.length → fa = some ⟨fb, foff, none⟩) (hfb : 0 < FZ.length → fb < w.heap.size) (hf : FilesIn w fb foff FZ) (hb : ∀ f ∈ FZ, f.path.size ≤ 140737488355328 ∧ f.bytes.length ≤ 140737488355328) (hl : FZ.length ≤ 140737488355328) :
    Calls Tryz.prog 5 #[.agg #[.int .i64 lp, .int .i64 lf, .int .i64 lo, .int .i64 li, .int .i64 lb, .slice fa FZ.length fcap], .slice none 0 0] w fun e w' => e = .returned (.bool (isSmall FZ)) ∧ Below w.heap.size w w' := by
  have HB0 := hide (show Below w.heap.size w (w.alloc (Obj.cells (setting lp lf lo li lb (.slice fa FZ.length fcap)).toArray 26)) from (Below.refl _ _).alloc (Nat.le_refl _) _)
  have HN0 := hide (Holds.new w 26 (setting lp lf lo li lb (.slice fa FZ.length fcap)))
  have HF := hide hf
  have HFA := hide hfa
  have HFB := hide hfb
  have HW := hide (weightTo_le (M := 281474976710656) (fun f hf => by have := hb f hf; unfold fileWeight; omega))
  have HBB := hide hb
  clear hf hfa hfb hb
  by_cases h100 : FZ.length ≤ 100
  case neg =>
    have hx : (100 : Int) < (FZ.length : Int) := by omega
    have HR := hide (show isSmall FZ = false from by unfold isSmall; rw [decide_eq_false h100]; rfl)
    clear h100
    go_enter Tryz.func5, Tryz.ntmps5
    go_wp2
    go_ret
    exact ⟨by rw [unhide HR]; rfl, unhide HB0⟩
  have hx : ¬ (100 : Int) < (FZ.length : Int) := by omega
  go_enter Tryz.func5, Tryz.ntmps5
  go_wp2
  go_loopw [5, 6] (fun n i wr => ∃ j : Nat, j ≤ FZ.length ∧ i = .int .i64 j ∧ n = .int .i64 (weightTo FZ j) ∧ Hid (Holds wr w.heap.size 26 (setting lp lf lo li lb (.slice fa FZ.length fcap))) ∧ Hid (Below w.heap.size w wr)) (fun _ i _ => FZ.length - (intOf i).toNat)
  case atStart => exact ⟨0, by omega, rfl, rfl, HN0, HB0⟩
  case round =>
    obtain ⟨j, hj, rfl, rfl, HS, HB⟩ := hrel
    have c5 : wr.cell? ⟨w.heap.size, 5, none⟩ = some (.slice fa FZ.length fcap) := (unhide HS).cell rfl
    by_cases hlt : j < FZ.length
    · obtain ⟨f, hf⟩ : ∃ f, FZ[j]? = some f := ⟨_, List.getElem?_eq_getElem hlt⟩
      obtain rfl := (unhide HFA) (by omega)
      have hfb := unhide HFB (by omega)
      obtain ⟨a, q, o, c, hcb, haq, hbv⟩ := (unhide HF).bytes j f hf
      have d0 : wr.cell? ⟨fb, foff + j * 3, none⟩ = some (.string f.path) := by rw [(unhide HB).cell (p := ⟨fb, foff + j * 3, none⟩) hfb]; exact (unhide HF).path j f hf
      have d2 : wr.cell? ⟨fb, foff + j * 3 + 2, none⟩ = some (.slice a f.bytes.length c) := by rw [(unhide HB).cell (p := ⟨fb, foff + j * 3 + 2, none⟩) hfb]; exact hcb
      have hsz := unhide HBB f (List.mem_of_getElem? hf)
      have hw0 := unhide HW j
      have hws := weightTo_succ hf
      unfold fileWeight at hws
      have HWS := hide hws
      obtain ⟨A, hA⟩ : ∃ A, A = weightTo FZ j := ⟨_, rfl⟩
      rw [← hA] at hw0 HWS ⊢
      have hA1 : (A : Int) + (f.path.size : Int) ≤ 100000000000000000 := by omega
      have hA2 : (A : Int) + (f.path.size : Int) + (f.bytes.length : Int) ≤ 100000000000000000 := by omega
      have hj0 : (0 : Int) ≤ (j : Int) := by omega
      have hj1 : (j : Int) < (FZ.length : Int) := by omega
      have hj2 : (j : Int) ≤ 1000 := by omega
      generalize hps : f.path = ps at d0 HWS hA1 hA2 hsz
      generalize f.bytes.length = bl at d2 HWS hA2 hsz
      clear hf hcb haq hbv hws hA hsz hw0 hps
      go_wp2
      go_quiet (fail)
      go_wp2
      go_roundw
      case rel => exact ⟨j + 1, by omega, by go_num, by rw [unhide HWS]; go_num, hide ((unhide HS).heap rfl), hide ⟨(unhide HB).os, (unhide HB).tape, (unhide HB).output, (unhide HB).size, (unhide HB).block⟩⟩
      case measure => simp [intOf]; omega
    · have hje : j = FZ.length := by omega
      subst hje
      have HR := hide (show isSmall FZ = decide ((weightTo FZ FZ.length : Int) ≤ 200000) from by
        unfold isSmall weightTo
        rw [decide_eq_true h100, List.take_length, Bool.true_and]
        exact decide_eq_decide.2 (by omega))
      generalize weightTo FZ FZ.length = A at HR ⊢
      go_wp2
      go_loopw [5, 7] (fun n i w2 => n = .int .i64 A ∧ i = .int .i64 0 ∧ w2 = wr) (fun _ _ _ => 0)
      case atStart => exact ⟨rfl, rfl, rfl⟩
      case round =>
        obtain ⟨rfl, rfl, rfl⟩ := hrel
        go_wp2
        go_ret
        exact ⟨by rw [unhide HR]; rfl, unhide HB⟩
end Go.Proofs.YtkokiefclmbgaaaGreatDoor

/- tinyosref: Boot: one file. -/
namespace Go.Proofs.YtkokiefclmbgaaaGreatDoor
open Go.RowKit
set_option linter.unusedVariables false
set_option linter.unusedSimpArgs false

/-- The kernel of Boot behind j files. -/
structure BootAt (lp lf lo li lb : Int) (w : World) (FZ : List PFile) (j : Nat) (wr : World) (k : RK) (cs : List (List Int)) (g cap : Nat) : Prop where
  rep : RepK wr (w.heap.size + 2) (w.heap.size + 1) g cap k
  cont : ContAt wr k.inos cs
  inv : InvK k
  nils : NilK lp lf lo li lb k
  puts : (boot0 lp lf lo li lb).puts (FZ.take j) = (0, k.toP cs)
  bytes : AllBytes cs
  used : usedOf cs ≤ ((FZ.take j).map (fun f => f.bytes.length)).sum
  inos : k.inos.length ≤ j + 1
  last : k.last ≤ j + 1
  below : Below w.heap.size w wr
def BootR (lp lf lo li lb : Int) (w : World) (FZ : List PFile) (j : Nat) (wr : World) : Prop := ∃ k cs g cap, BootAt lp lf lo li lb w FZ j wr k cs g cap
theorem BootAt.drew {lp lf lo li lb : Int} {w : World} {FZ : List PFile} {j : Nat} {wr : World} {k : RK} {cs : List (List Int)} {g cap : Nat} (h : BootAt lp lf lo li lb w FZ j wr k cs g cap) : BootAt lp lf lo li lb w FZ j wr.drew k cs g cap :=
  ⟨h.rep.heap rfl, h.cont, h.inv, h.nils, h.puts, h.bytes, h.used, h.inos, h.last, ⟨h.below.os, h.below.tape, h.below.output, h.below.size, h.below.block⟩⟩
theorem BootR.drew {lp lf lo li lb : Int} {w : World} {FZ : List PFile} {j : Nat} {wr : World} (h : BootR lp lf lo li lb w FZ j wr) : BootR lp lf lo li lb w FZ j wr.drew := by
  obtain ⟨k, cs, g, cap, h⟩ := h
  exact ⟨k, cs, g, cap, h.drew⟩
theorem sum_take_file {FZ : List PFile} {j : Nat} {f : PFile} (hf : FZ[j]? = some f) : ((FZ.take (j + 1)).map (fun f => f.bytes.length)).sum = ((FZ.take j).map (fun f => f.bytes.length)).sum + f.bytes.length := by
  rw [List.take_add_one, hf]; simp
theorem sum_take_all (FZ : List PFile) (j : Nat) : ((FZ.take j).map (fun f => f.bytes.length)).sum ≤ (FZ.map (fun f => f.bytes.length)).sum := by
  rw [List.map_take]; exact sum_take_le _ j
/-- What the call for one file of Boot's leaves. -/
def StepPost (lp lf lo li lb : Int) (w : World) (FZ : List PFile) (j : Nat) (e : Ending) (w' : World) : Prop :=
  ∃ c : Int, e = .returned (.int .i64 c) ∧ Below w.heap.size w w' ∧ (c ≠ 0 → ((boot0 lp lf lo li lb).puts FZ).1 = c) ∧ (c = 0 → BootR lp lf lo li lb w FZ (j + 1) w')

theorem boot_step (lp lf lo li lb : Int) (FZ : List PFile) (w : World) (j : Nat) (f : PFile) (hf : FZ[j]? = some f) (hn : FZ.length ≤ 100) (hsum : (FZ.map (fun f => f.bytes.length)).sum ≤ 200000) (hps : ∀ f ∈ FZ, f.path.size ≤ maxLen ∧ IsBytes f.bytes)
    (a : Option Addr) (q o c : Nat) (haq : 0 < f.bytes.length → a = some ⟨q, o, none⟩ ∧ q < w.heap.size) (hbv : BView w q o f.bytes) (wr : World) (h : BootR lp lf lo li lb w FZ j wr) :
    Calls Tryz.prog 29 #[.pointer (some ⟨w.heap.size + 1, 0, none⟩), .string f.path, .bool f.dir, .slice a f.bytes.length c] wr fun e w' => StepPost lp lf lo li lb w FZ j e w' := by
  obtain ⟨k, cs, g, cap, h⟩ := h
  have hjl := (List.getElem?_eq_some_iff.1 hf).1
  have hg := h.rep.2.lt g rfl
  have hk := h.rep.1.lt
  have hi0 := h.inos
  have hl0 := h.last
  have hp := hps f (List.mem_of_getElem? hf)
  have hu := h.used
  have hst := sum_take_all FZ j
  have hst2 := sum_take_all FZ (j + 1)
  have hsf := sum_take_file hf
  have hsz := h.below.size
  cases hd : f.dir with
  | true =>
    refine (refFile_dir (w.heap.size + 2) (w.heap.size + 1) g cap k f.path _ wr h.rep (by omega) (by omega) (by omega) (by have := h.inv.2.2; omega) (by omega) hp.1).mono ?_
    rintro e w7 ⟨rfl, g7, cap7, hr7, hf7, hg7⟩
    have hb7 : Below w.heap.size w w7 := h.below.trans (hf7.below (by omega) (by omega) (by omega))
    have hpd := puts_dir (k := k) (cs := cs) hd
    refine ⟨(mkdirOf k f.path).1, rfl, hb7, fun hc => ?_, fun hc => ?_⟩
    · rw [puts_stop h.puts hf (by rw [hpd.1]; exact hc), hpd.1]
    · have had := mkdir_add hc
      refine ⟨(mkdirOf k f.path).2, cs ++ [[]], g7, cap7, hr7, ?_, h.inv.mkdir f.path, h.nils.mkdir f.path, ?_, h.bytes.snoc, ?_, ?_, ?_, hb7⟩
      · rw [had]
        exact (h.cont.frame hf7 h.rep.apart.1 h.rep.apart.2).add _ _ _
      · rw [puts_snoc h.puts hf (hpd.1.trans hc), hpd.2 hc]
      · rw [used_snoc]; omega
      · rw [had]; simp [RK.add]; omega
      · rw [had]; show k.last + 1 ≤ _; omega
  | false =>
    have hcs : (cs.map List.length).sum ≤ 1000000 := by have : usedOf cs = (cs.map List.length).sum := rfl; omega
    refine (refFile_open (w.heap.size + 2) (w.heap.size + 1) g cap k cs f.path a q o c f.bytes wr h.rep h.cont h.inv (by omega) (by omega) (by omega) (by omega) hp.1 h.nils.pv h.nils.ov (by omega) hcs (fun h0 => (haq h0).1) (fun h0 => by have := (haq h0).2; omega) ?_).mono ?_
    · by_cases h0 : 0 < f.bytes.length
      · exact hbv.below h.below (haq h0).2
      · exact fun j hj => absurd hj (by omega)
    rintro e w7 ⟨rfl, hb7, hok⟩
    have hb7' : Below w.heap.size w w7 := h.below.trans (hb7.mono (by omega))
    have hpd := puts_file (k := k) (cs := cs) hd
    refine ⟨fileCode k cs f.path f.bytes, rfl, hb7', fun hc => ?_, fun hc => ?_⟩
    · rw [puts_stop h.puts hf (by rw [hpd.1]; exact hc), hpd.1]
    · obtain ⟨k', g', cap', hr', hc', he', hk', hf', hg'⟩ := hok hc
      have hin : k'.inos.length = (Go.Proofs.YtkokiefclmbgaaaGreatDoor.opened k cs f.path).1.inos.length := by have := congrArg List.length he'; simpa using this
      have hll : k'.last = (Go.Proofs.YtkokiefclmbgaaaGreatDoor.opened k cs f.path).1.last := by have h9 := congrArg (fun x : RK => x.last) hk'; exact h9
      refine ⟨k', fileCs k cs f.path f.bytes, g', cap', hr', hc', ?_, h.nils.file hk', ?_, h.bytes.file k f.path hp.2, ?_, ?_, ?_, hb7'⟩
      · obtain ⟨⟨k1, cs1, n1⟩, ho⟩ : ∃ x, Go.Proofs.YtkokiefclmbgaaaGreatDoor.opened k cs f.path = x := ⟨_, rfl⟩
        rw [ho] at he' hll
        exact (h.inv.opened ho).same he' hll
      · rw [puts_snoc h.puts hf (hpd.1.trans hc), hpd.2 k' he' hk']
      · have := fileCs_used k cs f.path f.bytes; omega
      · rw [hin]; unfold Go.Proofs.YtkokiefclmbgaaaGreatDoor.opened; split
        · simp [RK.add]; omega
        · simp; omega
      · rw [hll]; unfold Go.Proofs.YtkokiefclmbgaaaGreatDoor.opened; split
        · show k.last + 1 ≤ _; omega
        · show k.last ≤ _; omega
end Go.Proofs.YtkokiefclmbgaaaGreatDoor

/- tinyosref: Boot: the exec of /init. -/
namespace Go.Proofs.YtkokiefclmbgaaaGreatDoor
open Go.RowKit
set_option linter.unusedVariables false
set_option linter.unusedSimpArgs false

def initPath : ByteArray := ⟨#[47, 105, 110, 105, 116]⟩
def initArg : ByteArray := ⟨#[105, 110, 105, 116]⟩
/-- Process 1 as Boot lays it, ahead of Exec. -/
def proc1 : List Value := [.int .i64 1, .int .i64 0, .int .i64 0, .int .i64 0, .int .i64 0, .int .u64 0] ++ regs0 ++ [.slice none 0 0, .int .i64 (-1), .int .i64 (-1), .int .i64 (-1), .int .i64 0, .int .i64 0, .int .i64 0, .int .i64 0, .int .i64 0]
def BootErr (lp lf lo li lb : Int) (FZ : List PFile) (c : Int) : Prop :=
  ((boot0 lp lf lo li lb).puts FZ).1 ≠ 0 ∧ c = ((boot0 lp lf lo li lb).puts FZ).1 ∨ ((boot0 lp lf lo li lb).puts FZ).1 = 0 ∧ ((boot0 lp lf lo li lb).puts FZ).2.ExecErr [0] 0 initPath [initArg] c
/-- The kernel that Boot answers. -/
structure BootedAt (p : PK) (w w' : World) (k : RK) (cs : List (List Int)) (g cap gp pc gn cn : Nat) : Prop where
  toP : k.toP cs = p
  rep : RepK w' (w.heap.size + 2) (w.heap.size + 1) g cap k
  cont : ContAt w' k.inos cs
  inv : InvK k
  bytes : AllBytes cs
  used : usedOf cs ≤ 200000
  inos : k.inos.length ≤ 101
  last : k.last ≤ 101
  pv : k.pv = .slice (some ⟨gp, 0, none⟩) 1 pc
  nils : k.ov = .slice none 0 0 ∧ k.cv = .slice none 0 0 ∧ k.tv = .slice none 0 0 ∧ k.uv = .slice none 0 0 ∧ k.mv = .slice none 0 0
  ok : p.ExecOk [0] 0 initPath [initArg]
  pages : w'.ownsRow (w.heap.size + 2) 155 258 (.slice (some ⟨gn, 0, none⟩) ((outPgs (p.fileOf initPath)).length + 2) cn) ((outPgs (p.fileOf initPath)).length + 2) (refRow (outPgs (p.fileOf initPath)) ++ refPagesTo (stackRoom [initArg]) 2)
  procs : w'.ownsRow (w.heap.size + 2) 83 31 (.slice (some ⟨gp, 0, none⟩) 1 pc) 1 (procExec proc1 0 (.slice (some ⟨gn, 0, none⟩) ((outPgs (p.fileOf initPath)).length + 2) cn) (numAt (p.fileOf initPath) 24 8) (65024 + (spOff [initArg] : Int)))
  apart : g ≠ gp ∧ g ≠ gn ∧ gp ≠ gn
def kernelAt (w : World) : Ending := .returned (.tuple #[.pointer (some ⟨w.heap.size + 1, 0, none⟩), .int .i64 0])
def BootPost (lp lf lo li lb : Int) (FZ : List PFile) (w : World) (e : Ending) (w' : World) : Prop :=
  Below w.heap.size w w' ∧ ((∃ c, BootErr lp lf lo li lb FZ c ∧ e = noKernel c) ∨ (((boot0 lp lf lo li lb).puts FZ).1 = 0 ∧ e = kernelAt w ∧ ∃ k cs g cap gp pc gn cn, BootedAt ((boot0 lp lf lo li lb).puts FZ).2 w w' k cs g cap gp pc gn cn))
def proc0 : List Value := [.int .i64 0, .int .i64 0, .int .i64 0, .int .i64 0, .int .i64 0, .int .u64 0] ++ regs0 ++ [.slice none 0 0, .int .i64 0, .int .i64 0, .int .i64 0, .int .i64 0, .int .i64 0, .int .i64 0, .int .i64 0, .int .i64 0]
theorem procInfo : (Tryz.prog.info? 83).map (fun i => (i.zero, i.size, i.bytes)) = some (some (.agg proc0.toArray), 31, 264) := by kernel_rfl
theorem procSize : (Tryz.prog.info? 83).map (·.size) = some proc1.length := by kernel_rfl
theorem proc1_one : ∀ u ∈ proc1, u.oneCell' = true := by
  intro u hu
  simp only [proc1, regs0, List.replicate, List.cons_append, List.nil_append, List.mem_cons, List.not_mem_nil, or_false] at hu
  rcases hu with rfl | rfl | rfl | rfl | rfl | rfl | rfl | rfl | rfl | rfl | rfl | rfl | rfl | rfl | rfl | rfl | rfl | rfl | rfl | rfl | rfl | rfl | rfl | rfl | rfl | rfl | rfl | rfl | rfl | rfl | rfl <;> rfl
theorem proc1_lens : PLens proc1 [0] := ⟨rfl, fun j n h => by
  match j, h with
  | 0, h =>
    have : n = 0 := by simpa using h.symm
    subst this
    exact ⟨none, 0, rfl⟩⟩

theorem bad_ne {B : List Int} {c : Int} (h : Bad B c) : c ≠ 0 := by
  rcases h with ⟨_, rfl⟩ | ⟨_, _, rfl⟩ | ⟨_, _, (⟨_, rfl⟩ | ⟨_, _, rfl⟩)⟩ <;> decide
theorem execErr_ne {k : RK} {cs : List (List Int)} {PL : List Nat} {i : Nat} {s : ByteArray} {ss : List ByteArray} {c : Int} (h : ExecErr k cs PL i s ss c) : c ≠ 0 := by
  rcases h with ⟨h, rfl⟩ | ⟨_, (⟨_, rfl⟩ | ⟨_, (⟨_, rfl⟩ | ⟨_, (h | ⟨_, (⟨_, rfl⟩ | ⟨_, _, rfl⟩)⟩)⟩)⟩)⟩
  · exact h
  · decide
  · decide
  · exact bad_ne h
  · decide
  · decide
theorem all_used {cs : List (List Int)} {n : Nat} (h : AllBytes cs) (hu : usedOf cs ≤ n) : ∀ c ∈ cs, IsBytes c ∧ c.length ≤ n := fun c hc => by
  obtain ⟨i, hi⟩ := List.mem_iff_getElem?.1 hc
  exact ⟨h c hc, Nat.le_trans (used_ge hi) hu⟩

theorem proc_apart {w : World} {base n g cap : Nat} {xs : List Value} (h : w.ownsRow base 83 31 (.slice (some ⟨g, 0, none⟩) n cap) n xs) : ∀ vs, ¬ Holds w g 5 vs := fun vs hv => by
  rcases h.2 with ⟨h', _⟩ | ⟨g', cap', cur, h', _, hg, _⟩
  · simp at h'
  · simp only [Value.slice.injEq, Option.some.injEq, Addr.mk.injEq, and_true, true_and] at h'
    obtain ⟨rfl, _⟩ := h'
    unfold Holds at hv
    rw [hg] at hv
    simp at hv
theorem boot_exec (lp lf lo li lb : Int) (FZ : List PFile) (w wr : World) (hn : FZ.length ≤ 100) (hsum : (FZ.map (fun f => f.bytes.length)).sum ≤ 200000) (k : RK) (cs : List (List Int)) (g cap : Nat) (h : BootAt lp lf lo li lb w FZ FZ.length wr k cs g cap)
    (wX : World) (gp pc : Nat) (hG : wr.grownBy wX (some (w.heap.size + 1))) (hk : Holds wX (w.heap.size + 1) 71 ({k with pv := .slice (some ⟨gp, 0, none⟩) 1 pc}.cells (.slice (some ⟨g, 0, none⟩) k.inos.length cap)))
    (hown : wX.ownsRow (w.heap.size + 2) 83 31 (.slice (some ⟨gp, 0, none⟩) 1 pc) 1 proc1) (hgp : wr.heap.size ≤ gp) (ab acap : Nat) (hab : ab < wX.heap.size) (hac : wX.cell? ⟨ab, 0, none⟩ = some (.string initArg)) :
    Calls Tryz.prog 30 #[.pointer (some ⟨w.heap.size + 1, 0, none⟩), .pointer (some ⟨gp, 0, none⟩), .string initPath, .slice (some ⟨ab, 0, none⟩) 1 acap] wX fun e w' => ∃ c : Int, e = .returned (.tuple #[.int .i64 0, .int .i64 c]) ∧ Below w.heap.size w w' ∧ (c ≠ 0 → BootErr lp lf lo li lb FZ c) ∧
      (c = 0 → ((boot0 lp lf lo li lb).puts FZ).1 = 0 ∧ ∃ k cs g cap gp pc gn cn, BootedAt ((boot0 lp lf lo li lb).puts FZ).2 w w' k cs g cap gp pc gn cn) := by
  have hgl := h.rep.2.lt g rfl
  have hkl := h.rep.1.lt
  have hsz := h.below.size
  have hGs := hG.size
  have hgp2 := hown.lt gp rfl
  have hus := h.used
  have hput := h.puts
  rw [List.take_length] at hus hput
  have hpv : ({k with pv := .slice (some ⟨gp, 0, none⟩) 1 pc} : RK).toP cs = k.toP cs := rfl
  have hr : RepK wX (w.heap.size + 2) (w.heap.size + 1) g cap {k with pv := .slice (some ⟨gp, 0, none⟩) 1 pc} := ⟨hk, h.rep.2.kept hG (.inr (by show some g ≠ some (w.heap.size + 1); simp; omega))⟩
  have hfr : FrameK wr wX (w.heap.size + 1) (w.heap.size + 1) := ⟨hG.os, hG.tape, hG.output, hG.size, fun b hb h1 _ => hG.block b hb (by simpa using h1)⟩
  have hc : ContAt wX k.inos cs := h.cont.frame hfr h.rep.apart.1 h.rep.apart.1
  have hbX : Below w.heap.size w wX := h.below.trans (hfr.below (by omega) (by omega) (by omega))
  have hcs : (cs.map List.length).sum ≤ 1000000 := by have : usedOf cs = (cs.map List.length).sum := rfl; omega
  have hin := h.inos
  have hla := h.last
  have hex := refExec_any (w.heap.size + 2) (w.heap.size + 1) g cap gp 1 pc 0 {k with pv := .slice (some ⟨gp, 0, none⟩) 1 pc} cs [0] proc1 0 0 none initPath (some ⟨ab, 0, none⟩) ab 0 acap [initArg] wX hr hc h.inv (fun c hc => by have := all_used h.bytes hus c hc; exact ⟨this.1, by omega⟩) rfl hown proc1_lens (by omega) h.nils.ov (by omega) (by omega) (show k.inos.length ≤ 10000 by omega) (by decide) hcs (by omega) (by decide) (by decide) (fun _ => rfl) hab (fun j hj => by
    have : j = 0 := by simp at hj; omega
    subst this; exact hac) (fun x hx => by
    have : x = initArg := by simpa using hx
    subst this; decide)
  refine hex.mono ?_
  rintro e w' (⟨c, he, rfl, hb⟩ | ⟨hok, rfl, hg, gn, cn, hpg, hpr⟩)
  · refine ⟨c, rfl, hbX.trans (hb.mono (by omega)), fun _ => .inr ?_, fun h0 => absurd h0 (execErr_ne he)⟩
    rw [hput]
    exact ⟨rfl, execErr_toP he⟩
  · have hgn := hpg.lt gn rfl
    refine ⟨0, rfl, hbX.trans ⟨hg.os, hg.tape, hg.output, hg.size, fun b hb => hg.block b (by omega) (by simp; omega)⟩, fun h0 => absurd rfl h0, fun _ => ?_⟩
    rw [hput]
    refine ⟨rfl, {k with pv := .slice (some ⟨gp, 0, none⟩) 1 pc}, cs, g, cap, gp, pc, gn, cn, ⟨hpv, ⟨hr.1.grown hg (by simp; omega), hr.2.kept hg (.inr (by show some g ≠ some gp; simp; omega))⟩, ?_, h.inv, h.bytes, by omega, show k.inos.length ≤ 101 by omega, show k.last ≤ 101 by omega, rfl, ?_, execOk_toP hok, ?_, ?_, ⟨by omega, by omega, by omega⟩⟩⟩
    · have hfr2 : FrameK wX w' gp gp := ⟨hg.os, hg.tape, hg.output, hg.size, fun b hb h1 _ => hg.block b hb (by simpa using h1)⟩
      have hap := proc_apart hown
      exact hc.frame hfr2 hap hap
    · have h1 := h.nils
      exact ⟨congrArg RK.ov h1, congrArg RK.cv h1, congrArg RK.tv h1, congrArg RK.uv h1, congrArg RK.mv h1⟩
    · rw [fileOf_toP]
      exact own_base hpg (by omega)
    · rw [fileOf_toP]
      exact hpr
end Go.Proofs.YtkokiefclmbgaaaGreatDoor

/- tinyoslaw: tiny. -/
namespace Go.Proofs.YtkokiefclmbgaaaGreatDoor
open Go Go.RowKit
set_option linter.unusedVariables false
set_option linter.unusedSimpArgs false

theorem wpList_copy_str {P : Program} {ops : Array Oper} {rest : List Oper} {o : Oper} {a : Act} {w : World} {Q : Exit → Act → World → Prop} (hgd : o.guard = none) (d s : Operand) (dT sT : TypeId)
    (ho : o.op = .call { callee := .builtin .copy, args := #[d, s], argTypes := #[dT, sT] }) (elem : TypeId) (hu : P.underlying dT = some (.slice elem)) (hsz : (P.info? elem).map (·.size) = some 1)
    (g off dLen dCap : Nat) (str : ByteArray) (hd : a.eval d = .slice (some ⟨g, off, none⟩) dLen dCap) (hs : a.eval s = .string str)
    (cur : List Value) (t : TypeId) (hg : Holds w g t cur) (hle : str.size ≤ dLen) (hfit : off + str.size ≤ cur.length)
    (h : ∀ w', Hid (Holds w' g t (splice cur off (Lib.byteCells str.data.toList))) → w.grownBy w' (some g) → wpList P ops Q rest (a.put o.dst (goInt str.size)) w') : wpList P ops Q (o :: rest) a w := by
  refine wpList_plain hgd fun K hK => ?_
  have := step_copy_str (P := P) (ops := ops) (o := o) (a := a) (w := w) (K := K) (Q := Q) (E := True) hgd d s dT sT ho elem hu hsz g off dLen dCap str hd hs cur t hg hle hfit (fun w' h1 h2 => hK _ _ (h w' h1 h2))
  have hw : Region.wanted o (yielded ops a.tmps) = true := by simp [Region.wanted, hgd]
  rw [if_pos hw] at this
  exact this
def tiny0 : List Int := [127, 69, 76, 70, 2, 1, 1] ++ List.replicate 253 0
def tinyB : List Int := ((((((((((((((tiny0.set 16 2).set 18 243).set 20 1).set 25 1).set 32 64).set 52 64).set 54 56).set 56 1).set 64 1).set 68 5).set 73 1).set 81 1).set 96 4).set 104 4).set 256 22
theorem tiny0_row : splice (bytesRow (List.replicate 260 0)) 0 (Lib.byteCells [127, 69, 76, 70, 2, 1, 1]) = bytesRow tiny0 := by kernel_rfl

set_option maxRecDepth 100000 in
set_option maxHeartbeats 4000000 in
theorem tiny_any (w : World) : Calls Tryz.prog 11 #[] w fun e w' => e = .returned (.slice (some ⟨w.heap.size, 0, none⟩) 260 260) ∧ Holds w' w.heap.size 5 (bytesRow tinyB) ∧ Below w.heap.size w w' := by
  obtain ⟨Z, hZ⟩ : ∃ Z, Z = zeroBytes 260 := ⟨_, rfl⟩
  have hmk : ∀ w, (Instr.makeSlice 32 (.int .i64 260) (.int .i64 260)).run Tryz.prog w = .ok (.slice (some ⟨w.heap.size, 0, none⟩) 260 260) (w.alloc (.cells Z 5)) := by
    intro w
    have := run_make_row' (P := Tryz.prog) 32 5 (.int .u8 0) 1 Tryz.underlying32 u8info rfl .i64 .i64 260 (by decide) (by decide) w
    rw [hZ]
    rwa [made_bytes] at this
  have HZ := hide (show Holds (w.alloc (.cells Z 5)) w.heap.size 5 (bytesRow (List.replicate 260 0)) from by rw [hZ]; exact Holds.new w 5 _)
  have HB := hide (show Below w.heap.size w (w.alloc (.cells Z 5)) from (Below.refl _ _).alloc (Nat.le_refl _) _)
  clear hZ
  go_enter Tryz.func11, Tryz.ntmps11
  go_upto_region 3 with (refine wpList_copy_str rfl _ _ 32 9 rfl 5 Tryz.underlying32 u8one w.heap.size 0 260 260 _ (by rfl) (by rfl) _ _ (unhide HZ) (by decide) (by rw [bytesRow_length]; decide) ?_; intro w1 H1 hg1)
  have hh : Holds w1 w.heap.size 5 (bytesRow tiny0) := by rw [← tiny0_row]; exact unhide H1
  have hb : Below w.heap.size w w1 := (unhide HB).trans (below_grown hg1 (Nat.le_refl _) (by simp))
  obtain ⟨x16, c16⟩ : ∃ x, w1.cell? ⟨w.heap.size, 16, none⟩ = some (.int .u8 x) := ⟨_, hh.cell (bytesRow_get tiny0 16 (by decide))⟩
  have f16 := hh.frozen 16
  obtain ⟨x18, c18⟩ : ∃ x, w1.cell? ⟨w.heap.size, 18, none⟩ = some (.int .u8 x) := ⟨_, hh.cell (bytesRow_get tiny0 18 (by decide))⟩
  have f18 := hh.frozen 18
  obtain ⟨x20, c20⟩ : ∃ x, w1.cell? ⟨w.heap.size, 20, none⟩ = some (.int .u8 x) := ⟨_, hh.cell (bytesRow_get tiny0 20 (by decide))⟩
  have f20 := hh.frozen 20
  obtain ⟨x25, c25⟩ : ∃ x, w1.cell? ⟨w.heap.size, 25, none⟩ = some (.int .u8 x) := ⟨_, hh.cell (bytesRow_get tiny0 25 (by decide))⟩
  have f25 := hh.frozen 25
  obtain ⟨x32, c32⟩ : ∃ x, w1.cell? ⟨w.heap.size, 32, none⟩ = some (.int .u8 x) := ⟨_, hh.cell (bytesRow_get tiny0 32 (by decide))⟩
  have f32 := hh.frozen 32
  obtain ⟨x52, c52⟩ : ∃ x, w1.cell? ⟨w.heap.size, 52, none⟩ = some (.int .u8 x) := ⟨_, hh.cell (bytesRow_get tiny0 52 (by decide))⟩
  have f52 := hh.frozen 52
  obtain ⟨x54, c54⟩ : ∃ x, w1.cell? ⟨w.heap.size, 54, none⟩ = some (.int .u8 x) := ⟨_, hh.cell (bytesRow_get tiny0 54 (by decide))⟩
  have f54 := hh.frozen 54
  obtain ⟨x56, c56⟩ : ∃ x, w1.cell? ⟨w.heap.size, 56, none⟩ = some (.int .u8 x) := ⟨_, hh.cell (bytesRow_get tiny0 56 (by decide))⟩
  have f56 := hh.frozen 56
  obtain ⟨x64, c64⟩ : ∃ x, w1.cell? ⟨w.heap.size, 64, none⟩ = some (.int .u8 x) := ⟨_, hh.cell (bytesRow_get tiny0 64 (by decide))⟩
  have f64 := hh.frozen 64
  obtain ⟨x68, c68⟩ : ∃ x, w1.cell? ⟨w.heap.size, 68, none⟩ = some (.int .u8 x) := ⟨_, hh.cell (bytesRow_get tiny0 68 (by decide))⟩
  have f68 := hh.frozen 68
  obtain ⟨x73, c73⟩ : ∃ x, w1.cell? ⟨w.heap.size, 73, none⟩ = some (.int .u8 x) := ⟨_, hh.cell (bytesRow_get tiny0 73 (by decide))⟩
  have f73 := hh.frozen 73
  obtain ⟨x81, c81⟩ : ∃ x, w1.cell? ⟨w.heap.size, 81, none⟩ = some (.int .u8 x) := ⟨_, hh.cell (bytesRow_get tiny0 81 (by decide))⟩
  have f81 := hh.frozen 81
  obtain ⟨x96, c96⟩ : ∃ x, w1.cell? ⟨w.heap.size, 96, none⟩ = some (.int .u8 x) := ⟨_, hh.cell (bytesRow_get tiny0 96 (by decide))⟩
  have f96 := hh.frozen 96
  obtain ⟨x104, c104⟩ : ∃ x, w1.cell? ⟨w.heap.size, 104, none⟩ = some (.int .u8 x) := ⟨_, hh.cell (bytesRow_get tiny0 104 (by decide))⟩
  have f104 := hh.frozen 104
  obtain ⟨x256, c256⟩ : ∃ x, w1.cell? ⟨w.heap.size, 256, none⟩ = some (.int .u8 x) := ⟨_, hh.cell (bytesRow_get tiny0 256 (by decide))⟩
  have f256 := hh.frozen 256
  have HH := hide (show Holds _ w.heap.size 5 (bytesRow tinyB) from by
    have h := (((((((((((((((hh.set 16 (.int .u8 2)).set 18 (.int .u8 243)).set 20 (.int .u8 1)).set 25 (.int .u8 1)).set 32 (.int .u8 64)).set 52 (.int .u8 64)).set 54 (.int .u8 56)).set 56 (.int .u8 1)).set 64 (.int .u8 1)).set 68 (.int .u8 5)).set 73 (.int .u8 1)).set 81 (.int .u8 1)).set 96 (.int .u8 4)).set 104 (.int .u8 4)).set 256 (.int .u8 22))
    simp only [bytesRow_set] at h
    exact h)
  have HBB := hide (((((((((((((((hb.setCell (p := ⟨w.heap.size, 16, none⟩) (Nat.le_refl _) (.int .u8 2)).setCell (p := ⟨w.heap.size, 18, none⟩) (Nat.le_refl _) (.int .u8 243)).setCell (p := ⟨w.heap.size, 20, none⟩) (Nat.le_refl _) (.int .u8 1)).setCell (p := ⟨w.heap.size, 25, none⟩) (Nat.le_refl _) (.int .u8 1)).setCell (p := ⟨w.heap.size, 32, none⟩) (Nat.le_refl _) (.int .u8 64)).setCell (p := ⟨w.heap.size, 52, none⟩) (Nat.le_refl _) (.int .u8 64)).setCell (p := ⟨w.heap.size, 54, none⟩) (Nat.le_refl _) (.int .u8 56)).setCell (p := ⟨w.heap.size, 56, none⟩) (Nat.le_refl _) (.int .u8 1)).setCell (p := ⟨w.heap.size, 64, none⟩) (Nat.le_refl _) (.int .u8 1)).setCell (p := ⟨w.heap.size, 68, none⟩) (Nat.le_refl _) (.int .u8 5)).setCell (p := ⟨w.heap.size, 73, none⟩) (Nat.le_refl _) (.int .u8 1)).setCell (p := ⟨w.heap.size, 81, none⟩) (Nat.le_refl _) (.int .u8 1)).setCell (p := ⟨w.heap.size, 96, none⟩) (Nat.le_refl _) (.int .u8 4)).setCell (p := ⟨w.heap.size, 104, none⟩) (Nat.le_refl _) (.int .u8 4)).setCell (p := ⟨w.heap.size, 256, none⟩) (Nat.le_refl _) (.int .u8 22))
  clear hh hb H1 hg1 HZ HB hmk
  go_wp2
  go_ret
  exact ⟨rfl, unhide HH, unhide HBB⟩
end Go.Proofs.YtkokiefclmbgaaaGreatDoor
