import Derived.Test.YtkmbleboceedbaaGreatDoorBootsProofG23
import Derived.Test.YtkmbleboceedbaaGreatDoorBootsProofG08
import Derived.Test.YtkmbleboceedbaaGreatDoorBootsProofG12
import Derived.Maps.OwnSet
import Derived.Maps.OwnOps
import Derived.Deep.QuietTactic
import Derived.Deep.RegionWith
import Derived.Test.YtkmbleboceedbaaGreatDoorBootsProofG04
import Derived.Test.YtkmbleboceedbaaGreatDoorBootsProofG05
/- tinyosref: Boot without memory. -/
namespace Go.Proofs.YtkmbleboceedbaaGreatDoor
open Go.RowKit
set_option linter.unusedVariables false
set_option linter.unusedSimpArgs false

def rk0 (lp lf lo li lb : Int) : RK := ⟨lp, lf, lo, li, lb, .slice none 0 0, .slice none 0 0, .slice none 0 0, .slice none 0 0, .slice none 0 0, .slice none 0 0, [], 0⟩
def rk1 (lp lf lo li lb : Int) : RK := {rk0 lp lf lo li lb with inos := [root], last := 1}
theorem rk1_inv (lp lf lo li lb : Int) : InvK (rk1 lp lf lo li lb) := by
  refine ⟨fun x hx => ?_, ⟨root, by simp [rk1], rfl⟩, Int.le_refl 1⟩
  have : x = root := by simpa [rk1] using hx
  subst this; exact Int.le_refl 1
theorem rk1_toP (lp lf lo li lb : Int) : (rk1 lp lf lo li lb).toP [[]] = boot0 lp lf lo li lb := rfl
/-- Nothing but files, and the limits. -/
def NilK (lp lf lo li lb : Int) (k : RK) : Prop := {k with inos := [], last := 0} = rk0 lp lf lo li lb
theorem NilK.add {lp lf lo li lb : Int} {k : RK} (h : NilK lp lf lo li lb k) (dir : Int) (name : ByteArray) (is : Bool) : NilK lp lf lo li lb (k.add dir name is) := h
theorem NilK.pv {lp lf lo li lb : Int} {k : RK} (h : NilK lp lf lo li lb k) : k.pv = .slice none 0 0 := congrArg RK.pv h
theorem NilK.ov {lp lf lo li lb : Int} {k : RK} (h : NilK lp lf lo li lb k) : k.ov = .slice none 0 0 := congrArg RK.ov h
theorem NilK.opened {lp lf lo li lb : Int} {k : RK} (h : NilK lp lf lo li lb k) (cs : List (List Int)) (s : ByteArray) : NilK lp lf lo li lb (Go.Proofs.YtkmbleboceedbaaGreatDoor.opened k cs s).1 := by
  unfold Go.Proofs.YtkmbleboceedbaaGreatDoor.opened
  split
  · exact h.add _ _ _
  · exact h
theorem NilK.file {lp lf lo li lb : Int} {k k' : RK} (h : NilK lp lf lo li lb k) {cs : List (List Int)} {s : ByteArray} (hk : {k' with inos := []} = {(Go.Proofs.YtkmbleboceedbaaGreatDoor.opened k cs s).1 with inos := []}) : NilK lp lf lo li lb k' := by
  have h1 := h.opened cs s
  unfold NilK at h1 ⊢
  rw [← h1]
  exact congrArg (fun x : RK => {x with last := 0}) hk
theorem NilK.mkdir {lp lf lo li lb : Int} {k : RK} (h : NilK lp lf lo li lb k) (s : ByteArray) : NilK lp lf lo li lb (mkdirOf k s).2 := by
  unfold mkdirOf
  split
  · exact h
  split
  · exact h
  split
  · exact h
  · exact h.add _ _ _

theorem puts_snoc {p q : PK} {FZ : List PFile} {j : Nat} {f : PFile} (h : p.puts (FZ.take j) = (0, q)) (hf : FZ[j]? = some f) (h1 : (q.put f).1 = 0) : p.puts (FZ.take (j + 1)) = (0, (q.put f).2) := by
  have e : FZ.take (j + 1) = FZ.take j ++ [f] := by rw [List.take_add_one, hf]; rfl
  rw [e]
  generalize FZ.take j = l at h
  induction l generalizing p with
  | nil =>
    have : p = q := by have := congrArg Prod.snd h; exact this
    subst this
    show PK.puts p [f] = _
    unfold PK.puts
    rw [if_neg (by rw [h1]; decide)]; rfl
  | cons a r ih =>
    show PK.puts p (a :: (r ++ [f])) = _
    unfold PK.puts at h ⊢
    split at h
    · rename_i hx
      exact absurd (congrArg Prod.fst h) hx
    · rename_i hx
      rw [if_neg hx]
      exact ih h
theorem puts_stop {p q : PK} {FZ : List PFile} {j : Nat} {f : PFile} (h : p.puts (FZ.take j) = (0, q)) (hf : FZ[j]? = some f) (h1 : (q.put f).1 ≠ 0) : (p.puts FZ).1 = (q.put f).1 := by
  have e : FZ = FZ.take j ++ f :: FZ.drop (j + 1) := by
    obtain ⟨hl, hg⟩ := List.getElem?_eq_some_iff.1 hf
    have e2 : FZ.drop j = f :: FZ.drop (j + 1) := by rw [List.drop_eq_getElem_cons hl, hg]
    rw [← e2, List.take_append_drop]
  rw [e]
  generalize FZ.drop (j + 1) = t
  clear e hf
  generalize FZ.take j = l at h
  induction l generalizing p with
  | nil =>
    have : p = q := by have := congrArg Prod.snd h; exact this
    subst this
    show (PK.puts p (f :: t)).1 = _
    unfold PK.puts
    rw [if_pos h1]
  | cons a r ih =>
    show (PK.puts p (a :: (r ++ f :: t))).1 = _
    unfold PK.puts at h ⊢
    split at h
    · rename_i hx
      exact absurd (congrArg Prod.fst h) hx
    · rename_i hx
      rw [if_neg hx]
      exact ih h
theorem puts_dir {k : RK} {cs : List (List Int)} {f : PFile} (hd : f.dir = true) : ((k.toP cs).put f).1 = (mkdirOf k f.path).1 ∧ ((mkdirOf k f.path).1 = 0 → ((k.toP cs).put f).2 = (mkdirOf k f.path).2.toP (cs ++ [[]])) := by
  unfold PK.put
  rw [if_pos hd]
  exact mkdir_toP k cs f.path
theorem puts_file {k : RK} {cs : List (List Int)} {f : PFile} (hd : f.dir = false) : ((k.toP cs).put f).1 = fileCode k cs f.path f.bytes ∧ ∀ k' : RK, k'.inos.map erase = (Go.Proofs.YtkmbleboceedbaaGreatDoor.opened k cs f.path).1.inos.map erase → {k' with inos := []} = {(Go.Proofs.YtkmbleboceedbaaGreatDoor.opened k cs f.path).1 with inos := []} → ((k.toP cs).put f).2 = k'.toP (fileCs k cs f.path f.bytes) := by
  unfold PK.put
  rw [if_neg (by rw [hd]; decide)]
  exact ⟨file_toP k cs f.path f.bytes, fun k' h1 h2 => fileOut_toP k k' cs f.path f.bytes h1 h2⟩
theorem mkdir_add {k : RK} {s : ByteArray} (h : (mkdirOf k s).1 = 0) : (mkdirOf k s).2 = k.add (walkOf k.inos s).dir (walkOf k.inos s).name true := by
  unfold mkdirOf at h ⊢
  split at h
  · rename_i h1; exact absurd h h1
  rename_i h1
  rw [if_neg h1]
  split at h
  · exact absurd h (show ¬ (10 : Int) = 0 by decide)
  rename_i h2
  rw [if_neg h2]
  split at h
  · exact absurd h (show ¬ (12 : Int) = 0 by decide)
  rename_i h3
  rw [if_neg h3]

theorem used_snoc (cs : List (List Int)) : usedOf (cs ++ [[]]) = usedOf cs := by simp [usedOf]
theorem used_set : ∀ (cs : List (List Int)) (K : Nat) (c : List Int), usedOf (cs.set K c) ≤ usedOf cs - (cs.getD K []).length + c.length ∧ (cs.getD K []).length ≤ usedOf cs
  | [], K, c => by simp [usedOf]
  | a :: r, 0, c => by simp [usedOf]; omega
  | a :: r, K + 1, c => by
    have ih := used_set r K c
    have e1 : usedOf ((a :: r).set (K + 1) c) = a.length + usedOf (r.set K c) := by simp [usedOf]
    have e2 : usedOf (a :: r) = a.length + usedOf r := by simp [usedOf]
    have e3 : (a :: r).getD (K + 1) [] = r.getD K [] := by simp
    rw [e1, e2, e3]; omega
theorem opened_used (k : RK) (cs : List (List Int)) (s : ByteArray) : usedOf (Go.Proofs.YtkmbleboceedbaaGreatDoor.opened k cs s).2.1 = usedOf cs := by
  unfold Go.Proofs.YtkmbleboceedbaaGreatDoor.opened
  split
  · exact used_snoc cs
  · rfl
theorem fileCs_used (k : RK) (cs : List (List Int)) (s : ByteArray) (B : List Int) : usedOf (fileCs k cs s B) ≤ usedOf cs + B.length := by
  unfold fileCs
  split
  · rw [opened_used]; omega
  · have h := used_set (Go.Proofs.YtkmbleboceedbaaGreatDoor.opened k cs s).2.1 (placeOf (Go.Proofs.YtkmbleboceedbaaGreatDoor.opened k cs s).1.inos (Go.Proofs.YtkmbleboceedbaaGreatDoor.opened k cs s).2.2).toNat (over (oldOf (Go.Proofs.YtkmbleboceedbaaGreatDoor.opened k cs s)) B)
    rw [over_len (M := max B.length (oldOf (Go.Proofs.YtkmbleboceedbaaGreatDoor.opened k cs s)).length) rfl, opened_used] at h
    have e : oldOf (Go.Proofs.YtkmbleboceedbaaGreatDoor.opened k cs s) = (Go.Proofs.YtkmbleboceedbaaGreatDoor.opened k cs s).2.1.getD (placeOf (Go.Proofs.YtkmbleboceedbaaGreatDoor.opened k cs s).1.inos (Go.Proofs.YtkmbleboceedbaaGreatDoor.opened k cs s).2.2).toNat [] := rfl
    rw [← e] at h
    omega
theorem isBytes_mem {B : List Int} : IsBytes B ↔ ∀ x ∈ B, 0 ≤ x ∧ x ≤ 255 := by
  constructor
  · intro h x hx
    obtain ⟨j, hj⟩ := List.mem_iff_getElem?.1 hx
    have := h j
    rw [List.getD_eq_getElem?_getD, hj] at this
    exact this
  · intro h j
    rw [List.getD_eq_getElem?_getD]
    cases hj : B[j]? with
    | none => exact ⟨Int.le_refl 0, by decide⟩
    | some x => exact h x (List.mem_of_getElem? hj)
def AllBytes (cs : List (List Int)) : Prop := ∀ c ∈ cs, IsBytes c
theorem isBytes_nils : AllBytes [[]] := fun c hc => by
  have : c = [] := by simpa using hc
  subst this
  exact isBytes_mem.2 (fun x hx => absurd hx (by simp))
theorem AllBytes.snoc {cs : List (List Int)} (h : AllBytes cs) : AllBytes (cs ++ [[]]) := by
  intro c hc
  rcases List.mem_append.1 hc with h1 | h1
  · exact h c h1
  · have : c = [] := by simpa using h1
    subst this; exact isBytes_mem.2 (fun x hx => absurd hx (by simp))
theorem AllBytes.opened {cs : List (List Int)} (h : AllBytes cs) (k : RK) (s : ByteArray) : AllBytes (Go.Proofs.YtkmbleboceedbaaGreatDoor.opened k cs s).2.1 := by
  unfold Go.Proofs.YtkmbleboceedbaaGreatDoor.opened
  split
  · exact h.snoc
  · exact h
theorem AllBytes.file {cs : List (List Int)} (h : AllBytes cs) (k : RK) (s : ByteArray) {B : List Int} (hB : IsBytes B) : AllBytes (fileCs k cs s B) := by
  unfold fileCs
  split
  · exact h.opened k s
  · intro c hc
    rcases List.mem_or_eq_of_mem_set hc with h1 | h1
    · exact h.opened k s c h1
    · subst h1
      have ho : IsBytes (oldOf (Go.Proofs.YtkmbleboceedbaaGreatDoor.opened k cs s)) := by
        unfold oldOf
        rw [List.getD_eq_getElem?_getD]
        cases hg : (Go.Proofs.YtkmbleboceedbaaGreatDoor.opened k cs s).2.1[(placeOf (Go.Proofs.YtkmbleboceedbaaGreatDoor.opened k cs s).1.inos (Go.Proofs.YtkmbleboceedbaaGreatDoor.opened k cs s).2.2).toNat]? with
        | none => exact isBytes_mem.2 (fun x hx => absurd hx (by simp))
        | some c => exact h.opened k s c (List.mem_of_getElem? hg)
      refine isBytes_mem.2 (fun x hx => ?_)
      unfold over at hx
      rcases List.mem_append.1 hx with h2 | h2
      · exact isBytes_mem.1 hB x h2
      · exact isBytes_mem.1 ho x (List.mem_of_mem_drop h2)
/-- Exec without memory. -/
def PK.fileOf (p : PK) (s : ByteArray) : List Int := p.cs.getD (placeOf p.xs (walkOf p.xs s).n).toNat []
def PK.ExecErr (p : PK) (PL : List Nat) (i : Nat) (s : ByteArray) (ss : List ByteArray) (c : Int) : Prop :=
  (walkOf p.xs s).e ≠ 0 ∧ c = (walkOf p.xs s).e ∨ (walkOf p.xs s).e = 0 ∧ ((walkOf p.xs s).n = 0 ∧ c = 9 ∨ (walkOf p.xs s).n ≠ 0 ∧ (dirOf p.xs (walkOf p.xs s).n = true ∧ c = 11 ∨
    dirOf p.xs (walkOf p.xs s).n = false ∧ (Bad (p.fileOf s) c ∨ Good (p.fileOf s) ∧ (okArgs ss = false ∧ c = 6 ∨
      okArgs ss = true ∧ p.lf < (PL.sum : Int) - (PL.getD i 0 : Int) + ((outPgs (p.fileOf s)).length : Int) + 2 ∧ c = 7))))
def PK.ExecOk (p : PK) (PL : List Nat) (i : Nat) (s : ByteArray) (ss : List ByteArray) : Prop :=
  (walkOf p.xs s).e = 0 ∧ (walkOf p.xs s).n ≠ 0 ∧ dirOf p.xs (walkOf p.xs s).n = false ∧ Good (p.fileOf s) ∧ okArgs ss = true ∧ (PL.sum : Int) - (PL.getD i 0 : Int) + ((outPgs (p.fileOf s)).length : Int) + 2 ≤ p.lf
theorem fileOf_toP (k : RK) (cs : List (List Int)) (s : ByteArray) : (k.toP cs).fileOf s = Go.Proofs.YtkmbleboceedbaaGreatDoor.fileOf k cs s := by
  unfold PK.fileOf Go.Proofs.YtkmbleboceedbaaGreatDoor.fileOf
  show cs.getD (placeOf (k.inos.map erase) (walkOf (k.inos.map erase) s).n).toNat [] = _
  rw [walkOf_erase, placeOf_erase]
theorem execErr_toP {k : RK} {cs : List (List Int)} {PL : List Nat} {i : Nat} {s : ByteArray} {ss : List ByteArray} {c : Int} (h : ExecErr k cs PL i s ss c) : (k.toP cs).ExecErr PL i s ss c := by
  unfold PK.ExecErr
  rw [fileOf_toP, show walkOf (k.toP cs).xs s = walkOf k.inos s from walkOf_erase k.inos s, show ∀ n, dirOf (k.toP cs).xs n = dirOf k.inos n from dirOf_erase k.inos]
  exact h
theorem execOk_toP {k : RK} {cs : List (List Int)} {PL : List Nat} {i : Nat} {s : ByteArray} {ss : List ByteArray} (h : ExecOk k cs PL i s ss) : (k.toP cs).ExecOk PL i s ss := by
  unfold PK.ExecOk
  rw [fileOf_toP, show walkOf (k.toP cs).xs s = walkOf k.inos s from walkOf_erase k.inos s, show ∀ n, dirOf (k.toP cs).xs n = dirOf k.inos n from dirOf_erase k.inos]
  exact h
end Go.Proofs.YtkmbleboceedbaaGreatDoor

/- tinyosref: what holds of the files of a kernel that Boot makes. -/
namespace Go.Proofs.YtkmbleboceedbaaGreatDoor
open Go.RowKit
set_option linter.unusedVariables false
set_option linter.unusedSimpArgs false

structure PInv (p : PK) : Prop where
  ids : ∀ x ∈ p.xs, 1 ≤ x.id ∧ x.id ≤ p.last
  root : ∃ x ∈ p.xs, x.id = 1 ∧ x.dir = true
  last : 1 ≤ p.last
  incr : p.xs.Pairwise (fun x y => x.id < y.id)
  names : ∀ x ∈ p.xs, x.parent ≠ 0 → nameOk x.name = true
  kids : ∀ x ∈ p.xs, ∀ y ∈ p.xs, x.parent = y.parent → x.parent ≠ 0 → x.name.toList = y.name.toList → x.id = y.id
  parents : ∀ x ∈ p.xs, x.parent ≠ 0 → ∃ y ∈ p.xs, y.id = x.parent ∧ y.dir = true
  root1 : ∀ x ∈ p.xs, x.parent = 0 → x.id = 1 ∧ x.name = ByteArray.empty
  down : ∀ x ∈ p.xs, 0 ≤ x.parent ∧ x.parent < x.id
  len : p.cs.length = p.xs.length
  bare : ∀ (i : Nat) (x : Ino) (c : List Int), p.xs[i]? = some x → p.cs[i]? = some c → x.dir = true → c = []
theorem PInv.tree {p : PK} (h : PInv p) : TreeInv p.xs := by
  refine ⟨fun x hx => (h.down x hx).2, fun x hx hp => ?_, fun x hx => ?_⟩
  · obtain ⟨y, hy, he, _⟩ := h.parents x hx (by omega)
    exact ⟨y, hy, he⟩
  · by_cases hp : x.parent = 0
    · rw [(h.root1 x hx hp).2]; decide
    · have := h.names x hx hp
      unfold nameOk at this
      simp only [Bool.and_eq_true, decide_eq_true_eq] at this
      exact this.1.1.1.2
theorem boot0_inv (lp lf lo li lb : Int) : PInv (boot0 lp lf lo li lb) := by
  have hm : ∀ x ∈ (boot0 lp lf lo li lb).xs, x = Go.Proofs.YtkmbleboceedbaaGreatDoor.root := fun x hx => by simpa [boot0] using hx
  refine ⟨fun x hx => ?_, ⟨Go.Proofs.YtkmbleboceedbaaGreatDoor.root, by simp [boot0], rfl, rfl⟩, Int.le_refl 1, by simp [boot0], fun x hx hp => ?_, fun x hx y hy _ hp _ => ?_, fun x hx hp => ?_, fun x hx _ => ?_, fun x hx => ?_, rfl, fun i x c hx hc _ => ?_⟩
  · obtain rfl := hm x hx; exact ⟨Int.le_refl 1, Int.le_refl 1⟩
  · obtain rfl := hm x hx; exact absurd rfl hp
  · obtain rfl := hm x hx; obtain rfl := hm y hy; rfl
  · obtain rfl := hm x hx; exact absurd rfl hp
  · obtain rfl := hm x hx; exact ⟨rfl, rfl⟩
  · obtain rfl := hm x hx; exact ⟨Int.le_refl 0, show (0 : Int) < 1 by decide⟩
  · match i, hc with
    | 0, hc => have : [] = c := by simpa [boot0] using hc
               exact this.symm
    | (m + 1), hc => simp [boot0] at hc
theorem follow_new {xs : List Ino} : ∀ (l : List ByteArray) (dir : Int), l ≠ [] → (follow xs dir l).e = 0 → (follow xs dir l).name ∈ l ∧ (follow xs dir l).n = childOf xs (follow xs dir l).dir (follow xs dir l).name ∧ ((follow xs dir l).dir = dir ∨ ∃ y ∈ xs, y.id = (follow xs dir l).dir ∧ y.dir = true)
  | [], dir, h, _ => absurd rfl h
  | [a], dir, _, _ => ⟨by simp [follow], rfl, .inl rfl⟩
  | a :: b :: r, dir, _, h0 => by
    unfold follow at h0 ⊢
    split at h0
    · simp [walkErr] at h0
    · rename_i h1
      rw [if_neg h1]
      split at h0
      · rename_i h2
        rw [if_pos h2]
        obtain ⟨x1, x2, x3⟩ := follow_new (b :: r) (childOf xs dir a) (by simp) h0
        refine ⟨List.mem_cons_of_mem _ x1, x2, .inr ?_⟩
        rcases x3 with x3 | x3
        · rw [x3]
          unfold dirOf at h2
          cases hf : xs.find? (fun x => x.id == childOf xs dir a) with
          | none => rw [hf] at h2; cases h2
          | some y =>
            rw [hf] at h2
            exact ⟨y, List.mem_of_find?_eq_some hf, by have := List.find?_some hf; simpa using this, h2⟩
        · exact x3
      · simp [walkErr] at h0
theorem walk_new {xs : List Ino} {s : ByteArray} (h0 : (walkOf xs s).e = 0) (hn : (walkOf xs s).n = 0) : nameOk (walkOf xs s).name = true ∧ childOf xs (walkOf xs s).dir (walkOf xs s).name = 0 ∧ ((walkOf xs s).dir = 1 ∨ ∃ y ∈ xs, y.id = (walkOf xs s).dir ∧ y.dir = true) := by
  unfold walkOf at h0 hn ⊢
  split at h0
  · simp [walkErr] at h0
  · rename_i heq
    rw [heq] at hn
    exact absurd hn (show ¬ (1 : Int) = 0 by decide)
  · rename_i a r heq
    rw [heq] at hn
    obtain ⟨x1, x2, x3⟩ := follow_new (a :: r) 1 (by simp) h0
    refine ⟨?_, by rw [← x2]; exact hn, x3⟩
    have hall : ∀ m ∈ a :: r, nameOk m = true := by
      unfold namesOf at heq
      split at heq
      · cases heq
      · split at heq
        · cases heq
        · split at heq
          · rename_i ha
            rw [← Option.some.inj heq]
            exact List.all_eq_true.1 ha
          · cases heq
    exact hall _ x1
theorem child_zero {xs : List Ino} {dir : Int} {name : ByteArray} (hid : ∀ x ∈ xs, 1 ≤ x.id) (h : childOf xs dir name = 0) : ∀ x ∈ xs, isChild dir name x = false := by
  intro x hx
  unfold childOf at h
  cases hf : xs.find? (isChild dir name) with
  | none =>
    have := List.find?_eq_none.1 hf x hx
    simpa using this
  | some y =>
    rw [hf] at h
    have := hid y (List.mem_of_find?_eq_some hf)
    have h' : y.id = 0 := h
    omega
theorem PInv.add {p : PK} (h : PInv p) (dir : Int) (name : ByteArray) (is : Bool) (hn : nameOk name = true) (hc : childOf p.xs dir name = 0) (hd : dir = 1 ∨ ∃ y ∈ p.xs, y.id = dir ∧ y.dir = true) : PInv (p.add dir name is) := by
  have hno := child_zero (fun x hx => (h.ids x hx).1) hc
  obtain ⟨d, hdm, hdi, hdd⟩ : ∃ y ∈ p.xs, y.id = dir ∧ y.dir = true := by
    rcases hd with rfl | hd
    · obtain ⟨x, hx, h1, h2⟩ := h.root
      exact ⟨x, hx, h1, h2⟩
    · exact hd
  have hdr := h.ids d hdm
  have hmem : ∀ x ∈ (p.add dir name is).xs, x ∈ p.xs ∨ x = newIno (p.last + 1) dir name is := fun x hx => by
    have : x ∈ p.xs ++ [newIno (p.last + 1) dir name is] := hx
    simpa using this
  have hl := h.last
  refine ⟨fun x hx => ?_, ?_, show 1 ≤ p.last + 1 by omega, ?_, fun x hx hp => ?_, fun x hx y hy hp hp0 hnm => ?_, fun x hx hp => ?_, fun x hx hp => ?_, fun x hx => ?_, ?_, fun i x c hx hcx hxd => ?_⟩
  · show 1 ≤ x.id ∧ x.id ≤ p.last + 1
    rcases hmem x hx with h1 | rfl
    · have := h.ids x h1; omega
    · exact ⟨show 1 ≤ p.last + 1 by omega, Int.le_refl _⟩
  · obtain ⟨x, hx, h1, h2⟩ := h.root
    exact ⟨x, List.mem_append_left _ hx, h1, h2⟩
  · show (p.xs ++ [newIno (p.last + 1) dir name is]).Pairwise _
    rw [List.pairwise_append]
    refine ⟨h.incr, by simp, fun x hx y hy => ?_⟩
    have e : y = newIno (p.last + 1) dir name is := by simpa using hy
    subst e
    have := h.ids x hx
    show x.id < p.last + 1
    omega
  · rcases hmem x hx with h1 | rfl
    · exact h.names x h1 hp
    · exact hn
  · rcases hmem x hx with h1 | rfl <;> rcases hmem y hy with h2 | rfl
    · exact h.kids x h1 y h2 hp hp0 hnm
    · exfalso
      have := hno x h1
      have e1 : x.parent = dir := hp
      have e2 : x.name.toList = name.toList := hnm
      simp [isChild, e1, e2] at this
    · exfalso
      have := hno y h2
      have e1 : dir = y.parent := hp
      have e2 : name.toList = y.name.toList := hnm
      simp [isChild, ← e1, ← e2] at this
    · rfl
  · rcases hmem x hx with h1 | rfl
    · obtain ⟨y, hy, e1, e2⟩ := h.parents x h1 hp
      exact ⟨y, List.mem_append_left _ hy, e1, e2⟩
    · exact ⟨d, List.mem_append_left _ hdm, hdi, hdd⟩
  · rcases hmem x hx with h1 | rfl
    · exact h.root1 x h1 hp
    · have e : dir = 0 := hp
      omega
  · rcases hmem x hx with h1 | rfl
    · exact h.down x h1
    · show 0 ≤ dir ∧ dir < p.last + 1
      omega
  · show (p.cs ++ [[]]).length = (p.xs ++ [newIno (p.last + 1) dir name is]).length
    simp [h.len]
  · have hx' : (p.xs ++ [newIno (p.last + 1) dir name is])[i]? = some x := hx
    have hc' : (p.cs ++ [[]])[i]? = some c := hcx
    rw [List.getElem?_append] at hx' hc'
    rw [h.len] at hc'
    split at hx'
    · rename_i hi
      rw [if_pos hi] at hc'
      exact h.bare i x c hx' hc' hxd
    · rename_i hi
      rw [if_neg hi] at hc'
      have hm := List.mem_of_getElem? hc'
      simpa using hm
theorem PInv.mkdir {p : PK} (h : PInv p) (s : ByteArray) : PInv (p.mkdir s).2 := by
  unfold PK.mkdir
  split
  · exact h
  · rename_i h0
    split
    · exact h
    · rename_i h1
      split
      · exact h
      · have h0' : (walkOf p.xs s).e = 0 := Classical.byContradiction h0
        have h1' : (walkOf p.xs s).n = 0 := Classical.byContradiction h1
        obtain ⟨a, b, c⟩ := walk_new h0' h1'
        exact h.add _ _ _ a b c
theorem PInv.opened {p : PK} (h : PInv p) (s : ByteArray) (h0 : (walkOf p.xs s).e = 0) : PInv (p.opened s).1 := by
  unfold PK.opened
  split
  · rename_i h1
    obtain ⟨a, b, c⟩ := walk_new h0 h1
    exact h.add _ _ _ a b c
  · exact h
theorem PInv.cs {p : PK} (h : PInv p) {cs : List (List Int)} (hl : cs.length = p.cs.length) (hb : ∀ (i : Nat) (x : Ino) (c : List Int), p.xs[i]? = some x → cs[i]? = some c → x.dir = true → c = []) : PInv {p with cs := cs} :=
  ⟨h.ids, h.root, h.last, h.incr, h.names, h.kids, h.parents, h.root1, h.down, hl.trans h.len, hb⟩
theorem PInv.file {p : PK} (h : PInv p) (s : ByteArray) (B : List Int) (hc : p.fileCode s B = 0) : PInv (p.fileOut s B) := by
  unfold PK.fileCode at hc
  split at hc
  · rename_i h1; exact absurd hc h1
  rename_i h1
  have h0 : (walkOf p.xs s).e = 0 := Classical.byContradiction h1
  split at hc
  · exact absurd hc (show ¬ (12 : Int) = 0 by decide)
  split at hc
  · exact absurd hc (show ¬ (11 : Int) = 0 by decide)
  rename_i hd
  have ho := h.opened s h0
  unfold PK.fileOut
  split
  · exact ho
  · refine ho.cs (by simp) (fun i x c hx hcx hxd => ?_)
    rw [List.getElem?_set] at hcx
    split at hcx
    · rename_i hi
      exfalso
      apply hd
      split at hcx
      · -- the inode at that place has that number
        rename_i hlt
        have hfind : ∃ y, (p.opened s).1.xs.find? (fun z => z.id == (p.opened s).2) = some y ∧ ∃ K : Nat, placeOf (p.opened s).1.xs (p.opened s).2 = K ∧ (p.opened s).1.xs[K]? = some y := by
          cases hf : (p.opened s).1.xs.find? (fun z => z.id == (p.opened s).2) with
          | some y => obtain ⟨K, k1, k2⟩ := place_of_mem hf; exact ⟨y, rfl, K, k1, k2⟩
          | none =>
            exfalso
            have hno := List.find?_eq_none.1 hf
            have hin : ∃ z ∈ (p.opened s).1.xs, z.id = (p.opened s).2 := by
              unfold PK.opened
              split
              · exact ⟨newIno (p.last + 1) (walkOf p.xs s).dir (walkOf p.xs s).name false, by simp [PK.add], rfl⟩
              · rename_i hne
                unfold walkOf at h0 hne ⊢
                split at h0
                · simp [walkErr] at h0
                · obtain ⟨z, hz, e, _⟩ := h.root
                  exact ⟨z, hz, e⟩
                · rename_i a r heq
                  rw [heq] at hne
                  exact follow_n (a :: r) 1 h0 hne
            obtain ⟨z, hz, e⟩ := hin
            have := hno z hz
            simp [e] at this
        obtain ⟨y, hy, K, hK, hKy⟩ := hfind
        rw [hK] at hi
        have hiK : K = i := by simpa using hi
        subst hiK
        rw [hKy] at hx
        obtain rfl := Option.some.inj hx
        unfold dirOf
        rw [hy]
        exact hxd
      · cases hcx
    · exact ho.bare i x c hx hcx hxd
theorem PInv.puts {p : PK} : ∀ (FZ : List PFile) {p : PK}, PInv p → PInv (p.puts FZ).2
  | [], p, h => h
  | f :: r, p, h => by
    unfold PK.puts
    split
    · exact h
    · rename_i hc
      have hc' : (p.put f).1 = 0 := Classical.byContradiction hc
      refine PInv.puts (p := p) r ?_
      unfold PK.put at hc' ⊢
      split at hc'
      · rename_i hd
        rw [if_pos hd]
        exact h.mkdir f.path
      · rename_i hd
        rw [if_neg hd]
        exact h.file f.path f.bytes hc'
theorem puts_inv (lp lf lo li lb : Int) (FZ : List PFile) : PInv ((boot0 lp lf lo li lb).puts FZ).2 := PInv.puts (p := boot0 lp lf lo li lb) FZ (boot0_inv lp lf lo li lb)
end Go.Proofs.YtkmbleboceedbaaGreatDoor

/- The program's tree of files as it lies. -/
namespace Go.Proofs.YtkmbleboceedbaaGreatDoor
open Go Go.RowKit Go.Maps
set_option linter.unusedVariables false
set_option linter.unusedSimpArgs false

/-- How a pointer to a node reads: by its block's number. -/
def ptrElem : Value → Option (DataW Unit × List MemPlace)
  | .pointer none => some (.nil, [])
  | .pointer (some ⟨b, 0, none⟩) => some (.lit (.int .i64 b), [])
  | _ => none
def nodeDatum : Option Nat → DataW Unit
  | some b => .lit (.int .i64 b)
  | none => .nil
def nodePtr : Option Nat → Value
  | some b => .pointer (some ⟨b, 0, none⟩)
  | none => .pointer none
theorem ptrElem_inv {v : Value} {o : Option Nat} {ps : List MemPlace} (h : ptrElem v = some (nodeDatum o, ps)) : v = nodePtr o := by
  unfold ptrElem at h
  split at h
  · cases o with
    | none => rfl
    | some b => simp [nodeDatum] at h
  · rename_i b
    cases o with
    | none => simp [nodeDatum] at h
    | some c =>
      simp [nodeDatum] at h
      have e : b = c := by omega
      subst e
      rfl
  · cases h
/-- Each key of such a map is a name with a node. -/
def KeysOk (D : DataW Unit) (f : ByteArray → Option Nat) : Prop := ∀ kl, Maps.has D kl = true → ∃ (s : ByteArray) (b : Nat), kl = .string s.data.toList ∧ f s = some b
/-- A map from names to nodes. -/
def DictAt (w : World) (m n : Nat) (f : ByteArray → Option Nat) : Prop :=
  ∃ D : DataW Unit, w.ownsMap Tryz.prog 9 ptrElem m n D ∧ (∀ s : ByteArray, D.atKey (.string s.data.toList) .nil = nodeDatum (f s)) ∧ KeysOk D f
theorem strKeyed : Keyed Tryz.prog 9 := string_keyed Tryz.underlying9
theorem ptrZero (w : World) : (zeroValue 160).run Tryz.prog w = .ok (.pointer none) w := by kernel_rfl
theorem DictAt.look {w : World} {m n : Nat} {f : ByteArray → Option Nat} (h : DictAt w m n f) (s : ByteArray) (hs : s.size ≤ maxLen) : (Instr.lookup 226 (.map (some m)) (.string s) false).run Tryz.prog w = .ok (nodePtr (f s)) w := by
  obtain ⟨D, hD, hf, _⟩ := h
  obtain ⟨v, ps, hrun, hv⟩ := hD.lookup strKeyed Tryz.underlying226 (ptrZero w) (show ptrElem (.pointer none) = some (.nil, []) from rfl) (Go.WideMaps.keyOf_string_mk Tryz.underlying9 hs)
  rw [hf s] at hv
  rw [← ptrElem_inv hv]
  exact hrun
theorem DictAt.kept {w w' : World} {m n : Nat} {f : ByteArray → Option Nat} {row : Option Nat} (h : DictAt w m n f) (hg : w.grownBy w' row) (hne : some m ≠ row) : DictAt w' m n f := by
  obtain ⟨D, hD, hf⟩ := h
  exact ⟨D, hD.kept hg hne, hf⟩
/-- The child of a directory, by its name: its node. -/
def kidOf (xs : List Ino) (NB : List Nat) (d : Int) (name : ByteArray) : Option Nat := match xs.findIdx? (isChild d name) with | some i => NB[i]? | none => none
structure TreeRep (w : World) (B tb ab am : Nat) (li lb used : Int) (xs : List Ino) (NB MB : List Nat) (V : List Value) : Prop where
  tree : Holds w tb 163 [.pointer (some ⟨ab, 0, none⟩), .int .i64 xs.length, .int .i64 li, .int .i64 used, .int .i64 lb]
  above : Holds w ab 228 [.bool true, .slice none 0 0, .map (some am), .bool false, .int .i64 0]
  amap : DictAt w am 1 (fun s => if s.data.toList = [] then NB[0]? else none)
  len : NB.length = xs.length ∧ MB.length = xs.length
  node : ∀ (i : Nat) (x : Ino) (b m : Nat), xs[i]? = some x → NB[i]? = some b → MB[i]? = some m → ∃ v mv, Holds w b 228 [.bool x.dir, v, mv, .bool false, .int .i64 0] ∧ (x.dir = true → mv = .map (some m) ∧ DictAt w m xs.length (kidOf xs NB x.id)) ∧ V[i]? = some v ∧ (x.dir = false → mv = .map none)
  root : xs ≠ [] → ∃ x, xs[0]? = some x ∧ x.id = 1 ∧ x.dir = true
  vlen : V.length = xs.length
  apart : MB.Nodup ∧ am ∉ MB ∧ NB.Nodup ∧ ab ∉ NB
  low : B ≤ tb ∧ B ≤ ab ∧ B ≤ am ∧ (∀ b ∈ NB, B ≤ b) ∧ ∀ m ∈ MB, B ≤ m ∧ m < w.heap.size
/-- Where the node with this number lies. -/
def NodeIs (xs : List Ino) (NB : List Nat) (id : Int) (b : Nat) : Prop := ∃ (i : Nat) (x : Ino), xs[i]? = some x ∧ x.id = id ∧ NB[i]? = some b
theorem kid_some {xs : List Ino} {NB : List Nat} {d : Int} {name : ByteArray} (hl : NB.length = xs.length) (h : childOf xs d name ≠ 0) : ∃ (i : Nat) (x : Ino) (b : Nat), xs[i]? = some x ∧ x.id = childOf xs d name ∧ NB[i]? = some b ∧ kidOf xs NB d name = some b := by
  unfold childOf at h ⊢
  cases hf : xs.find? (isChild d name) with
  | none => rw [hf] at h; exact absurd rfl h
  | some x =>
    obtain ⟨he, i, hi, hx, hlt⟩ := List.find?_eq_some_iff_getElem.1 hf
    have hfi : xs.findIdx? (isChild d name) = some i := by
      rw [List.findIdx?_eq_some_iff_getElem]
      exact ⟨hi, by rw [hx]; exact he, fun j hj => by simpa using hlt j hj⟩
    have hib : i < NB.length := by omega
    refine ⟨i, x, NB[i], by rw [List.getElem?_eq_getElem hi, hx], rfl, List.getElem?_eq_getElem hib, ?_⟩
    unfold kidOf
    rw [hfi]
    exact List.getElem?_eq_getElem hib
theorem kid_none {xs : List Ino} {NB : List Nat} {d : Int} {name : ByteArray} (hid : ∀ x ∈ xs, 1 ≤ x.id) (h : childOf xs d name = 0) : kidOf xs NB d name = none := by
  have hno := child_zero hid h
  unfold kidOf
  cases hf : xs.findIdx? (isChild d name) with
  | none => rfl
  | some i =>
    obtain ⟨hi, he, _⟩ := List.findIdx?_eq_some_iff_getElem.1 hf
    rw [hno _ (List.getElem_mem hi)] at he
    cases he
theorem dirOf_at {xs : List Ino} {i : Nat} {x : Ino} (hinc : xs.Pairwise (fun x y => x.id < y.id)) (hx : xs[i]? = some x) : dirOf xs x.id = x.dir := by
  unfold dirOf
  cases hf : xs.find? (fun y => y.id == x.id) with
  | none =>
    have := List.find?_eq_none.1 hf x (List.mem_of_getElem? hx)
    simp at this
  | some y =>
    obtain ⟨he, j, hj, hy, _⟩ := List.find?_eq_some_iff_getElem.1 hf
    have he' : y.id = x.id := by simpa using he
    obtain ⟨hi, hxi⟩ := List.getElem?_eq_some_iff.1 hx
    have hp := List.pairwise_iff_getElem.1 hinc
    have hij : i = j := by
      rcases Nat.lt_trichotomy i j with h | h | h
      · have := hp i j hi hj h; rw [hxi, hy] at this; omega
      · exact h
      · have := hp j i hj hi h; rw [hxi, hy] at this; omega
    subst hij
    rw [← hxi, ← hy]
end Go.Proofs.YtkmbleboceedbaaGreatDoor

/- tinyoslaw: small, of a setting alone. -/
namespace Go.Proofs.YtkmbleboceedbaaGreatDoor
open Go.RowKit
set_option linter.unusedVariables false
set_option linter.unusedSimpArgs false

/-- The files of a setting as they lie: three cells each. -/
structure FilesIn (w : World) (fb foff : Nat) (FZ : List PFile) : Prop where
  path : ∀ (i : Nat) (f : PFile), FZ[i]? = some f → w.cell? ⟨fb, foff + i * 3, none⟩ = some (.string f.path)
  dir : ∀ (i : Nat) (f : PFile), FZ[i]? = some f → w.cell? ⟨fb, foff + i * 3 + 1, none⟩ = some (.bool f.dir)
  bytes : ∀ (i : Nat) (f : PFile), FZ[i]? = some f → ∃ a q o c, w.cell? ⟨fb, foff + i * 3 + 2, none⟩ = some (.slice a f.bytes.length c) ∧ (0 < f.bytes.length → a = some ⟨q, o, none⟩ ∧ q < w.heap.size) ∧ BView w q o f.bytes
def setting (lp lf lo li lb : Int) (v : Value) : List Value := [.int .i64 lp, .int .i64 lf, .int .i64 lo, .int .i64 li, .int .i64 lb, v]
def fileWeight (f : PFile) : Nat := f.path.size + f.bytes.length
def weightTo (FZ : List PFile) (j : Nat) : Nat := ((FZ.take j).map fileWeight).sum
theorem weightTo_succ {FZ : List PFile} {j : Nat} {f : PFile} (h : FZ[j]? = some f) : weightTo FZ (j + 1) = weightTo FZ j + fileWeight f := by
  unfold weightTo
  rw [List.take_add_one, h]; simp
theorem weightTo_le {FZ : List PFile} {M : Nat} (hb : ∀ f ∈ FZ, fileWeight f ≤ M) : ∀ j, weightTo FZ j ≤ j * M
  | 0 => by simp [weightTo]
  | j + 1 => by
    have h2 := weightTo_le hb j
    rw [Nat.succ_mul]
    cases h : FZ[j]? with
    | none =>
      have e : FZ.take (j + 1) = FZ.take j := by rw [List.take_add_one, h]; simp
      have e2 : weightTo FZ (j + 1) = weightTo FZ j := by unfold weightTo; rw [e]
      omega
    | some f =>
      have h1 := hb f (List.mem_of_getElem? h)
      rw [weightTo_succ h]; omega
def isSmall (FZ : List PFile) : Bool := decide (FZ.length ≤ 100) && decide ((FZ.map fileWeight).sum ≤ 200000)

set_option maxRecDepth 100000 in
set_option maxHeartbeats 4000000 in
theorem small_nil (lp lf lo li lb : Int) (fa : Option Addr) (fb foff fcap : Nat) (FZ : List PFile) (w : World) (hfa : 0 < FZ.length → fa = some ⟨fb, foff, none⟩) (hfb : 0 < FZ.length → fb < w.heap.size) (hf : FilesIn w fb foff FZ) (hb : ∀ f ∈ FZ, f.path.size ≤ 140737488355328 ∧ f.bytes.length ≤ 140737488355328) (hl : FZ.length ≤ 140737488355328) :
    Calls Tryz.prog 5 #[.agg #[.int .i64 lp, .int .i64 lf, .int .i64 lo, .int .i64 li, .int .i64 lb, .slice fa FZ.length fcap], .slice none 0 0] w fun e w' => e = .returned (.bool (isSmall FZ)) ∧ Below w.heap.size w w' := by
  have HB0 := hide (show Below w.heap.size w (w.alloc (Obj.cells (setting lp lf lo li lb (.slice fa FZ.length fcap)).toArray 26)) from (Below.refl _ _).alloc (Nat.le_refl _) _)
  have HN0 := hide (Holds.new w 26 (setting lp lf lo li lb (.slice fa FZ.length fcap)))
  have HF := hide hf
  have HFA := hide hfa
  have HFB := hide hfb
  have HW := hide (weightTo_le (M := 281474976710656) (fun f hf => by have := hb f hf; unfold fileWeight; omega))
  have HBB := hide hb
  clear hf hfa hfb hb
  by_cases h100 : FZ.length ≤ 100
  case neg =>
    have hx : (100 : Int) < (FZ.length : Int) := by omega
    have HR := hide (show isSmall FZ = false from by unfold isSmall; rw [decide_eq_false h100]; rfl)
    clear h100
    go_enter Tryz.func5, Tryz.ntmps5
    go_wp2
    go_ret
    exact ⟨by rw [unhide HR]; rfl, unhide HB0⟩
  have hx : ¬ (100 : Int) < (FZ.length : Int) := by omega
  go_enter Tryz.func5, Tryz.ntmps5
  go_wp2
  go_loopw [5, 6] (fun n i wr => ∃ j : Nat, j ≤ FZ.length ∧ i = .int .i64 j ∧ n = .int .i64 (weightTo FZ j) ∧ Hid (Holds wr w.heap.size 26 (setting lp lf lo li lb (.slice fa FZ.length fcap))) ∧ Hid (Below w.heap.size w wr)) (fun _ i _ => FZ.length - (intOf i).toNat)
  case atStart => exact ⟨0, by omega, rfl, rfl, HN0, HB0⟩
  case round =>
    obtain ⟨j, hj, rfl, rfl, HS, HB⟩ := hrel
    have c5 : wr.cell? ⟨w.heap.size, 5, none⟩ = some (.slice fa FZ.length fcap) := (unhide HS).cell rfl
    by_cases hlt : j < FZ.length
    · obtain ⟨f, hf⟩ : ∃ f, FZ[j]? = some f := ⟨_, List.getElem?_eq_getElem hlt⟩
      obtain rfl := (unhide HFA) (by omega)
      have hfb := unhide HFB (by omega)
      obtain ⟨a, q, o, c, hcb, haq, hbv⟩ := (unhide HF).bytes j f hf
      have d0 : wr.cell? ⟨fb, foff + j * 3, none⟩ = some (.string f.path) := by rw [(unhide HB).cell (p := ⟨fb, foff + j * 3, none⟩) hfb]; exact (unhide HF).path j f hf
      have d2 : wr.cell? ⟨fb, foff + j * 3 + 2, none⟩ = some (.slice a f.bytes.length c) := by rw [(unhide HB).cell (p := ⟨fb, foff + j * 3 + 2, none⟩) hfb]; exact hcb
      have hsz := unhide HBB f (List.mem_of_getElem? hf)
      have hw0 := unhide HW j
      have hws := weightTo_succ hf
      unfold fileWeight at hws
      have HWS := hide hws
      obtain ⟨A, hA⟩ : ∃ A, A = weightTo FZ j := ⟨_, rfl⟩
      rw [← hA] at hw0 HWS ⊢
      have hA1 : (A : Int) + (f.path.size : Int) ≤ 100000000000000000 := by omega
      have hA2 : (A : Int) + (f.path.size : Int) + (f.bytes.length : Int) ≤ 100000000000000000 := by omega
      have hj0 : (0 : Int) ≤ (j : Int) := by omega
      have hj1 : (j : Int) < (FZ.length : Int) := by omega
      have hj2 : (j : Int) ≤ 1000 := by omega
      generalize hps : f.path = ps at d0 HWS hA1 hA2 hsz
      generalize f.bytes.length = bl at d2 HWS hA2 hsz
      clear hf hcb haq hbv hws hA hsz hw0 hps
      go_wp2
      go_quiet (fail)
      go_wp2
      go_roundw
      case rel => exact ⟨j + 1, by omega, by go_num, by rw [unhide HWS]; go_num, hide ((unhide HS).heap rfl), hide ⟨(unhide HB).os, (unhide HB).tape, (unhide HB).output, (unhide HB).size, (unhide HB).block⟩⟩
      case measure => simp [intOf]; omega
    · have hje : j = FZ.length := by omega
      subst hje
      have HR := hide (show isSmall FZ = decide ((weightTo FZ FZ.length : Int) ≤ 200000) from by
        unfold isSmall weightTo
        rw [decide_eq_true h100, List.take_length, Bool.true_and]
        exact decide_eq_decide.2 (by omega))
      generalize weightTo FZ FZ.length = A at HR ⊢
      go_wp2
      go_loopw [5, 7] (fun n i w2 => n = .int .i64 A ∧ i = .int .i64 0 ∧ w2 = wr) (fun _ _ _ => 0)
      case atStart => exact ⟨rfl, rfl, rfl⟩
      case round =>
        obtain ⟨rfl, rfl, rfl⟩ := hrel
        go_wp2
        go_ret
        exact ⟨by rw [unhide HR]; rfl, unhide HB⟩
end Go.Proofs.YtkmbleboceedbaaGreatDoor

/- tinyosref: Boot: one file. -/
namespace Go.Proofs.YtkmbleboceedbaaGreatDoor
open Go.RowKit
set_option linter.unusedVariables false
set_option linter.unusedSimpArgs false

/-- The kernel of Boot behind j files. -/
structure BootAt (lp lf lo li lb : Int) (w : World) (FZ : List PFile) (j : Nat) (wr : World) (k : RK) (cs : List (List Int)) (g cap : Nat) : Prop where
  rep : RepK wr (w.heap.size + 2) (w.heap.size + 1) g cap k
  cont : ContAt wr k.inos cs
  inv : InvK k
  nils : NilK lp lf lo li lb k
  puts : (boot0 lp lf lo li lb).puts (FZ.take j) = (0, k.toP cs)
  bytes : AllBytes cs
  used : usedOf cs ≤ ((FZ.take j).map (fun f => f.bytes.length)).sum
  inos : k.inos.length ≤ j + 1
  last : k.last ≤ j + 1
  below : Below w.heap.size w wr
def BootR (lp lf lo li lb : Int) (w : World) (FZ : List PFile) (j : Nat) (wr : World) : Prop := ∃ k cs g cap, BootAt lp lf lo li lb w FZ j wr k cs g cap
theorem BootAt.drew {lp lf lo li lb : Int} {w : World} {FZ : List PFile} {j : Nat} {wr : World} {k : RK} {cs : List (List Int)} {g cap : Nat} (h : BootAt lp lf lo li lb w FZ j wr k cs g cap) : BootAt lp lf lo li lb w FZ j wr.drew k cs g cap :=
  ⟨h.rep.heap rfl, h.cont, h.inv, h.nils, h.puts, h.bytes, h.used, h.inos, h.last, ⟨h.below.os, h.below.tape, h.below.output, h.below.size, h.below.block⟩⟩
theorem BootR.drew {lp lf lo li lb : Int} {w : World} {FZ : List PFile} {j : Nat} {wr : World} (h : BootR lp lf lo li lb w FZ j wr) : BootR lp lf lo li lb w FZ j wr.drew := by
  obtain ⟨k, cs, g, cap, h⟩ := h
  exact ⟨k, cs, g, cap, h.drew⟩
theorem sum_take_file {FZ : List PFile} {j : Nat} {f : PFile} (hf : FZ[j]? = some f) : ((FZ.take (j + 1)).map (fun f => f.bytes.length)).sum = ((FZ.take j).map (fun f => f.bytes.length)).sum + f.bytes.length := by
  rw [List.take_add_one, hf]; simp
theorem sum_take_all (FZ : List PFile) (j : Nat) : ((FZ.take j).map (fun f => f.bytes.length)).sum ≤ (FZ.map (fun f => f.bytes.length)).sum := by
  rw [List.map_take]; exact sum_take_le _ j
/-- What the call for one file of Boot's leaves. -/
def StepPost (lp lf lo li lb : Int) (w : World) (FZ : List PFile) (j : Nat) (e : Ending) (w' : World) : Prop :=
  ∃ c : Int, e = .returned (.int .i64 c) ∧ Below w.heap.size w w' ∧ (c ≠ 0 → ((boot0 lp lf lo li lb).puts FZ).1 = c) ∧ (c = 0 → BootR lp lf lo li lb w FZ (j + 1) w')

theorem boot_step (lp lf lo li lb : Int) (FZ : List PFile) (w : World) (j : Nat) (f : PFile) (hf : FZ[j]? = some f) (hn : FZ.length ≤ 100) (hsum : (FZ.map (fun f => f.bytes.length)).sum ≤ 200000) (hps : ∀ f ∈ FZ, f.path.size ≤ maxLen ∧ IsBytes f.bytes)
    (a : Option Addr) (q o c : Nat) (haq : 0 < f.bytes.length → a = some ⟨q, o, none⟩ ∧ q < w.heap.size) (hbv : BView w q o f.bytes) (wr : World) (h : BootR lp lf lo li lb w FZ j wr) :
    Calls Tryz.prog 29 #[.pointer (some ⟨w.heap.size + 1, 0, none⟩), .string f.path, .bool f.dir, .slice a f.bytes.length c] wr fun e w' => StepPost lp lf lo li lb w FZ j e w' := by
  obtain ⟨k, cs, g, cap, h⟩ := h
  have hjl := (List.getElem?_eq_some_iff.1 hf).1
  have hg := h.rep.2.lt g rfl
  have hk := h.rep.1.lt
  have hi0 := h.inos
  have hl0 := h.last
  have hp := hps f (List.mem_of_getElem? hf)
  have hu := h.used
  have hst := sum_take_all FZ j
  have hst2 := sum_take_all FZ (j + 1)
  have hsf := sum_take_file hf
  have hsz := h.below.size
  cases hd : f.dir with
  | true =>
    refine (refFile_dir (w.heap.size + 2) (w.heap.size + 1) g cap k f.path _ wr h.rep (by omega) (by omega) (by omega) (by have := h.inv.2.2; omega) (by omega) hp.1).mono ?_
    rintro e w7 ⟨rfl, g7, cap7, hr7, hf7, hg7⟩
    have hb7 : Below w.heap.size w w7 := h.below.trans (hf7.below (by omega) (by omega) (by omega))
    have hpd := puts_dir (k := k) (cs := cs) hd
    refine ⟨(mkdirOf k f.path).1, rfl, hb7, fun hc => ?_, fun hc => ?_⟩
    · rw [puts_stop h.puts hf (by rw [hpd.1]; exact hc), hpd.1]
    · have had := mkdir_add hc
      refine ⟨(mkdirOf k f.path).2, cs ++ [[]], g7, cap7, hr7, ?_, h.inv.mkdir f.path, h.nils.mkdir f.path, ?_, h.bytes.snoc, ?_, ?_, ?_, hb7⟩
      · rw [had]
        exact (h.cont.frame hf7 h.rep.apart.1 h.rep.apart.2).add _ _ _
      · rw [puts_snoc h.puts hf (hpd.1.trans hc), hpd.2 hc]
      · rw [used_snoc]; omega
      · rw [had]; simp [RK.add]; omega
      · rw [had]; show k.last + 1 ≤ _; omega
  | false =>
    have hcs : (cs.map List.length).sum ≤ 1000000 := by have : usedOf cs = (cs.map List.length).sum := rfl; omega
    refine (refFile_open (w.heap.size + 2) (w.heap.size + 1) g cap k cs f.path a q o c f.bytes wr h.rep h.cont h.inv (by omega) (by omega) (by omega) (by omega) hp.1 h.nils.pv h.nils.ov (by omega) hcs (fun h0 => (haq h0).1) (fun h0 => by have := (haq h0).2; omega) ?_).mono ?_
    · by_cases h0 : 0 < f.bytes.length
      · exact hbv.below h.below (haq h0).2
      · exact fun j hj => absurd hj (by omega)
    rintro e w7 ⟨rfl, hb7, hok⟩
    have hb7' : Below w.heap.size w w7 := h.below.trans (hb7.mono (by omega))
    have hpd := puts_file (k := k) (cs := cs) hd
    refine ⟨fileCode k cs f.path f.bytes, rfl, hb7', fun hc => ?_, fun hc => ?_⟩
    · rw [puts_stop h.puts hf (by rw [hpd.1]; exact hc), hpd.1]
    · obtain ⟨k', g', cap', hr', hc', he', hk', hf', hg'⟩ := hok hc
      have hin : k'.inos.length = (Go.Proofs.YtkmbleboceedbaaGreatDoor.opened k cs f.path).1.inos.length := by have := congrArg List.length he'; simpa using this
      have hll : k'.last = (Go.Proofs.YtkmbleboceedbaaGreatDoor.opened k cs f.path).1.last := by have h9 := congrArg (fun x : RK => x.last) hk'; exact h9
      refine ⟨k', fileCs k cs f.path f.bytes, g', cap', hr', hc', ?_, h.nils.file hk', ?_, h.bytes.file k f.path hp.2, ?_, ?_, ?_, hb7'⟩
      · obtain ⟨⟨k1, cs1, n1⟩, ho⟩ : ∃ x, Go.Proofs.YtkmbleboceedbaaGreatDoor.opened k cs f.path = x := ⟨_, rfl⟩
        rw [ho] at he' hll
        exact (h.inv.opened ho).same he' hll
      · rw [puts_snoc h.puts hf (hpd.1.trans hc), hpd.2 k' he' hk']
      · have := fileCs_used k cs f.path f.bytes; omega
      · rw [hin]; unfold Go.Proofs.YtkmbleboceedbaaGreatDoor.opened; split
        · simp [RK.add]; omega
        · simp; omega
      · rw [hll]; unfold Go.Proofs.YtkmbleboceedbaaGreatDoor.opened; split
        · show k.last + 1 ≤ _; omega
        · show k.last ≤ _; omega
end Go.Proofs.YtkmbleboceedbaaGreatDoor

/- tinyoslaw: tiny. -/
namespace Go.Proofs.YtkmbleboceedbaaGreatDoor
open Go Go.RowKit
set_option linter.unusedVariables false
set_option linter.unusedSimpArgs false

theorem wpList_copy_str {P : Program} {ops : Array Oper} {rest : List Oper} {o : Oper} {a : Act} {w : World} {Q : Exit → Act → World → Prop} (hgd : o.guard = none) (d s : Operand) (dT sT : TypeId)
    (ho : o.op = .call { callee := .builtin .copy, args := #[d, s], argTypes := #[dT, sT] }) (elem : TypeId) (hu : P.underlying dT = some (.slice elem)) (hsz : (P.info? elem).map (·.size) = some 1)
    (g off dLen dCap : Nat) (str : ByteArray) (hd : a.eval d = .slice (some ⟨g, off, none⟩) dLen dCap) (hs : a.eval s = .string str)
    (cur : List Value) (t : TypeId) (hg : Holds w g t cur) (hle : str.size ≤ dLen) (hfit : off + str.size ≤ cur.length)
    (h : ∀ w', Hid (Holds w' g t (splice cur off (Lib.byteCells str.data.toList))) → w.grownBy w' (some g) → wpList P ops Q rest (a.put o.dst (goInt str.size)) w') : wpList P ops Q (o :: rest) a w := by
  refine wpList_plain hgd fun K hK => ?_
  have := step_copy_str (P := P) (ops := ops) (o := o) (a := a) (w := w) (K := K) (Q := Q) (E := True) hgd d s dT sT ho elem hu hsz g off dLen dCap str hd hs cur t hg hle hfit (fun w' h1 h2 => hK _ _ (h w' h1 h2))
  have hw : Region.wanted o (yielded ops a.tmps) = true := by simp [Region.wanted, hgd]
  rw [if_pos hw] at this
  exact this
def tiny0 : List Int := [127, 69, 76, 70, 2, 1, 1] ++ List.replicate 253 0
def tinyB : List Int := ((((((((((((((tiny0.set 16 2).set 18 243).set 20 1).set 25 1).set 32 64).set 52 64).set 54 56).set 56 1).set 64 1).set 68 5).set 73 1).set 81 1).set 96 4).set 104 4).set 256 22
theorem tiny0_row : splice (bytesRow (List.replicate 260 0)) 0 (Lib.byteCells [127, 69, 76, 70, 2, 1, 1]) = bytesRow tiny0 := by kernel_rfl

set_option maxRecDepth 100000 in
set_option maxHeartbeats 4000000 in
theorem tiny_any (w : World) : Calls Tryz.prog 11 #[] w fun e w' => e = .returned (.slice (some ⟨w.heap.size, 0, none⟩) 260 260) ∧ Holds w' w.heap.size 5 (bytesRow tinyB) ∧ Below w.heap.size w w' := by
  obtain ⟨Z, hZ⟩ : ∃ Z, Z = zeroBytes 260 := ⟨_, rfl⟩
  have hmk : ∀ w, (Instr.makeSlice 32 (.int .i64 260) (.int .i64 260)).run Tryz.prog w = .ok (.slice (some ⟨w.heap.size, 0, none⟩) 260 260) (w.alloc (.cells Z 5)) := by
    intro w
    have := run_make_row' (P := Tryz.prog) 32 5 (.int .u8 0) 1 Tryz.underlying32 u8info rfl .i64 .i64 260 (by decide) (by decide) w
    rw [hZ]
    rwa [made_bytes] at this
  have HZ := hide (show Holds (w.alloc (.cells Z 5)) w.heap.size 5 (bytesRow (List.replicate 260 0)) from by rw [hZ]; exact Holds.new w 5 _)
  have HB := hide (show Below w.heap.size w (w.alloc (.cells Z 5)) from (Below.refl _ _).alloc (Nat.le_refl _) _)
  clear hZ
  go_enter Tryz.func11, Tryz.ntmps11
  go_upto_region 3 with (refine wpList_copy_str rfl _ _ 32 9 rfl 5 Tryz.underlying32 u8one w.heap.size 0 260 260 _ (by rfl) (by rfl) _ _ (unhide HZ) (by decide) (by rw [bytesRow_length]; decide) ?_; intro w1 H1 hg1)
  have hh : Holds w1 w.heap.size 5 (bytesRow tiny0) := by rw [← tiny0_row]; exact unhide H1
  have hb : Below w.heap.size w w1 := (unhide HB).trans (below_grown hg1 (Nat.le_refl _) (by simp))
  obtain ⟨x16, c16⟩ : ∃ x, w1.cell? ⟨w.heap.size, 16, none⟩ = some (.int .u8 x) := ⟨_, hh.cell (bytesRow_get tiny0 16 (by decide))⟩
  have f16 := hh.frozen 16
  obtain ⟨x18, c18⟩ : ∃ x, w1.cell? ⟨w.heap.size, 18, none⟩ = some (.int .u8 x) := ⟨_, hh.cell (bytesRow_get tiny0 18 (by decide))⟩
  have f18 := hh.frozen 18
  obtain ⟨x20, c20⟩ : ∃ x, w1.cell? ⟨w.heap.size, 20, none⟩ = some (.int .u8 x) := ⟨_, hh.cell (bytesRow_get tiny0 20 (by decide))⟩
  have f20 := hh.frozen 20
  obtain ⟨x25, c25⟩ : ∃ x, w1.cell? ⟨w.heap.size, 25, none⟩ = some (.int .u8 x) := ⟨_, hh.cell (bytesRow_get tiny0 25 (by decide))⟩
  have f25 := hh.frozen 25
  obtain ⟨x32, c32⟩ : ∃ x, w1.cell? ⟨w.heap.size, 32, none⟩ = some (.int .u8 x) := ⟨_, hh.cell (bytesRow_get tiny0 32 (by decide))⟩
  have f32 := hh.frozen 32
  obtain ⟨x52, c52⟩ : ∃ x, w1.cell? ⟨w.heap.size, 52, none⟩ = some (.int .u8 x) := ⟨_, hh.cell (bytesRow_get tiny0 52 (by decide))⟩
  have f52 := hh.frozen 52
  obtain ⟨x54, c54⟩ : ∃ x, w1.cell? ⟨w.heap.size, 54, none⟩ = some (.int .u8 x) := ⟨_, hh.cell (bytesRow_get tiny0 54 (by decide))⟩
  have f54 := hh.frozen 54
  obtain ⟨x56, c56⟩ : ∃ x, w1.cell? ⟨w.heap.size, 56, none⟩ = some (.int .u8 x) := ⟨_, hh.cell (bytesRow_get tiny0 56 (by decide))⟩
  have f56 := hh.frozen 56
  obtain ⟨x64, c64⟩ : ∃ x, w1.cell? ⟨w.heap.size, 64, none⟩ = some (.int .u8 x) := ⟨_, hh.cell (bytesRow_get tiny0 64 (by decide))⟩
  have f64 := hh.frozen 64
  obtain ⟨x68, c68⟩ : ∃ x, w1.cell? ⟨w.heap.size, 68, none⟩ = some (.int .u8 x) := ⟨_, hh.cell (bytesRow_get tiny0 68 (by decide))⟩
  have f68 := hh.frozen 68
  obtain ⟨x73, c73⟩ : ∃ x, w1.cell? ⟨w.heap.size, 73, none⟩ = some (.int .u8 x) := ⟨_, hh.cell (bytesRow_get tiny0 73 (by decide))⟩
  have f73 := hh.frozen 73
  obtain ⟨x81, c81⟩ : ∃ x, w1.cell? ⟨w.heap.size, 81, none⟩ = some (.int .u8 x) := ⟨_, hh.cell (bytesRow_get tiny0 81 (by decide))⟩
  have f81 := hh.frozen 81
  obtain ⟨x96, c96⟩ : ∃ x, w1.cell? ⟨w.heap.size, 96, none⟩ = some (.int .u8 x) := ⟨_, hh.cell (bytesRow_get tiny0 96 (by decide))⟩
  have f96 := hh.frozen 96
  obtain ⟨x104, c104⟩ : ∃ x, w1.cell? ⟨w.heap.size, 104, none⟩ = some (.int .u8 x) := ⟨_, hh.cell (bytesRow_get tiny0 104 (by decide))⟩
  have f104 := hh.frozen 104
  obtain ⟨x256, c256⟩ : ∃ x, w1.cell? ⟨w.heap.size, 256, none⟩ = some (.int .u8 x) := ⟨_, hh.cell (bytesRow_get tiny0 256 (by decide))⟩
  have f256 := hh.frozen 256
  have HH := hide (show Holds _ w.heap.size 5 (bytesRow tinyB) from by
    have h := (((((((((((((((hh.set 16 (.int .u8 2)).set 18 (.int .u8 243)).set 20 (.int .u8 1)).set 25 (.int .u8 1)).set 32 (.int .u8 64)).set 52 (.int .u8 64)).set 54 (.int .u8 56)).set 56 (.int .u8 1)).set 64 (.int .u8 1)).set 68 (.int .u8 5)).set 73 (.int .u8 1)).set 81 (.int .u8 1)).set 96 (.int .u8 4)).set 104 (.int .u8 4)).set 256 (.int .u8 22))
    simp only [bytesRow_set] at h
    exact h)
  have HBB := hide (((((((((((((((hb.setCell (p := ⟨w.heap.size, 16, none⟩) (Nat.le_refl _) (.int .u8 2)).setCell (p := ⟨w.heap.size, 18, none⟩) (Nat.le_refl _) (.int .u8 243)).setCell (p := ⟨w.heap.size, 20, none⟩) (Nat.le_refl _) (.int .u8 1)).setCell (p := ⟨w.heap.size, 25, none⟩) (Nat.le_refl _) (.int .u8 1)).setCell (p := ⟨w.heap.size, 32, none⟩) (Nat.le_refl _) (.int .u8 64)).setCell (p := ⟨w.heap.size, 52, none⟩) (Nat.le_refl _) (.int .u8 64)).setCell (p := ⟨w.heap.size, 54, none⟩) (Nat.le_refl _) (.int .u8 56)).setCell (p := ⟨w.heap.size, 56, none⟩) (Nat.le_refl _) (.int .u8 1)).setCell (p := ⟨w.heap.size, 64, none⟩) (Nat.le_refl _) (.int .u8 1)).setCell (p := ⟨w.heap.size, 68, none⟩) (Nat.le_refl _) (.int .u8 5)).setCell (p := ⟨w.heap.size, 73, none⟩) (Nat.le_refl _) (.int .u8 1)).setCell (p := ⟨w.heap.size, 81, none⟩) (Nat.le_refl _) (.int .u8 1)).setCell (p := ⟨w.heap.size, 96, none⟩) (Nat.le_refl _) (.int .u8 4)).setCell (p := ⟨w.heap.size, 104, none⟩) (Nat.le_refl _) (.int .u8 4)).setCell (p := ⟨w.heap.size, 256, none⟩) (Nat.le_refl _) (.int .u8 22))
  clear hh hb H1 hg1 HZ HB hmk
  go_wp2
  go_ret
  exact ⟨rfl, unhide HH, unhide HBB⟩
end Go.Proofs.YtkmbleboceedbaaGreatDoor
