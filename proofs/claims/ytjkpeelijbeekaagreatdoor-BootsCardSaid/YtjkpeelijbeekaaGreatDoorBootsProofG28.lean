import Derived.Test.YtjkpeelijbeekaaGreatDoorBootsProofG27
import Derived.Test.YtjkpeelijbeekaaGreatDoorBootsProofG26
import Derived.Test.YtjkpeelijbeekaaGreatDoorBootsProofG02
import Derived.Test.YtjkpeelijbeekaaGreatDoorBootsProofG22
import Derived.Maps.RangeWalk
import Derived.BigQuiet
/- The tree of files, by numbers of nodes: who is below whom; paths. -/
namespace Go.Proofs.YtjkpeelijbeekaaGreatDoor
open Go Go.RowKit
set_option linter.unusedVariables false
set_option linter.unusedSimpArgs false

/-- The j-th node is a child of the i-th. -/
def Kid (xs : List Ino) (i j : Nat) : Prop := ∃ x y, xs[i]? = some x ∧ xs[j]? = some y ∧ y.parent = x.id ∧ y.parent ≠ 0
/-- The j-th node is below the a-th. -/
def DescN (xs : List Ino) (a : Nat) : Nat → Nat → Prop
  | 0, j => Kid xs a j
  | n + 1, j => ∃ m, DescN xs a n m ∧ Kid xs m j
def Desc (xs : List Ino) (a j : Nat) : Prop := ∃ n, DescN xs a n j
theorem Desc.kid {xs : List Ino} {a j : Nat} (h : Kid xs a j) : Desc xs a j := ⟨0, h⟩
theorem Desc.step {xs : List Ino} {a m j : Nat} (h : Desc xs a m) (k : Kid xs m j) : Desc xs a j := by
  obtain ⟨n, hn⟩ := h
  exact ⟨n + 1, m, hn, k⟩
theorem Desc.parts {xs : List Ino} {a j : Nat} (h : Desc xs a j) : Kid xs a j ∨ ∃ m, Desc xs a m ∧ Kid xs m j := by
  obtain ⟨n, hn⟩ := h
  cases n with
  | zero => exact .inl hn
  | succ n =>
    obtain ⟨m, h1, h2⟩ := hn
    exact .inr ⟨m, ⟨n, h1⟩, h2⟩
theorem Desc.ind {xs : List Ino} {a : Nat} {C : Nat → Prop} (hk : ∀ j, Kid xs a j → C j) (hs : ∀ m j, Desc xs a m → Kid xs m j → C m → C j) : ∀ j, Desc xs a j → C j := by
  rintro j ⟨n, hn⟩
  induction n generalizing j with
  | zero => exact hk j hn
  | succ n ih =>
    obtain ⟨m, h1, h2⟩ := hn
    exact hs m j ⟨n, h1⟩ h2 (ih m h1)
theorem idx_lt {xs : List Ino} (hinc : xs.Pairwise (fun x y => x.id < y.id)) {i j : Nat} {x y : Ino} (hx : xs[i]? = some x) (hy : xs[j]? = some y) (h : x.id < y.id) : i < j := by
  obtain ⟨hi, rfl⟩ := List.getElem?_eq_some_iff.1 hx
  obtain ⟨hj, rfl⟩ := List.getElem?_eq_some_iff.1 hy
  have hp := List.pairwise_iff_getElem.1 hinc
  rcases Nat.lt_trichotomy i j with q | q | q
  · exact q
  · subst q; omega
  · have := hp j i hj hi q; omega
theorem idx_eq {xs : List Ino} (hinc : xs.Pairwise (fun x y => x.id < y.id)) {i j : Nat} {x y : Ino} (hx : xs[i]? = some x) (hy : xs[j]? = some y) (h : x.id = y.id) : i = j := by
  obtain ⟨hi, rfl⟩ := List.getElem?_eq_some_iff.1 hx
  obtain ⟨hj, rfl⟩ := List.getElem?_eq_some_iff.1 hy
  have hp := List.pairwise_iff_getElem.1 hinc
  rcases Nat.lt_trichotomy i j with q | q | q
  · have := hp i j hi hj q; omega
  · exact q
  · have := hp j i hj hi q; omega
theorem Kid.lt {p : PK} (hi : PInv p) {i j : Nat} (h : Kid p.xs i j) : i < j := by
  obtain ⟨x, y, hx, hy, hp, _⟩ := h
  refine idx_lt hi.incr hx hy ?_
  have := (hi.down y (List.mem_of_getElem? hy)).2
  omega
theorem Kid.uniq {p : PK} (hi : PInv p) {i i' j : Nat} (h : Kid p.xs i j) (h' : Kid p.xs i' j) : i = i' := by
  obtain ⟨x, y, hx, hy, hp, _⟩ := h
  obtain ⟨x', y', hx', hy', hp', _⟩ := h'
  rw [hy] at hy'
  obtain rfl := Option.some.inj hy'
  exact idx_eq hi.incr hx hx' (by omega)
theorem Kid.bound {xs : List Ino} {i j : Nat} (h : Kid xs i j) : i < xs.length ∧ j < xs.length := by
  obtain ⟨x, y, hx, hy, _⟩ := h
  exact ⟨(List.getElem?_eq_some_iff.1 hx).1, (List.getElem?_eq_some_iff.1 hy).1⟩
theorem Desc.lt {p : PK} (hi : PInv p) {a j : Nat} (h : Desc p.xs a j) : a < j := by
  refine Desc.ind (C := fun j => a < j) (fun j hk => hk.lt hi) (fun m j _ hk ih => ?_) j h
  have := hk.lt hi
  omega
theorem Desc.bound {xs : List Ino} {a j : Nat} (h : Desc xs a j) : j < xs.length := by
  rcases h.parts with hk | ⟨m, _, hk⟩
  · exact hk.bound.2
  · exact hk.bound.2
theorem Desc.head {xs : List Ino} {a j : Nat} (h : Desc xs a j) : ∃ c, Kid xs a c ∧ (c = j ∨ Desc xs c j) := by
  refine Desc.ind (C := fun j => ∃ c, Kid xs a c ∧ (c = j ∨ Desc xs c j)) (fun j hk => ⟨_, hk, .inl rfl⟩) (fun m j _ hk ih => ?_) j h
  obtain ⟨c, h1, h2⟩ := ih
  refine ⟨c, h1, .inr ?_⟩
  rcases h2 with rfl | h2
  · exact Desc.kid hk
  · exact Desc.step h2 hk
theorem Desc.cons {xs : List Ino} {a c j : Nat} (h : Kid xs a c) (h2 : Desc xs c j) : Desc xs a j := by
  exact Desc.ind (C := fun j => Desc xs a j) (fun j hk => Desc.step (Desc.kid h) hk) (fun m j _ hk ih => Desc.step ih hk) j h2
theorem Desc.chain {p : PK} (hi : PInv p) {a b j : Nat} (h : Desc p.xs a j) : Desc p.xs b j → a = b ∨ Desc p.xs a b ∨ Desc p.xs b a := by
  refine Desc.ind (C := fun j => Desc p.xs b j → a = b ∨ Desc p.xs a b ∨ Desc p.xs b a) (fun j hk h2 => ?_) (fun m j hm hk ih h2 => ?_) j h
  · rcases h2.parts with hk2 | ⟨m, hm, hk2⟩
    · exact .inl (hk.uniq hi hk2)
    · rw [hk.uniq hi hk2]; exact .inr (.inr hm)
  · rcases h2.parts with hk2 | ⟨m2, hm2, hk2⟩
    · rw [← hk.uniq hi hk2]; exact .inr (.inl hm)
    · rw [← hk.uniq hi hk2] at hm2; exact ih hm2
theorem no_sib {p : PK} (hi : PInv p) {i c c' : Nat} (h : Kid p.xs i c) (h' : Kid p.xs i c') : ¬ Desc p.xs c' c := by
  intro hd
  have hl := h'.lt hi
  rcases hd.parts with hk | ⟨m, hm, hk⟩
  · have := h.uniq hi hk
    omega
  · have e := h.uniq hi hk
    subst e
    have := hm.lt hi
    omega
theorem sib {p : PK} (hi : PInv p) {i c c' j : Nat} (h : Kid p.xs i c) (h' : Kid p.xs i c') (hc : j = c ∨ Desc p.xs c j) (hc' : j = c' ∨ Desc p.xs c' j) : c = c' := by
  rcases hc with rfl | hc
  · rcases hc' with rfl | hc'
    · rfl
    · exact (no_sib hi h h' hc').elim
  · rcases hc' with rfl | hc'
    · exact (no_sib hi h' h hc).elim
    · rcases hc.chain hi hc' with q | q | q
      · exact q
      · exact (no_sib hi h' h q).elim
      · exact (no_sib hi h h' q).elim
theorem parent_at {p : PK} (hi : PInv p) {j : Nat} {y : Ino} (hy : p.xs[j]? = some y) (hp : y.parent ≠ 0) : ∃ m x, p.xs[m]? = some x ∧ x.id = y.parent ∧ x.dir = true ∧ Kid p.xs m j := by
  obtain ⟨x, hx, h1, h2⟩ := hi.parents y (List.mem_of_getElem? hy) hp
  obtain ⟨m, hm⟩ := List.mem_iff_getElem?.1 hx
  exact ⟨m, x, hm, h1, h2, x, y, hm, hy, h1.symm, hp⟩
theorem root_desc {p : PK} (hi : PInv p) {x0 : Ino} (h0 : p.xs[0]? = some x0) (h01 : x0.id = 1) : ∀ (j : Nat), 0 < j → j < p.xs.length → Desc p.xs 0 j := by
  intro j
  induction j using Nat.strongRecOn with
  | ind j ih =>
    intro hj hl
    obtain ⟨y, hy⟩ : ∃ y, p.xs[j]? = some y := ⟨_, List.getElem?_eq_getElem hl⟩
    have hp : y.parent ≠ 0 := by
      intro e
      have h1 := (hi.root1 y (List.mem_of_getElem? hy) e).1
      have := idx_eq hi.incr h0 hy (by omega)
      omega
    obtain ⟨m, x, hm, _, _, hk⟩ := parent_at hi hy hp
    have hmj := hk.lt hi
    by_cases hm0 : m = 0
    · subst hm0; exact .kid hk
    · exact .step (ih m hmj (by omega) (by omega)) hk
theorem file_no_kid {p : PK} (hi : PInv p) {i j : Nat} {x : Ino} (hx : p.xs[i]? = some x) (hd : x.dir = false) : ¬ Kid p.xs i j := by
  rintro ⟨x', y, hx', hy, hp, hp0⟩
  rw [hx] at hx'
  obtain rfl := Option.some.inj hx'
  obtain ⟨m, z, hm, hz, hzd, hk⟩ := parent_at hi hy hp0
  have := idx_eq hi.incr hx hm (by omega)
  subst this
  rw [hx] at hm
  obtain rfl := Option.some.inj hm
  rw [hd] at hzd
  cases hzd

/-! ### Paths -/
theorem find_at {xs : List Ino} (hinc : xs.Pairwise (fun x y => x.id < y.id)) {i : Nat} {x : Ino} (hx : xs[i]? = some x) : xs.find? (fun y => y.id == x.id) = some x := by
  cases hf : xs.find? (fun y => y.id == x.id) with
  | none =>
    have := List.find?_eq_none.1 hf x (List.mem_of_getElem? hx)
    simp at this
  | some y =>
    obtain ⟨he, j, hj, hy, _⟩ := List.find?_eq_some_iff_getElem.1 hf
    have he' : y.id = x.id := by simpa using he
    have := idx_eq hinc (List.getElem?_eq_some_iff.2 ⟨hj, hy⟩) hx he'
    subst this
    rw [List.getElem?_eq_getElem hj, hy] at hx
    exact hx
theorem path_child {p : PK} (hi : PInv p) {j : Nat} {y : Ino} (hy : p.xs[j]? = some y) (hp : y.parent ≠ 0) : pathOf p.xs y.id = pathOf p.xs y.parent ++ (slashB ++ y.name) := by
  have hm := List.mem_of_getElem? hy
  have hd := hi.down y hm
  have hdn : ∀ x ∈ p.xs, x.parent < x.id := fun x hx => (hi.down x hx).2
  unfold pathOf
  rw [pathGo_up hdn (by omega) (by omega) (find_at hi.incr hy), pathGo_tail, pathGo_fuel hdn y.id.toNat y.parent.toNat y.parent _ (by omega) (by omega)]
  simp
theorem split_last : ∀ (A B n m : List UInt8), (∀ c ∈ n, c ≠ 47) → (∀ c ∈ m, c ≠ 47) → A ++ 47 :: n = B ++ 47 :: m → A = B ∧ n = m := by
  intro A B n m hn hm h
  rcases List.append_eq_append_iff.1 h with ⟨c, h1, h2⟩ | ⟨c, h1, h2⟩
  · cases c with
    | nil => simp at h1 h2; exact ⟨h1.symm, h2⟩
    | cons d r =>
      simp at h2
      have : (47 : UInt8) ∈ n := by rw [h2.2]; simp
      exact absurd rfl (hn 47 this)
  · cases c with
    | nil => simp at h1 h2; exact ⟨h1, h2.symm⟩
    | cons d r =>
      simp at h2
      have : (47 : UInt8) ∈ m := by rw [h2.2]; simp
      exact absurd rfl (hm 47 this)
theorem name_slash {s : ByteArray} (h : nameOk s = true) : ∀ c ∈ s.data.toList, c ≠ 47 := by
  intro c hc
  unfold nameOk at h
  simp only [Bool.and_eq_true] at h
  have := List.all_eq_true.1 h.2 c hc
  simp at this
  exact this.2
theorem path_list {p : PK} (hi : PInv p) {j : Nat} {y : Ino} (hy : p.xs[j]? = some y) (hp : y.parent ≠ 0) : (pathOf p.xs y.id).data.toList = (pathOf p.xs y.parent).data.toList ++ 47 :: y.name.data.toList := by
  rw [path_child hi hy hp]
  simp [slashB, ByteArray.data_append]
theorem path_root {p : PK} (hi : PInv p) {j : Nat} {y : Ino} (hy : p.xs[j]? = some y) (hp : y.parent = 0) : (pathOf p.xs y.id).data.toList = [] := by
  rw [pathOf_root (by rw [(hi.root1 y (List.mem_of_getElem? hy) hp).1]; omega)]
  rfl
theorem path_inj {p : PK} (hi : PInv p) : ∀ (i j : Nat) (x y : Ino), p.xs[i]? = some x → p.xs[j]? = some y → (pathOf p.xs x.id).data.toList = (pathOf p.xs y.id).data.toList → i = j := by
  intro i
  induction i using Nat.strongRecOn with
  | ind i ih =>
    intro j x y hx hy h
    by_cases hx0 : x.parent = 0
    · by_cases hy0 : y.parent = 0
      · exact idx_eq hi.incr hx hy (by rw [(hi.root1 x (List.mem_of_getElem? hx) hx0).1, (hi.root1 y (List.mem_of_getElem? hy) hy0).1])
      · rw [path_root hi hx hx0, path_list hi hy hy0] at h
        simp at h
    · by_cases hy0 : y.parent = 0
      · rw [path_root hi hy hy0, path_list hi hx hx0] at h
        simp at h
      · rw [path_list hi hx hx0, path_list hi hy hy0] at h
        obtain ⟨h1, h2⟩ := split_last _ _ _ _ (name_slash (hi.names x (List.mem_of_getElem? hx) hx0)) (name_slash (hi.names y (List.mem_of_getElem? hy) hy0)) h
        obtain ⟨a, xa, ha, ha1, _, hka⟩ := parent_at hi hx hx0
        obtain ⟨b, xb, hb, hb1, _, hkb⟩ := parent_at hi hy hy0
        rw [← ha1, ← hb1] at h1
        have hab := ih a (hka.lt hi) b xa xb ha hb h1
        subst hab
        rw [ha] at hb
        obtain rfl := Option.some.inj hb
        refine idx_eq hi.incr hx hy (hi.kids x (List.mem_of_getElem? hx) y (List.mem_of_getElem? hy) (by omega) hx0 ?_)
        rw [ByteArray.toList_eq, ByteArray.toList_eq]
        exact h2
/-- The child of that name. -/
theorem kid_of_map {p : PK} (hi : PInv p) {NB : List Nat} {i b : Nat} {x : Ino} {s : ByteArray} (hx : p.xs[i]? = some x) (h : kidOf p.xs NB x.id s = some b) : ∃ j y, Kid p.xs i j ∧ p.xs[j]? = some y ∧ y.name = s ∧ NB[j]? = some b := by
  unfold kidOf at h
  cases hf : p.xs.findIdx? (isChild x.id s) with
  | none => rw [hf] at h; cases h
  | some j =>
    rw [hf] at h
    obtain ⟨hj, he, _⟩ := List.findIdx?_eq_some_iff_getElem.1 hf
    unfold isChild at he
    simp only [Bool.and_eq_true, beq_iff_eq] at he
    have h1 := (hi.ids x (List.mem_of_getElem? hx)).1
    refine ⟨j, p.xs[j], ⟨x, p.xs[j], hx, List.getElem?_eq_getElem hj, he.1, by omega⟩, List.getElem?_eq_getElem hj, bytes_eq ?_, h⟩
    have h2 := he.2
    rw [ByteArray.toList_eq, ByteArray.toList_eq] at h2
    exact h2
theorem map_of_kid {p : PK} (hi : PInv p) {NB : List Nat} {i j : Nat} {x y : Ino} (hx : p.xs[i]? = some x) (hy : p.xs[j]? = some y) (hk : Kid p.xs i j) (hl : NB.length = p.xs.length) : kidOf p.xs NB x.id y.name = NB[j]? := by
  obtain ⟨x', y', hx', hy', hp, hp0⟩ := hk
  rw [hx] at hx'
  obtain rfl := Option.some.inj hx'
  rw [hy] at hy'
  obtain rfl := Option.some.inj hy'
  have hj := (List.getElem?_eq_some_iff.1 hy).1
  unfold kidOf
  cases hf : p.xs.findIdx? (isChild x.id y.name) with
  | none =>
    have := List.findIdx?_eq_none_iff.1 hf y (List.mem_of_getElem? hy)
    unfold isChild at this
    simp [hp] at this
  | some k =>
    obtain ⟨hk, he, _⟩ := List.findIdx?_eq_some_iff_getElem.1 hf
    unfold isChild at he
    simp only [Bool.and_eq_true, beq_iff_eq] at he
    have e : k = j := idx_eq hi.incr (List.getElem?_eq_getElem hk) hy (hi.kids _ (List.getElem_mem hk) y (List.mem_of_getElem? hy) (by omega) (by omega) he.2)
    rw [e]
end Go.Proofs.YtjkpeelijbeekaaGreatDoor

/- The program's newProcess. -/
namespace Go.Proofs.YtjkpeelijbeekaaGreatDoor
open Go Go.RowKit
set_option linter.unusedVariables false
set_option linter.unusedSimpArgs false

def conFd (cb : Nat) : Value := .iface 114 (.pointer (some ⟨cb, 0, none⟩))
/-- Descriptors while they are set. -/
def kfdsTo (cb k : Nat) : List Value := List.replicate k (conFd cb) ++ List.replicate (8 - k) .nilIface
theorem kfdsTo_step (cb k : Nat) (h : k < 8) : (kfdsTo cb k).set k (conFd cb) = kfdsTo cb (k + 1) := by
  unfold kfdsTo
  have e := set_at (A := List.replicate k (conFd cb)) (B := List.replicate (8 - k) Value.nilIface) (n := k) (j := 0) List.length_replicate (conFd cb)
  rw [Nat.add_zero] at e
  rw [e, show 8 - k = (8 - (k + 1)) + 1 by omega, List.replicate_succ, List.set_cons_zero, List.replicate_succ', List.append_assoc]
  rfl
theorem proc_set {E : Int} {R : List Int} {S : List Value} {pid par st su wk : Int} {fds : List Value} (hR : R.length = 16) (hS : S.length = 65792) (k : Nat) (v : Value) : (procRow E R S pid par st su wk fds).set (65814 + k) v = procRow E R S pid par st su wk (fds.set k v) := by
  unfold procRow
  rw [show 65814 + k = 65809 + (5 + k) by omega, set_at (cpuRow_length hR hS)]
  congr 1
  exact set_at rfl v
theorem zero16_length : zero16.length = 16 := by unfold zero16; exact List.length_replicate

set_option maxRecDepth 100000 in
set_option maxHeartbeats 1000000 in
theorem newProcess_any (pid par : Int) (cb : Nat) (w : World) :
    Calls Tryz.prog 40 #[.int .i64 pid, .int .i64 par, .pointer (some ⟨cb, 0, none⟩)] w fun e w' => e = .returned (.pointer (some ⟨w.heap.size, 0, none⟩)) ∧ Below w.heap.size w w' ∧ Holds w' w.heap.size 183 (procRow 0 zero16 zeroSpace pid par 0 0 0 (kfdsTo cb 3)) := by
  have hpn := proc_new pid par
  obtain ⟨W1, hW1⟩ : ∃ W1, W1 = w.alloc (.cells (procRow 0 zero16 zeroSpace pid par 0 0 0 nil8).toArray 183) := ⟨_, rfl⟩
  have h1 : Holds W1 w.heap.size 183 (procRow 0 zero16 zeroSpace pid par 0 0 0 (kfdsTo cb 0)) := by rw [hW1]; exact Holds.new w 183 _
  have hb1 : Below w.heap.size w W1 := by rw [hW1]; exact (Below.refl _ _).alloc (Nat.le_refl _) _
  have HW1 := hide hW1
  have H1 := hide h1
  have HB1 := hide hb1
  clear hW1 h1 hb1
  go_enter Tryz.func40, Tryz.ntmps40
  go_upto_region 2 with fail
  rw [← unhide HW1]
  clear hpn
  go_wp2
  go_loopw [13] (fun i wr => ∃ k : Nat, k ≤ 3 ∧ i = .int .i64 k ∧ Hid (Holds wr w.heap.size 183 (procRow 0 zero16 zeroSpace pid par 0 0 0 (kfdsTo cb k))) ∧ Hid (Below w.heap.size w wr)) (fun i _ => 3 - (intOf i).toNat)
  case atStart => exact ⟨0, by omega, rfl, H1, HB1⟩
  case round =>
    obtain ⟨k, hk, rfl, HR, HB⟩ := hrel
    by_cases hlt : k < 3
    · have hk0 : (0 : Int) ≤ (k : Int) := by omega
      have hk1 : (k : Int) < 3 := by omega
      have hk8 : (k : Int) < 8 := by omega
      have hcl : (wr.cell? ⟨w.heap.size, 65814 + k, none⟩).isSome = true := by
        have hl : (procRow 0 zero16 zeroSpace pid par 0 0 0 (kfdsTo cb k)).length = 65822 := by
          unfold procRow
          rw [List.length_append, cpuRow_length zero16_length zeroSpace_length]
          unfold kfdsTo
          simp; omega
        rw [(unhide HR).cell (List.getElem?_eq_getElem (show 65814 + k < _ by rw [hl]; omega))]
        rfl
      obtain ⟨ov, hov⟩ := Option.isSome_iff_exists.1 hcl
      have hfz := (unhide HR).frozen (65814 + k)
      have HN := hide (show Holds (wr.setCell ⟨w.heap.size, 65814 + k, none⟩ (conFd cb)) w.heap.size 183 (procRow 0 zero16 zeroSpace pid par 0 0 0 (kfdsTo cb (k + 1))) ∧ Below w.heap.size w (wr.setCell ⟨w.heap.size, 65814 + k, none⟩ (conFd cb)) from by
        refine ⟨?_, (unhide HB).setCell (p := ⟨w.heap.size, 65814 + k, none⟩) (Nat.le_refl _) _⟩
        have := (unhide HR).set (65814 + k) (conFd cb)
        rw [proc_set zero16_length zeroSpace_length, kfdsTo_step cb k (by omega)] at this
        exact this)
      unfold conFd at HN
      clear hcl
      go_wp2
      exact ⟨⟨k + 1, by omega, by simp, hide (unhide HN).1, hide (unhide HN).2⟩, by simp only [intOf]; omega⟩
    · have hke : k = 3 := by omega
      subst hke
      go_wp2
      go_ret
      exact ⟨rfl, unhide HB, unhide HR⟩
end Go.Proofs.YtjkpeelijbeekaaGreatDoor

/- The program's kernel as it lies behind Boot: process 1 alone; frames, freeFrames. -/
namespace Go.Proofs.YtjkpeelijbeekaaGreatDoor
open Go Go.RowKit Go.Maps
set_option linter.unusedVariables false
set_option linter.unusedSimpArgs false

def procD (pb : Nat) : DataW Unit := .map [(.int .i64 1, .lit (.int .i64 pb))]
/-- A map that holds process 1 alone. -/
def OneProc (w : World) (pm pb : Nat) : Prop := w.ownsMap Tryz.prog 3 ptrElem pm 1 (procD pb)
theorem intKeyed : Keyed Tryz.prog 3 := int_keyed Tryz.underlying3
theorem OneProc.kept {w w' : World} {pm pb : Nat} (h : OneProc w pm pb) {row : Option Nat} (hg : w.grownBy w' row) (hne : some pm ≠ row) : OneProc w' pm pb := World.ownsMap.kept h hg hne
theorem procD_has {pb : Nat} {kl : Lit} (h : Maps.has (procD pb) kl = true) : kl = .int .i64 1 := by
  unfold procD at h
  rw [Maps.has_eq] at h
  simp at h
  exact (WideAt.sameKey_eq h).symm
theorem procD_at (pb : Nat) (zd : DataW Unit) : (procD pb).atKey (.int .i64 1) zd = .lit (.int .i64 pb) := rfl
theorem invInt (key : Value) (kl : Lit) (h : keyOf Tryz.prog 3 key = some kl) : ∃ x, key = Value.int .i64 x := by
  obtain ⟨x, rfl, _⟩ := Maps.keyOf_int_inv Tryz.underlying3 h
  exact ⟨x, rfl⟩
theorem invPtr (v : Value) (y : DataW Unit × List MemPlace) (h : ptrElem v = some y) : ∃ c, v = nodePtr c := by
  unfold ptrElem at h
  split at h
  · exact ⟨none, rfl⟩
  · rename_i b
    exact ⟨some b, rfl⟩
  · cases h
theorem one_key {x : Int} {kl : Lit} (h : keyOf Tryz.prog 3 (.int .i64 x) = some kl) (hk : kl = .int .i64 1) : x = 1 := by
  obtain ⟨y, e, h2, _⟩ := Maps.keyOf_int_inv Tryz.underlying3 h
  have hx : x = y := by simpa using e
  rw [hk] at h2
  have hy : 1 = y := by simpa using h2
  omega
theorem one_elem {pb : Nat} {c : Option Nat} {y : DataW Unit × List MemPlace} (h : ptrElem (nodePtr c) = some y) (hy : y.1 = .lit (.int .i64 pb)) : c = some pb := by
  cases c with
  | none =>
    have : y = (.nil, []) := (Option.some.inj h).symm
    rw [this] at hy; cases hy
  | some b =>
    have : y = (.lit (.int .i64 b), []) := (Option.some.inj h).symm
    rw [this] at hy
    injection hy with hy
    injection hy with _ hy
    have : b = pb := by omega
    rw [this]
def kernelRow (lp lf lo li lb : Int) (tb cb pm : Nat) : List Value := [.int .i64 lp, .int .i64 lf, .int .i64 lo, .int .i64 li, .int .i64 lb, .pointer (some ⟨tb, 0, none⟩), .pointer (some ⟨cb, 0, none⟩), .int .i64 0, .slice none 0 0, .map (some pm)]
/-- The pages of a process as its cells tell them. -/
def PermsAt (w : World) (pb : Nat) (PS : List Pg) : Prop := ∀ j : Nat, j < 256 → w.cell? ⟨pb, 17 + j * 257, none⟩ = some (.int .u8 (permAt PS j))
theorem PermsAt.below {w w' : World} {pb : Nat} {PS : List Pg} (h : PermsAt w pb PS) (hb : Below w.heap.size w w') (hl : pb < w.heap.size) : PermsAt w' pb PS := fun j hj => by rw [hb.cell (p := ⟨pb, 17 + j * 257, none⟩) hl]; exact h j hj

set_option maxRecDepth 100000 in
set_option maxHeartbeats 1000000 in
theorem frames_any (kb pm pb : Nat) (lp lf lo li lb : Int) (tb cb : Nat) (PS : List Pg) (w : World) (hk : Holds w kb 121 (kernelRow lp lf lo li lb tb cb pm)) (hm : OneProc w pm pb) (hpl : pb < w.heap.size) (hp : PermsAt w pb PS) (hok : PgsOk PS) (hn : PS.length ≤ 256) :
    Calls Tryz.prog 54 #[.pointer (some ⟨kb, 0, none⟩)] w fun e w' => e = .returned (.int .i64 (PS.length : Nat)) ∧ Below w.heap.size w w' := by
  have c9 : w.cell? ⟨kb, 9, none⟩ = some (.map (some pm)) := hk.cell rfl
  have HM := hide hm
  have HP := hide hp
  have HOK := hide hok
  have HPL := hide (And.intro hpl (show pm < w.heap.size from World.ownsMap.lt hm))
  have HN := hide hn
  clear hk hm hp hok hpl hn
  go_enter Tryz.func54, Tryz.ntmps54
  go_wp2_with (first | (at_range; refine wpList_range_own _ rfl _ 119 rfl 3 130 intKeyed Tryz.underlying119 ptrElem pm 1 (procD pb) rfl (unhide HM) ?_; intro w0 hrg0 hg0 hs0) | go_in)
  have HR0 := hide hrg0
  have HB0 := hide (show Below w.heap.size w w0 from ⟨hg0.os, hg0.tape, hg0.output, hg0.size, fun k hk => hg0.block k hk (by simp)⟩)
  clear hrg0 hg0 hs0 c9
  go_frame
  go_loopw [3] (fun c wr => ∃ (left : Lit → Bool) (cnt : Nat), Hid (wr.ranges Tryz.prog 3 ptrElem pm w.heap.size 1 (procD pb) left cnt) ∧ Hid (∀ kl, left kl = true → kl = .int .i64 1) ∧ Hid (cnt = 1 ∧ c = .int .i64 0 ∨ cnt = 0 ∧ c = .int .i64 (PS.length : Nat)) ∧ Hid (Below w.heap.size w wr)) (fun _ wr => wr.rangeLeft pm w.heap.size)
  case atStart => exact ⟨_, _, HR0, hide (fun kl h => procD_has h), hide (.inl ⟨rfl, rfl⟩), HB0⟩
  case round =>
    obtain ⟨left, cnt, HRG, HLF, HCN, HB⟩ := hrel
    go_wp2_with (first
      | (at_next; refine wpList_next_ranges _ rfl _ rfl 3 intKeyed ptrElem (Value.int .i64) nodePtr invInt invPtr pm w.heap.size 1 (procD pb) left cnt rfl (unhide HRG) ?_ ?_)
      | go_in)
    · intro hc0 hl0
      obtain rfl : u3 = .int .i64 (PS.length : Nat) := by
        rcases unhide HCN with ⟨q, _⟩ | ⟨_, q⟩
        · omega
        · exact q
      go_wp2
      go_ret
      exact ⟨rfl, unhide HB⟩
    · intro x c kl y1 y2 w1 cnt1 hkey hlk hv hat hrg1 hlt hg1 hs1 hen
      have hkl := unhide HLF kl hlk
      subst hkl
      obtain rfl := one_key hkey rfl
      obtain rfl := one_elem hv (show y1 = _ by rw [← hat .nil]; exact procD_at pb .nil)
      obtain ⟨rfl, rfl⟩ : cnt = 1 ∧ u3 = .int .i64 0 := by
        rcases unhide HCN with q | ⟨q, _⟩
        · exact q
        · omega
      have hb1 : Below w.heap.size w w1 := (unhide HB).trans ⟨hg1.os, hg1.tape, hg1.output, hg1.size, fun k hk => hg1.block k (by have := (unhide HB).size; omega) (by simp; omega)⟩
      have HCT := hide (count_any pb 17 PS w1 (unhide HOK) ((unhide HP).below hb1 (unhide HPL).1))
      have HRG1 := hide hrg1
      have HB1 := hide hb1
      have hn := unhide HN
      have hn0 : (PS.length : Int) ≤ 256 := by omega
      have hc1 : cnt1 = 0 := by omega
      clear hkey hlk hv hat hrg1 hlt hg1 hs1 hb1 hn
      unfold nodePtr at hen ⊢
      go_wp2_with fail
      refine (unhide HCT).mono ?_
      rintro e w2 ⟨rfl, rfl⟩
      clear hen HCT
      go_wp2
      subst hc1
      exact ⟨⟨_, _, HRG1, hide (fun kl h => by
        have := (Bool.and_eq_true _ _ ▸ h : left kl = true ∧ (!kl.sameKey (.int .i64 1)) = true)
        exact unhide HLF kl this.1), hide (.inr ⟨rfl, by simp⟩), HB1⟩, by rw [(unhide HRG1).left_eq, (unhide HRG).left_eq]; omega⟩
end Go.Proofs.YtjkpeelijbeekaaGreatDoor
