import Derived.Test.YtkmbleboceedbaaGreatDoorBootsProofG24
/- The tree of files, by numbers of nodes: who is below whom; paths. -/
namespace Go.Proofs.YtkmbleboceedbaaGreatDoor
open Go Go.RowKit
set_option linter.unusedVariables false
set_option linter.unusedSimpArgs false

/-- The j-th node is a child of the i-th. -/
def Kid (xs : List Ino) (i j : Nat) : Prop := ∃ x y, xs[i]? = some x ∧ xs[j]? = some y ∧ y.parent = x.id ∧ y.parent ≠ 0
/-- The j-th node is below the a-th. -/
inductive Desc (xs : List Ino) (a : Nat) : Nat → Prop
  | kid {j : Nat} : Kid xs a j → Desc xs a j
  | step {m j : Nat} : Desc xs a m → Kid xs m j → Desc xs a j
theorem idx_lt {xs : List Ino} (hinc : xs.Pairwise (fun x y => x.id < y.id)) {i j : Nat} {x y : Ino} (hx : xs[i]? = some x) (hy : xs[j]? = some y) (h : x.id < y.id) : i < j := by
  obtain ⟨hi, rfl⟩ := List.getElem?_eq_some_iff.1 hx
  obtain ⟨hj, rfl⟩ := List.getElem?_eq_some_iff.1 hy
  have hp := List.pairwise_iff_getElem.1 hinc
  rcases Nat.lt_trichotomy i j with q | q | q
  · exact q
  · subst q; omega
  · have := hp j i hj hi q; omega
theorem idx_eq {xs : List Ino} (hinc : xs.Pairwise (fun x y => x.id < y.id)) {i j : Nat} {x y : Ino} (hx : xs[i]? = some x) (hy : xs[j]? = some y) (h : x.id = y.id) : i = j := by
  obtain ⟨hi, rfl⟩ := List.getElem?_eq_some_iff.1 hx
  obtain ⟨hj, rfl⟩ := List.getElem?_eq_some_iff.1 hy
  have hp := List.pairwise_iff_getElem.1 hinc
  rcases Nat.lt_trichotomy i j with q | q | q
  · have := hp i j hi hj q; omega
  · exact q
  · have := hp j i hj hi q; omega
theorem Kid.lt {p : PK} (hi : PInv p) {i j : Nat} (h : Kid p.xs i j) : i < j := by
  obtain ⟨x, y, hx, hy, hp, _⟩ := h
  refine idx_lt hi.incr hx hy ?_
  have := (hi.down y (List.mem_of_getElem? hy)).2
  omega
theorem Kid.uniq {p : PK} (hi : PInv p) {i i' j : Nat} (h : Kid p.xs i j) (h' : Kid p.xs i' j) : i = i' := by
  obtain ⟨x, y, hx, hy, hp, _⟩ := h
  obtain ⟨x', y', hx', hy', hp', _⟩ := h'
  rw [hy] at hy'
  obtain rfl := Option.some.inj hy'
  exact idx_eq hi.incr hx hx' (by omega)
theorem Kid.bound {xs : List Ino} {i j : Nat} (h : Kid xs i j) : i < xs.length ∧ j < xs.length := by
  obtain ⟨x, y, hx, hy, _⟩ := h
  exact ⟨(List.getElem?_eq_some_iff.1 hx).1, (List.getElem?_eq_some_iff.1 hy).1⟩
theorem Desc.lt {p : PK} (hi : PInv p) {a j : Nat} (h : Desc p.xs a j) : a < j := by
  induction h with
  | kid hk => exact hk.lt hi
  | step _ hk ih => have := hk.lt hi; omega
theorem Desc.bound {xs : List Ino} {a j : Nat} (h : Desc xs a j) : j < xs.length := by
  cases h with
  | kid hk => exact hk.bound.2
  | step _ hk => exact hk.bound.2
theorem Desc.head {xs : List Ino} {a j : Nat} (h : Desc xs a j) : ∃ c, Kid xs a c ∧ (c = j ∨ Desc xs c j) := by
  induction h with
  | kid hk => exact ⟨_, hk, .inl rfl⟩
  | step _ hk ih =>
    obtain ⟨c, h1, h2⟩ := ih
    refine ⟨c, h1, .inr ?_⟩
    rcases h2 with rfl | h2
    · exact .kid hk
    · exact .step h2 hk
theorem Desc.cons {xs : List Ino} {a c j : Nat} (h : Kid xs a c) (h2 : Desc xs c j) : Desc xs a j := by
  induction h2 with
  | kid hk => exact .step (.kid h) hk
  | step _ hk ih => exact .step ih hk
theorem Desc.chain {p : PK} (hi : PInv p) {a b j : Nat} (h : Desc p.xs a j) : Desc p.xs b j → a = b ∨ Desc p.xs a b ∨ Desc p.xs b a := by
  induction h with
  | kid hk =>
    intro h2
    cases h2 with
    | kid hk2 => exact .inl (hk.uniq hi hk2)
    | step hm hk2 => rw [hk.uniq hi hk2]; exact .inr (.inr hm)
  | step hm hk ih =>
    intro h2
    cases h2 with
    | kid hk2 => rw [← hk.uniq hi hk2]; exact .inr (.inl hm)
    | step hm2 hk2 => rw [← hk.uniq hi hk2] at hm2; exact ih hm2
theorem no_sib {p : PK} (hi : PInv p) {i c c' : Nat} (h : Kid p.xs i c) (h' : Kid p.xs i c') : ¬ Desc p.xs c' c := by
  intro hd
  have hl := h'.lt hi
  cases hd with
  | kid hk => have := h.uniq hi hk; omega
  | step hm hk =>
    have e := h.uniq hi hk
    subst e
    have := hm.lt hi
    omega
theorem sib {p : PK} (hi : PInv p) {i c c' j : Nat} (h : Kid p.xs i c) (h' : Kid p.xs i c') (hc : j = c ∨ Desc p.xs c j) (hc' : j = c' ∨ Desc p.xs c' j) : c = c' := by
  rcases hc with rfl | hc
  · rcases hc' with rfl | hc'
    · rfl
    · exact (no_sib hi h h' hc').elim
  · rcases hc' with rfl | hc'
    · exact (no_sib hi h' h hc).elim
    · rcases hc.chain hi hc' with q | q | q
      · exact q
      · exact (no_sib hi h' h q).elim
      · exact (no_sib hi h h' q).elim
theorem parent_at {p : PK} (hi : PInv p) {j : Nat} {y : Ino} (hy : p.xs[j]? = some y) (hp : y.parent ≠ 0) : ∃ m x, p.xs[m]? = some x ∧ x.id = y.parent ∧ x.dir = true ∧ Kid p.xs m j := by
  obtain ⟨x, hx, h1, h2⟩ := hi.parents y (List.mem_of_getElem? hy) hp
  obtain ⟨m, hm⟩ := List.mem_iff_getElem?.1 hx
  exact ⟨m, x, hm, h1, h2, x, y, hm, hy, h1.symm, hp⟩
theorem root_desc {p : PK} (hi : PInv p) {x0 : Ino} (h0 : p.xs[0]? = some x0) (h01 : x0.id = 1) : ∀ (j : Nat), 0 < j → j < p.xs.length → Desc p.xs 0 j := by
  intro j
  induction j using Nat.strongRecOn with
  | ind j ih =>
    intro hj hl
    obtain ⟨y, hy⟩ : ∃ y, p.xs[j]? = some y := ⟨_, List.getElem?_eq_getElem hl⟩
    have hp : y.parent ≠ 0 := by
      intro e
      have h1 := (hi.root1 y (List.mem_of_getElem? hy) e).1
      have := idx_eq hi.incr h0 hy (by omega)
      omega
    obtain ⟨m, x, hm, _, _, hk⟩ := parent_at hi hy hp
    have hmj := hk.lt hi
    by_cases hm0 : m = 0
    · subst hm0; exact .kid hk
    · exact .step (ih m hmj (by omega) (by omega)) hk
theorem file_no_kid {p : PK} (hi : PInv p) {i j : Nat} {x : Ino} (hx : p.xs[i]? = some x) (hd : x.dir = false) : ¬ Kid p.xs i j := by
  rintro ⟨x', y, hx', hy, hp, hp0⟩
  rw [hx] at hx'
  obtain rfl := Option.some.inj hx'
  obtain ⟨m, z, hm, hz, hzd, hk⟩ := parent_at hi hy hp0
  have := idx_eq hi.incr hx hm (by omega)
  subst this
  rw [hx] at hm
  obtain rfl := Option.some.inj hm
  rw [hd] at hzd
  cases hzd

/-! ### Paths -/
theorem find_at {xs : List Ino} (hinc : xs.Pairwise (fun x y => x.id < y.id)) {i : Nat} {x : Ino} (hx : xs[i]? = some x) : xs.find? (fun y => y.id == x.id) = some x := by
  cases hf : xs.find? (fun y => y.id == x.id) with
  | none =>
    have := List.find?_eq_none.1 hf x (List.mem_of_getElem? hx)
    simp at this
  | some y =>
    obtain ⟨he, j, hj, hy, _⟩ := List.find?_eq_some_iff_getElem.1 hf
    have he' : y.id = x.id := by simpa using he
    have := idx_eq hinc (List.getElem?_eq_some_iff.2 ⟨hj, hy⟩) hx he'
    subst this
    rw [List.getElem?_eq_getElem hj, hy] at hx
    exact hx
theorem path_child {p : PK} (hi : PInv p) {j : Nat} {y : Ino} (hy : p.xs[j]? = some y) (hp : y.parent ≠ 0) : pathOf p.xs y.id = pathOf p.xs y.parent ++ (slashB ++ y.name) := by
  have hm := List.mem_of_getElem? hy
  have hd := hi.down y hm
  have hdn : ∀ x ∈ p.xs, x.parent < x.id := fun x hx => (hi.down x hx).2
  unfold pathOf
  rw [pathGo_up hdn (by omega) (by omega) (find_at hi.incr hy), pathGo_tail, pathGo_fuel hdn y.id.toNat y.parent.toNat y.parent _ (by omega) (by omega)]
  simp
theorem split_last : ∀ (A B n m : List UInt8), (∀ c ∈ n, c ≠ 47) → (∀ c ∈ m, c ≠ 47) → A ++ 47 :: n = B ++ 47 :: m → A = B ∧ n = m := by
  intro A B n m hn hm h
  rcases List.append_eq_append_iff.1 h with ⟨c, h1, h2⟩ | ⟨c, h1, h2⟩
  · cases c with
    | nil => simp at h1 h2; exact ⟨h1.symm, h2⟩
    | cons d r =>
      simp at h2
      have : (47 : UInt8) ∈ n := by rw [h2.2]; simp
      exact absurd rfl (hn 47 this)
  · cases c with
    | nil => simp at h1 h2; exact ⟨h1, h2.symm⟩
    | cons d r =>
      simp at h2
      have : (47 : UInt8) ∈ m := by rw [h2.2]; simp
      exact absurd rfl (hm 47 this)
theorem name_slash {s : ByteArray} (h : nameOk s = true) : ∀ c ∈ s.data.toList, c ≠ 47 := by
  intro c hc
  unfold nameOk at h
  simp only [Bool.and_eq_true] at h
  have := List.all_eq_true.1 h.2 c hc
  simp at this
  exact this.2
theorem path_list {p : PK} (hi : PInv p) {j : Nat} {y : Ino} (hy : p.xs[j]? = some y) (hp : y.parent ≠ 0) : (pathOf p.xs y.id).data.toList = (pathOf p.xs y.parent).data.toList ++ 47 :: y.name.data.toList := by
  rw [path_child hi hy hp]
  simp [slashB, ByteArray.data_append]
theorem path_root {p : PK} (hi : PInv p) {j : Nat} {y : Ino} (hy : p.xs[j]? = some y) (hp : y.parent = 0) : (pathOf p.xs y.id).data.toList = [] := by
  rw [pathOf_root (by rw [(hi.root1 y (List.mem_of_getElem? hy) hp).1]; omega)]
  rfl
theorem path_inj {p : PK} (hi : PInv p) : ∀ (i j : Nat) (x y : Ino), p.xs[i]? = some x → p.xs[j]? = some y → (pathOf p.xs x.id).data.toList = (pathOf p.xs y.id).data.toList → i = j := by
  intro i
  induction i using Nat.strongRecOn with
  | ind i ih =>
    intro j x y hx hy h
    by_cases hx0 : x.parent = 0
    · by_cases hy0 : y.parent = 0
      · exact idx_eq hi.incr hx hy (by rw [(hi.root1 x (List.mem_of_getElem? hx) hx0).1, (hi.root1 y (List.mem_of_getElem? hy) hy0).1])
      · rw [path_root hi hx hx0, path_list hi hy hy0] at h
        simp at h
    · by_cases hy0 : y.parent = 0
      · rw [path_root hi hy hy0, path_list hi hx hx0] at h
        simp at h
      · rw [path_list hi hx hx0, path_list hi hy hy0] at h
        obtain ⟨h1, h2⟩ := split_last _ _ _ _ (name_slash (hi.names x (List.mem_of_getElem? hx) hx0)) (name_slash (hi.names y (List.mem_of_getElem? hy) hy0)) h
        obtain ⟨a, xa, ha, ha1, _, hka⟩ := parent_at hi hx hx0
        obtain ⟨b, xb, hb, hb1, _, hkb⟩ := parent_at hi hy hy0
        rw [← ha1, ← hb1] at h1
        have hab := ih a (hka.lt hi) b xa xb ha hb h1
        subst hab
        rw [ha] at hb
        obtain rfl := Option.some.inj hb
        refine idx_eq hi.incr hx hy (hi.kids x (List.mem_of_getElem? hx) y (List.mem_of_getElem? hy) (by omega) hx0 ?_)
        rw [ByteArray.toList_eq, ByteArray.toList_eq]
        exact h2
/-- The child of that name. -/
theorem kid_of_map {p : PK} (hi : PInv p) {NB : List Nat} {i b : Nat} {x : Ino} {s : ByteArray} (hx : p.xs[i]? = some x) (h : kidOf p.xs NB x.id s = some b) : ∃ j y, Kid p.xs i j ∧ p.xs[j]? = some y ∧ y.name = s ∧ NB[j]? = some b := by
  unfold kidOf at h
  cases hf : p.xs.findIdx? (isChild x.id s) with
  | none => rw [hf] at h; cases h
  | some j =>
    rw [hf] at h
    obtain ⟨hj, he, _⟩ := List.findIdx?_eq_some_iff_getElem.1 hf
    unfold isChild at he
    simp only [Bool.and_eq_true, beq_iff_eq] at he
    have h1 := (hi.ids x (List.mem_of_getElem? hx)).1
    refine ⟨j, p.xs[j], ⟨x, p.xs[j], hx, List.getElem?_eq_getElem hj, he.1, by omega⟩, List.getElem?_eq_getElem hj, bytes_eq ?_, h⟩
    have h2 := he.2
    rw [ByteArray.toList_eq, ByteArray.toList_eq] at h2
    exact h2
theorem map_of_kid {p : PK} (hi : PInv p) {NB : List Nat} {i j : Nat} {x y : Ino} (hx : p.xs[i]? = some x) (hy : p.xs[j]? = some y) (hk : Kid p.xs i j) (hl : NB.length = p.xs.length) : kidOf p.xs NB x.id y.name = NB[j]? := by
  obtain ⟨x', y', hx', hy', hp, hp0⟩ := hk
  rw [hx] at hx'
  obtain rfl := Option.some.inj hx'
  rw [hy] at hy'
  obtain rfl := Option.some.inj hy'
  have hj := (List.getElem?_eq_some_iff.1 hy).1
  unfold kidOf
  cases hf : p.xs.findIdx? (isChild x.id y.name) with
  | none =>
    have := List.findIdx?_eq_none_iff.1 hf y (List.mem_of_getElem? hy)
    unfold isChild at this
    simp [hp] at this
  | some k =>
    obtain ⟨hk, he, _⟩ := List.findIdx?_eq_some_iff_getElem.1 hf
    unfold isChild at he
    simp only [Bool.and_eq_true, beq_iff_eq] at he
    have e : k = j := idx_eq hi.incr (List.getElem?_eq_getElem hk) hy (hi.kids _ (List.getElem_mem hk) y (List.mem_of_getElem? hy) (by omega) (by omega) he.2)
    rw [e]
end Go.Proofs.YtkmbleboceedbaaGreatDoor

/- The program's Mkdir, behind what Follow answers. -/
namespace Go.Proofs.YtkmbleboceedbaaGreatDoor
open Go Go.RowKit Go.Maps
set_option linter.unusedVariables false
set_option linter.unusedSimpArgs false

def errnoRet (c : Int) : Ending := .returned (.iface 45 (.int .i64 c))
def MkdirEnd (tb ab m k : Nat) (n li used lb : Int) (f : ByteArray → Option Nat) (name : ByteArray) (w : World) (e : Ending) (w' : World) : Prop :=
  (∃ c, f name = some c) ∧ e = errnoRet 10 ∧ Below w.heap.size w w' ∨ f name = none ∧ li ≤ n ∧ e = errnoRet 12 ∧ Below w.heap.size w w' ∨
    f name = none ∧ n < li ∧ e = .returned .nilIface ∧ ∃ nb nm, w.heap.size ≤ nb ∧ w.heap.size ≤ nm ∧ nm < w'.heap.size ∧ Holds w' nb 228 [.bool true, .slice none 0 0, .map (some nm), .bool false, .int .i64 0] ∧ DictAt w' nm 0 (fun _ => none) ∧ PutPost tb m k ab n li used lb f name nb w w'
theorem step_call0 {P : Program} {ops : Array Oper} {o : Oper} {a : Act} {w : World} {K : Act → World → Prop} {Q : Exit → Act → World → Prop} {E : Prop} (hgd : o.guard = none) (f : Nat)
    (ho : o.op = .call { callee := .value (.func f), args := #[], argTypes := #[] })
    (he : ∀ args w, (callFunc f args).run P w = .ok (.enter f args) w) (post : Ending → World → Prop) (r : Value) (hp : ∀ e w', post e w' → e = .returned r) (hc : Calls P f #[] w post) (d : Option Tmp) (hd : o.dst = d)
    (h : ∀ w', post (.returned r) w' → K (a.put d r) w') :
    if Region.wanted o (yielded ops a.tmps) = true then Oper.wp P o a w K Q else E := by
  have hw : Region.wanted o (yielded ops a.tmps) = true := by simp [Region.wanted, hgd]
  rw [if_pos hw]
  subst hd
  unfold Oper.wp
  simp [execOp, ho, resolve, invoke, Result.andThen, go_sem, he]
  refine hc.mono ?_
  intro e w' hpe
  obtain rfl := hp e w' hpe
  have := h w' hpe
  simpa [go_sem] using this
theorem newDirEnter : ∀ args w, (callFunc 60 args).run Tryz.prog w = .ok (.enter 60 args) w := enters_of Tryz.func60 (by kernel_rfl) rfl
theorem putEnter : ∀ args w, (callFunc 93 args).run Tryz.prog w = .ok (.enter 93 args) w := enters_of Tryz.func93 (by kernel_rfl) rfl

set_option maxRecDepth 100000 in
set_option maxHeartbeats 1000000 in
theorem fsMkdir_at (tb ab b m k : Nat) (n li used lb : Int) (f : ByteArray → Option Nat) (name s : ByteArray) (dvs : List Value) (w : World) (ht : Holds w tb 163 [.pointer (some ⟨ab, 0, none⟩), .int .i64 n, .int .i64 li, .int .i64 used, .int .i64 lb]) (hn : 0 ≤ n ∧ n ≤ 1000000) (hdn : Holds w b 228 dvs) (hd2 : dvs[2]? = some (.map (some m))) (hd : DictAt w m k f) (hk : k ≤ 1000000) (hs : name.size ≤ 100000)
    (HF : Calls Tryz.prog 62 #[.pointer (some ⟨tb, 0, none⟩), .string s] w fun e w1 => e = placeAt b name ∧ Below w.heap.size w w1) :
    Calls Tryz.prog 61 #[.pointer (some ⟨tb, 0, none⟩), .string s] w (MkdirEnd tb ab m k n li used lb f name w) := by
  have HFW := hide HF
  have HT := hide ht
  have HDN := hide hdn
  have HD := hide hd
  have HD2 := hide hd2
  clear HF ht hdn hd hd2
  go_enter Tryz.func61, Tryz.ntmps61
  go_wp2_with fail
  refine (unhide HFW).mono ?_
  rintro e w1 ⟨rfl, hb1⟩
  obtain ⟨W2, hW2⟩ : ∃ W2, W2 = w1.alloc (Obj.cells #[.pointer (some ⟨b, 0, none⟩), .string name] 166) := ⟨_, rfl⟩
  have hb2 : Below w.heap.size w W2 := by rw [hW2]; exact hb1.alloc hb1.size _
  have hp2 : Holds W2 w1.heap.size 166 [.pointer (some ⟨b, 0, none⟩), .string name] := by rw [hW2]; exact Holds.new w1 166 _
  have HW2 := hide hW2
  have HB2 := hide hb2
  have HP2 := hide hp2
  have hl1 := hb1.size
  obtain ⟨PB, hPB⟩ : ∃ PB, PB = w1.heap.size := ⟨_, rfl⟩
  clear hW2 hb1 HFW hb2 hp2
  unfold placeAt
  go_upto_region 2 with fail
  rw [← unhide HW2]
  rw [← hPB] at HP2 hl1 ⊢
  clear HW2 hPB
  have c0 : W2.cell? ⟨PB, 0, none⟩ = some (.pointer (some ⟨b, 0, none⟩)) := (unhide HP2).cell rfl
  have c1 : W2.cell? ⟨PB, 1, none⟩ = some (.string name) := (unhide HP2).cell rfl
  have hdn2 : Holds W2 b 228 dvs := (unhide HDN).below (unhide HB2) (unhide HDN).lt
  have hd2 : DictAt W2 m k f := (unhide HD).kept (row := none) ⟨(unhide HB2).os, (unhide HB2).tape, (unhide HB2).output, (unhide HB2).size, fun k hk _ => (unhide HB2).block k hk⟩ (by simp)
  have HND := hide (fsNode_any b m k name f W2 (by unfold maxLen; omega) (hdn2.cell (unhide HD2)) hd2)
  clear hdn2 hd2
  go_wp2_with fail
  refine (unhide HND).mono ?_
  rintro e w3 ⟨rfl, hb3⟩
  have HB3 := hide ((unhide HB2).trans (hb3.mono (unhide HB2).size))
  have HP3 := hide ((unhide HP2).below hb3 (unhide HP2).lt)
  clear hb3 HND c0 c1
  cases hfn : f name with
  | some c =>
    unfold nodePtr
    have HFN := hide hfn
    clear hfn
    go_wp2
    go_ret
    exact .inl ⟨⟨c, unhide HFN⟩, rfl, unhide HB3⟩
  | none =>
    unfold nodePtr
    have HFN := hide hfn
    clear hfn
    have HFL := hide (fsIsFull_any tb ab n li used lb w3 ((unhide HT).below (unhide HB3) (unhide HT).lt))
    go_wp2_with fail
    refine (unhide HFL).mono ?_
    rintro e w4 ⟨rfl, _, hb4⟩
    have HB4 := hide ((unhide HB3).trans (hb4.mono (unhide HB3).size))
    have HP4 := hide ((unhide HP3).below hb4 (unhide HP3).lt)
    clear hb4 HFL
    by_cases hfull : li ≤ n
    · have HFU := hide hfull
      rw [decide_eq_true hfull]
      clear hfull
      go_wp2
      go_ret
      exact .inr (.inl ⟨unhide HFN, unhide HFU, rfl, unhide HB4⟩)
    · have HFU := hide (show n < li by omega)
      rw [decide_eq_false hfull]
      clear hfull
      go_upto_region 8 with fail
      have hS4 : w4.cell? ⟨PB, 0, none⟩ = some (.pointer (some ⟨b, 0, none⟩)) ∧ w4.cell? ⟨PB, 1, none⟩ = some (.string name) := ⟨(unhide HP4).cell rfl, (unhide HP4).cell rfl⟩
      have R := hide (show ∀ w' : World, (w'.cell? ⟨PB, 0, none⟩ = some (.pointer (some ⟨b, 0, none⟩)) ∧ w'.cell? ⟨PB, 1, none⟩ = some (.string name)) → (Instr.loadAt 166 (.pointer (some ⟨PB, 0, none⟩))).run Tryz.prog w' = .ok (.agg #[.pointer (some ⟨b, 0, none⟩), .string name]) w' from fun w' h => by
        have c := h.1
        have d := h.2
        clear h hS4
        go_simp)
      have HND := hide (show Calls Tryz.prog 60 #[] w4.drew fun e w' => e = .returned (.pointer (some ⟨w4.heap.size + 1, 0, none⟩)) ∧ Holds w' (w4.heap.size + 1) 228 [.bool true, .slice none 0 0, .map (some w4.heap.size), .bool false, .int .i64 0] ∧ DictAt w' w4.heap.size 0 (fun _ => none) ∧ Below w4.heap.size w4 w' from (fsNewDir_any w4.drew).mono (fun e w' h => ⟨h.1, h.2.1, h.2.2.1, ⟨h.2.2.2.os, h.2.2.2.tape, h.2.2.2.output, h.2.2.2.size, h.2.2.2.block⟩⟩))
      have HS4 := hide hS4
      have hl4 : PB < w4.heap.size := (unhide HP4).lt
      clear hS4
      refine act_gen ?_
      intro A hA
      have e0 : A.eval (.tmp 0) = .pointer (some ⟨tb, 0, none⟩) := by rw [hA]; rfl
      have e5 : A.eval (.tmp 5) = .pointer (some ⟨PB, 0, none⟩) := by rw [hA]; rfl
      have esz : A.tmps.size = 27 := by rw [hA]; rfl
      have HA := hide hA
      clear hA
      refine wp_region_held_drew (S := fun w' => w'.cell? ⟨PB, 0, none⟩ = some (.pointer (some ⟨b, 0, none⟩)) ∧ w'.cell? ⟨PB, 1, none⟩ = some (.string name)) (by kernel_rfl) (unhide HS4) (fun hS => ?_)
      refine takeH (i := 0) (some 23) rfl rfl (by kernel_rfl) (by kernel_rfl) (by kernel_rfl) (fun _ _ _ h => h) (yields_move rfl _ rfl (.pointer (some ⟨tb, 0, none⟩)) (by simp [put_eval, put_size, esz, e0, e5])) hS ?_
      refine takeH (i := 1) (some 24) rfl rfl (by kernel_rfl) (by kernel_rfl) (by kernel_rfl) (fun _ _ _ h => h) (yields_load1 rfl _ _ rfl ⟨PB, 0, none⟩ (by simp [put_eval, put_size, esz, e0, e5]) (.agg #[.pointer (some ⟨b, 0, none⟩), .string name]) (unhide R)) hS ?_
      refine wpAnyH_ready (rs := [2]) (by kernel_rfl) (by simp) (AllReadyH.cons rfl (fun K hK => ?_) AllReadyH.nil)
      refine step_call0 rfl 60 rfl newDirEnter _ (.pointer (some ⟨w4.heap.size + 1, 0, none⟩)) (fun e w' h => h.1) (unhide HND) (some 25) rfl ?_
      rintro w5 ⟨_, hn5, hm5, hb5⟩
      have hB5 := (unhide HB4).trans (hb5.mono (unhide HB4).size)
      refine hK.out _ _ ⟨by rw [hb5.cell (p := ⟨PB, 0, none⟩) hl4]; exact (unhide HS4).1, by rw [hb5.cell (p := ⟨PB, 1, none⟩) hl4]; exact (unhide HS4).2⟩ (fun _ => ?_)
      clear hK K
      have hd5 : DictAt w5 m k f := (unhide HD).kept (row := none) ⟨hB5.os, hB5.tape, hB5.output, hB5.size, fun k hk _ => hB5.block k hk⟩ (by simp)
      have hdn5 : Holds w5 b 228 dvs := (unhide HDN).below hB5 (unhide HDN).lt
      have ht5 := (unhide HT).below hB5 (unhide HT).lt
      have HPU := hide (fsPut_any tb ab b m k (w4.heap.size + 1) n li used lb f name w5 ht5 hn hd5 hk 228 dvs hdn5 (unhide HD2) (holds_apart hdn5 ht5 (by decide)) hs)
      have g23 : (((A.put (some 23) (.pointer (some ⟨tb, 0, none⟩))).put (some 24) (.agg #[.pointer (some ⟨b, 0, none⟩), .string name])).put (some 25) (.pointer (some ⟨w4.heap.size + 1, 0, none⟩))).eval (.tmp 23) = .pointer (some ⟨tb, 0, none⟩) := by simp [put_eval, put_size, esz, e0, e5]
      have g24 : (((A.put (some 23) (.pointer (some ⟨tb, 0, none⟩))).put (some 24) (.agg #[.pointer (some ⟨b, 0, none⟩), .string name])).put (some 25) (.pointer (some ⟨w4.heap.size + 1, 0, none⟩))).eval (.tmp 24) = .agg #[.pointer (some ⟨b, 0, none⟩), .string name] := by simp [put_eval, put_size, esz, e0, e5]
      have g25 : (((A.put (some 23) (.pointer (some ⟨tb, 0, none⟩))).put (some 24) (.agg #[.pointer (some ⟨b, 0, none⟩), .string name])).put (some 25) (.pointer (some ⟨w4.heap.size + 1, 0, none⟩))).eval (.tmp 25) = .pointer (some ⟨w4.heap.size + 1, 0, none⟩) := by simp [put_eval, put_size, esz, e0, e5]
      refine wpAnyH_ready (rs := [3]) (by kernel_rfl) (by simp) (AllReadyH.cons rfl (fun K hK => ?_) AllReadyH.nil)
      refine step_call3 rfl 93 23 24 25 _ _ _ rfl (.pointer (some ⟨tb, 0, none⟩)) (.agg #[.pointer (some ⟨b, 0, none⟩), .string name]) (.pointer (some ⟨w4.heap.size + 1, 0, none⟩)) g23 g24 g25 putEnter _ (.tuple #[]) (fun e w' h => h.1) (unhide HPU) (some 26) rfl ?_
      rintro w6 ⟨_, hp6⟩
      have hml : m < w.heap.size := (unhide HD).lt
      have htl : tb < w.heap.size := (unhide HT).lt
      have hsz4 := (unhide HB4).size
      have hP5 : Holds w5 PB 166 [.pointer (some ⟨b, 0, none⟩), .string name] := (unhide HP4).below hb5 hl4
      have hP6 : Holds w6 PB 166 [.pointer (some ⟨b, 0, none⟩), .string name] := holds_block hP5 (hp6.2.2.block PB hP5.lt (by omega) (by omega))
      refine hK.out _ _ ⟨hP6.cell rfl, hP6.cell rfl⟩ (fun _ => ?_)
      clear hK K
      have HP := hide (show MkdirEnd tb ab m k n li used lb f name w (.returned .nilIface) w6 from .inr (.inr ⟨unhide HFN, unhide HFU, rfl, w4.heap.size + 1, w4.heap.size, by omega, by omega, by have := hm5.lt; have := hp6.2.2.size; omega, holds_block hn5 (hp6.2.2.block _ hn5.lt (by omega) (by omega)), hm5.block (hp6.2.2.block _ hm5.lt (by omega) (by omega)), hp6.1, hp6.2.1, (FrameK.ofBelow hB5).trans hp6.2.2 (.inl rfl)⟩))
      refine wpAnyH_done (by kernel_rfl) ?_ _
      rw [unhide HA]
      simp only [Act.put, List.setIfInBounds_toArray, List.set_cons_zero, List.set_cons_succ]
      clear hP6 hP5 hp6 g23 g24 g25 HPU ht5 hdn5 hd5 hB5 hb5 hm5 hn5 HA e0 e5 esz hS HND R
      go_wp2
      go_ret
      exact unhide HP
end Go.Proofs.YtkmbleboceedbaaGreatDoor
