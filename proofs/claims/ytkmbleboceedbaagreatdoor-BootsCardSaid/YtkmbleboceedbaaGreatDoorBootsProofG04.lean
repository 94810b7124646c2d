import Derived.Test.YtkmbleboceedbaaGreatDoorBootsProofG02
import Derived.Deep.MidRow
import Derived.Lib.BufferWrite
import Derived.Laws.CopyOwn
import Derived.WalkKit
import Derived.ChangeKeysEq
import Derived.Laws.StructEq
import Derived.Test.YtkmbleboceedbaaGreatDoorBootsProofG01
import Derived.Deep.QuietTactic
import Derived.BigQuiet
import Derived.Deep.RegionHeld3
import Derived.Deep.RegionLaw
import Derived.Great.BuildSlice
/- tinyosref: child, inode, walk. -/
namespace Go.Proofs.YtkmbleboceedbaaGreatDoor
open Go.RowKit
set_option linter.unusedVariables false
set_option linter.unusedSimpArgs false

/-- An inode of the document's kernel; the slice of its bytes as it lies. -/
structure Ino where
  id : Int
  parent : Int
  name : ByteArray
  dir : Bool
  bytes : Value
def inoCells (x : Ino) : List Value := [.int .i64 x.id, .int .i64 x.parent, .string x.name, .bool x.dir, x.bytes]
def inoRow (xs : List Ino) : List Value := xs.flatMap inoCells
theorem inoRow_get : ∀ (xs : List Ino) (j i : Nat) (x : Ino) (v : Value), xs[j]? = some x → i < 5 → (inoCells x)[i]? = some v → (inoRow xs)[j * 5 + i]? = some v
  | [], j, i, x, v, h, _, _ => by simp at h
  | a :: r, 0, i, x, v, h, hi, hv => by
    have e : a = x := by simpa using h
    subst e
    rw [inoRow, List.flatMap_cons, List.getElem?_append_left (by simp [inoCells]; omega), Nat.zero_mul, Nat.zero_add]; exact hv
  | a :: r, j + 1, i, x, v, h, hi, hv => by
    have ih := inoRow_get r j i x v (by simpa using h) hi hv
    have e : (j + 1) * 5 + i - 5 = j * 5 + i := by omega
    have e2 : inoRow (a :: r) = inoCells a ++ inoRow r := by rw [inoRow, List.flatMap_cons]; rfl
    rw [e2, List.getElem?_append_right (by simp [inoCells]; omega), show (inoCells a).length = 5 from rfl, e]
    exact ih
/-- The kernel's inodes lie so: the slice at its field, the row where it points. -/
def InosAt (w : World) (kb g cap : Nat) (xs : List Ino) : Prop := w.cell? ⟨kb, 7, none⟩ = some (.slice (some ⟨g, 0, none⟩) xs.length cap) ∧ w.rangeAt g 0 (inoRow xs)
theorem InosAt.cell {w : World} {kb g cap : Nat} {xs : List Ino} (h : InosAt w kb g cap xs) {j : Nat} {x : Ino} (hx : xs[j]? = some x) {i : Nat} (hi : i < 5) {v : Value} (hv : (inoCells x)[i]? = some v) : w.cell? ⟨g, j * 5 + i, none⟩ = some v := by
  have := h.2 (j * 5 + i) v (inoRow_get xs j i x v hx hi hv)
  rwa [Nat.zero_add] at this
/-- The place of an inode by its number. -/
def placeOf (xs : List Ino) (id : Int) : Int := match xs.findIdx? (fun x => x.id == id) with | some i => i | none => -1

theorem place_none {xs : List Ino} {id : Int} (h : ∀ (j : Nat) (x : Ino), xs[j]? = some x → (x.id == id) = false) : placeOf xs id = -1 := by
  unfold placeOf
  rw [List.findIdx?_eq_none_iff.2 (fun x hx => by obtain ⟨j, hj, rfl⟩ := List.mem_iff_getElem.1 hx; exact h j _ (List.getElem?_eq_getElem hj))]
theorem place_some {xs : List Ino} {id : Int} {k : Nat} {x : Ino} (hx : xs[k]? = some x) (he : (x.id == id) = true) (h : ∀ j (x : Ino), j < k → xs[j]? = some x → (x.id == id) = false) : placeOf xs id = k := by
  unfold placeOf
  have hk := (List.getElem?_eq_some_iff.1 hx).1
  have : xs.findIdx? (fun x => x.id == id) = some k := by
    rw [List.findIdx?_eq_some_iff_getElem]
    refine ⟨hk, ?_, fun j hj => ?_⟩
    · rw [List.getElem?_eq_getElem hk] at hx
      rw [Option.some.inj hx]; exact he
    · rw [h j _ hj (List.getElem?_eq_getElem (by omega))]; simp
  rw [this]

set_option maxRecDepth 100000 in
set_option maxHeartbeats 1000000 in
theorem refInode_any (kb g cap : Nat) (xs : List Ino) (id : Int) (w : World) (h : InosAt w kb g cap xs) (hn : xs.length ≤ 1000000) :
    Calls Tryz.prog 34 #[.pointer (some ⟨kb, 0, none⟩), .int .i64 id] w fun e w' => e = .returned (.int .i64 (placeOf xs id)) ∧ w' = w := by
  have c7 := h.1
  have H := hide h
  clear h
  go_enter Tryz.func34, Tryz.ntmps34
  go_wp2
  go_loop [5] (fun i => ∃ k : Nat, k ≤ xs.length ∧ i = .int .i64 k ∧ Hid (∀ j x, j < k → xs[j]? = some x → (x.id == id) = false)) (fun i => xs.length - (intOf i).toNat)
  case atStart => exact ⟨0, by omega, rfl, hide (fun j x hj => by omega)⟩
  case round =>
    obtain ⟨k, hk, rfl, HA⟩ := hrel
    by_cases hlt : k < xs.length
    · obtain ⟨x, hx⟩ : ∃ x, xs[k]? = some x := ⟨_, List.getElem?_eq_getElem hlt⟩
      have c0 : w.cell? ⟨g, k * 5, none⟩ = some (.int .i64 x.id) := by have := (unhide H).cell hx (i := 0) (by omega) rfl; rwa [Nat.add_zero] at this
      have hk0 : (0 : Int) ≤ (k : Int) := by omega
      have hk1 : (k : Int) < (xs.length : Int) := by omega
      by_cases t : x.id = id
      · have g1 : (x.id == id) = true := by simpa using t
        have HR := hide (place_some hx g1 (unhide HA))
        generalize x.id = X at c0 g1
        clear hx t
        go_wp2
        go_ret
        exact ⟨by rw [unhide HR]; rfl, rfl⟩
      · have g1 : (x.id == id) = false := by simpa using t
        have HN : Hid (∀ j x, j < k + 1 → xs[j]? = some x → (x.id == id) = false) := hide (fun j y hj hy => by
          rcases Nat.lt_succ_iff_lt_or_eq.1 hj with h | h
          · exact unhide HA j y h hy
          · subst h
            rw [hx] at hy
            obtain rfl := Option.some.inj hy
            exact g1)
        generalize x.id = X at c0 g1
        clear hx t
        go_wp2
        go_round
        case rel => exact ⟨k + 1, by omega, by go_num, HN⟩
        case measure => simp [intOf]; omega
    · have HR := hide (place_none (xs := xs) (id := id) (fun j x hx => unhide HA j x (by have := (List.getElem?_eq_some_iff.1 hx).1; omega) hx))
      go_wp2
      go_ret
      exact ⟨by rw [unhide HR]; rfl, rfl⟩

/-- The number of an inode in a directory, by its name; 0: there is none. -/
def isChild (dir : Int) (name : ByteArray) (x : Ino) : Bool := x.parent == dir && x.name.toList == name.toList
def childOf (xs : List Ino) (dir : Int) (name : ByteArray) : Int := match xs.find? (isChild dir name) with | some x => x.id | none => 0

theorem child_none {xs : List Ino} {dir : Int} {name : ByteArray} (h : ∀ (j : Nat) (x : Ino), xs[j]? = some x → isChild dir name x = false) : childOf xs dir name = 0 := by
  unfold childOf
  rw [List.find?_eq_none.2 (fun x hx => by obtain ⟨j, hj, rfl⟩ := List.mem_iff_getElem.1 hx; rw [h j _ (List.getElem?_eq_getElem hj)]; decide)]
theorem child_some {xs : List Ino} {dir : Int} {name : ByteArray} {k : Nat} {x : Ino} (hx : xs[k]? = some x) (he : isChild dir name x = true) (h : ∀ j (x : Ino), j < k → xs[j]? = some x → isChild dir name x = false) : childOf xs dir name = x.id := by
  unfold childOf
  have hk := (List.getElem?_eq_some_iff.1 hx).1
  have hxe : xs[k] = x := by rw [List.getElem?_eq_getElem hk] at hx; exact Option.some.inj hx
  have : xs.find? (isChild dir name) = some x := by
    rw [List.find?_eq_some_iff_getElem]
    refine ⟨he, k, hk, hxe, fun j hj => ?_⟩
    rw [h j _ hj (List.getElem?_eq_getElem (by omega))]; rfl
  rw [this]

set_option maxRecDepth 100000 in
set_option maxHeartbeats 1000000 in
theorem refChild_any (kb g cap : Nat) (xs : List Ino) (dir : Int) (name : ByteArray) (w : World) (h : InosAt w kb g cap xs) (hn : xs.length ≤ 1000000) :
    Calls Tryz.prog 77 #[.pointer (some ⟨kb, 0, none⟩), .int .i64 dir, .string name] w fun e w' => e = .returned (.int .i64 (childOf xs dir name)) ∧ w' = w := by
  have c7 := h.1
  have H := hide h
  clear h
  go_enter Tryz.func77, Tryz.ntmps77
  go_wp2
  go_loop [7] (fun i => ∃ k : Nat, k ≤ xs.length ∧ i = .int .i64 k ∧ Hid (∀ j x, j < k → xs[j]? = some x → isChild dir name x = false)) (fun i => xs.length - (intOf i).toNat)
  case atStart => exact ⟨0, by omega, rfl, hide (fun j x hj => by omega)⟩
  case round =>
    obtain ⟨k, hk, rfl, HA⟩ := hrel
    by_cases hlt : k < xs.length
    · obtain ⟨x, hx⟩ : ∃ x, xs[k]? = some x := ⟨_, List.getElem?_eq_getElem hlt⟩
      have c0 : w.cell? ⟨g, k * 5, none⟩ = some (.int .i64 x.id) := by have := (unhide H).cell hx (i := 0) (by omega) rfl; rwa [Nat.add_zero] at this
      have c1 : w.cell? ⟨g, k * 5 + 1, none⟩ = some (.int .i64 x.parent) := (unhide H).cell hx (i := 1) (by omega) rfl
      have c2 : w.cell? ⟨g, k * 5 + 2, none⟩ = some (.string x.name) := (unhide H).cell hx (i := 2) (by omega) rfl
      have hk0 : (0 : Int) ≤ (k : Int) := by omega
      have hk1 : (k : Int) < (xs.length : Int) := by omega
      by_cases hc : isChild dir name x = true
      · have HR := hide (child_some hx hc (unhide HA))
        have hc2 := hc
        unfold isChild at hc2
        rw [Bool.and_eq_true] at hc2
        obtain ⟨g1, g2⟩ := hc2
        generalize x.id = X at c0 HR
        generalize x.parent = Y at c1 g1
        generalize x.name = Z at c2 g2
        clear hx hc
        go_wp2
        go_ret
        exact ⟨by rw [unhide HR]; rfl, rfl⟩
      · have hc' : isChild dir name x = false := by simpa using hc
        have HN : Hid (∀ j x, j < k + 1 → xs[j]? = some x → isChild dir name x = false) := hide (fun j y hj hy => by
          rcases Nat.lt_succ_iff_lt_or_eq.1 hj with h | h
          · exact unhide HA j y h hy
          · subst h
            rw [hx] at hy
            obtain rfl := Option.some.inj hy
            exact hc')
        by_cases g1 : (x.parent == dir) = true
        · have g2 : (x.name.toList == name.toList) = false := by
            unfold isChild at hc'
            rw [g1, Bool.true_and] at hc'
            exact hc'
          generalize x.id = X at c0
          generalize x.parent = Y at c1 g1
          generalize x.name = Z at c2 g2
          clear hx hc hc'
          go_wp2
          go_round
          case rel => exact ⟨k + 1, by omega, by go_num, HN⟩
          case measure => simp [intOf]; omega
        · have g1' : (x.parent == dir) = false := by simpa using g1
          generalize x.id = X at c0
          generalize x.parent = Y at c1 g1'
          generalize x.name = Z at c2
          clear hx hc hc' g1
          go_wp2
          go_round
          case rel => exact ⟨k + 1, by omega, by go_num, HN⟩
          case measure => simp [intOf]; omega
    · have HR := hide (child_none (xs := xs) (dir := dir) (name := name) (fun j x hx => unhide HA j x (by have := (List.getElem?_eq_some_iff.1 hx).1; omega) hx))
      go_wp2
      go_ret
      exact ⟨by rw [unhide HR]; rfl, rfl⟩
end Go.Proofs.YtkmbleboceedbaaGreatDoor

/- 'copy(dst, s)' of a string, as one step of a region that draws its order. -/
namespace Go.Proofs.YtkmbleboceedbaaGreatDoor
open Go Go.RowKit
theorem grown_setRow {w : World} {g : Nat} (cs : Array Value) : w.grownBy (w.setRow g cs) (some g) :=
  ⟨rfl, rfl, rfl, by simp [World.setRow], fun k hk hne => setRow_other w g k cs (fun e => hne (by simp [e]))⟩
theorem step_copy_str {P : Program} {ops : Array Oper} {o : Oper} {a : Act} {w : World} {K : Act → World → Prop} {Q : Exit → Act → World → Prop} {E : Prop} (hgd : o.guard = none) (d s : Operand) (dT sT : TypeId)
    (ho : o.op = .call { callee := .builtin .copy, args := #[d, s], argTypes := #[dT, sT] }) (elem : TypeId) (hu : P.underlying dT = some (.slice elem)) (hsz : (P.info? elem).map (·.size) = some 1)
    (g off dLen dCap : Nat) (str : ByteArray) (hd : a.eval d = .slice (some ⟨g, off, none⟩) dLen dCap) (hs : a.eval s = .string str)
    (cur : List Value) (t : TypeId) (hg : Holds w g t cur) (hle : str.size ≤ dLen) (hfit : off + str.size ≤ cur.length)
    (h : ∀ w', Hid (Holds w' g t (splice cur off (Lib.byteCells str.data.toList))) → w.grownBy w' (some g) → K (a.put o.dst (goInt str.size)) w') :
    if Region.wanted o (yielded ops a.tmps) = true then Oper.wp P o a w K Q else E := by
  have hw : Region.wanted o (yielded ops a.tmps) = true := by simp [Region.wanted, hgd]
  rw [if_pos hw]
  have hrun := Lib.run_copy_row_string (P := P) w dT sT o.type elem g off dLen dCap str cur.toArray t hu hsz hg hle (by simpa using hfit)
  have hlen : (Lib.byteCells str.data.toList).length = str.size := by rw [Lib.byteCells_length, ← Lib.size_eq]
  unfold Oper.wp
  simp [execOp, ho, resolve, invoke, builtin, hd, hs, hrun, Result.andThen]
  refine h _ ?_ (grown_setRow _)
  show Holds _ _ _ _
  unfold Holds
  rw [setRow_heap w g _ _ t _ hg]
  unfold splice
  rw [hlen]
/-- The same of a slice. -/
theorem step_copy_row {P : Program} {ops : Array Oper} {o : Oper} {a : Act} {w : World} {K : Act → World → Prop} {Q : Exit → Act → World → Prop} {E : Prop} (hgd : o.guard = none) (d s : Operand) (dT sT : TypeId)
    (ho : o.op = .call { callee := .builtin .copy, args := #[d, s], argTypes := #[dT, sT] }) (elem : TypeId) (hu : P.underlying dT = some (.slice elem)) (hsz : (P.info? elem).map (·.size) = some 1)
    (g off dLen dCap : Nat) (q qo sLen sCap : Nat) (hd : a.eval d = .slice (some ⟨g, off, none⟩) dLen dCap) (hs : a.eval s = .slice (some ⟨q, qo, none⟩) sLen sCap)
    (cur : List Value) (t : TypeId) (hg : Holds w g t cur) (cs : List Value) (hn : cs.length = Nat.min sLen dLen) (hsrc : ∀ j v, cs[j]? = some v → w.cell? ⟨q, qo + j, none⟩ = some v)
    (h1 : ∀ v ∈ cs, v.oneCell' = true) (hfit : off + cs.length ≤ cur.length)
    (h : ∀ w', Hid (Holds w' g t (splice cur off cs)) → w.grownBy w' (some g) → K (a.put o.dst (goInt cs.length)) w') :
    if Region.wanted o (yielded ops a.tmps) = true then Oper.wp P o a w K Q else E := by
  have hw : Region.wanted o (yielded ops a.tmps) = true := by simp [Region.wanted, hgd]
  rw [if_pos hw]
  have hrun := run_copy_row (P := P) w dT sT o.type elem g off dLen dCap ⟨q, qo, none⟩ sLen sCap cur.toArray t cs hu hsz hg hn (fun j v hv => by rw [show (⟨q, qo, none⟩ : Addr).add j = ⟨q, qo + j, none⟩ from by unfold Addr.add; split <;> simp_all]; exact hsrc j v hv) (by simpa using hfit) h1
  unfold Oper.wp
  simp [execOp, ho, resolve, invoke, builtin, hd, hs, hrun, Result.andThen]
  refine h _ ?_ (grown_setRow _)
  show Holds _ _ _ _
  unfold Holds
  rw [setRow_heap w g _ _ t _ hg]
  simp [splice]
end Go.Proofs.YtkmbleboceedbaaGreatDoor

/- '==' and '!=' of two arrays of one integer kind, whatever their length. -/
namespace Go.Proofs.YtkmbleboceedbaaGreatDoor
open Go Go.RowKit
section
variable {P : Program} (w : World)
theorem all_range_ints : ∀ (xs ys : List Int), xs.length = ys.length → ((List.range xs.length).all fun i => xs.getD i 0 == ys.getD i 0) = (xs == ys)
  | [], [], _ => rfl
  | x :: xs, y :: ys, h => by
    have ih := all_range_ints xs ys (by simpa using h)
    rw [List.length_cons, List.range_succ_eq_map, List.all_cons, List.all_map]
    simp only [List.getD_cons_zero, Function.comp_def, List.getD_cons_succ, ih]
    simp [List.cons_beq_cons]
  | [], _ :: _, h => by simp at h
  | _ :: _, [], h => by simp at h
theorem run_equalIn_ints (d : Nat) (t e : TypeId) (n : Nat) (k : IntKind) (ht : P.underlying t = some (.array n e)) (he : P.underlying e = some (.int k)) (hsz : ∀ w, (sizeOf e).run P w = .ok 1 w)
    (xs ys : List Int) (hx : xs.length = n) (hy : ys.length = n) :
    (Op.equalIn (d + 2) t (.agg (xs.map (Value.int k)).toArray) (.agg (ys.map (Value.int k)).toArray)).run P w = .ok (xs == ys) w := by
  rw [← all_range_ints xs ys (hx.trans hy.symm), hx, List.range_eq_range', Op.equalIn]
  simp only [Sem.run_bind, run_underlying ht, Result.andThen_ok, hsz, Std.Legacy.Range.forIn_eq_forIn_range', Std.Legacy.Range.size, Nat.sub_zero, Nat.add_sub_cancel, Nat.div_one]
  have hl : ∀ i ∈ List.range' 0 n 1, i < n := fun i hi => by simpa using (List.mem_range'_1.1 hi).2
  generalize List.range' 0 n 1 = l at hl ⊢
  induction l with
  | nil => simp
  | cons i l ih =>
    have hi : i < n := hl i (by simp)
    have px : (part e (xs.map (Value.int k)).toArray (i * 1)).run P w = .ok (.int k (xs.getD i 0)) w := by
      simp [part, isAgg, run_underlying he, List.getD, List.getElem?_eq_getElem (show i < xs.length by omega)]
    have py : (part e (ys.map (Value.int k)).toArray (i * 1)).run P w = .ok (.int k (ys.getD i 0)) w := by
      simp [part, isAgg, run_underlying he, List.getD, List.getElem?_eq_getElem (show i < ys.length by omega)]
    have pe : (Op.equalIn (d + 1) e (.int k (xs.getD i 0)) (.int k (ys.getD i 0))).run P w = .ok (xs.getD i 0 == ys.getD i 0) w := run_equalIn_int w d e k k _ _ he
    simp only [List.forIn_cons, Sem.run_bind, px, py, pe, Result.andThen_ok, List.all_cons]
    cases hb : (xs.getD i 0 == ys.getD i 0)
    · simp
    · simp only [Bool.not_true, Bool.false_eq_true, if_false, Sem.run_pure, Result.andThen_ok, Bool.true_and]
      exact ih fun j hj => hl j (by simp [hj])
theorem run_neq_ints (t e : TypeId) (n : Nat) (k : IntKind) (ht : P.underlying t = some (.array n e)) (he : P.underlying e = some (.int k)) (hsz : ∀ w, (sizeOf e).run P w = .ok 1 w)
    (xs ys : List Int) (hx : xs.length = n) (hy : ys.length = n) :
    (binOp .neq t (.agg (xs.map (Value.int k)).toArray) (.agg (ys.map (Value.int k)).toArray)).run P w = .ok (.bool (!(xs == ys))) w := by
  rw [run_neq_struct, run_equalIn_ints w 9998 t e n k ht he hsz xs ys hx hy]
  rfl
end
end Go.Proofs.YtkmbleboceedbaaGreatDoor

/- samePages: of pages that are the same. -/
namespace Go.Proofs.YtkmbleboceedbaaGreatDoor
open Go.RowKit
set_option linter.unusedVariables false
set_option linter.unusedSimpArgs false
/-- A whole array loaded, in a region that only reads. -/
theorem wpQuiet_load {P : Program} {ops : Array Oper} {C : World → Prop} {Q : Act → Prop} {a : Act} {o : Oper} {rest : List Oper} (hw : Region.wanted o (yielded ops a.tmps) = true) (ty : TypeId) (x : Operand) (ho : o.op = .load ty x)
    (b off : Nat) (hx : a.eval x = .pointer (some ⟨b, off, none⟩)) (cs : List Value) (d : TypeDesc) (hc : ∀ w, C w → w.rangeAt b off cs) (hu : P.underlying ty = some d) (hd : d.isRow = true) (hi : (P.info? ty).map (·.size) = some cs.length)
    (h : wpQuiet P ops C Q rest (a.put o.dst (.agg cs.toArray))) : wpQuiet P ops C Q (o :: rest) a := by
  unfold wpQuiet
  rw [if_pos hw]
  refine ⟨.agg cs.toArray, fun w hC => ?_, h⟩
  unfold Oper.quietAt execOp
  simp only [ho, hx, Instr.loadAt, Instr.sureAddr, Sem.run_bind, Sem.run_pure, Result.andThen_ok, run_loadVar_mid w b off ty cs d (hc w hC) hu hd hi]
  exact ⟨rfl, rfl⟩
theorem range_drewN {w : World} {b o : Nat} {cs : List Value} (h : w.rangeAt b o cs) : ∀ w', (∃ n, w' = w.drewN n) → w'.rangeAt b o cs := by
  rintro w' ⟨n, rfl⟩ j v hv
  rw [World.cell?_drewN]
  exact h j v hv
theorem wrap_perm (n : Int) (h0 : 0 ≤ n) (h1 : n ≤ 255) : IntKind.i64.wrap n = n := by
  simp [IntKind.wrap, IntKind.bits, IntKind.signed]; split <;> omega
theorem arr256Size : (Tryz.prog.info? 85).map (·.size) = some 256 := by kernel_rfl
theorem eq256 (L : List Int) (h : L.length = 256) (w : World) : (Op.equalIn 10000 85 (.agg (bytesRow L).toArray) (.agg (bytesRow L).toArray)).run Tryz.prog w = .ok true w := by
  have := run_equalIn_ints (P := Tryz.prog) w 9998 85 5 256 .u8 Tryz.underlying85 Tryz.underlying5 (fun _ => by kernel_rfl) L L h h
  simpa [bytesRow] using this
/-- A page: its number, what may be done, its bytes. -/
structure Pg where
  num : Int
  perm : Int
  bytes : List Int
/-- The pages at block g, as package api has them. -/
def ApiAt (w : World) (g : Nat) (PS : List Pg) : Prop := ∀ i p, PS[i]? = some p → w.cell? ⟨g, i * 258, none⟩ = some (.int .i64 p.num) ∧ w.cell? ⟨g, i * 258 + 1, none⟩ = some (.int .u8 p.perm) ∧ w.rangeAt g (i * 258 + 2) (bytesRow p.bytes)
/-- The pages at block g, as the document's answer has them. -/
def RefAt (w : World) (g : Nat) (PS : List Pg) : Prop := ∀ i p, PS[i]? = some p → w.cell? ⟨g, i * 258, none⟩ = some (.int .i64 p.num) ∧ w.cell? ⟨g, i * 258 + 1, none⟩ = some (.int .i64 p.perm) ∧ w.rangeAt g (i * 258 + 2) (bytesRow p.bytes)

set_option maxRecDepth 100000 in
set_option maxHeartbeats 1000000 in
theorem samePages_any (aa ab : Option Addr) (ga gb ca cb : Nat) (PS : List Pg) (w : World) (ha : 0 < PS.length → aa = some ⟨ga, 0, none⟩) (hb : 0 < PS.length → ab = some ⟨gb, 0, none⟩)
    (hA : ApiAt w ga PS) (hB : RefAt w gb PS) (hp : ∀ p ∈ PS, 0 ≤ p.perm ∧ p.perm ≤ 255 ∧ p.bytes.length = 256) (hn : PS.length ≤ 100000) :
    Calls Tryz.prog 32 #[.slice aa PS.length ca, .slice ab PS.length cb] w fun e w' => e = .returned (.bool true) ∧ w'.heap = w.heap ∧ Below w.heap.size w w' := by
  have HA := hide hA
  have HB := hide hB
  have HP := hide hp
  have HA1 := hide ha
  have HB1 := hide hb
  clear hA hB hp ha hb
  go_enter Tryz.func32, Tryz.ntmps32
  go_wp2
  go_loopw [5] (fun i wr => ∃ k : Nat, k ≤ PS.length ∧ i = .int .i64 k ∧ wr.heap = w.heap ∧ Below w.heap.size w wr) (fun i _ => PS.length - (intOf i).toNat)
  case atStart => exact ⟨0, by omega, rfl, rfl, Below.refl _ _⟩
  case round =>
    obtain ⟨k, hk, rfl, hh, hbl⟩ := hrel
    have HH := hide hh
    have HBL := hide hbl
    clear hh hbl
    by_cases hlt : k < PS.length
    · have e1 := (unhide HA1) (by omega)
      have e2 := (unhide HB1) (by omega)
      subst e1 e2
      obtain ⟨p, hpk⟩ : ∃ p, PS[k]? = some p := ⟨_, List.getElem?_eq_getElem hlt⟩
      have hcells : ∀ a, wr.cell? a = w.cell? a := fun a => by unfold World.cell?; rw [unhide HH]
      have hpb := (unhide HP) p (List.mem_of_getElem? hpk)
      obtain ⟨a1, a2, a3⟩ := (unhide HA) k p hpk
      obtain ⟨b1, b2, b3⟩ := (unhide HB) k p hpk
      obtain ⟨num, perm, bytes⟩ := p
      simp only at a1 a2 a3 b1 b2 b3 hpb
      rw [← hcells] at a1 a2 b1 b2
      have a3' : wr.rangeAt ga (k * 258 + 2) (bytesRow bytes) := fun j v hv => by rw [hcells]; exact a3 j v hv
      have b3' : wr.rangeAt gb (k * 258 + 2) (bytesRow bytes) := fun j v hv => by rw [hcells]; exact b3 j v hv
      obtain ⟨p0, p1, p2⟩ := hpb
      have hq := eq256 bytes p2
      have hu := Tryz.underlying85
      obtain ⟨cs, hcs⟩ : ∃ cs, cs = bytesRow bytes := ⟨_, rfl⟩
      have hl : cs.length = 256 := by rw [hcs, bytesRow_length, p2]
      have hi : (Tryz.prog.info? 85).map (·.size) = some cs.length := by rw [arr256Size, hl]
      have h1 : ∀ v ∈ cs, v.oneCell' = true := by rw [hcs]; intro v hv; obtain ⟨x, _, rfl⟩ := List.mem_map.1 hv; rfl
      obtain ⟨ds, hds⟩ : ∃ ds, ds = bytesRow bytes := ⟨_, rfl⟩
      have hld : ds.length = 256 := by rw [hds, bytesRow_length, p2]
      have hid : (Tryz.prog.info? 85).map (·.size) = some ds.length := by rw [arr256Size, hld]
      have h2 : ∀ v ∈ ds, v.oneCell' = true := by rw [hds, ← hcs]; exact h1
      have hq : ∀ w, (Op.equalIn 10000 85 (.agg cs.toArray) (.agg ds.toArray)).run Tryz.prog w = .ok true w := by rw [hcs, hds]; exact hq
      rw [← hcs] at a3'
      rw [← hds] at b3'
      have hwp := wrap_perm perm p0 p1
      have hk0 : (0 : Int) ≤ (k : Int) := by omega
      have hk1 : (k : Int) < (PS.length : Int) := by omega
      clear hcs hds a3 b3 hcells hpk p2
      go_wp2_with fail
      have HRA := hide a3'
      have HRB := hide b3'
      clear a3' b3'
      refine wp_region_quiet_lit (by kernel_rfl) (by kernel_rfl) ?_
      repeat (first | (refine wpQuiet_load (by rfl) 85 _ rfl ga (k * 258 + 2) (by rfl) cs _ (range_drewN (unhide HRA)) hu rfl hi ?_; simp only [Act.put, List.setIfInBounds_toArray, List.set_cons_succ, List.set_cons_zero]) | (refine wpQuiet_load (by rfl) 85 _ rfl gb (k * 258 + 2) (by rfl) ds _ (range_drewN (unhide HRB)) hu rfl hid ?_; simp only [Act.put, List.setIfInBounds_toArray, List.set_cons_succ, List.set_cons_zero]) | go_big_quiet_step (fail))
      refine wpQuiet_nil ?_
      intro _ hw'
      obtain ⟨nq, hw''⟩ := hw'
      subst hw''
      go_wp2
      go_roundw
      case rel => exact ⟨k + 1, by omega, by go_num, unhide HH, ⟨(unhide HBL).os, (unhide HBL).tape, (unhide HBL).output, (unhide HBL).size, (unhide HBL).block⟩⟩
      case measure => simp [intOf]; omega
    · go_wp2
      go_ret
      exact ⟨rfl, unhide HH, unhide HBL⟩
end Go.Proofs.YtkmbleboceedbaaGreatDoor

/- Laws for one operation of a region that draws its order. -/
namespace Go.Proofs.YtkmbleboceedbaaGreatDoor
open Go Go.RowKit
set_option linter.unusedVariables false
set_option linter.unusedSimpArgs false

theorem step_slice1 {P : Program} {ops : Array Oper} {o : Oper} {a : Act} {w : World} {K : Act → World → Prop} {Q : Exit → Act → World → Prop} {E : Prop} (hgd : o.guard = none) (t e : TypeId) (x : Operand) (ho : o.op = .buildSlice t 1 #[(0, x)])
    (cs : List Value) (hx : a.eval x = .agg cs.toArray) (ie : TypeInfo) (z : Value) (hu : P.underlying t = some (.slice e)) (hie : P.info? e = some ie) (hz : ie.zero = some z) (hs : ie.size = cs.length) (h0 : 0 < cs.length) (h24 : cs.length ≤ 2 ^ 24) (H : Nat) (hH : w.heap.size = H) (d : Option Tmp) (hd : o.dst = d)
    (h : K (a.put d (.slice (some ⟨H, 0, none⟩) 1 1)) (w.alloc (.cells cs.toArray e))) : if Region.wanted o (yielded ops a.tmps) = true then Oper.wp P o a w K Q else E := by
  have hw : Region.wanted o (yielded ops a.tmps) = true := by simp [Region.wanted, hgd]
  rw [if_pos hw]
  subst hH hd
  refine wp_buildSlice t e 1 #[(0, x)] ho cs.toArray ie z hu hie hz (by rw [hs]; omega) (by rw [hs]; omega) ?_ h
  have := Great.fill_whole (s := ie.size) (by rw [hs]; exact h0) [.agg cs.toArray] ((Array.range (1 * ie.size)).map (z.cells[· % z.cells.size]!)) (by simp [Value.cells, hs]) (by simp)
  simpa [hx, Value.cells] using this

theorem step_cell {P : Program} {ops : Array Oper} {o : Oper} {a : Act} {w : World} {K : Act → World → Prop} {Q : Exit → Act → World → Prop} {E : Prop} (hgd : o.guard = none) (ty : TypeId) (x : Operand) (ho : o.op = .load ty x) (ad : Addr) (hx : a.eval x = .pointer (some ad)) (v : Value) (hrun : (Instr.loadAt ty (.pointer (some ad))).run P w = .ok v w) (d : Option Tmp) (hd : o.dst = d) (h : K (a.put d v) w) :
    if Region.wanted o (yielded ops a.tmps) = true then Oper.wp P o a w K Q else E := by
  have hw : Region.wanted o (yielded ops a.tmps) = true := by simp [Region.wanted, hgd]
  rw [if_pos hw]
  subst hd
  unfold Oper.wp execOp
  simp only [ho, hx, Sem.run_bind, hrun, Result.andThen_ok, Sem.run_pure]
  exact h
theorem rangeAt_fresh (W : World) (b o : Nat) (cs : List Value) (x : Obj) (h : W.rangeAt b o cs) : (W.alloc x).rangeAt b o cs := World.rangeAt_alloc h x
theorem rangeAt_grown {W W' : World} {row : Option Nat} {b o : Nat} {cs : List Value} (h : W.rangeAt b o cs) (hg : W.grownBy W' row) (hne : some b ≠ row) : W'.rangeAt b o cs := fun j v hj => hg.cell (h j v hj) hne
theorem step_store1 {P : Program} {ops : Array Oper} {o : Oper} {a : Act} {w w' : World} {K : Act → World → Prop} {Q : Exit → Act → World → Prop} {E : Prop} (hgd : o.guard = none) (ty : TypeId) (x y : Operand) (ho : o.op = .store ty x y) (ad : Addr) (v : Value) (hx : a.eval x = .pointer (some ad)) (hy : a.eval y = v) (hrun : (Instr.storeAt ty (.pointer (some ad)) v).run P w = .ok () w') (hd : o.dst = none) (h : K a w') :
    if Region.wanted o (yielded ops a.tmps) = true then Oper.wp P o a w K Q else E := by
  have hw : Region.wanted o (yielded ops a.tmps) = true := by simp [Region.wanted, hgd]
  rw [if_pos hw]
  unfold Oper.wp execOp
  simp only [ho, hx, hy, Sem.run_bind, hrun, Result.andThen_ok, Sem.run_pure]
  rw [Oper.upon_skip, hd]
  exact h
theorem act_gen {P : Program} {C : Code} {Q : Exit → Act → World → Prop} {a : Act} {w : World} (h : ∀ A : Act, A = a → Code.wp P C Q A w) : Code.wp P C Q a w := h a rfl
theorem yields_move {P : Program} {ops : Array Oper} {S : World → Prop} {o : Oper} {A : Act} (hg : o.guard = none) (x : Operand) (ho : o.op = .move x) (v : Value) (h : A.eval x = v) : YieldsIf P ops S o v A :=
  .inl ⟨by simp [Region.wanted, hg], fun w _ => by simp only [execOp, ho, h]; rfl⟩
theorem yields_nil {P : Program} {ops : Array Oper} {S : World → Prop} {o : Oper} {A : Act} (hg : o.guard = none) (x : Operand) (ho : o.op = .nilCheck x) (ad : Addr) (h : A.eval x = .pointer (some ad)) : YieldsIf P ops S o (.pointer (some ad)) A :=
  .inl ⟨by simp [Region.wanted, hg], fun w _ => by simp only [execOp, ho, h]; rfl⟩
theorem yields_procs {ops : Array Oper} {S : World → Prop} {o : Oper} {A : Act} (hg : o.guard = none) (x : Operand) (ho : o.op = .fieldAddr 71 x 1) (b : Nat) (h : A.eval x = .pointer (some ⟨b, 0, none⟩)) : YieldsIf Tryz.prog ops S o (.pointer (some ⟨b, 5, none⟩)) A :=
  .inl ⟨by simp [Region.wanted, hg], fun w _ => by simp only [execOp, ho, h]; go_simp⟩
theorem takeH {P : Program} {ops : Array Oper} {Q : Exit → Act → World → Prop} {md : Region.Mode} {S : World → Prop} {i : Nat} {oi : Oper} {v : Value} {fuel : Nat} {listed : Array Bool} {a : Act} {w : World} (d : Option Tmp) (hi : ops[i]? = some oi) (hd : oi.dst = d)
    (hs : Region.noSelect ops = true) (hf : Region.free md ops listed i = true) (hr : (Region.ready md ops listed).contains i = true)
    (hQ : ∀ c a w, Q (.panic c) (a.put d v) w → Q (.panic c) a w) (hy : YieldsIf P ops S oi v a) (hS : S w)
    (h : wpAnyH P md ops Q S fuel (listed.setIfInBounds i true) (a.put d v) w) : wpAnyH P md ops Q S (fuel + 1) listed a w := by
  subst hd
  exact wpAnyH_take hi hs hf hr hQ hy hS h
theorem put_same {A : Act} {d : Nat} {v : Value} (h : d < A.tmps.size) : (A.put (some d) v).eval (.tmp d) = v := by simp [Act.put, Act.eval, h]
theorem put_other {A : Act} {d e : Nat} {v : Value} (h : d ≠ e) : (A.put (some d) v).eval (.tmp e) = A.eval (.tmp e) := by simp [Act.put, Act.eval, Array.getElem?_setIfInBounds_ne h]
theorem put_size {A : Act} {d : Option Nat} {v : Value} : (A.put d v).tmps.size = A.tmps.size := by cases d <;> simp [Act.put]

end Go.Proofs.YtkmbleboceedbaaGreatDoor
