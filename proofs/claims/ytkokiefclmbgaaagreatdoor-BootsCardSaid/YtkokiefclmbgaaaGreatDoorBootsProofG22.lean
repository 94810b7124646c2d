import Derived.Test.YtkokiefclmbgaaaGreatDoorBootsProofG21
import Derived.Test.YtkokiefclmbgaaaGreatDoorBootsProofG15
import Derived.Test.YtkokiefclmbgaaaGreatDoorBootsProofG14
/- tinyoslaw: sameProc, where the two are the same. -/
namespace Go.Proofs.YtkokiefclmbgaaaGreatDoor
open Go.RowKit
set_option linter.unusedVariables false
set_option linter.unusedSimpArgs false

/-- An object of the document's kernel. -/
structure ROb where
  id : Int
  kind : Int
  of : Int
  offset : Int
def obCells (x : ROb) : List Value := [.int .i64 x.id, .int .i64 x.kind, .int .i64 x.of, .int .i64 x.offset]
def obRow (xs : List ROb) : List Value := xs.flatMap obCells
theorem obRow_get : ∀ (xs : List ROb) (j i : Nat) (x : ROb) (v : Value), xs[j]? = some x → i < 4 → (obCells x)[i]? = some v → (obRow xs)[j * 4 + i]? = some v
  | [], j, i, x, v, h, _, _ => by simp at h
  | a :: r, 0, i, x, v, h, hi, hv => by
    have e : a = x := by simpa using h
    subst e
    show (obCells a ++ obRow r)[0 * 4 + i]? = _
    rw [List.getElem?_append_left (by simp [obCells]; omega)]
    simpa using hv
  | a :: r, j + 1, i, x, v, h, hi, hv => by
    show (obCells a ++ obRow r)[(j + 1) * 4 + i]? = _
    rw [List.getElem?_append_right (by simp [obCells]; omega)]
    have : (j + 1) * 4 + i - (obCells a).length = j * 4 + i := by simp [obCells]; omega
    rw [this]
    exact obRow_get r j i x v (by simpa using h) hi hv
/-- What a descriptor is of: its kind and its offset, the first n objects looked at. -/
def kindTo (OB : List ROb) (id : Int) (n : Nat) : Int × Int := (OB.take n).foldl (fun a x => if x.id = id then (x.kind, x.offset) else a) (4, 0)
theorem kindTo_succ {OB : List ROb} {id : Int} {n : Nat} {x : ROb} (h : OB[n]? = some x) : kindTo OB id (n + 1) = if x.id = id then (x.kind, x.offset) else kindTo OB id n := by
  unfold kindTo
  rw [List.take_add_one, h]; simp
def kindOf (OB : List ROb) (id : Int) : Int × Int := kindTo OB id OB.length
structure AFd where
  num : Int
  kind : Int
  offset : Int
def fdCells (x : AFd) : List Value := [.int .i64 x.num, .int .i64 x.kind, .int .i64 x.offset]
/-- The descriptors as Procs tells them, the first n looked at. -/
def fdsTo (OB : List ROb) (F : List Int) : Nat → List AFd
  | 0 => []
  | n + 1 => if F.getD n 0 = 0 then fdsTo OB F n else fdsTo OB F n ++ [⟨n, (kindOf OB (F.getD n 0)).1, (kindOf OB (F.getD n 0)).2⟩]
def fdsOf (OB : List ROb) (F : List Int) : List AFd := fdsTo OB F 8
theorem fdsTo_len (OB : List ROb) (F : List Int) : ∀ n, (fdsTo OB F n).length ≤ n
  | 0 => by simp [fdsTo]
  | n + 1 => by
    have := fdsTo_len OB F n
    unfold fdsTo
    split
    · omega
    · simp; omega
theorem fdsTo_pre (OB : List ROb) (F : List Int) : ∀ (m n : Nat), fdsTo OB F n <+: fdsTo OB F (n + m)
  | 0, n => List.prefix_rfl
  | m + 1, n => by
    refine (fdsTo_pre OB F m n).trans ?_
    show fdsTo OB F (n + m) <+: fdsTo OB F (n + m + 1)
    conv => rhs; unfold fdsTo
    split
    · exact List.prefix_rfl
    · exact List.prefix_append _ _
theorem fdsOf_at {OB : List ROb} {F : List Int} {j : Nat} (hj : j < 8) (h : F.getD j 0 ≠ 0) : (fdsOf OB F)[(fdsTo OB F j).length]? = some ⟨j, (kindOf OB (F.getD j 0)).1, (kindOf OB (F.getD j 0)).2⟩ := by
  have hp : fdsTo OB F (j + 1) <+: fdsOf OB F := by
    have := fdsTo_pre OB F (8 - (j + 1)) (j + 1)
    rwa [show j + 1 + (8 - (j + 1)) = 8 by omega] at this
  have e : fdsTo OB F (j + 1) = fdsTo OB F j ++ [⟨j, (kindOf OB (F.getD j 0)).1, (kindOf OB (F.getD j 0)).2⟩] := by
    conv => lhs; unfold fdsTo
    rw [if_neg h]
  rw [e] at hp
  obtain ⟨t, ht⟩ := hp
  rw [← ht, List.append_assoc, List.getElem?_append_right (Nat.le_refl _)]
  simp
theorem fdsTo_zero {OB : List ROb} {F : List Int} {j : Nat} (h : F.getD j 0 = 0) : fdsTo OB F (j + 1) = fdsTo OB F j := by
  conv => lhs; unfold fdsTo
  rw [if_pos h]
def FdsAt (w : World) (g o : Nat) (FL : List AFd) : Prop := ∀ (i : Nat) (x : AFd), FL[i]? = some x → w.cell? ⟨g, o + i * 3, none⟩ = some (.int .i64 x.num) ∧ w.cell? ⟨g, o + i * 3 + 1, none⟩ = some (.int .i64 x.kind) ∧ w.cell? ⟨g, o + i * 3 + 2, none⟩ = some (.int .i64 x.offset)
def ObsAt (w : World) (g : Nat) (OB : List ROb) : Prop := w.rangeAt g 0 (obRow OB)
def apiProc (pid par st su le pc : Int) (R : List Int) (pv fv : Value) : List Value := [.int .i64 pid, .int .i64 par, .int .i64 st, .int .i64 su, .int .i64 le, .int .u64 pc, .int .u64 (R[0]?.getD 0), .int .u64 (R[1]?.getD 0), .int .u64 (R[2]?.getD 0), .int .u64 (R[3]?.getD 0), .int .u64 (R[4]?.getD 0), .int .u64 (R[5]?.getD 0), .int .u64 (R[6]?.getD 0), .int .u64 (R[7]?.getD 0), .int .u64 (R[8]?.getD 0), .int .u64 (R[9]?.getD 0), .int .u64 (R[10]?.getD 0), .int .u64 (R[11]?.getD 0), .int .u64 (R[12]?.getD 0), .int .u64 (R[13]?.getD 0), .int .u64 (R[14]?.getD 0), .int .u64 (R[15]?.getD 0), pv, fv]
theorem wpList_load_guarded {P : Program} {ops : Array Oper} {rest : List Oper} {op : Oper} {a : Act} {w : World} {Q : Exit → Act → World → Prop} (hw : Region.wanted op (yielded ops a.tmps) = true) (ty : TypeId) (x : Operand) (ho : op.op = .load ty x)
    (b o : Nat) (hx : a.eval x = .pointer (some ⟨b, o, none⟩)) (cs : List Value) (d : TypeDesc) (hc : w.rangeAt b o cs) (hu : P.underlying ty = some d) (hd : d.isRow = true) (hi : (P.info? ty).map (·.size) = some cs.length)
    (h : wpList P ops Q rest (a.put op.dst (.agg cs.toArray)) w) : wpList P ops Q (op :: rest) a w := by
  unfold wpList
  rw [if_pos hw]
  exact .inl (wp_load_mid ty x ho b o hx cs d hc hu hd hi h)
def regsRow (R : List Int) : List Value := R.map (Value.int .u64)
theorem list16 {R : List Int} (h : R.length = 16) : R = [R[0]?.getD 0, R[1]?.getD 0, R[2]?.getD 0, R[3]?.getD 0, R[4]?.getD 0, R[5]?.getD 0, R[6]?.getD 0, R[7]?.getD 0, R[8]?.getD 0, R[9]?.getD 0, R[10]?.getD 0, R[11]?.getD 0, R[12]?.getD 0, R[13]?.getD 0, R[14]?.getD 0, R[15]?.getD 0] := by
  match R, h with
  | [a0, a1, a2, a3, a4, a5, a6, a7, a8, a9, a10, a11, a12, a13, a14, a15], _ => rfl
theorem regs_get {R : List Int} (h : R.length = 16) {j : Nat} {v : Value} (hv : (regsRow R)[j]? = some v) : [.int .u64 (R[0]?.getD 0), .int .u64 (R[1]?.getD 0), .int .u64 (R[2]?.getD 0), .int .u64 (R[3]?.getD 0), .int .u64 (R[4]?.getD 0), .int .u64 (R[5]?.getD 0), .int .u64 (R[6]?.getD 0), .int .u64 (R[7]?.getD 0), .int .u64 (R[8]?.getD 0), .int .u64 (R[9]?.getD 0), .int .u64 (R[10]?.getD 0), .int .u64 (R[11]?.getD 0), .int .u64 (R[12]?.getD 0), .int .u64 (R[13]?.getD 0), .int .u64 (R[14]?.getD 0), .int .u64 (R[15]?.getD 0)][j]? = some v := by
  rw [list16 h] at hv
  exact hv
theorem apiProc_regs {pid par st su le pc : Int} {R : List Int} {pv fv : Value} (h : R.length = 16) {j : Nat} {v : Value} (hv : (regsRow R)[j]? = some v) : (apiProc pid par st su le pc R pv fv)[6 + j]? = some v := by
  have h1 := regs_get h hv
  have hl : j < 16 := by have := (List.getElem?_eq_some_iff.1 h1).1; simpa using this
  show ([.int .i64 pid, .int .i64 par, .int .i64 st, .int .i64 su, .int .i64 le, .int .u64 pc] ++ ([.int .u64 (R[0]?.getD 0), .int .u64 (R[1]?.getD 0), .int .u64 (R[2]?.getD 0), .int .u64 (R[3]?.getD 0), .int .u64 (R[4]?.getD 0), .int .u64 (R[5]?.getD 0), .int .u64 (R[6]?.getD 0), .int .u64 (R[7]?.getD 0), .int .u64 (R[8]?.getD 0), .int .u64 (R[9]?.getD 0), .int .u64 (R[10]?.getD 0), .int .u64 (R[11]?.getD 0), .int .u64 (R[12]?.getD 0), .int .u64 (R[13]?.getD 0), .int .u64 (R[14]?.getD 0), .int .u64 (R[15]?.getD 0)] ++ [pv, fv]))[6 + j]? = _
  rw [List.getElem?_append_right (by simp), List.getElem?_append_left (by simp; omega)]
  simpa using h1
theorem refProc_regs {pid par st su le pc : Int} {R F : List Int} {pv : Value} (h : R.length = 16) {j : Nat} {v : Value} (hv : (regsRow R)[j]? = some v) : (refProc pid par st su le pc R pv F)[6 + j]? = some v := by
  have h1 := regs_get h hv
  have hl : j < 16 := by have := (List.getElem?_eq_some_iff.1 h1).1; simpa using this
  show ([.int .i64 pid, .int .i64 par, .int .i64 st, .int .i64 su, .int .i64 le, .int .u64 pc] ++ ([.int .u64 (R[0]?.getD 0), .int .u64 (R[1]?.getD 0), .int .u64 (R[2]?.getD 0), .int .u64 (R[3]?.getD 0), .int .u64 (R[4]?.getD 0), .int .u64 (R[5]?.getD 0), .int .u64 (R[6]?.getD 0), .int .u64 (R[7]?.getD 0), .int .u64 (R[8]?.getD 0), .int .u64 (R[9]?.getD 0), .int .u64 (R[10]?.getD 0), .int .u64 (R[11]?.getD 0), .int .u64 (R[12]?.getD 0), .int .u64 (R[13]?.getD 0), .int .u64 (R[14]?.getD 0), .int .u64 (R[15]?.getD 0)] ++ [pv, .int .i64 (F[0]?.getD 0), .int .i64 (F[1]?.getD 0), .int .i64 (F[2]?.getD 0), .int .i64 (F[3]?.getD 0), .int .i64 (F[4]?.getD 0), .int .i64 (F[5]?.getD 0), .int .i64 (F[6]?.getD 0), .int .i64 (F[7]?.getD 0)]))[6 + j]? = _
  rw [List.getElem?_append_right (by simp), List.getElem?_append_left (by simp; omega)]
  simpa using h1
theorem refProc_fd {pid par st su le pc : Int} {R F : List Int} {pv : Value} {j : Nat} (hj : j < 8) : (refProc pid par st su le pc R pv F)[23 + j]? = some (.int .i64 (F.getD j 0)) := by
  match j, hj with
  | 0, _ => rfl
  | 1, _ => rfl
  | 2, _ => rfl
  | 3, _ => rfl
  | 4, _ => rfl
  | 5, _ => rfl
  | 6, _ => rfl
  | 7, _ => rfl
theorem arr16Size : (Tryz.prog.info? 75).map (·.size) = some 16 := by kernel_rfl
theorem eq16 (R : List Int) (h : R.length = 16) (w : World) : (Op.equalIn 10000 75 (.agg (regsRow R).toArray) (.agg (regsRow R).toArray)).run Tryz.prog w = .ok true w := by
  have := run_equalIn_ints (P := Tryz.prog) w 9998 75 74 16 .u64 Tryz.underlying75 Tryz.underlying74 (fun w => by kernel_rfl) R R h h
  simpa [regsRow] using this

set_option maxRecDepth 100000 in
set_option maxHeartbeats 8000000 in
theorem sameProc_any (wb kb : Nat) (kv : Value) (oa : Option Addr) (og oc : Nat) (OB : List ROb) (pid par st su le pc : Int) (R F : List Int) (aa ab : Option Addr) (ga gb ca cb : Nat) (PS : List Pg) (fa : Option Addr) (fg fo fc : Nat) (w : World)
    (hw : w.cell? ⟨wb, 1, none⟩ = some (.pointer (some ⟨kb, 0, none⟩))) (hk : w.cell? ⟨kb, 6, none⟩ = some (.slice oa OB.length oc)) (hoa : 0 < OB.length → oa = some ⟨og, 0, none⟩) (hob : ObsAt w og OB) (hon : OB.length ≤ 100000)
    (hR : R.length = 16) (ha : 0 < PS.length → aa = some ⟨ga, 0, none⟩) (hb : 0 < PS.length → ab = some ⟨gb, 0, none⟩) (hA : ApiAt w ga PS) (hB : RefAt w gb PS) (hp : ∀ p ∈ PS, 0 ≤ p.perm ∧ p.perm ≤ 255 ∧ p.bytes.length = 256) (hn : PS.length ≤ 100000)
    (hfa : 0 < (fdsOf OB F).length → fa = some ⟨fg, fo, none⟩) (hfd : FdsAt w fg fo (fdsOf OB F)) (hlt : wb < w.heap.size ∧ kb < w.heap.size ∧ (0 < OB.length → og < w.heap.size) ∧ (0 < PS.length → ga < w.heap.size ∧ gb < w.heap.size) ∧ (0 < (fdsOf OB F).length → fg < w.heap.size)) :
    Calls Tryz.prog 19 #[.pointer (some ⟨wb, 0, none⟩), .agg #[.int .i64 pid, .int .i64 par, .int .i64 st, .int .i64 su, .int .i64 le, .int .u64 pc, .int .u64 (R[0]?.getD 0), .int .u64 (R[1]?.getD 0), .int .u64 (R[2]?.getD 0), .int .u64 (R[3]?.getD 0), .int .u64 (R[4]?.getD 0), .int .u64 (R[5]?.getD 0), .int .u64 (R[6]?.getD 0), .int .u64 (R[7]?.getD 0), .int .u64 (R[8]?.getD 0), .int .u64 (R[9]?.getD 0), .int .u64 (R[10]?.getD 0), .int .u64 (R[11]?.getD 0), .int .u64 (R[12]?.getD 0), .int .u64 (R[13]?.getD 0), .int .u64 (R[14]?.getD 0), .int .u64 (R[15]?.getD 0), .slice aa PS.length ca, .slice fa (fdsOf OB F).length fc], .agg #[.int .i64 pid, .int .i64 par, .int .i64 st, .int .i64 su, .int .i64 le, .int .u64 pc, .int .u64 (R[0]?.getD 0), .int .u64 (R[1]?.getD 0), .int .u64 (R[2]?.getD 0), .int .u64 (R[3]?.getD 0), .int .u64 (R[4]?.getD 0), .int .u64 (R[5]?.getD 0), .int .u64 (R[6]?.getD 0), .int .u64 (R[7]?.getD 0), .int .u64 (R[8]?.getD 0), .int .u64 (R[9]?.getD 0), .int .u64 (R[10]?.getD 0), .int .u64 (R[11]?.getD 0), .int .u64 (R[12]?.getD 0), .int .u64 (R[13]?.getD 0), .int .u64 (R[14]?.getD 0), .int .u64 (R[15]?.getD 0), .slice ab PS.length cb, .int .i64 (F[0]?.getD 0), .int .i64 (F[1]?.getD 0), .int .i64 (F[2]?.getD 0), .int .i64 (F[3]?.getD 0), .int .i64 (F[4]?.getD 0), .int .i64 (F[5]?.getD 0), .int .i64 (F[6]?.getD 0), .int .i64 (F[7]?.getD 0)]] w fun e w' => e = .returned (.bool true) ∧ Below w.heap.size w w' := by
  have HPG := hide (fun (w' : World) (hb' : Below w.heap.size w w') => samePages_any aa ab ga gb ca cb PS w' ha hb (fun i p h => by
      have hl := hlt.2.2.2.1 (by have := (List.getElem?_eq_some_iff.1 h).1; omega)
      obtain ⟨h1, h2, h3⟩ := hA i p h
      exact ⟨by rw [hb'.cell (p := ⟨ga, i * 258, none⟩) hl.1]; exact h1, by rw [hb'.cell (p := ⟨ga, i * 258 + 1, none⟩) hl.1]; exact h2, fun j v hv => by rw [hb'.cell (p := ⟨ga, i * 258 + 2 + j, none⟩) hl.1]; exact h3 j v hv⟩) (fun i p h => by
      have hl := hlt.2.2.2.1 (by have := (List.getElem?_eq_some_iff.1 h).1; omega)
      obtain ⟨h1, h2, h3⟩ := hB i p h
      exact ⟨by rw [hb'.cell (p := ⟨gb, i * 258, none⟩) hl.2]; exact h1, by rw [hb'.cell (p := ⟨gb, i * 258 + 1, none⟩) hl.2]; exact h2, fun j v hv => by rw [hb'.cell (p := ⟨gb, i * 258 + 2 + j, none⟩) hl.2]; exact h3 j v hv⟩) hp hn)
  have HFD := hide hfd
  have HFA := hide hfa
  have HOB := hide hob
  have HOA := hide hoa
  have HLT := hide hlt
  have hwl := hlt.1
  have hkl := hlt.2.1
  have HR := hide hR
  obtain ⟨W0, hW0⟩ : ∃ W0, W0 = (w.alloc (Obj.cells (apiProc pid par st su le pc R (.slice aa PS.length ca) (.slice fa (fdsOf OB F).length fc)).toArray 79)).alloc (Obj.cells (refProc pid par st su le pc R (.slice ab PS.length cb) F).toArray 83) := ⟨_, rfl⟩
  have hb0 : Below w.heap.size w W0 := by rw [hW0]; exact ((Below.refl _ _).alloc (Nat.le_refl _) _).alloc (by simp) _
  have hp0 : Holds W0 w.heap.size 79 (apiProc pid par st su le pc R (.slice aa PS.length ca) (.slice fa (fdsOf OB F).length fc)) := by rw [hW0]; exact (Holds.new w 79 _).alloc _
  have hq0 : Holds W0 (w.heap.size + 1) 83 (refProc pid par st su le pc R (.slice ab PS.length cb) F) := by
    rw [hW0]
    have := Holds.new (w.alloc (Obj.cells (apiProc pid par st su le pc R (.slice aa PS.length ca) (.slice fa (fdsOf OB F).length fc)).toArray 79)) 83 (refProc pid par st su le pc R (.slice ab PS.length cb) F)
    rwa [show (w.alloc (Obj.cells (apiProc pid par st su le pc R (.slice aa PS.length ca) (.slice fa (fdsOf OB F).length fc)).toArray 79)).heap.size = w.heap.size + 1 from by simp] at this
  have HB0 := hide hb0
  have HP0 := hide hp0
  have HQ0 := hide hq0
  unfold apiProc refProc at hW0
  have HW0 := hide hW0
  clear ha hb hA hB hp hfd hfa hob hoa hlt hR hb0 hp0 hq0 hW0
  go_enter Tryz.func19, Tryz.ntmps19
  go_upto_region 1 with fail
  rw [← unhide HW0]
  have a0 := (unhide HP0).cell (j := 0) rfl
  have a1 := (unhide HP0).cell (j := 1) rfl
  have a2 := (unhide HP0).cell (j := 2) rfl
  have a3 := (unhide HP0).cell (j := 3) rfl
  have a4 := (unhide HP0).cell (j := 4) rfl
  have a22 := (unhide HP0).cell (j := 22) rfl
  have b0 := (unhide HQ0).cell (j := 0) rfl
  have b1 := (unhide HQ0).cell (j := 1) rfl
  have b2 := (unhide HQ0).cell (j := 2) rfl
  have b3 := (unhide HQ0).cell (j := 3) rfl
  have b4 := (unhide HQ0).cell (j := 4) rfl
  have b22 := (unhide HQ0).cell (j := 22) rfl
  go_wp2_with fail
  refine (unhide HPG W0 (unhide HB0)).mono ?_
  rintro e w1 ⟨rfl, hh1, hb1⟩
  clear a0 a1 a2 a3 a4 a22 b0 b1 b2 b3 b4 b22 HPG
  have HP1 := hide ((unhide HP0).heap hh1)
  have HQ1 := hide ((unhide HQ0).heap hh1)
  have HB1 := hide ((unhide HB0).trans (hb1.mono (by have := (unhide HB0).size; omega)))
  have a5 := (unhide HP1).cell (j := 5) rfl
  have b5 := (unhide HQ1).cell (j := 5) rfl
  obtain ⟨cs, hcs⟩ : ∃ cs, cs = regsRow R := ⟨_, rfl⟩
  obtain ⟨ds, hds⟩ : ∃ ds, ds = regsRow R := ⟨_, rfl⟩
  have HCA := hide (show w1.rangeAt w.heap.size 6 cs from fun j v hv => (unhide HP1).cell (apiProc_regs (unhide HR) (by rw [← hcs]; exact hv)))
  have HCB := hide (show w1.rangeAt (w.heap.size + 1) 6 ds from fun j v hv => (unhide HQ1).cell (refProc_regs (unhide HR) (by rw [← hds]; exact hv)))
  have hq : ∀ w, (Op.equalIn 10000 75 (.agg cs.toArray) (.agg ds.toArray)).run Tryz.prog w = .ok true w := by rw [hcs, hds]; exact eq16 R (unhide HR)
  have HI1 := hide (show (Tryz.prog.info? 75).map (·.size) = some cs.length from by rw [arr16Size, hcs]; simp [regsRow, unhide HR])
  have HI2 := hide (show (Tryz.prog.info? 75).map (·.size) = some ds.length from by rw [arr16Size, hds]; simp [regsRow, unhide HR])
  clear hh1 hb1 hcs hds
  go_upto_region 8 with (first | (refine wpList_load_guarded (by rfl) 75 _ rfl w.heap.size 6 (by rfl) cs _ (unhide HCA) Tryz.underlying75 rfl (unhide HI1) ?_) | (refine wpList_load_guarded (by rfl) 75 _ rfl (w.heap.size + 1) 6 (by rfl) ds _ (unhide HCB) Tryz.underlying75 rfl (unhide HI2) ?_))
  have hcell : ∀ b o, b < w.heap.size → w1.cell? ⟨b, o, none⟩ = w.cell? ⟨b, o, none⟩ := fun b o hb => (unhide HB1).cell (p := ⟨b, o, none⟩) hb
  have a23 : w1.cell? ⟨w.heap.size, 23, none⟩ = some (.slice fa (fdsOf OB F).length fc) := (unhide HP1).cell (j := 23) rfl
  have e1 : w1.cell? ⟨wb, 1, none⟩ = some (.pointer (some ⟨kb, 0, none⟩)) := by rw [hcell _ _ hwl]; exact hw
  have e6 : w1.cell? ⟨kb, 6, none⟩ = some (.slice oa OB.length oc) := by rw [hcell _ _ hkl]; exact hk
  have HFQ := hide (show ∀ j, j < 8 → w1.cell? ⟨w.heap.size + 1, 23 + j, none⟩ = some (.int .i64 (F.getD j 0)) from fun j hj => (unhide HQ1).cell (refProc_fd hj))
  have HFP := hide (show ∀ (i : Nat) (x : AFd), (fdsOf OB F)[i]? = some x → fa = some ⟨fg, fo, none⟩ ∧ w1.cell? ⟨fg, fo + i * 3, none⟩ = some (.int .i64 x.num) ∧ w1.cell? ⟨fg, fo + i * 3 + 1, none⟩ = some (.int .i64 x.kind) ∧ w1.cell? ⟨fg, fo + i * 3 + 2, none⟩ = some (.int .i64 x.offset) from fun i x hx => by
    have hl : 0 < (fdsOf OB F).length := by have := (List.getElem?_eq_some_iff.1 hx).1; omega
    have hg := (unhide HLT).2.2.2.2 hl
    obtain ⟨h1, h2, h3⟩ := unhide HFD i x hx
    exact ⟨unhide HFA hl, by rw [hcell _ _ hg]; exact h1, by rw [hcell _ _ hg]; exact h2, by rw [hcell _ _ hg]; exact h3⟩)
  have HOP := hide (show ∀ (i : Nat) (x : ROb), OB[i]? = some x → oa = some ⟨og, 0, none⟩ ∧ w1.cell? ⟨og, i * 4, none⟩ = some (.int .i64 x.id) ∧ w1.cell? ⟨og, i * 4 + 1, none⟩ = some (.int .i64 x.kind) ∧ w1.cell? ⟨og, i * 4 + 3, none⟩ = some (.int .i64 x.offset) from fun i x hx => by
    have hl : 0 < OB.length := by have := (List.getElem?_eq_some_iff.1 hx).1; omega
    have hg := (unhide HLT).2.2.1 hl
    have hr : ∀ (c : Nat) (v : Value), c < 4 → (obCells x)[c]? = some v → w1.cell? ⟨og, i * 4 + c, none⟩ = some v := fun c v hc hv => by
      rw [hcell _ _ hg]
      have := (unhide HOB) (i * 4 + c) v (obRow_get OB i c x v hx hc hv)
      rwa [Nat.zero_add] at this
    exact ⟨unhide HOA hl, hr 0 _ (by omega) rfl, hr 1 _ (by omega) rfl, hr 3 _ (by omega) rfl⟩)
  have h8 := fdsTo_len OB F 8
  have HFN := hide (show (fdsTo OB F 8).length = (fdsOf OB F).length from rfl)
  have hfn : (fdsOf OB F).length ≤ 8 := h8
  clear hw hk hwl hkl hcell a5 b5 hq HCA HCB HI1 HI2 HFD HFA HOB HOA HLT HP0 HQ0 HB0 HW0 h8
  go_loop [8, 9] (fun at_ f => ∃ j : Nat, j ≤ 8 ∧ f = .int .i64 j ∧ at_ = .int .i64 (fdsTo OB F j).length) (fun _ f => 8 - (intOf f).toNat)
  case atStart => exact ⟨0, by omega, rfl, rfl⟩
  case round =>
    obtain ⟨j, hj, rfl, rfl⟩ := hrel
    have hA := fdsTo_len OB F j
    by_cases hlt : j < 8
    · have f0 := unhide HFQ j hlt
      have hj0 : (0 : Int) ≤ (j : Int) := by omega
      have hj1 : (j : Int) < 8 := by omega
      by_cases hz : F.getD j 0 = 0
      · have HE := hide (fdsTo_zero (OB := OB) hz)
        rw [hz] at f0
        clear hz
        go_wp2
        go_round
        case rel => exact ⟨j + 1, by omega, by go_num, by rw [unhide HE]⟩
        case measure => simp [intOf]; omega
      · have hx := fdsOf_at (OB := OB) hlt hz
        obtain ⟨hfa, g0, g1, g2⟩ := unhide HFP _ _ hx
        have hAl := (List.getElem?_eq_some_iff.1 hx).1
        have HE := hide (show (fdsTo OB F (j + 1)).length = (fdsTo OB F j).length + 1 from by
          have e : fdsTo OB F (j + 1) = fdsTo OB F j ++ [⟨j, (kindOf OB (F.getD j 0)).1, (kindOf OB (F.getD j 0)).2⟩] := by
            conv => lhs; unfold fdsTo
            rw [if_neg hz]
          rw [e]; simp)
        subst hfa
        obtain ⟨X, hX⟩ : ∃ X, X = F.getD j 0 := ⟨_, rfl⟩
        rw [← hX] at f0 hz g1 g2
        have hz1 : (X == 0) = false := by simpa using hz
        obtain ⟨A, hAA⟩ : ∃ A, A = (fdsTo OB F j).length := ⟨_, rfl⟩
        obtain ⟨NN, hNN⟩ : ∃ NN, NN = (fdsOf OB F).length := ⟨_, rfl⟩
        rw [← hAA] at g0 g1 g2 hAl HE hA ⊢
        rw [← hNN] at a23 hAl hfn
        have hA0 : (0 : Int) ≤ (A : Int) := by omega
        have hA1 : (A : Int) < (NN : Int) := by omega
        have hA2 : ¬ (NN : Int) ≤ (A : Int) := by omega
        obtain ⟨KK, hKK⟩ : ∃ KK, KK = (kindOf OB X).1 := ⟨_, rfl⟩
        obtain ⟨OO, hOO⟩ : ∃ OO, OO = (kindOf OB X).2 := ⟨_, rfl⟩
        rw [← hKK] at g1
        rw [← hOO] at g2
        have HKK := hide hKK
        have HOO := hide hOO
        simp only at g0
        clear hz hx hX hAA hNN hAl hKK hOO
        go_wp2
        go_loop [11, 12, 13] (fun kd of i => ∃ m : Nat, m ≤ OB.length ∧ i = .int .i64 m ∧ kd = .int .i64 (kindTo OB X m).1 ∧ of = .int .i64 (kindTo OB X m).2) (fun _ _ i => OB.length - (intOf i).toNat)
        case atStart => exact ⟨0, by omega, rfl, rfl, rfl⟩
        case round =>
          obtain ⟨m, hm, rfl, rfl, rfl⟩ := hrel
          by_cases hml : m < OB.length
          · obtain ⟨x, hx⟩ : ∃ x, OB[m]? = some x := ⟨_, List.getElem?_eq_getElem hml⟩
            obtain ⟨hoa, o0, o1, o3⟩ := unhide HOP m x hx
            subst hoa
            have hm0 : (0 : Int) ≤ (m : Int) := by omega
            have hm1 : (m : Int) < (OB.length : Int) := by omega
            by_cases hid : x.id = X
            · have hi1 : (x.id == X) = true := by simpa using hid
              have HKS := hide ((kindTo_succ (id := X) hx).trans (if_pos hid))
              generalize x.id = XI at o0 hi1 hid
              generalize hxk : x.kind = XK at o1 HKS
              generalize hxo : x.offset = XO at o3 HKS
              clear hx hid hxk hxo
              go_wp2
              go_round
              case rel => exact ⟨m + 1, by omega, by go_num, by rw [unhide HKS], by rw [unhide HKS]⟩
              case measure => simp [intOf]; omega
            · have hi1 : (x.id == X) = false := by simpa using hid
              have HKS := hide ((kindTo_succ (id := X) hx).trans (if_neg hid))
              generalize x.id = XI at o0 hi1 hid
              clear hx hid o1 o3
              go_wp2
              go_round
              case rel => exact ⟨m + 1, by omega, by go_num, by rw [unhide HKS], by rw [unhide HKS]⟩
              case measure => simp [intOf]; omega
          · have hme : m = OB.length := by omega
            subst hme
            have HK2 := hide (show (kindTo OB X OB.length).1 = KK from (unhide HKK).symm)
            have HO2 := hide (show (kindTo OB X OB.length).2 = OO from (unhide HOO).symm)
            rw [unhide HK2, unhide HO2]
            clear HKK HOO HK2 HO2
            go_wp2
            go_round
            case rel => exact ⟨j + 1, by omega, by go_num, by rw [unhide HE]; go_num⟩
            case measure => simp [intOf]; omega
    · have hje : j = 8 := by omega
      subst hje
      rw [unhide HFN]
      go_wp2
      go_ret
      exact ⟨rfl, unhide HB1⟩
end Go.Proofs.YtkokiefclmbgaaaGreatDoor
