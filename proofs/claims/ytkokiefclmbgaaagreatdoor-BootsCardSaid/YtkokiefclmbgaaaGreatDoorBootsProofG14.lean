import Derived.Test.YtkokiefclmbgaaaGreatDoorBootsProofG09
import Derived.Test.YtkokiefclmbgaaaGreatDoorBootsProofG11
import Derived.Test.YtkokiefclmbgaaaGreatDoorBootsProofG02
import Derived.Deep.OwnRows
import Derived.WalkKit
import Derived.ChangeKeysEq
import Derived.Laws.StructEq
import Derived.Test.YtkokiefclmbgaaaGreatDoorBootsProofG01
import Derived.Deep.QuietTactic
import Derived.BigQuiet
import Derived.Deep.MidRow
import Derived.Great.BuildSlice
/- Stack: closed facts on great zero values; pages as cells. -/
namespace Go.Proofs.YtkokiefclmbgaaaGreatDoor
open Go.RowKit
set_option linter.unusedVariables false
set_option linter.unusedSimpArgs false
theorem wrap_small (n : Int) (h0 : 0 ≤ n) (h1 : n < 1000000) : IntKind.i64.wrap n = n := by
  simp [IntKind.wrap, IntKind.bits, IntKind.signed]; split <;> omega
theorem u64info : (Tryz.prog.info? 74).map (fun i => (i.zero, i.size, i.bytes)) = some (some (.int .u64 0), 1, 8) := by kernel_rfl
theorem u8size : (Tryz.prog.info? 5).map (·.size) = some 1 := by kernel_rfl
def zeroWords (n : Nat) : Array Value := (wordsRow (List.replicate n 0)).toArray
theorem made_zero (n : Nat) : madeCells #[.int .u64 0] n = zeroWords n := by
  unfold madeCells zeroWords wordsRow
  apply Array.ext
  · simp
  · intro i h1 h2
    simp [Nat.mod_one]
theorem zeroWords_get (n j : Nat) (h : j < n) : (zeroWords n)[j]? = some (.int .u64 0) := by
  simp [zeroWords, wordsRow, h]
theorem zeroWords_head (n : Nat) (x : Int) : (zeroWords (n + 1)).setIfInBounds 0 (.int .u64 x) = (wordsRow (x :: List.replicate n 0)).toArray := by
  apply Array.ext'
  simp [zeroWords, wordsRow, List.replicate_succ]

theorem room_step {ss : List ByteArray} {k : Nat} (h : k < ss.length) : room (ss.drop k) = splice (room (ss.drop (k + 1))) (512 - total (ss.drop k)) (strInts (ss.getD k ByteArray.empty)) := by
  rw [drop_cons h, room]
theorem total_step {ss : List ByteArray} {k : Nat} (h : k < ss.length) : total (ss.drop k) = (ss.getD k ByteArray.empty).size + 1 + total (ss.drop (k + 1)) := by
  rw [drop_cons h, total]
theorem byteCells_ints (s : ByteArray) : Lib.byteCells s.data.toList = bytesRow (strInts s) := by
  simp [Lib.byteCells, bytesRow, strInts]

/-- The pages while they are filled out of R. -/
def pagesTo (R : List Int) : Nat → List Value
  | 0 => pageRow 0 0 zero256 ++ pageRow 0 0 zero256
  | 1 => pageRow 254 6 (R.take 256) ++ pageRow 0 0 zero256
  | _ => pageRow 254 6 (R.take 256) ++ pageRow 255 6 (R.drop 256)
theorem pageRow_length (a b : Int) (L : List Int) : (pageRow a b L).length = L.length + 2 := by simp [pageRow, bytesRow_length]


theorem splice_page (pre Z post xs : List Value) (a b x y : Value) (hz : Z.length = xs.length) :
    splice (((pre ++ (a :: b :: (Z ++ post))).set pre.length x).set (pre.length + 1) y) (pre.length + 2) xs = pre ++ (x :: y :: (xs ++ post)) := by
  have e1 : (pre ++ (a :: b :: (Z ++ post))).set pre.length x = pre ++ (x :: b :: (Z ++ post)) := by
    rw [List.set_append_right _ _ (Nat.le_refl _)]; simp
  have e2 : (pre ++ (x :: b :: (Z ++ post))).set (pre.length + 1) y = pre ++ (x :: y :: (Z ++ post)) := by
    rw [List.set_append_right _ _ (by omega)]; simp
  rw [e1, e2]
  unfold splice
  have e3 : (pre ++ (x :: y :: (Z ++ post))).take (pre.length + 2) = pre ++ [x, y] := by
    rw [List.take_append, List.take_of_length_le (by omega)]; simp
  have e4 : (pre ++ (x :: y :: (Z ++ post))).drop (pre.length + 2 + xs.length) = post := by
    rw [List.drop_append, List.drop_of_length_le (by omega), show pre.length + 2 + xs.length - pre.length = xs.length + 2 from by omega]
    simp [← hz]
  rw [e3, e4]; simp
theorem pages_step0 (R : List Int) (hR : R.length = 512) :
    splice (((pagesTo R 0).set 0 (.int .i64 254)).set 1 (.int .u8 6)) 2 (bytesRow (R.take 256)) = pagesTo R 1 := by
  have := splice_page [] (bytesRow zero256) (pageRow 0 0 zero256) (bytesRow (R.take 256)) (.int .i64 0) (.int .u8 0) (.int .i64 254) (.int .u8 6) (by rw [bytesRow_length, bytesRow_length, zero256_length]; simp [hR])
  simpa [pagesTo, pageRow] using this
theorem pages_step1 (R : List Int) (hR : R.length = 512) :
    splice (((pagesTo R 1).set 258 (.int .i64 255)).set 259 (.int .u8 6)) 260 (bytesRow (R.drop 256)) = pagesTo R 2 := by
  have hl : (pageRow 254 6 (R.take 256)).length = 258 := by rw [pageRow_length]; simp [hR]
  have := splice_page (pageRow 254 6 (R.take 256)) (bytesRow zero256) [] (bytesRow (R.drop 256)) (.int .i64 0) (.int .u8 0) (.int .i64 255) (.int .u8 6) (by rw [bytesRow_length, bytesRow_length, zero256_length]; simp [hR])
  rw [hl] at this
  simpa [pagesTo, pageRow] using this
theorem pagesTo_length (R : List Int) (hR : R.length = 512) (k : Nat) : (pagesTo R k).length = 516 := by
  match k with
  | 0 => simp only [pagesTo, List.length_append, pageRow_length, zero256_length]
  | 1 => simp only [pagesTo, List.length_append, pageRow_length, zero256_length, List.length_take, hR]; rfl
  | (k + 2) => simp only [pagesTo, List.length_append, pageRow_length, List.length_take, List.length_drop, hR]; rfl
theorem bytesRow_one (L : List Int) : ∀ v ∈ bytesRow L, v.oneCell' = true := by
  intro v hv
  obtain ⟨x, _, rfl⟩ := List.mem_map.1 hv
  rfl
theorem stackRoom_length {ss : List ByteArray} (h : okArgs ss = true) : (stackRoom ss).length = 512 := by
  have ht : total ss ≤ 248 := by have := total_drop_le h 0; simpa using this
  have h8 := (ok_all h).1
  have hl := room_length ss (by omega)
  rw [stackRoom, splice_length _ _ _ (by rw [words8_length, heads_length, hl, spOff]; omega), hl]
theorem src0 {W : World} {g : Nat} {R : List Int} (h : Hid (Holds W g 218 (bytesRow R))) : ∀ j v, (bytesRow (R.take 256))[j]? = some v → W.drew.cell? ⟨g, 0 + j, none⟩ = some v := by
  intro j v hv
  refine ((unhide h).heap (W' := W.drew) rfl).cell ?_
  simp only [bytesRow, List.map_take, List.getElem?_take, Nat.zero_add] at hv ⊢
  split at hv
  · exact hv
  · cases hv
theorem src1 {W : World} {g : Nat} {R : List Int} (h : Hid (Holds W g 218 (bytesRow R))) : ∀ j v, (bytesRow (R.drop 256))[j]? = some v → W.drew.cell? ⟨g, 256 + j, none⟩ = some v := by
  intro j v hv
  refine ((unhide h).heap (W' := W.drew) rfl).cell ?_
  simpa only [bytesRow, List.map_drop, List.getElem?_drop] using hv

end Go.Proofs.YtkokiefclmbgaaaGreatDoor

/- '==' and '!=' of two arrays of one integer kind, whatever their length. -/
namespace Go.Proofs.YtkokiefclmbgaaaGreatDoor
open Go Go.RowKit
section
variable {P : Program} (w : World)
theorem all_range_ints : ∀ (xs ys : List Int), xs.length = ys.length → ((List.range xs.length).all fun i => xs.getD i 0 == ys.getD i 0) = (xs == ys)
  | [], [], _ => rfl
  | x :: xs, y :: ys, h => by
    have ih := all_range_ints xs ys (by simpa using h)
    rw [List.length_cons, List.range_succ_eq_map, List.all_cons, List.all_map]
    simp only [List.getD_cons_zero, Function.comp_def, List.getD_cons_succ, ih]
    simp [List.cons_beq_cons]
  | [], _ :: _, h => by simp at h
  | _ :: _, [], h => by simp at h
theorem run_equalIn_ints (d : Nat) (t e : TypeId) (n : Nat) (k : IntKind) (ht : P.underlying t = some (.array n e)) (he : P.underlying e = some (.int k)) (hsz : ∀ w, (sizeOf e).run P w = .ok 1 w)
    (xs ys : List Int) (hx : xs.length = n) (hy : ys.length = n) :
    (Op.equalIn (d + 2) t (.agg (xs.map (Value.int k)).toArray) (.agg (ys.map (Value.int k)).toArray)).run P w = .ok (xs == ys) w := by
  rw [← all_range_ints xs ys (hx.trans hy.symm), hx, List.range_eq_range', Op.equalIn]
  simp only [Sem.run_bind, run_underlying ht, Result.andThen_ok, hsz, Std.Legacy.Range.forIn_eq_forIn_range', Std.Legacy.Range.size, Nat.sub_zero, Nat.add_sub_cancel, Nat.div_one]
  have hl : ∀ i ∈ List.range' 0 n 1, i < n := fun i hi => by simpa using (List.mem_range'_1.1 hi).2
  generalize List.range' 0 n 1 = l at hl ⊢
  induction l with
  | nil => simp
  | cons i l ih =>
    have hi : i < n := hl i (by simp)
    have px : (part e (xs.map (Value.int k)).toArray (i * 1)).run P w = .ok (.int k (xs.getD i 0)) w := by
      simp [part, isAgg, run_underlying he, List.getD, List.getElem?_eq_getElem (show i < xs.length by omega)]
    have py : (part e (ys.map (Value.int k)).toArray (i * 1)).run P w = .ok (.int k (ys.getD i 0)) w := by
      simp [part, isAgg, run_underlying he, List.getD, List.getElem?_eq_getElem (show i < ys.length by omega)]
    have pe : (Op.equalIn (d + 1) e (.int k (xs.getD i 0)) (.int k (ys.getD i 0))).run P w = .ok (xs.getD i 0 == ys.getD i 0) w := run_equalIn_int w d e k k _ _ he
    simp only [List.forIn_cons, Sem.run_bind, px, py, pe, Result.andThen_ok, List.all_cons]
    cases hb : (xs.getD i 0 == ys.getD i 0)
    · simp
    · simp only [Bool.not_true, Bool.false_eq_true, if_false, Sem.run_pure, Result.andThen_ok, Bool.true_and]
      exact ih fun j hj => hl j (by simp [hj])
theorem run_neq_ints (t e : TypeId) (n : Nat) (k : IntKind) (ht : P.underlying t = some (.array n e)) (he : P.underlying e = some (.int k)) (hsz : ∀ w, (sizeOf e).run P w = .ok 1 w)
    (xs ys : List Int) (hx : xs.length = n) (hy : ys.length = n) :
    (binOp .neq t (.agg (xs.map (Value.int k)).toArray) (.agg (ys.map (Value.int k)).toArray)).run P w = .ok (.bool (!(xs == ys))) w := by
  rw [run_neq_struct, run_equalIn_ints w 9998 t e n k ht he hsz xs ys hx hy]
  rfl
end
end Go.Proofs.YtkokiefclmbgaaaGreatDoor

/- samePages: of pages that are the same. -/
namespace Go.Proofs.YtkokiefclmbgaaaGreatDoor
open Go.RowKit
set_option linter.unusedVariables false
set_option linter.unusedSimpArgs false
/-- A whole array loaded, in a region that only reads. -/
theorem wpQuiet_load {P : Program} {ops : Array Oper} {C : World → Prop} {Q : Act → Prop} {a : Act} {o : Oper} {rest : List Oper} (hw : Region.wanted o (yielded ops a.tmps) = true) (ty : TypeId) (x : Operand) (ho : o.op = .load ty x)
    (b off : Nat) (hx : a.eval x = .pointer (some ⟨b, off, none⟩)) (cs : List Value) (d : TypeDesc) (hc : ∀ w, C w → w.rangeAt b off cs) (hu : P.underlying ty = some d) (hd : d.isRow = true) (hi : (P.info? ty).map (·.size) = some cs.length)
    (h : wpQuiet P ops C Q rest (a.put o.dst (.agg cs.toArray))) : wpQuiet P ops C Q (o :: rest) a := by
  unfold wpQuiet
  rw [if_pos hw]
  refine ⟨.agg cs.toArray, fun w hC => ?_, h⟩
  unfold Oper.quietAt execOp
  simp only [ho, hx, Instr.loadAt, Instr.sureAddr, Sem.run_bind, Sem.run_pure, Result.andThen_ok, run_loadVar_mid w b off ty cs d (hc w hC) hu hd hi]
  exact ⟨rfl, rfl⟩
theorem range_drewN {w : World} {b o : Nat} {cs : List Value} (h : w.rangeAt b o cs) : ∀ w', (∃ n, w' = w.drewN n) → w'.rangeAt b o cs := by
  rintro w' ⟨n, rfl⟩ j v hv
  rw [World.cell?_drewN]
  exact h j v hv
theorem wrap_perm (n : Int) (h0 : 0 ≤ n) (h1 : n ≤ 255) : IntKind.i64.wrap n = n := by
  simp [IntKind.wrap, IntKind.bits, IntKind.signed]; split <;> omega
theorem arr256Size : (Tryz.prog.info? 85).map (·.size) = some 256 := by kernel_rfl
theorem eq256 (L : List Int) (h : L.length = 256) (w : World) : (Op.equalIn 10000 85 (.agg (bytesRow L).toArray) (.agg (bytesRow L).toArray)).run Tryz.prog w = .ok true w := by
  have := run_equalIn_ints (P := Tryz.prog) w 9998 85 5 256 .u8 Tryz.underlying85 Tryz.underlying5 (fun _ => by kernel_rfl) L L h h
  simpa [bytesRow] using this
/-- A page: its number, what may be done, its bytes. -/
structure Pg where
  num : Int
  perm : Int
  bytes : List Int
/-- The pages at block g, as package api has them. -/
def ApiAt (w : World) (g : Nat) (PS : List Pg) : Prop := ∀ i p, PS[i]? = some p → w.cell? ⟨g, i * 258, none⟩ = some (.int .i64 p.num) ∧ w.cell? ⟨g, i * 258 + 1, none⟩ = some (.int .u8 p.perm) ∧ w.rangeAt g (i * 258 + 2) (bytesRow p.bytes)
/-- The pages at block g, as the document's answer has them. -/
def RefAt (w : World) (g : Nat) (PS : List Pg) : Prop := ∀ i p, PS[i]? = some p → w.cell? ⟨g, i * 258, none⟩ = some (.int .i64 p.num) ∧ w.cell? ⟨g, i * 258 + 1, none⟩ = some (.int .i64 p.perm) ∧ w.rangeAt g (i * 258 + 2) (bytesRow p.bytes)

set_option maxRecDepth 100000 in
set_option maxHeartbeats 1000000 in
theorem samePages_any (aa ab : Option Addr) (ga gb ca cb : Nat) (PS : List Pg) (w : World) (ha : 0 < PS.length → aa = some ⟨ga, 0, none⟩) (hb : 0 < PS.length → ab = some ⟨gb, 0, none⟩)
    (hA : ApiAt w ga PS) (hB : RefAt w gb PS) (hp : ∀ p ∈ PS, 0 ≤ p.perm ∧ p.perm ≤ 255 ∧ p.bytes.length = 256) (hn : PS.length ≤ 100000) :
    Calls Tryz.prog 32 #[.slice aa PS.length ca, .slice ab PS.length cb] w fun e w' => e = .returned (.bool true) ∧ w'.heap = w.heap ∧ Below w.heap.size w w' := by
  have HA := hide hA
  have HB := hide hB
  have HP := hide hp
  have HA1 := hide ha
  have HB1 := hide hb
  clear hA hB hp ha hb
  go_enter Tryz.func32, Tryz.ntmps32
  go_wp2
  go_loopw [5] (fun i wr => ∃ k : Nat, k ≤ PS.length ∧ i = .int .i64 k ∧ wr.heap = w.heap ∧ Below w.heap.size w wr) (fun i _ => PS.length - (intOf i).toNat)
  case atStart => exact ⟨0, by omega, rfl, rfl, Below.refl _ _⟩
  case round =>
    obtain ⟨k, hk, rfl, hh, hbl⟩ := hrel
    have HH := hide hh
    have HBL := hide hbl
    clear hh hbl
    by_cases hlt : k < PS.length
    · have e1 := (unhide HA1) (by omega)
      have e2 := (unhide HB1) (by omega)
      subst e1 e2
      obtain ⟨p, hpk⟩ : ∃ p, PS[k]? = some p := ⟨_, List.getElem?_eq_getElem hlt⟩
      have hcells : ∀ a, wr.cell? a = w.cell? a := fun a => by unfold World.cell?; rw [unhide HH]
      have hpb := (unhide HP) p (List.mem_of_getElem? hpk)
      obtain ⟨a1, a2, a3⟩ := (unhide HA) k p hpk
      obtain ⟨b1, b2, b3⟩ := (unhide HB) k p hpk
      obtain ⟨num, perm, bytes⟩ := p
      simp only at a1 a2 a3 b1 b2 b3 hpb
      rw [← hcells] at a1 a2 b1 b2
      have a3' : wr.rangeAt ga (k * 258 + 2) (bytesRow bytes) := fun j v hv => by rw [hcells]; exact a3 j v hv
      have b3' : wr.rangeAt gb (k * 258 + 2) (bytesRow bytes) := fun j v hv => by rw [hcells]; exact b3 j v hv
      obtain ⟨p0, p1, p2⟩ := hpb
      have hq := eq256 bytes p2
      have hu := Tryz.underlying85
      obtain ⟨cs, hcs⟩ : ∃ cs, cs = bytesRow bytes := ⟨_, rfl⟩
      have hl : cs.length = 256 := by rw [hcs, bytesRow_length, p2]
      have hi : (Tryz.prog.info? 85).map (·.size) = some cs.length := by rw [arr256Size, hl]
      have h1 : ∀ v ∈ cs, v.oneCell' = true := by rw [hcs]; intro v hv; obtain ⟨x, _, rfl⟩ := List.mem_map.1 hv; rfl
      obtain ⟨ds, hds⟩ : ∃ ds, ds = bytesRow bytes := ⟨_, rfl⟩
      have hld : ds.length = 256 := by rw [hds, bytesRow_length, p2]
      have hid : (Tryz.prog.info? 85).map (·.size) = some ds.length := by rw [arr256Size, hld]
      have h2 : ∀ v ∈ ds, v.oneCell' = true := by rw [hds, ← hcs]; exact h1
      have hq : ∀ w, (Op.equalIn 10000 85 (.agg cs.toArray) (.agg ds.toArray)).run Tryz.prog w = .ok true w := by rw [hcs, hds]; exact hq
      rw [← hcs] at a3'
      rw [← hds] at b3'
      have hwp := wrap_perm perm p0 p1
      have hk0 : (0 : Int) ≤ (k : Int) := by omega
      have hk1 : (k : Int) < (PS.length : Int) := by omega
      clear hcs hds a3 b3 hcells hpk p2
      go_wp2_with fail
      have HRA := hide a3'
      have HRB := hide b3'
      clear a3' b3'
      refine wp_region_quiet_lit (by kernel_rfl) (by kernel_rfl) ?_
      repeat (first | (refine wpQuiet_load (by rfl) 85 _ rfl ga (k * 258 + 2) (by rfl) cs _ (range_drewN (unhide HRA)) hu rfl hi ?_; simp only [Act.put, List.setIfInBounds_toArray, List.set_cons_succ, List.set_cons_zero]) | (refine wpQuiet_load (by rfl) 85 _ rfl gb (k * 258 + 2) (by rfl) ds _ (range_drewN (unhide HRB)) hu rfl hid ?_; simp only [Act.put, List.setIfInBounds_toArray, List.set_cons_succ, List.set_cons_zero]) | go_big_quiet_step (fail))
      refine wpQuiet_nil ?_
      intro _ hw'
      obtain ⟨nq, hw''⟩ := hw'
      subst hw''
      go_wp2
      go_roundw
      case rel => exact ⟨k + 1, by omega, by go_num, unhide HH, ⟨(unhide HBL).os, (unhide HBL).tape, (unhide HBL).output, (unhide HBL).size, (unhide HBL).block⟩⟩
      case measure => simp [intOf]; omega
    · go_wp2
      go_ret
      exact ⟨rfl, unhide HH, unhide HBL⟩
end Go.Proofs.YtkokiefclmbgaaaGreatDoor

/- A great struct built, and a slice of one great element: the cells behind a name. -/
namespace Go.Proofs.YtkokiefclmbgaaaGreatDoor
open Go Go.RowKit
theorem wpList_build_big {P : Program} {ops : Array Oper} {rest : List Oper} {op : Oper} {a : Act} {w : World} {Q : Exit → Act → World → Prop} (hgd : op.guard = none) (ty : TypeId) (parts : Array (Nat × Operand)) (ho : op.op = .build ty parts)
    (vals : Array (Nat × Value)) (hv : (parts.map fun (i, x) => (i, a.eval x)) = vals) (v : Value) (hrun : ∀ w, (Instr.build ty vals).run P w = .ok v w)
    (h : wpList P ops Q rest (a.put op.dst v) w) : wpList P ops Q (op :: rest) a w :=
  wpList_plain hgd fun _ hK => by
    unfold Oper.wp execOp
    simp only [ho]
    rw [hv]
    simp [hrun, Result.andThen]
    exact hK _ _ h
theorem wpList_slice1 {P : Program} {ops : Array Oper} {rest : List Oper} {op : Oper} {a : Act} {w : World} {Q : Exit → Act → World → Prop} (hgd : op.guard = none) (t e : TypeId) (x : Operand) (ho : op.op = .buildSlice t 1 #[(0, x)])
    (cs : List Value) (hx : a.eval x = .agg cs.toArray) (ie : TypeInfo) (z : Value) (hu : P.underlying t = some (.slice e)) (hie : P.info? e = some ie) (hz : ie.zero = some z) (hs : ie.size = cs.length) (h0 : 0 < cs.length) (h24 : cs.length ≤ 2 ^ 24)
    (h : wpList P ops Q rest (a.put op.dst (.slice (some ⟨w.heap.size, 0, none⟩) 1 1)) (w.alloc (.cells cs.toArray e))) : wpList P ops Q (op :: rest) a w := by
  refine wpList_buildSlice hgd t e 1 #[(0, x)] ho cs.toArray ie z hu hie hz (by rw [hs]; omega) (by rw [hs]; omega) ?_ h
  have := Great.fill_whole (s := ie.size) (by rw [hs]; exact h0) [.agg cs.toArray] ((Array.range (1 * ie.size)).map (z.cells[· % z.cells.size]!)) (by simp [Value.cells, hs]) (by simp)
  simpa [hx, Value.cells] using this
theorem Holds.range {W : World} {b : Nat} {t : TypeId} {vs : List Value} (h : Holds W b t vs) : W.rangeAt b 0 vs := fun j v hv => by rw [Nat.zero_add]; exact h.cell hv
theorem Holds.there {W : World} {b : Nat} {t : TypeId} {vs : List Value} (h : Holds W b t vs) (n : Nat) (hn : n ≤ vs.length) : W.there b 0 n := fun j hj => by
  rw [Nat.zero_add]
  exact ⟨by rw [h.cell (List.getElem?_eq_getElem (show j < vs.length by omega))]; rfl, h.frozen j⟩
theorem splice_all {α : Type} (L cs : List α) (h : cs.length = L.length) : splice L 0 cs = cs := by simp [splice, h]
theorem holds_setRow {W : World} {g : Nat} {t : TypeId} {vs : List Value} (h : Holds W g t vs) (cs : List Value) : Holds (W.setRow g cs.toArray) g t cs := by
  unfold Holds at h ⊢
  exact setRow_heap W g _ _ t _ h
end Go.Proofs.YtkokiefclmbgaaaGreatDoor

/- Stack: closed facts on the document's pages. -/
namespace Go.Proofs.YtkokiefclmbgaaaGreatDoor
open Go.RowKit
/-- A page of the document's answer as cells. -/
def refPage (num perm : Int) (bytes : List Int) : List Value := .int .i64 num :: .int .i64 perm :: bytesRow bytes
theorem refPage_length (a b : Int) (L : List Int) : (refPage a b L).length = L.length + 2 := by simp [refPage, bytesRow_length]
set_option maxRecDepth 100000 in
theorem buildPage (n : Int) (w : World) : (Instr.build 155 #[(0, .int .i64 n), (1, .int .i64 6)]).run Tryz.prog w = .ok (.agg (refPage n 6 zero256).toArray) w := by kernel_rfl
set_option maxRecDepth 100000 in
theorem allocPage (old : Value) (w : World) : (Instr.alloc 155 true old).run Tryz.prog w = .ok (.pointer (some ⟨w.heap.size, 0, none⟩)) (w.alloc (.cells (refPage 0 0 zero256).toArray 155)) := by kernel_rfl
set_option maxRecDepth 100000 in
theorem pageInfo : (Tryz.prog.info? 155).map (fun i => (i.zero, i.size, i.bytes)) = some (some (.agg (refPage 0 0 zero256).toArray), 258, 272) := by kernel_rfl
theorem pageSize : (Tryz.prog.info? 155).map (·.size) = some 258 := by kernel_rfl
theorem refPage_one (a b : Int) (L : List Int) : ∀ v ∈ refPage a b L, v.oneCell' = true := by
  intro v hv
  simp only [refPage, List.mem_cons] at hv
  rcases hv with rfl | rfl | hv
  · rfl
  · rfl
  · obtain ⟨x, _, rfl⟩ := List.mem_map.1 hv
    rfl
theorem refPage_splice (n : Int) (Z xs : List Int) (h : Z.length = xs.length) : splice (refPage n 6 Z) 2 (bytesRow xs) = refPage n 6 xs := by
  unfold splice refPage
  have e : (bytesRow Z).drop (bytesRow xs).length = [] := List.drop_eq_nil_of_le (by rw [bytesRow_length, bytesRow_length]; omega)
  simp only [List.take_succ_cons, List.take_zero, Nat.add_comm 2, List.drop_succ_cons, e, List.append_nil]
  rfl
/-- The document's pages while they are filled out of R. -/
def refPagesTo (R : List Int) : Nat → List Value
  | 0 => []
  | 1 => refPage 254 6 (R.take 256)
  | _ => refPage 254 6 (R.take 256) ++ refPage 255 6 (R.drop 256)
theorem grown_row {w : World} {g : Nat} (cs : Array Value) : w.grownBy (w.setRow g cs) (some g) :=
  ⟨rfl, rfl, rfl, by simp [World.setRow], fun k hk hne => setRow_other w g k cs (fun e => hne (by simp [e]))⟩
/-- A whole row stored: the world behind it by a name. -/
theorem wpList_store_hold {P : Program} {ops : Array Oper} {rest : List Oper} {o : Oper} {a : Act} {w : World} {Q : Exit → Act → World → Prop} (hgd : o.guard = none) (ty : TypeId) (x y : Operand) (ho : o.op = .store ty x y)
    (g : Nat) (cs : List Value) (hx : a.eval x = .pointer (some ⟨g, 0, none⟩)) (hy : a.eval y = .agg cs.toArray)
    (t : TypeId) (old : List Value) (hg : Holds w g t old) (hi : (P.info? ty).map (·.size) = some cs.length) (hold : old.length = cs.length) (h1 : ∀ v ∈ cs, v.oneCell' = true)
    (h : ∀ w', Hid (Holds w' g t cs) → w.grownBy w' (some g) → wpList P ops Q rest (a.put o.dst undef) w') : wpList P ops Q (o :: rest) a w := by
  refine wpList_store_row hgd ty x y ho g cs.toArray hx hy t old.toArray hg (by simpa using hi) (by simpa using hold) (all_oneCell_toArray h1) ?_
  exact h _ (holds_setRow hg cs) (grown_row _)
end Go.Proofs.YtkokiefclmbgaaaGreatDoor

/- Stack: more on what the pages hold. -/
namespace Go.Proofs.YtkokiefclmbgaaaGreatDoor
open Go.RowKit
def intsRow (L : List Int) : List Value := L.map (Value.int .i64)
theorem intsRow_length (L : List Int) : (intsRow L).length = L.length := by simp [intsRow]
theorem room_low : ∀ ss, total ss ≤ 512 → ∀ j, j < 512 - total ss → (room ss)[j]? = some 0
  | [], _, j, hj => by
    unfold room zeroRoom
    rw [List.getElem?_replicate]
    simp [total] at hj
    simp [hj]
  | s :: r, h, j, hj => by
    have hr : total r ≤ 512 := by unfold total at h; omega
    unfold room
    have hl : 512 - total (s :: r) + (strInts s).length ≤ (room r).length := by rw [room_length r hr, strInts_length]; unfold total at h ⊢; omega
    rw [splice_get _ _ _ hl, if_pos hj]
    exact room_low r hr j (by unfold total at hj; omega)
theorem splice_zero_ext (L : List Int) (off : Nat) (xs : List Int) (m : Nat) (hl : off + xs.length + m ≤ L.length) (h : ∀ j, off + xs.length ≤ j → j < off + xs.length + m → L[j]? = some 0) :
    splice L off (xs ++ List.replicate m 0) = splice L off xs := by
  apply List.ext_getElem?
  intro j
  rw [splice_get _ _ _ (by simp; omega), splice_get _ _ _ (by omega)]
  simp only [List.length_append, List.length_replicate]
  by_cases a : j < off
  · simp [a]
  · by_cases c : j < off + xs.length
    · rw [if_neg a, if_pos (by omega), if_neg a, if_pos c, List.getElem?_append_left (by omega)]
    · by_cases d : j < off + xs.length + m
      · rw [if_neg a, if_pos (by omega), if_neg a, if_neg c, List.getElem?_append_right (by omega), List.getElem?_replicate, if_pos (by omega), h j (by omega) d]
      · rw [if_neg a, if_neg (by omega), if_neg a, if_neg c]
theorem words8_append (xs ys : List Int) : words8 (xs ++ ys) = words8 xs ++ words8 ys := by simp [words8]
theorem words8_one (x : Int) : words8 [x] = bytes8 x := by simp [words8]
theorem bytes8_zero : bytes8 0 = List.replicate 8 0 := by decide
theorem heads_take_last (ss : List ByteArray) : (heads ss).take (ss.length + 1) = ((ss.length : Nat) : Int) :: addrs ss := by
  unfold heads
  rw [List.take_succ_cons, List.take_append_of_le_length (by rw [addrs_length]; omega), List.take_of_length_le (by rw [addrs_length]; omega)]
theorem heads_eq (ss : List ByteArray) : heads ss = (heads ss).take (ss.length + 1) ++ [0] := by
  rw [heads_take_last]; simp [heads]
theorem heads_get (ss : List ByteArray) (k : Nat) (h : k < ss.length) : (heads ss)[k + 1]? = some ((addrs ss).getD k 0) := by
  unfold heads
  rw [List.getElem?_cons_succ, List.getElem?_append_left (by rw [addrs_length]; exact h)]
  simp [List.getD, List.getElem?_eq_getElem (show k < (addrs ss).length by rw [addrs_length]; exact h)]
theorem words8_take_succ (ws : List Int) (k : Nat) (x : Int) (h : ws[k]? = some x) : words8 (ws.take (k + 1)) = words8 (ws.take k) ++ bytes8 x := by
  obtain ⟨hk, e⟩ := List.getElem?_eq_some_iff.1 h
  rw [List.take_succ_eq_append_getElem hk, words8_append, e, words8_one]
theorem put_step (ss : List ByteArray) (X k : Nat) (h : k < ss.length) (hl : (room ss).length = 512) (hX : X + 8 * (ss.length + 2) ≤ 512) :
    splice (splice (room ss) X (words8 ((heads ss).take (k + 1)))) (0 + (X + 8 + 8 * k)) (bytes8 ((addrs ss).getD k 0)) = splice (room ss) X (words8 ((heads ss).take (k + 1 + 1))) := by
  have hw : (words8 ((heads ss).take (k + 1))).length = 8 * (k + 1) := by rw [words8_length, List.length_take, heads_length]; omega
  rw [words8_take_succ (heads ss) (k + 1) _ (heads_get ss k h), ← splice_splice _ _ _ _ (by rw [hw, bytes8_length, hl]; omega), hw]
  congr 1; omega
theorem put_last (ss : List ByteArray) (X : Nat) (hok : okArgs ss = true) (hX : X = spOff ss) : splice (room ss) X (words8 ((heads ss).take (ss.length + 1))) = stackRoom ss := by
  have ht : total ss ≤ 248 := by have := total_drop_le hok 0; simpa using this
  have h8 := (ok_all hok).1
  have hl := room_length ss (by omega)
  have hw : (words8 ((heads ss).take (ss.length + 1))).length = 8 * (ss.length + 1) := by rw [words8_length, List.length_take, heads_length]; omega
  have hs : X + 8 * (ss.length + 2) ≤ 512 - total ss := by rw [hX, spOff]; omega
  rw [stackRoom, ← hX]
  conv => rhs; rw [heads_eq ss, words8_append, words8_one, bytes8_zero]
  rw [splice_zero_ext _ _ _ _ (by rw [hw, hl]; omega) (fun j h1 h2 => room_low ss (by omega) j (by rw [hw] at h2; omega))]
theorem rev_get (ss : List ByteArray) (k : Nat) (h : k < ss.length) : (intsRow (addrs ss).reverse)[ss.length - 1 - k]? = some (.int .i64 ((addrs ss).getD k 0)) := by
  have hl := addrs_length ss
  unfold intsRow
  rw [List.getElem?_map, List.getElem?_reverse (by omega), hl, show ss.length - 1 - (ss.length - 1 - k) = k from by omega, List.getD, List.getElem?_eq_getElem (by omega)]
  rfl
theorem addrs_bd : ∀ (ss : List ByteArray) (k : Nat), k < ss.length → 0 ≤ (addrs ss).getD k 0 ∧ (addrs ss).getD k 0 ≤ 65536
  | [], k, h => by simp at h
  | s :: r, 0, h => by simp [addrs]; omega
  | s :: r, k + 1, h => by
    have := addrs_bd r k (by simpa using h)
    simpa [addrs] using this
end Go.Proofs.YtkokiefclmbgaaaGreatDoor
