import Derived.Test.YtkmbleboceedbaaGreatDoorBootsProofG09
import Derived.Test.YtkmbleboceedbaaGreatDoorBootsProofG05
import Derived.Deep.OwnRows
import Derived.WalkKit
import Derived.ChangeKeysEq
import Derived.Laws.StructEq
import Derived.Test.YtkmbleboceedbaaGreatDoorBootsProofG01
import Derived.Deep.QuietTactic
import Derived.BigQuiet
import Derived.Deep.MidRow
/- Stack: closed facts on great zero values; pages as cells. -/
namespace Go.Proofs.YtkmbleboceedbaaGreatDoor
open Go.RowKit
set_option linter.unusedVariables false
set_option linter.unusedSimpArgs false
theorem wrap_small (n : Int) (h0 : 0 ≤ n) (h1 : n < 1000000) : IntKind.i64.wrap n = n := by
  simp [IntKind.wrap, IntKind.bits, IntKind.signed]; split <;> omega
theorem u64info : (Tryz.prog.info? 74).map (fun i => (i.zero, i.size, i.bytes)) = some (some (.int .u64 0), 1, 8) := by kernel_rfl
theorem u8size : (Tryz.prog.info? 5).map (·.size) = some 1 := by kernel_rfl
def zeroWords (n : Nat) : Array Value := (wordsRow (List.replicate n 0)).toArray
theorem made_zero (n : Nat) : madeCells #[.int .u64 0] n = zeroWords n := by
  unfold madeCells zeroWords wordsRow
  apply Array.ext
  · simp
  · intro i h1 h2
    simp [Nat.mod_one]
theorem zeroWords_get (n j : Nat) (h : j < n) : (zeroWords n)[j]? = some (.int .u64 0) := by
  simp [zeroWords, wordsRow, h]
theorem zeroWords_head (n : Nat) (x : Int) : (zeroWords (n + 1)).setIfInBounds 0 (.int .u64 x) = (wordsRow (x :: List.replicate n 0)).toArray := by
  apply Array.ext'
  simp [zeroWords, wordsRow, List.replicate_succ]

theorem room_step {ss : List ByteArray} {k : Nat} (h : k < ss.length) : room (ss.drop k) = splice (room (ss.drop (k + 1))) (512 - total (ss.drop k)) (strInts (ss.getD k ByteArray.empty)) := by
  rw [drop_cons h, room]
theorem total_step {ss : List ByteArray} {k : Nat} (h : k < ss.length) : total (ss.drop k) = (ss.getD k ByteArray.empty).size + 1 + total (ss.drop (k + 1)) := by
  rw [drop_cons h, total]
theorem byteCells_ints (s : ByteArray) : Lib.byteCells s.data.toList = bytesRow (strInts s) := by
  simp [Lib.byteCells, bytesRow, strInts]

/-- The pages while they are filled out of R. -/
def pagesTo (R : List Int) : Nat → List Value
  | 0 => pageRow 0 0 zero256 ++ pageRow 0 0 zero256
  | 1 => pageRow 254 6 (R.take 256) ++ pageRow 0 0 zero256
  | _ => pageRow 254 6 (R.take 256) ++ pageRow 255 6 (R.drop 256)
theorem pageRow_length (a b : Int) (L : List Int) : (pageRow a b L).length = L.length + 2 := by simp [pageRow, bytesRow_length]


theorem splice_page (pre Z post xs : List Value) (a b x y : Value) (hz : Z.length = xs.length) :
    splice (((pre ++ (a :: b :: (Z ++ post))).set pre.length x).set (pre.length + 1) y) (pre.length + 2) xs = pre ++ (x :: y :: (xs ++ post)) := by
  have e1 : (pre ++ (a :: b :: (Z ++ post))).set pre.length x = pre ++ (x :: b :: (Z ++ post)) := by
    rw [List.set_append_right _ _ (Nat.le_refl _)]; simp
  have e2 : (pre ++ (x :: b :: (Z ++ post))).set (pre.length + 1) y = pre ++ (x :: y :: (Z ++ post)) := by
    rw [List.set_append_right _ _ (by omega)]; simp
  rw [e1, e2]
  unfold splice
  have e3 : (pre ++ (x :: y :: (Z ++ post))).take (pre.length + 2) = pre ++ [x, y] := by
    rw [List.take_append, List.take_of_length_le (by omega)]; simp
  have e4 : (pre ++ (x :: y :: (Z ++ post))).drop (pre.length + 2 + xs.length) = post := by
    rw [List.drop_append, List.drop_of_length_le (by omega), show pre.length + 2 + xs.length - pre.length = xs.length + 2 from by omega]
    simp [← hz]
  rw [e3, e4]; simp
theorem pages_step0 (R : List Int) (hR : R.length = 512) :
    splice (((pagesTo R 0).set 0 (.int .i64 254)).set 1 (.int .u8 6)) 2 (bytesRow (R.take 256)) = pagesTo R 1 := by
  have := splice_page [] (bytesRow zero256) (pageRow 0 0 zero256) (bytesRow (R.take 256)) (.int .i64 0) (.int .u8 0) (.int .i64 254) (.int .u8 6) (by rw [bytesRow_length, bytesRow_length, zero256_length]; simp [hR])
  simpa [pagesTo, pageRow] using this
theorem pages_step1 (R : List Int) (hR : R.length = 512) :
    splice (((pagesTo R 1).set 258 (.int .i64 255)).set 259 (.int .u8 6)) 260 (bytesRow (R.drop 256)) = pagesTo R 2 := by
  have hl : (pageRow 254 6 (R.take 256)).length = 258 := by rw [pageRow_length]; simp [hR]
  have := splice_page (pageRow 254 6 (R.take 256)) (bytesRow zero256) [] (bytesRow (R.drop 256)) (.int .i64 0) (.int .u8 0) (.int .i64 255) (.int .u8 6) (by rw [bytesRow_length, bytesRow_length, zero256_length]; simp [hR])
  rw [hl] at this
  simpa [pagesTo, pageRow] using this
theorem pagesTo_length (R : List Int) (hR : R.length = 512) (k : Nat) : (pagesTo R k).length = 516 := by
  match k with
  | 0 => simp only [pagesTo, List.length_append, pageRow_length, zero256_length]
  | 1 => simp only [pagesTo, List.length_append, pageRow_length, zero256_length, List.length_take, hR]; rfl
  | (k + 2) => simp only [pagesTo, List.length_append, pageRow_length, List.length_take, List.length_drop, hR]; rfl
theorem bytesRow_one (L : List Int) : ∀ v ∈ bytesRow L, v.oneCell' = true := by
  intro v hv
  obtain ⟨x, _, rfl⟩ := List.mem_map.1 hv
  rfl
theorem stackRoom_length {ss : List ByteArray} (h : okArgs ss = true) : (stackRoom ss).length = 512 := by
  have ht : total ss ≤ 248 := by have := total_drop_le h 0; simpa using this
  have h8 := (ok_all h).1
  have hl := room_length ss (by omega)
  rw [stackRoom, splice_length _ _ _ (by rw [words8_length, heads_length, hl, spOff]; omega), hl]
theorem src0 {W : World} {g : Nat} {R : List Int} (h : Hid (Holds W g 216 (bytesRow R))) : ∀ j v, (bytesRow (R.take 256))[j]? = some v → W.drew.cell? ⟨g, 0 + j, none⟩ = some v := by
  intro j v hv
  refine ((unhide h).heap (W' := W.drew) rfl).cell ?_
  simp only [bytesRow, List.map_take, List.getElem?_take, Nat.zero_add] at hv ⊢
  split at hv
  · exact hv
  · cases hv
theorem src1 {W : World} {g : Nat} {R : List Int} (h : Hid (Holds W g 216 (bytesRow R))) : ∀ j v, (bytesRow (R.drop 256))[j]? = some v → W.drew.cell? ⟨g, 256 + j, none⟩ = some v := by
  intro j v hv
  refine ((unhide h).heap (W' := W.drew) rfl).cell ?_
  simpa only [bytesRow, List.map_drop, List.getElem?_drop] using hv

end Go.Proofs.YtkmbleboceedbaaGreatDoor

/- '==' and '!=' of two arrays of one integer kind, whatever their length. -/
namespace Go.Proofs.YtkmbleboceedbaaGreatDoor
open Go Go.RowKit
section
variable {P : Program} (w : World)
theorem all_range_ints : ∀ (xs ys : List Int), xs.length = ys.length → ((List.range xs.length).all fun i => xs.getD i 0 == ys.getD i 0) = (xs == ys)
  | [], [], _ => rfl
  | x :: xs, y :: ys, h => by
    have ih := all_range_ints xs ys (by simpa using h)
    rw [List.length_cons, List.range_succ_eq_map, List.all_cons, List.all_map]
    simp only [List.getD_cons_zero, Function.comp_def, List.getD_cons_succ, ih]
    simp [List.cons_beq_cons]
  | [], _ :: _, h => by simp at h
  | _ :: _, [], h => by simp at h
theorem run_equalIn_ints (d : Nat) (t e : TypeId) (n : Nat) (k : IntKind) (ht : P.underlying t = some (.array n e)) (he : P.underlying e = some (.int k)) (hsz : ∀ w, (sizeOf e).run P w = .ok 1 w)
    (xs ys : List Int) (hx : xs.length = n) (hy : ys.length = n) :
    (Op.equalIn (d + 2) t (.agg (xs.map (Value.int k)).toArray) (.agg (ys.map (Value.int k)).toArray)).run P w = .ok (xs == ys) w := by
  rw [← all_range_ints xs ys (hx.trans hy.symm), hx, List.range_eq_range', Op.equalIn]
  simp only [Sem.run_bind, run_underlying ht, Result.andThen_ok, hsz, Std.Legacy.Range.forIn_eq_forIn_range', Std.Legacy.Range.size, Nat.sub_zero, Nat.add_sub_cancel, Nat.div_one]
  have hl : ∀ i ∈ List.range' 0 n 1, i < n := fun i hi => by simpa using (List.mem_range'_1.1 hi).2
  generalize List.range' 0 n 1 = l at hl ⊢
  induction l with
  | nil => simp
  | cons i l ih =>
    have hi : i < n := hl i (by simp)
    have px : (part e (xs.map (Value.int k)).toArray (i * 1)).run P w = .ok (.int k (xs.getD i 0)) w := by
      simp [part, isAgg, run_underlying he, List.getD, List.getElem?_eq_getElem (show i < xs.length by omega)]
    have py : (part e (ys.map (Value.int k)).toArray (i * 1)).run P w = .ok (.int k (ys.getD i 0)) w := by
      simp [part, isAgg, run_underlying he, List.getD, List.getElem?_eq_getElem (show i < ys.length by omega)]
    have pe : (Op.equalIn (d + 1) e (.int k (xs.getD i 0)) (.int k (ys.getD i 0))).run P w = .ok (xs.getD i 0 == ys.getD i 0) w := run_equalIn_int w d e k k _ _ he
    simp only [List.forIn_cons, Sem.run_bind, px, py, pe, Result.andThen_ok, List.all_cons]
    cases hb : (xs.getD i 0 == ys.getD i 0)
    · simp
    · simp only [Bool.not_true, Bool.false_eq_true, if_false, Sem.run_pure, Result.andThen_ok, Bool.true_and]
      exact ih fun j hj => hl j (by simp [hj])
theorem run_neq_ints (t e : TypeId) (n : Nat) (k : IntKind) (ht : P.underlying t = some (.array n e)) (he : P.underlying e = some (.int k)) (hsz : ∀ w, (sizeOf e).run P w = .ok 1 w)
    (xs ys : List Int) (hx : xs.length = n) (hy : ys.length = n) :
    (binOp .neq t (.agg (xs.map (Value.int k)).toArray) (.agg (ys.map (Value.int k)).toArray)).run P w = .ok (.bool (!(xs == ys))) w := by
  rw [run_neq_struct, run_equalIn_ints w 9998 t e n k ht he hsz xs ys hx hy]
  rfl
end
end Go.Proofs.YtkmbleboceedbaaGreatDoor

/- samePages: of pages that are the same. -/
namespace Go.Proofs.YtkmbleboceedbaaGreatDoor
open Go.RowKit
set_option linter.unusedVariables false
set_option linter.unusedSimpArgs false
/-- A whole array loaded, in a region that only reads. -/
theorem wpQuiet_load {P : Program} {ops : Array Oper} {C : World → Prop} {Q : Act → Prop} {a : Act} {o : Oper} {rest : List Oper} (hw : Region.wanted o (yielded ops a.tmps) = true) (ty : TypeId) (x : Operand) (ho : o.op = .load ty x)
    (b off : Nat) (hx : a.eval x = .pointer (some ⟨b, off, none⟩)) (cs : List Value) (d : TypeDesc) (hc : ∀ w, C w → w.rangeAt b off cs) (hu : P.underlying ty = some d) (hd : d.isRow = true) (hi : (P.info? ty).map (·.size) = some cs.length)
    (h : wpQuiet P ops C Q rest (a.put o.dst (.agg cs.toArray))) : wpQuiet P ops C Q (o :: rest) a := by
  unfold wpQuiet
  rw [if_pos hw]
  refine ⟨.agg cs.toArray, fun w hC => ?_, h⟩
  unfold Oper.quietAt execOp
  simp only [ho, hx, Instr.loadAt, Instr.sureAddr, Sem.run_bind, Sem.run_pure, Result.andThen_ok, run_loadVar_mid w b off ty cs d (hc w hC) hu hd hi]
  exact ⟨rfl, rfl⟩
theorem range_drewN {w : World} {b o : Nat} {cs : List Value} (h : w.rangeAt b o cs) : ∀ w', (∃ n, w' = w.drewN n) → w'.rangeAt b o cs := by
  rintro w' ⟨n, rfl⟩ j v hv
  rw [World.cell?_drewN]
  exact h j v hv
theorem wrap_perm (n : Int) (h0 : 0 ≤ n) (h1 : n ≤ 255) : IntKind.i64.wrap n = n := by
  simp [IntKind.wrap, IntKind.bits, IntKind.signed]; split <;> omega
theorem arr256Size : (Tryz.prog.info? 85).map (·.size) = some 256 := by kernel_rfl
theorem eq256 (L : List Int) (h : L.length = 256) (w : World) : (Op.equalIn 10000 85 (.agg (bytesRow L).toArray) (.agg (bytesRow L).toArray)).run Tryz.prog w = .ok true w := by
  have := run_equalIn_ints (P := Tryz.prog) w 9998 85 5 256 .u8 Tryz.underlying85 Tryz.underlying5 (fun _ => by kernel_rfl) L L h h
  simpa [bytesRow] using this
/-- A page: its number, what may be done, its bytes. -/
structure Pg where
  num : Int
  perm : Int
  bytes : List Int
/-- The pages at block g, as package api has them. -/
def ApiAt (w : World) (g : Nat) (PS : List Pg) : Prop := ∀ i p, PS[i]? = some p → w.cell? ⟨g, i * 258, none⟩ = some (.int .i64 p.num) ∧ w.cell? ⟨g, i * 258 + 1, none⟩ = some (.int .u8 p.perm) ∧ w.rangeAt g (i * 258 + 2) (bytesRow p.bytes)
/-- The pages at block g, as the document's answer has them. -/
def RefAt (w : World) (g : Nat) (PS : List Pg) : Prop := ∀ i p, PS[i]? = some p → w.cell? ⟨g, i * 258, none⟩ = some (.int .i64 p.num) ∧ w.cell? ⟨g, i * 258 + 1, none⟩ = some (.int .i64 p.perm) ∧ w.rangeAt g (i * 258 + 2) (bytesRow p.bytes)

set_option maxRecDepth 100000 in
set_option maxHeartbeats 1000000 in
theorem samePages_any (aa ab : Option Addr) (ga gb ca cb : Nat) (PS : List Pg) (w : World) (ha : 0 < PS.length → aa = some ⟨ga, 0, none⟩) (hb : 0 < PS.length → ab = some ⟨gb, 0, none⟩)
    (hA : ApiAt w ga PS) (hB : RefAt w gb PS) (hp : ∀ p ∈ PS, 0 ≤ p.perm ∧ p.perm ≤ 255 ∧ p.bytes.length = 256) (hn : PS.length ≤ 100000) :
    Calls Tryz.prog 32 #[.slice aa PS.length ca, .slice ab PS.length cb] w fun e w' => e = .returned (.bool true) ∧ w'.heap = w.heap ∧ Below w.heap.size w w' := by
  have HA := hide hA
  have HB := hide hB
  have HP := hide hp
  have HA1 := hide ha
  have HB1 := hide hb
  clear hA hB hp ha hb
  go_enter Tryz.func32, Tryz.ntmps32
  go_wp2
  go_loopw [5] (fun i wr => ∃ k : Nat, k ≤ PS.length ∧ i = .int .i64 k ∧ wr.heap = w.heap ∧ Below w.heap.size w wr) (fun i _ => PS.length - (intOf i).toNat)
  case atStart => exact ⟨0, by omega, rfl, rfl, Below.refl _ _⟩
  case round =>
    obtain ⟨k, hk, rfl, hh, hbl⟩ := hrel
    have HH := hide hh
    have HBL := hide hbl
    clear hh hbl
    by_cases hlt : k < PS.length
    · have e1 := (unhide HA1) (by omega)
      have e2 := (unhide HB1) (by omega)
      subst e1 e2
      obtain ⟨p, hpk⟩ : ∃ p, PS[k]? = some p := ⟨_, List.getElem?_eq_getElem hlt⟩
      have hcells : ∀ a, wr.cell? a = w.cell? a := fun a => by unfold World.cell?; rw [unhide HH]
      have hpb := (unhide HP) p (List.mem_of_getElem? hpk)
      obtain ⟨a1, a2, a3⟩ := (unhide HA) k p hpk
      obtain ⟨b1, b2, b3⟩ := (unhide HB) k p hpk
      obtain ⟨num, perm, bytes⟩ := p
      simp only at a1 a2 a3 b1 b2 b3 hpb
      rw [← hcells] at a1 a2 b1 b2
      have a3' : wr.rangeAt ga (k * 258 + 2) (bytesRow bytes) := fun j v hv => by rw [hcells]; exact a3 j v hv
      have b3' : wr.rangeAt gb (k * 258 + 2) (bytesRow bytes) := fun j v hv => by rw [hcells]; exact b3 j v hv
      obtain ⟨p0, p1, p2⟩ := hpb
      have hq := eq256 bytes p2
      have hu := Tryz.underlying85
      obtain ⟨cs, hcs⟩ : ∃ cs, cs = bytesRow bytes := ⟨_, rfl⟩
      have hl : cs.length = 256 := by rw [hcs, bytesRow_length, p2]
      have hi : (Tryz.prog.info? 85).map (·.size) = some cs.length := by rw [arr256Size, hl]
      have h1 : ∀ v ∈ cs, v.oneCell' = true := by rw [hcs]; intro v hv; obtain ⟨x, _, rfl⟩ := List.mem_map.1 hv; rfl
      obtain ⟨ds, hds⟩ : ∃ ds, ds = bytesRow bytes := ⟨_, rfl⟩
      have hld : ds.length = 256 := by rw [hds, bytesRow_length, p2]
      have hid : (Tryz.prog.info? 85).map (·.size) = some ds.length := by rw [arr256Size, hld]
      have h2 : ∀ v ∈ ds, v.oneCell' = true := by rw [hds, ← hcs]; exact h1
      have hq : ∀ w, (Op.equalIn 10000 85 (.agg cs.toArray) (.agg ds.toArray)).run Tryz.prog w = .ok true w := by rw [hcs, hds]; exact hq
      rw [← hcs] at a3'
      rw [← hds] at b3'
      have hwp := wrap_perm perm p0 p1
      have hk0 : (0 : Int) ≤ (k : Int) := by omega
      have hk1 : (k : Int) < (PS.length : Int) := by omega
      clear hcs hds a3 b3 hcells hpk p2
      go_wp2_with fail
      have HRA := hide a3'
      have HRB := hide b3'
      clear a3' b3'
      refine wp_region_quiet_lit (by kernel_rfl) (by kernel_rfl) ?_
      repeat (first | (refine wpQuiet_load (by rfl) 85 _ rfl ga (k * 258 + 2) (by rfl) cs _ (range_drewN (unhide HRA)) hu rfl hi ?_; simp only [Act.put, List.setIfInBounds_toArray, List.set_cons_succ, List.set_cons_zero]) | (refine wpQuiet_load (by rfl) 85 _ rfl gb (k * 258 + 2) (by rfl) ds _ (range_drewN (unhide HRB)) hu rfl hid ?_; simp only [Act.put, List.setIfInBounds_toArray, List.set_cons_succ, List.set_cons_zero]) | go_big_quiet_step (fail))
      refine wpQuiet_nil ?_
      intro _ hw'
      obtain ⟨nq, hw''⟩ := hw'
      subst hw''
      go_wp2
      go_roundw
      case rel => exact ⟨k + 1, by omega, by go_num, unhide HH, ⟨(unhide HBL).os, (unhide HBL).tape, (unhide HBL).output, (unhide HBL).size, (unhide HBL).block⟩⟩
      case measure => simp [intOf]; omega
    · go_wp2
      go_ret
      exact ⟨rfl, unhide HH, unhide HBL⟩
end Go.Proofs.YtkmbleboceedbaaGreatDoor

/- Load: the pages of a segment as plain lists. -/
namespace Go.Proofs.YtkmbleboceedbaaGreatDoor
open Go.RowKit
set_option linter.unusedVariables false
set_option linter.unusedSimpArgs false

/-- The byte at an address, by one segment: out of the file, or 0. -/
def segByte (B : List Int) (s : Seg) (at_ : Nat) : Int := if s.addr.toNat ≤ at_ ∧ at_ - s.addr.toNat < s.inFile.toNat then B.getD (s.offs.toNat + (at_ - s.addr.toNat)) 0 else 0
/-- Page p as one segment fills it. -/
def segPage (B : List Int) (s : Seg) (p : Nat) : List Int := (List.range 256).map fun j => segByte B s (p * 256 + j)
theorem segPage_length (B : List Int) (s : Seg) (p : Nat) : (segPage B s p).length = 256 := by simp [segPage]
/-- The pages of a segment. -/
def segPgs (B : List Int) (s : Seg) (n : Nat) : List Pg := (List.range n).map fun i => ⟨(s.addr.toNat / 256 + i : Nat), s.perm, segPage B s (s.addr.toNat / 256 + i)⟩
def apiRow (PS : List Pg) : List Value := PS.flatMap fun p => pageRow p.num p.perm p.bytes
def zeroRow : List Value := pageRow 0 0 zero256
theorem zeroRow_length : zeroRow.length = 258 := by rw [zeroRow, pageRow_length, zero256_length]
/-- n pages, k of them filled. -/
def pgFill (B : List Int) (s : Seg) (n k : Nat) : List Value := apiRow (segPgs B s k) ++ (List.replicate (n - k) zeroRow).flatten
theorem apiRow_length (PS : List Pg) (h : ∀ p ∈ PS, p.bytes.length = 256) : (apiRow PS).length = PS.length * 258 := by
  unfold apiRow
  induction PS with
  | nil => rfl
  | cons p r ih =>
    rw [List.flatMap_cons, List.length_append, ih (fun q hq => h q (List.mem_cons_of_mem _ hq)), pageRow_length, h p List.mem_cons_self, List.length_cons]
    omega
theorem segPgs_bytes (B : List Int) (s : Seg) (n : Nat) : ∀ p ∈ segPgs B s n, p.bytes.length = 256 := by
  intro p hp
  obtain ⟨i, _, rfl⟩ := List.mem_map.1 hp
  exact segPage_length _ _ _
theorem segPgs_length (B : List Int) (s : Seg) (n : Nat) : (segPgs B s n).length = n := by simp [segPgs]
theorem zeroRows_length (m : Nat) : (List.replicate m zeroRow).flatten.length = m * 258 := by
  induction m with
  | zero => rfl
  | succ m ih => rw [List.replicate_succ, List.flatten_cons, List.length_append, ih, zeroRow_length]; omega
theorem pgFill_length (B : List Int) (s : Seg) (n k : Nat) (h : k ≤ n) : (pgFill B s n k).length = n * 258 := by
  rw [pgFill, List.length_append, apiRow_length _ (segPgs_bytes B s k), segPgs_length, zeroRows_length]; omega
theorem pgFill_full (B : List Int) (s : Seg) (n : Nat) : pgFill B s n n = apiRow (segPgs B s n) := by rw [pgFill, Nat.sub_self]; simp
theorem pgFill_none (B : List Int) (s : Seg) (n : Nat) : pgFill B s n 0 = (List.replicate n zeroRow).flatten := by rw [pgFill, Nat.sub_zero]; rfl
/-- How many bytes of the file are laid ahead of the k-th page. -/
def eaten (s : Seg) (k : Nat) : Nat := if k = 0 then 0 else Nat.min s.inFile.toNat (k * 256 - s.addr.toNat % 256)
def startAt (s : Seg) (k : Nat) : Nat := if k = 0 then s.addr.toNat % 256 else 0
/-- What is copied into the k-th page. -/
def chunk (B : List Int) (s : Seg) (k : Nat) : List Int := (List.range (Nat.min (s.inFile.toNat - eaten s k) (256 - startAt s k))).map fun j => B.getD (s.offs.toNat + eaten s k + j) 0
theorem chunk_length (B : List Int) (s : Seg) (k : Nat) : (chunk B s k).length = Nat.min (s.inFile.toNat - eaten s k) (256 - startAt s k) := by simp [chunk]
theorem startAt_lt (s : Seg) (k : Nat) : startAt s k < 256 := by
  unfold startAt
  have := Nat.mod_lt s.addr.toNat (show 256 > 0 by omega)
  split <;> omega
theorem eaten_le (s : Seg) (k : Nat) : eaten s k ≤ s.inFile.toNat := by
  unfold eaten
  simp only [Nat.min_def]
  split
  · omega
  · split <;> omega
theorem min_or (a b : Nat) : (Nat.min a b = a ∧ a ≤ b) ∨ (Nat.min a b = b ∧ b ≤ a) := by simp only [Nat.min_def]; split <;> omega
theorem start_key (s : Seg) (k : Nat) : (k = 0 ∧ startAt s k = s.addr.toNat % 256 ∧ eaten s k = 0) ∨ (0 < k ∧ startAt s k = 0 ∧ (eaten s k = k * 256 - s.addr.toNat % 256 ∧ eaten s k ≤ s.inFile.toNat ∨ eaten s k = s.inFile.toNat ∧ s.inFile.toNat ≤ k * 256 - s.addr.toNat % 256)) := by
  rcases k with _ | k
  · exact .inl ⟨rfl, rfl, rfl⟩
  · refine .inr ⟨by omega, rfl, ?_⟩
    have e : eaten s (k + 1) = Nat.min s.inFile.toNat ((k + 1) * 256 - s.addr.toNat % 256) := by rw [eaten, if_neg (by omega)]
    have := min_or s.inFile.toNat ((k + 1) * 256 - s.addr.toNat % 256)
    omega
theorem eaten_step (s : Seg) (k : Nat) : eaten s (k + 1) = eaten s k + Nat.min (s.inFile.toNat - eaten s k) (256 - startAt s k) := by
  have a := start_key s k
  have b := start_key s (k + 1)
  have c := min_or (s.inFile.toNat - eaten s k) (256 - startAt s k)
  have r := Nat.mod_lt s.addr.toNat (show 256 > 0 by omega)
  omega
theorem zero256_get (j : Nat) : zero256[j]? = if j < 256 then some 0 else none := by rw [zero256, List.getElem?_replicate]
theorem page_chunk (B : List Int) (s : Seg) (k : Nat) : splice zero256 (startAt s k) (chunk B s k) = segPage B s (s.addr.toNat / 256 + k) := by
  have hcl := chunk_length B s k
  have hck : ∀ i, i < Nat.min (s.inFile.toNat - eaten s k) (256 - startAt s k) → (chunk B s k)[i]? = some (B.getD (s.offs.toNat + eaten s k + i) 0) := fun i hi => by
    rw [chunk, List.getElem?_map, List.getElem?_range hi]; rfl
  have hM := min_or (s.inFile.toNat - eaten s k) (256 - startAt s k)
  have hK := start_key s k
  have hs := startAt_lt s k
  have he := eaten_le s k
  have hr := Nat.mod_lt s.addr.toNat (show 256 > 0 by omega)
  have hd := Nat.div_add_mod s.addr.toNat 256
  generalize Nat.min (s.inFile.toNat - eaten s k) (256 - startAt s k) = M at *
  generalize startAt s k = S at *
  generalize eaten s k = Ea at *
  have hfit : S + (chunk B s k).length ≤ zero256.length := by rw [hcl, zero256_length]; omega
  apply List.ext_getElem?
  intro j
  rw [splice_get _ _ _ hfit, hcl, zero256_get]
  by_cases hj : j < 256
  · have hp : (segPage B s (s.addr.toNat / 256 + k))[j]? = some (segByte B s ((s.addr.toNat / 256 + k) * 256 + j)) := by
      rw [segPage, List.getElem?_map, List.getElem?_range hj]; rfl
    rw [if_pos hj, hp]
    unfold segByte
    generalize s.addr.toNat = A at *
    generalize s.inFile.toNat = F at *
    by_cases h1 : j < S
    · rw [if_pos h1, if_neg (by omega)]
    · rw [if_neg h1]
      by_cases h2 : j < S + M
      · rw [if_pos h2, hck _ (by omega), if_pos (by omega)]
        congr 2
        omega
      · rw [if_neg h2, if_neg (by omega)]
  · rw [if_neg hj, if_neg (by omega), if_neg (by omega)]
    rw [segPage, List.getElem?_map, List.getElem?_eq_none (by simp; omega)]; rfl
theorem splice_in (pre Z post xs : List Value) (a b x y : Value) (o : Nat) (hz : o + xs.length ≤ Z.length) :
    splice (((pre ++ (a :: b :: (Z ++ post))).set pre.length x).set (pre.length + 1) y) (pre.length + 2 + o) xs = pre ++ (x :: y :: (splice Z o xs ++ post)) := by
  have e1 : (pre ++ (a :: b :: (Z ++ post))).set pre.length x = pre ++ (x :: b :: (Z ++ post)) := by
    rw [List.set_append_right _ _ (Nat.le_refl _)]; simp
  have e2 : (pre ++ (x :: b :: (Z ++ post))).set (pre.length + 1) y = pre ++ (x :: y :: (Z ++ post)) := by
    rw [List.set_append_right _ _ (by omega)]; simp
  rw [e1, e2]
  unfold splice
  have e3 : (pre ++ (x :: y :: (Z ++ post))).take (pre.length + 2 + o) = pre ++ (x :: y :: Z.take o) := by
    rw [List.take_append, List.take_of_length_le (by omega), show pre.length + 2 + o - pre.length = o + 2 from by omega]
    simp only [List.take_succ_cons]
    rw [List.take_append_of_le_length (by omega)]
  have e4 : (pre ++ (x :: y :: (Z ++ post))).drop (pre.length + 2 + o + xs.length) = Z.drop (o + xs.length) ++ post := by
    rw [List.drop_append, List.drop_of_length_le (by omega), show pre.length + 2 + o + xs.length - pre.length = o + xs.length + 2 from by omega]
    simp only [List.drop_succ_cons, List.nil_append]
    rw [List.drop_append_of_le_length (by omega)]
  rw [e3, e4]; simp
theorem pgFill_step (B : List Int) (s : Seg) (n k : Nat) (h : k < n) :
    splice (((pgFill B s n k).set (k * 258) (.int .i64 (s.addr.toNat / 256 + k : Nat))).set (k * 258 + 1) (.int .u8 s.perm)) (k * 258 + 2 + startAt s k) (bytesRow (chunk B s k)) = pgFill B s n (k + 1) := by
  have hl : (apiRow (segPgs B s k)).length = k * 258 := by rw [apiRow_length _ (segPgs_bytes B s k), segPgs_length]
  have e1 : n - k = (n - (k + 1)) + 1 := by omega
  have e2 : segPgs B s (k + 1) = segPgs B s k ++ [⟨(s.addr.toNat / 256 + k : Nat), s.perm, segPage B s (s.addr.toNat / 256 + k)⟩] := by simp [segPgs, List.range_succ]
  have hfit : startAt s k + (bytesRow (chunk B s k)).length ≤ (bytesRow zero256).length := by
    rw [bytesRow_length, bytesRow_length, chunk_length, zero256_length]
    have := startAt_lt s k
    simp only [Nat.min_def]; split <;> omega
  have hst := splice_in (apiRow (segPgs B s k)) (bytesRow zero256) (List.replicate (n - (k + 1)) zeroRow).flatten (bytesRow (chunk B s k)) (.int .i64 0) (.int .u8 0) (.int .i64 (s.addr.toNat / 256 + k : Nat)) (.int .u8 s.perm) (startAt s k) hfit
  rw [hl] at hst
  have e3 : pgFill B s n k = apiRow (segPgs B s k) ++ (.int .i64 0 :: .int .u8 0 :: (bytesRow zero256 ++ (List.replicate (n - (k + 1)) zeroRow).flatten)) := by
    rw [pgFill, e1, List.replicate_succ, List.flatten_cons]; rfl
  rw [e3, hst, bytesRow_splice, page_chunk, pgFill, e2, apiRow, apiRow, List.flatMap_append]
  simp [pageRow]
end Go.Proofs.YtkmbleboceedbaaGreatDoor
