import Derived.Shelf.Strings.Split
import Derived.Shelf.Small.Strs
import Derived.Shelf.Strings.Prefix
import Derived.Shelf.Strconv.Clone
import Derived.Test.YtkokiefclmbgaaaGreatDoorBootsProofG01
import Derived.Test.YtkokiefclmbgaaaGreatDoorBootsProofG04
import Derived.Deep.MidRow
import Derived.Shelf.SlSortCmp.SmallK
import Derived.Shelf.Small.Bits
/- The shelf's layings at this seat, in plain words. Written by layfs.sh: the numbers are one seat's own. -/
namespace Go.Proofs.YtkokiefclmbgaaaGreatDoor
open Go.Shelf
def split_ren : Go.Shelf.Ren := ⟨fun | 146 => 118 | 221 => 141 | 268 => 167 | 138 => 168 | 143 => 169 | 195 => 179 | 197 => 180 | 218 => 181 | 219 => 182 | 260 => 185 | 217 => 152 | 225 => 186 | 224 => 187 | 267 => 188 | 266 => 173 | 314 => 189 | n => n, fun | 9 => 9 | 31 => 50 | 3 => 3 | 4 => 4 | 0 => 0 | 105 => 318 | 21 => 21 | 5 => 5 | 46 => 263 | 119 => 85 | 139 => 324 | 138 => 323 | 146 => 325 | 51 => 288 | n => n, fun | 1 => 2 | 3 => 3 | 4 => 4 | n => n⟩
theorem split : Go.Proofs.Lays.n146 Tryz.prog split_ren := {
  mixed := by kernel_rfl
  f138 := Tryz.func168.trans (congrArg some (by kernel_rfl))
  f143 := Tryz.func169.trans (congrArg some (by kernel_rfl))
  f146 := Tryz.func118.trans (congrArg some (by kernel_rfl))
  f195 := Tryz.func179.trans (congrArg some (by kernel_rfl))
  f197 := Tryz.func180.trans (congrArg some (by kernel_rfl))
  f217 := Tryz.func152.trans (congrArg some (by kernel_rfl))
  f218 := Tryz.func181.trans (congrArg some (by kernel_rfl))
  f219 := Tryz.func182.trans (congrArg some (by kernel_rfl))
  f221 := Tryz.func141.trans (congrArg some (by kernel_rfl))
  f224 := Tryz.func187.trans (congrArg some (by kernel_rfl))
  f225 := Tryz.func186.trans (congrArg some (by kernel_rfl))
  f260 := Tryz.func185.trans (congrArg some (by kernel_rfl))
  f266 := Tryz.func173.trans (congrArg some (by kernel_rfl))
  f267 := Tryz.func188.trans (congrArg some (by kernel_rfl))
  f268 := Tryz.func167.trans (congrArg some (by kernel_rfl))
  f314 := Tryz.func189.trans (congrArg some (by kernel_rfl))
  t0 := Tryz.underlying0
  a0 := Tryz.isAgg0
  z0 := Tryz.sizeOf0
  v0 := Tryz.zeroValue0
  t3 := Tryz.underlying3
  a3 := Tryz.isAgg3
  z3 := Tryz.sizeOf3
  v3 := Tryz.zeroValue3
  t4 := Tryz.underlying4
  a4 := Tryz.isAgg4
  z4 := Tryz.sizeOf4
  v4 := Tryz.zeroValue4
  t5 := Tryz.underlying5
  a5 := Tryz.isAgg5
  z5 := Tryz.sizeOf5
  v5 := Tryz.zeroValue5
  t9 := Tryz.underlying9
  a9 := Tryz.isAgg9
  z9 := Tryz.sizeOf9
  v9 := Tryz.zeroValue9
  t21 := Tryz.underlying21
  a21 := Tryz.isAgg21
  z21 := Tryz.sizeOf21
  v21 := Tryz.zeroValue21
  t31 := Tryz.underlying50
  a31 := Tryz.isAgg50
  z31 := Tryz.sizeOf50
  v31 := Tryz.zeroValue50
  t46 := Tryz.underlying263
  a46 := Tryz.isAgg263
  z46 := Tryz.sizeOf263
  v46 := Tryz.zeroValue263
  t51 := Tryz.underlying288
  a51 := Tryz.isAgg288
  z51 := Tryz.sizeOf288
  v51 := Tryz.zeroValue288
  t105 := Tryz.underlying318
  a105 := Tryz.isAgg318
  z105 := Tryz.sizeOf318
  v105 := Tryz.zeroValue318
  t119 := Tryz.underlying85
  a119 := Tryz.isAgg85
  z119 := Tryz.sizeOf85
  t138 := Tryz.underlying323
  a138 := Tryz.isAgg323
  z138 := Tryz.sizeOf323
  v138 := Tryz.zeroValue323
  t139 := Tryz.underlying324
  a139 := Tryz.isAgg324
  z139 := Tryz.sizeOf324
  v139 := Tryz.zeroValue324
  t146 := Tryz.underlying325
  a146 := Tryz.isAgg325
  z146 := Tryz.sizeOf325
  v146 := Tryz.zeroValue325
  g1 := by kernel_rfl
  g3 := by kernel_rfl
  g4 := by kernel_rfl }
def hasPrefix_ren : Go.Shelf.Ren := ⟨fun | 99 => 117 | 206 => 140 | n => n, fun | 9 => 9 | 4 => 4 | 3 => 3 | n => n, fun | n => n⟩
theorem hasPrefix : Go.Proofs.Lays.n99 Tryz.prog hasPrefix_ren := {
  mixed := by kernel_rfl
  f99 := Tryz.func117.trans (congrArg some (by kernel_rfl))
  f206 := Tryz.func140.trans (congrArg some (by kernel_rfl))
  t3 := Tryz.underlying3
  a3 := Tryz.isAgg3
  z3 := Tryz.sizeOf3
  v3 := Tryz.zeroValue3
  t4 := Tryz.underlying4
  a4 := Tryz.isAgg4
  z4 := Tryz.sizeOf4
  v4 := Tryz.zeroValue4
  t9 := Tryz.underlying9
  a9 := Tryz.isAgg9
  z9 := Tryz.sizeOf9
  v9 := Tryz.zeroValue9 }
def indexByte_ren : Go.Shelf.Ren := ⟨fun | 137 => 124 | 217 => 152 | 266 => 173 | n => n, fun | 9 => 9 | 5 => 5 | 3 => 3 | n => n, fun | n => n⟩
theorem indexByte : Go.Proofs.Lays.n137 Tryz.prog indexByte_ren := {
  mixed := by kernel_rfl
  f137 := Tryz.func124.trans (congrArg some (by kernel_rfl))
  f217 := Tryz.func152.trans (congrArg some (by kernel_rfl))
  f266 := Tryz.func173.trans (congrArg some (by kernel_rfl))
  t3 := Tryz.underlying3
  a3 := Tryz.isAgg3
  z3 := Tryz.sizeOf3
  v3 := Tryz.zeroValue3
  t5 := Tryz.underlying5
  a5 := Tryz.isAgg5
  z5 := Tryz.sizeOf5
  v5 := Tryz.zeroValue5
  t9 := Tryz.underlying9
  a9 := Tryz.isAgg9
  z9 := Tryz.sizeOf9
  v9 := Tryz.zeroValue9 }
def sclone_ren : Go.Shelf.Ren := ⟨fun | 316 => 139 | n => n, fun | 9 => 9 | 3 => 3 | 4 => 4 | 37 => 32 | 0 => 0 | 127 => 310 | 5 => 5 | n => n, fun | n => n⟩
theorem sclone : Go.Proofs.LaysM.n316 Tryz.prog sclone_ren := {
  mixed := by kernel_rfl
  f316 := Tryz.func139.trans (congrArg some (by kernel_rfl))
  t0 := Tryz.underlying0
  a0 := Tryz.isAgg0
  z0 := Tryz.sizeOf0
  v0 := Tryz.zeroValue0
  t3 := Tryz.underlying3
  a3 := Tryz.isAgg3
  z3 := Tryz.sizeOf3
  v3 := Tryz.zeroValue3
  t4 := Tryz.underlying4
  a4 := Tryz.isAgg4
  z4 := Tryz.sizeOf4
  v4 := Tryz.zeroValue4
  t9 := Tryz.underlying9
  a9 := Tryz.isAgg9
  z9 := Tryz.sizeOf9
  v9 := Tryz.zeroValue9
  t37 := Tryz.underlying32
  a37 := Tryz.isAgg32
  z37 := Tryz.sizeOf32
  v37 := Tryz.zeroValue32
  t127 := Tryz.underlying310
  a127 := Tryz.isAgg310
  z127 := Tryz.sizeOf310
  v127 := Tryz.zeroValue310
  t5 := Tryz.underlying5
  a5 := Tryz.isAgg5
  z5 := Tryz.sizeOf5
  v5 := Tryz.zeroValue5
  i0 := by kernel_rfl
  i3 := by kernel_rfl
  i4 := by kernel_rfl
  i5 := by kernel_rfl
  i9 := by kernel_rfl
  i37 := by kernel_rfl
  i127 := by kernel_rfl }
end Go.Proofs.YtkokiefclmbgaaaGreatDoor

/- exe.readSegments. -/
namespace Go.Proofs.YtkokiefclmbgaaaGreatDoor
open Go.RowKit
set_option linter.unusedVariables false
set_option linter.unusedSimpArgs false

def segCells (b off cap : Nat) (s : Seg) : List Value := [.int .u8 s.perm, .int .u64 s.addr, .slice (some ⟨b, segPtr off cap s, none⟩) s.inFile.toNat (cap - s.offs.toNat), .int .i64 (s.addr / 256), .int .i64 ((s.addr + s.mem - 1) / 256)]
theorem segVal_cells (b off cap : Nat) (s : Seg) : segVal b off cap s = .agg (segCells b off cap s).toArray := rfl
def noCells : List Value := [.int .u8 0, .int .u64 0, .slice none 0 0, .int .i64 0, .int .i64 0]
def segsRow (b off cap : Nat) (ss : List Seg) : List Value := ss.flatMap (segCells b off cap)
/-- The first k segments of the file. -/
def segsUpTo (B : List Int) (k : Nat) : List Seg := (List.range k).map fun i => segAt B (64 + 56 * i)
/-- The row of n segments, k of them read. -/
def segsFill (b off cap : Nat) (B : List Int) (n k : Nat) : List Value := segsRow b off cap (segsUpTo B k) ++ (List.replicate (n - k) noCells).flatten
theorem segsRow_length (b off cap : Nat) (ss : List Seg) : (segsRow b off cap ss).length = ss.length * 5 := by
  unfold segsRow
  induction ss with
  | nil => rfl
  | cons s r ih => rw [List.flatMap_cons, List.length_append, ih]; simp [segCells]; omega
theorem segsUpTo_length (B : List Int) (k : Nat) : (segsUpTo B k).length = k := by simp [segsUpTo]
theorem segCells_one (b off cap : Nat) (s : Seg) : ∀ v ∈ segCells b off cap s, v.oneCell' = true := by
  intro v hv
  simp only [segCells, List.mem_cons, List.not_mem_nil, or_false] at hv
  rcases hv with rfl | rfl | rfl | rfl | rfl <;> rfl
theorem noRow_length (m : Nat) : (List.replicate m noCells).flatten.length = m * 5 := by
  induction m with
  | zero => rfl
  | succ m ih => rw [List.replicate_succ, List.flatten_cons, List.length_append, ih]; simp [noCells]; omega
theorem segsFill_length (b off cap : Nat) (B : List Int) (n k : Nat) (h : k ≤ n) : (segsFill b off cap B n k).length = n * 5 := by
  rw [segsFill, List.length_append, segsRow_length, segsUpTo_length, noRow_length]; omega
theorem segsFill_step (b off cap : Nat) (B : List Int) (n k : Nat) (h : k < n) : splice (segsFill b off cap B n k) (k * 5) (segCells b off cap (segAt B (64 + 56 * k))) = segsFill b off cap B n (k + 1) := by
  have e1 : n - k = (n - (k + 1)) + 1 := by omega
  have e2 : segsUpTo B (k + 1) = segsUpTo B k ++ [segAt B (64 + 56 * k)] := by simp [segsUpTo, List.range_succ]
  have hl : (segsRow b off cap (segsUpTo B k)).length = k * 5 := by rw [segsRow_length, segsUpTo_length]
  unfold splice segsFill
  rw [e1, List.replicate_succ, List.flatten_cons, e2, segsRow, segsRow, List.flatMap_append]
  change _ = (segsRow b off cap (segsUpTo B k) ++ _) ++ _
  change List.take _ (segsRow b off cap (segsUpTo B k) ++ _) ++ (_ ++ List.drop _ (segsRow b off cap (segsUpTo B k) ++ _)) = _
  rw [List.take_append_of_le_length (by omega), List.take_of_length_le (by omega), List.drop_append, List.drop_of_length_le (by omega), hl,
    show k * 5 + (segCells b off cap (segAt B (64 + 56 * k))).length - k * 5 = 5 from by simp [segCells]]
  simp [noCells]
theorem segsFill_full (b off cap : Nat) (B : List Int) (n : Nat) : segsFill b off cap B n n = segsRow b off cap (segsUpTo B n) := by
  rw [segsFill, Nat.sub_self]; simp
theorem segsFill_none (b off cap : Nat) (B : List Int) (n : Nat) : segsFill b off cap B n 0 = (List.replicate n noCells).flatten := by
  rw [segsFill, Nat.sub_zero]; rfl
theorem makeSegs1 (w : World) : (Instr.makeSlice 240 (.int .i64 ((1 : Nat) : Int)) (.int .i64 ((1 : Nat) : Int))).run Tryz.prog w = .ok (.slice (some ⟨w.heap.size, 0, none⟩) 1 1) (w.alloc (.cells (List.replicate 1 noCells).flatten.toArray 245)) := by kernel_rfl
theorem makeSegs2 (w : World) : (Instr.makeSlice 240 (.int .i64 ((2 : Nat) : Int)) (.int .i64 ((2 : Nat) : Int))).run Tryz.prog w = .ok (.slice (some ⟨w.heap.size, 0, none⟩) 2 2) (w.alloc (.cells (List.replicate 2 noCells).flatten.toArray 245)) := by kernel_rfl
theorem makeSegs3 (w : World) : (Instr.makeSlice 240 (.int .i64 ((3 : Nat) : Int)) (.int .i64 ((3 : Nat) : Int))).run Tryz.prog w = .ok (.slice (some ⟨w.heap.size, 0, none⟩) 3 3) (w.alloc (.cells (List.replicate 3 noCells).flatten.toArray 245)) := by kernel_rfl
theorem makeSegs4 (w : World) : (Instr.makeSlice 240 (.int .i64 ((4 : Nat) : Int)) (.int .i64 ((4 : Nat) : Int))).run Tryz.prog w = .ok (.slice (some ⟨w.heap.size, 0, none⟩) 4 4) (w.alloc (.cells (List.replicate 4 noCells).flatten.toArray 245)) := by kernel_rfl
theorem makeSegs5 (w : World) : (Instr.makeSlice 240 (.int .i64 ((5 : Nat) : Int)) (.int .i64 ((5 : Nat) : Int))).run Tryz.prog w = .ok (.slice (some ⟨w.heap.size, 0, none⟩) 5 5) (w.alloc (.cells (List.replicate 5 noCells).flatten.toArray 245)) := by kernel_rfl
theorem makeSegs6 (w : World) : (Instr.makeSlice 240 (.int .i64 ((6 : Nat) : Int)) (.int .i64 ((6 : Nat) : Int))).run Tryz.prog w = .ok (.slice (some ⟨w.heap.size, 0, none⟩) 6 6) (w.alloc (.cells (List.replicate 6 noCells).flatten.toArray 245)) := by kernel_rfl
theorem makeSegs7 (w : World) : (Instr.makeSlice 240 (.int .i64 ((7 : Nat) : Int)) (.int .i64 ((7 : Nat) : Int))).run Tryz.prog w = .ok (.slice (some ⟨w.heap.size, 0, none⟩) 7 7) (w.alloc (.cells (List.replicate 7 noCells).flatten.toArray 245)) := by kernel_rfl
theorem makeSegs8 (w : World) : (Instr.makeSlice 240 (.int .i64 ((8 : Nat) : Int)) (.int .i64 ((8 : Nat) : Int))).run Tryz.prog w = .ok (.slice (some ⟨w.heap.size, 0, none⟩) 8 8) (w.alloc (.cells (List.replicate 8 noCells).flatten.toArray 245)) := by kernel_rfl
theorem makeSegs (w : World) (n : Nat) (h1 : 1 ≤ n) (h8 : n ≤ 8) : (Instr.makeSlice 240 (.int .i64 n) (.int .i64 n)).run Tryz.prog w = .ok (.slice (some ⟨w.heap.size, 0, none⟩) n n) (w.alloc (.cells (List.replicate n noCells).flatten.toArray 245)) := by
  have h : n = 1 ∨ n = 2 ∨ n = 3 ∨ n = 4 ∨ n = 5 ∨ n = 6 ∨ n = 7 ∨ n = 8 := by omega
  rcases h with rfl | rfl | rfl | rfl | rfl | rfl | rfl | rfl
  · exact makeSegs1 w
  · exact makeSegs2 w
  · exact makeSegs3 w
  · exact makeSegs4 w
  · exact makeSegs5 w
  · exact makeSegs6 w
  · exact makeSegs7 w
  · exact makeSegs8 w
theorem segSize : (Tryz.prog.info? 245).map (·.size) = some 5 := by kernel_rfl
theorem holds_setCells {b : Nat} {t : TypeId} : ∀ (vs : List Value) (o : Nat) (W : World) (L : List Value), Holds W b t L → o + vs.length ≤ L.length → Holds (W.setCells b o vs) b t (splice L o vs)
  | [], o, W, L, h, _ => by rw [splice_nil]; exact h
  | v :: r, o, W, L, h, hl => by
    have hl' : o + (r.length + 1) ≤ L.length := hl
    have := holds_setCells r (o + 1) _ _ (h.set o v) (by rw [List.length_set]; omega)
    rw [World.setCells]
    have e : splice (L.set o v) (o + 1) r = splice L o (v :: r) := by
      have a := splice_set L o [v] 0 v rfl (by simp; omega)
      simp only [List.take_zero, splice_nil, Nat.add_zero, Nat.zero_add] at a
      rw [a, show (List.take 1 [v]) = [v] from rfl]
      exact splice_splice L o [v] r (by simp; omega)
    rwa [e] at this
theorem grown_setCells {w : World} {b : Nat} : ∀ (vs : List Value) (o : Nat) (wr : World), w.grownBy wr (some b) → w.grownBy (wr.setCells b o vs) (some b)
  | [], _, _, h => h
  | v :: r, o, wr, h => grown_setCells r (o + 1) _ (grown_set h o v)
theorem below_setCells {B b : Nat} {w : World} (hB : B ≤ b) : ∀ (vs : List Value) (o : Nat) (wr : World), Below B w wr → Below B w (wr.setCells b o vs)
  | [], _, _, h => h
  | v :: r, o, wr, h => below_setCells hB r (o + 1) _ (h.setCell (p := ⟨b, o, none⟩) hB v)
theorem holds_there {W : World} {b : Nat} {t : TypeId} {vs : List Value} (h : Holds W b t vs) (o n : Nat) (hn : o + n ≤ vs.length) : W.there b o n := fun j hj =>
  ⟨by rw [h.cell (List.getElem?_eq_getElem (show o + j < vs.length by omega))]; rfl, h.frozen _⟩

theorem wpList_store_part {P : Program} {ops : Array Oper} {rest : List Oper} {o : Oper} {a : Act} {w : World} {Q : Exit → Act → World → Prop} (hgd : o.guard = none) (ty : TypeId) (x y : Operand) (ho : o.op = .store ty x y)
    (g off : Nat) (cs : List Value) (hx : a.eval x = .pointer (some ⟨g, off, none⟩)) (hy : a.eval y = .agg cs.toArray)
    (t : TypeId) (old : List Value) (hg : Holds w g t old) (hi : (P.info? ty).map (·.size) = some cs.length) (hfit : off + cs.length ≤ old.length) (h1 : ∀ v ∈ cs, v.oneCell' = true)
    (h : ∀ w', Hid (Holds w' g t (splice old off cs)) → Hid (w.grownBy w' (some g)) → wpList P ops Q rest (a.put o.dst undef) w') : wpList P ops Q (o :: rest) a w := by
  refine wpList_store_mid hgd ty x y ho g off cs.toArray hx hy (holds_there hg _ _ (by simpa using hfit)) (by simpa using hi) (all_oneCell_toArray h1) ?_
  refine h _ (hide (holds_setCells cs off _ _ hg hfit)) (hide (grown_setCells cs off w ⟨rfl, rfl, rfl, Nat.le_refl _, fun _ _ _ => rfl⟩))
theorem segSize' (b off cap : Nat) (s : Seg) : (Tryz.prog.info? 245).map (·.size) = some (segCells b off cap s).length := segSize
theorem segs_fit {b off cap : Nat} {B : List Int} {n k : Nat} (h : k < n) (s : Seg) : k * 5 + (segCells b off cap s).length ≤ (segsFill b off cap B n k).length := by
  rw [segsFill_length _ _ _ _ _ _ (by omega)]
  show k * 5 + 5 ≤ n * 5
  omega

theorem upTo_step {p : Nat → Prop} {k : Nat} (h : ∀ i, i < k → p i) (hk : p k) : ∀ i, i < k + 1 → p i := fun i hi => by
  rcases Nat.lt_succ_iff_lt_or_eq.1 hi with h' | h'
  · exact h i h'
  · rw [h']; exact hk

def SegsPost (b off cap : Nat) (B : List Int) (n : Nat) (w : World) (e : Ending) (w' : World) : Prop :=
  ((∀ i, i < n → SegOk B (64 + 56 * i)) ∧ e = .returned (.tuple #[.slice (some ⟨w.heap.size, 0, none⟩) n n, .bool true]) ∧ Holds w' w.heap.size 245 (segsRow b off cap (segsUpTo B n)) ∨
   (¬ ∀ i, i < n → SegOk B (64 + 56 * i)) ∧ e = .returned (.tuple #[.slice none 0 0, .bool false])) ∧ Below w.heap.size w w'

set_option maxRecDepth 100000 in
set_option maxHeartbeats 2000000 in
theorem readSegments_any (b off cap : Nat) (B : List Int) (n : Nat) (w : World) (hB : IsBytes B) (hcap : B.length ≤ cap) (hlen : B.length ≤ 500000) (hv : BView w b off B) (hbw : b < w.heap.size) (h1 : 1 ≤ n) (h8 : n ≤ 8) (hp : 64 + 56 * n ≤ B.length) :
    Calls Tryz.prog 98 #[.slice (some ⟨b, off, none⟩) B.length cap, .int .i64 n] w fun e w' => SegsPost b off cap B n w e w' := by
  have hmk := fun w => makeSegs w n h1 h8
  have HB := hide hB
  have HV := hide hv
  have HL := hide (And.intro hcap (And.intro hlen hp))
  clear hB hv hcap hlen hp
  go_enter Tryz.func98, Tryz.ntmps98
  go_wp2
  go_loopw [14] (fun i wr => ∃ k : Nat, k ≤ n ∧ i = .int .i64 k ∧ (∀ i, i < k → SegOk B (64 + 56 * i)) ∧ Holds wr w.heap.size 245 (segsFill b off cap B n k) ∧ Below w.heap.size w wr) (fun i _ => n - (intOf i).toNat)
  case atStart => exact ⟨0, by omega, rfl, fun i hi => by omega, by rw [segsFill_none]; exact Holds.new _ _ _, (Below.refl _ _).alloc (Nat.le_refl _) _⟩
  case round =>
    obtain ⟨k, hk, rfl, hok, hh, hbl⟩ := hrel
    have HOK := hide hok
    have HH := hide hh
    have HBL := hide hbl
    have hgl := hh.lt
    clear hok hh hbl
    by_cases hlt : k < n
    · obtain ⟨p, hp⟩ : ∃ p, p = 64 + 56 * k := ⟨_, rfl⟩
      have e1 : (64 : Int) + 56 * (k : Int) = (p : Int) := by omega
      have hp5 : (p : Int) ≤ 600 := by omega
      have hvr : BView wr b off B := (unhide HV).below (unhide HBL) hbw
      have HR := hide (readSegment_any b off cap B p wr (unhide HB) (unhide HL).1 (unhide HL).2.1 hvr (by omega) (by have := (unhide HL).2.2; omega))
      have HP := hide hp
      have hk0 : (0 : Int) ≤ (k : Int) := by omega
      have hkn : (k : Int) < (n : Int) := by omega
      have hk8 : (k : Int) ≤ 8 := by omega
      clear hp hvr
      go_wp2_with fail
      refine (unhide HR).mono ?_
      rintro e w1 ⟨(⟨ok, rfl⟩ | ⟨nok, rfl⟩), hb1⟩
      · have hh1 := (unhide HH).below hb1 hgl
        have hbl1 := (unhide HBL).trans (hb1.mono (unhide HBL).size)
        have OK := hide ok
        have HH1 := hide hh1
        have HBL1 := hide hbl1
        clear ok hh1 hbl1 hb1 HH HBL HR
        unfold segVal
        obtain ⟨sg, hsg⟩ : ∃ s, s = segAt B p := ⟨_, rfl⟩
        rw [← hsg]
        have hstep : splice (segsFill b off cap B n k) (k * 5) (segCells b off cap sg) = segsFill b off cap B n (k + 1) := by rw [hsg, unhide HP]; exact segsFill_step _ _ _ _ _ _ hlt
        clear hsg
        have HST := hide hstep
        have hgl1 := (unhide HH1).lt
        clear hstep
        go_wp2_with (refine wpList_store_part rfl 245 (.tmp 30) (.tmp 29) rfl w.heap.size (k * 5) (segCells b off cap sg) (by rfl) (by rfl) 245 (segsFill b off cap B n k) ((unhide HH1).alloc _) (segSize' b off cap sg) (segs_fit hlt sg) (segCells_one b off cap sg) ?_; intro w2 HH2 HG2)
        go_roundw
        case rel =>
          have hba := (unhide HBL1).alloc (Nat.le_of_lt hgl1) (.cells (segCells b off cap sg).toArray 245)
          exact ⟨k + 1, by omega, by go_num, upTo_step (unhide HOK) (by rw [← unhide HP]; exact unhide OK), by rw [← unhide HST]; exact unhide HH2, hba.trans (below_grown (unhide HG2) (Nat.le_refl _) hba.size)⟩
        case measure => simp [intOf]; omega
      · have hbl1 := (unhide HBL).trans (hb1.mono (unhide HBL).size)
        have hsz1 := hbl1.size
        have HBL1 := hide hbl1
        have NOK := hide nok
        clear hb1 hbl1 nok HR
        unfold noSeg
        go_wp2
        exact bodyPost_ret (v := .tuple #[.slice none 0 0, .bool false]) (by simp [results, Tryz.results98, go_sem]) rfl ⟨.inr ⟨fun h => unhide NOK (by rw [unhide HP]; exact h k hlt), rfl⟩, (unhide HBL1).alloc hsz1 _⟩
    · have hkn : k = n := by omega
      subst hkn
      go_wp2
      exact bodyPost_ret (v := .tuple #[.slice (some ⟨w.heap.size, 0, none⟩) k k, .bool true]) (by simp [results, Tryz.results98, go_sem]) rfl ⟨.inl ⟨unhide HOK, rfl, by rw [← segsFill_full]; exact unhide HH⟩, unhide HBL⟩
end Go.Proofs.YtkokiefclmbgaaaGreatDoor

/- The shelf's layings at this seat, in plain words. Written by laysort.sh: the numbers are one seat's own. -/
namespace Go.Proofs.YtkokiefclmbgaaaGreatDoor
open Go.Shelf
def sortSeg_ren : Go.Shelf.Ren := ⟨fun | 6 => 99 | 15 => 114 | 14 => 121 | 28 => 136 | 29 => 137 | 20 => 144 | 21 => 145 | 22 => 146 | 23 => 147 | 24 => 148 | 25 => 149 | 26 => 150 | 27 => 151 | 46 => 170 | 47 => 163 | 48 => 164 | 49 => 171 | 50 => 172 | 57 => 183 | n => n, fun | 22 => 240 | 24 => 245 | 25 => 247 | 3 => 3 | 39 => 263 | 0 => 0 | 53 => 288 | 55 => 74 | 4 => 4 | 46 => 282 | 45 => 281 | 50 => 210 | 5 => 5 | 9 => 9 | 66 => 304 | 70 => 308 | 76 => 316 | 77 => 103 | n => n, fun | n => n⟩
theorem sortSeg : Go.Proofs.SlLaysF0.n6 Tryz.prog sortSeg_ren := {
  mixed := by kernel_rfl
  f6 := ⟨Tryz.f99.name, by decide, Tryz.func99.trans (congrArg some (by kernel_rfl))⟩
  f14 := ⟨Tryz.f121.name, by decide, Tryz.func121.trans (congrArg some (by kernel_rfl))⟩
  f15 := Tryz.func114.trans (congrArg some (by kernel_rfl))
  f20 := ⟨Tryz.f144.name, by decide, Tryz.func144.trans (congrArg some (by kernel_rfl))⟩
  f21 := ⟨Tryz.f145.name, by decide, Tryz.func145.trans (congrArg some (by kernel_rfl))⟩
  f22 := ⟨Tryz.f146.name, by decide, Tryz.func146.trans (congrArg some (by kernel_rfl))⟩
  f23 := ⟨Tryz.f147.name, by decide, Tryz.func147.trans (congrArg some (by kernel_rfl))⟩
  f24 := ⟨Tryz.f148.name, by decide, Tryz.func148.trans (congrArg some (by kernel_rfl))⟩
  f25 := ⟨Tryz.f149.name, by decide, Tryz.func149.trans (congrArg some (by kernel_rfl))⟩
  f26 := ⟨Tryz.f150.name, by decide, Tryz.func150.trans (congrArg some (by kernel_rfl))⟩
  f27 := ⟨Tryz.f151.name, by decide, Tryz.func151.trans (congrArg some (by kernel_rfl))⟩
  f28 := Tryz.func136.trans (congrArg some (by kernel_rfl))
  f29 := Tryz.func137.trans (congrArg some (by kernel_rfl))
  f46 := ⟨Tryz.f170.name, by decide, Tryz.func170.trans (congrArg some (by kernel_rfl))⟩
  f47 := Tryz.func163.trans (congrArg some (by kernel_rfl))
  f48 := Tryz.func164.trans (congrArg some (by kernel_rfl))
  f49 := ⟨Tryz.f171.name, by decide, Tryz.func171.trans (congrArg some (by kernel_rfl))⟩
  f50 := ⟨Tryz.f172.name, by decide, Tryz.func172.trans (congrArg some (by kernel_rfl))⟩
  f57 := ⟨Tryz.f183.name, by decide, Tryz.func183.trans (congrArg some (by kernel_rfl))⟩
  t0 := Tryz.underlying0
  a0 := Tryz.isAgg0
  z0 := Tryz.sizeOf0
  v0 := Tryz.zeroValue0
  t3 := Tryz.underlying3
  a3 := Tryz.isAgg3
  z3 := Tryz.sizeOf3
  v3 := Tryz.zeroValue3
  t4 := Tryz.underlying4
  a4 := Tryz.isAgg4
  z4 := Tryz.sizeOf4
  v4 := Tryz.zeroValue4
  t5 := Tryz.underlying5
  a5 := Tryz.isAgg5
  z5 := Tryz.sizeOf5
  v5 := Tryz.zeroValue5
  t9 := Tryz.underlying9
  a9 := Tryz.isAgg9
  z9 := Tryz.sizeOf9
  v9 := Tryz.zeroValue9
  t22 := Tryz.underlying240
  a22 := Tryz.isAgg240
  z22 := Tryz.sizeOf240
  v22 := Tryz.zeroValue240
  t25 := Tryz.underlying247
  a25 := Tryz.isAgg247
  z25 := Tryz.sizeOf247
  v25 := Tryz.zeroValue247
  t39 := Tryz.underlying263
  a39 := Tryz.isAgg263
  z39 := Tryz.sizeOf263
  v39 := Tryz.zeroValue263
  t45 := Tryz.underlying281
  a45 := Tryz.isAgg281
  z45 := Tryz.sizeOf281
  v45 := Tryz.zeroValue281
  t46 := Tryz.underlying282
  a46 := Tryz.isAgg282
  z46 := Tryz.sizeOf282
  v46 := Tryz.zeroValue282
  t50 := Tryz.underlying210
  a50 := Tryz.isAgg210
  z50 := Tryz.sizeOf210
  v50 := Tryz.zeroValue210
  t53 := Tryz.underlying288
  a53 := Tryz.isAgg288
  z53 := Tryz.sizeOf288
  v53 := Tryz.zeroValue288
  t55 := Tryz.underlying74
  a55 := Tryz.isAgg74
  z55 := Tryz.sizeOf74
  v55 := Tryz.zeroValue74
  t66 := Tryz.underlying304
  a66 := Tryz.isAgg304
  z66 := Tryz.sizeOf304
  v66 := Tryz.zeroValue304
  t70 := Tryz.underlying308
  a70 := Tryz.isAgg308
  z70 := Tryz.sizeOf308
  v70 := Tryz.zeroValue308
  t76 := Tryz.underlying316
  a76 := Tryz.isAgg316
  z76 := Tryz.sizeOf316
  v76 := Tryz.zeroValue316
  t77 := Tryz.underlying103
  a77 := Tryz.isAgg103
  z77 := Tryz.sizeOf103
  v77 := Tryz.zeroValue103 }
def bitsLen_ren : Go.Shelf.Ren := ⟨fun | 125 => 114 | 128 => 136 | 129 => 137 | n => n, fun | 46 => 263 | 3 => 3 | 51 => 288 | 53 => 74 | 4 => 4 | 5 => 5 | 9 => 9 | n => n, fun | n => n⟩
theorem bitsLen : Go.Proofs.Lays.n125 Tryz.prog bitsLen_ren := {
  mixed := by kernel_rfl
  f125 := Tryz.func114.trans (congrArg some (by kernel_rfl))
  f128 := Tryz.func136.trans (congrArg some (by kernel_rfl))
  f129 := Tryz.func137.trans (congrArg some (by kernel_rfl))
  t3 := Tryz.underlying3
  a3 := Tryz.isAgg3
  z3 := Tryz.sizeOf3
  v3 := Tryz.zeroValue3
  t4 := Tryz.underlying4
  a4 := Tryz.isAgg4
  z4 := Tryz.sizeOf4
  v4 := Tryz.zeroValue4
  t5 := Tryz.underlying5
  a5 := Tryz.isAgg5
  z5 := Tryz.sizeOf5
  v5 := Tryz.zeroValue5
  t9 := Tryz.underlying9
  a9 := Tryz.isAgg9
  z9 := Tryz.sizeOf9
  v9 := Tryz.zeroValue9
  t46 := Tryz.underlying263
  a46 := Tryz.isAgg263
  z46 := Tryz.sizeOf263
  v46 := Tryz.zeroValue263
  t51 := Tryz.underlying288
  a51 := Tryz.isAgg288
  z51 := Tryz.sizeOf288
  v51 := Tryz.zeroValue288
  t53 := Tryz.underlying74
  a53 := Tryz.isAgg74
  z53 := Tryz.sizeOf74
  v53 := Tryz.zeroValue74 }
end Go.Proofs.YtkokiefclmbgaaaGreatDoor

/- slices.SortFunc at segments, by their addresses. -/
namespace Go.Proofs.YtkokiefclmbgaaaGreatDoor
open Go.RowKit
set_option linter.unusedVariables false
set_option linter.unusedSimpArgs false

abbrev seg0 : Seg := ⟨0, 0, 0, 0, 0⟩
def addrCmp (x y : Seg) : Int := if x.addr < y.addr then -1 else if y.addr < x.addr then 1 else 0
theorem addrCmp_neg (x y : Seg) : addrCmp x y < 0 ↔ x.addr < y.addr := by
  unfold addrCmp
  split
  · simp [*]
  · split <;> simp [*]

set_option maxHeartbeats 400000 in
theorem isNaN_no (x : Int) (w : World) : Calls Tryz.prog 122 #[.int .u64 x] w fun e w' => e = .returned (.bool false) ∧ w' = w := by
  have h : (x != x) = false := by simp
  go_enter Tryz.func122, Tryz.ntmps122
  go_wp2
  go_ret
  exact ⟨rfl, rfl⟩
set_option maxHeartbeats 400000 in
theorem cmpU64 (x y r : Int) (w : World) (hr : r = if x < y then -1 else if y < x then 1 else 0) : Calls Tryz.prog 101 #[.int .u64 x, .int .u64 y] w fun e w' => e = .returned (.int .i64 r) ∧ w' = w := by
  have H := hide isNaN_no
  by_cases h1 : x < y
  · rw [if_pos h1] at hr
    subst hr
    go_enter Tryz.func101, Tryz.ntmps101
    go_wp2_with (go_at_call 122; refine (unhide H _ _).mono ?_; rintro e w' ⟨rfl, rfl⟩)
    go_ret
    exact ⟨rfl, rfl⟩
  · rw [if_neg h1] at hr
    by_cases h2 : y < x
    · rw [if_pos h2] at hr
      subst hr
      go_enter Tryz.func101, Tryz.ntmps101
      go_wp2_with (go_at_call 122; refine (unhide H _ _).mono ?_; rintro e w' ⟨rfl, rfl⟩)
      go_ret
      exact ⟨rfl, rfl⟩
    · rw [if_neg h2] at hr
      subst hr
      go_enter Tryz.func101, Tryz.ntmps101
      go_wp2_with (go_at_call 122; refine (unhide H _ _).mono ?_; rintro e w' ⟨rfl, rfl⟩)
      go_ret
      exact ⟨rfl, rfl⟩
set_option maxHeartbeats 1000000 in
theorem closure_any (b off cap : Nat) (x y : Seg) (W : World) : Calls Tryz.prog 100 #[.agg (segCells b off cap x).toArray, .agg (segCells b off cap y).toArray] W fun e w' => e = .returned (.int .i64 (addrCmp x y)) ∧ ∃ q os', w' = Go.Sort.grow (W.drewN q) os' := by
  have H := hide (fun w => cmpU64 x.addr y.addr (addrCmp x y) w rfl)
  generalize addrCmp x y = r at H ⊢
  unfold segCells
  go_enter Tryz.func100, Tryz.ntmps100
  go_wp2_with (go_at_call 101; refine (unhide H _).mono ?_; rintro e w' ⟨rfl, rfl⟩)
  go_ret
  exact ⟨rfl, 0, _, by rw [Go.Sort.alloc_eq_grow, Go.Sort.alloc_eq_grow, Go.Sort.grow_grow]; rfl⟩

theorem segsRow_get (b off cap : Nat) : ∀ (ss : List Seg) (i j : Nat) (s : Seg), j < 5 → ss[i]? = some s → (segsRow b off cap ss)[i * 5 + j]? = (segCells b off cap s)[j]?
  | [], i, j, s, _, h => by simp at h
  | x :: r, 0, j, s, hj, h => by
    obtain rfl : x = s := by simpa using h
    rw [segsRow, List.flatMap_cons, Nat.zero_mul, Nat.zero_add, List.getElem?_append_left (show j < (segCells b off cap x).length from hj)]
  | x :: r, i + 1, j, s, hj, h => by
    have ih := segsRow_get b off cap r i j s hj (by simpa using h)
    rw [segsRow, List.flatMap_cons, List.getElem?_append_right (show (segCells b off cap x).length ≤ (i + 1) * 5 + j from by show 5 ≤ _; omega)]
    rw [show (i + 1) * 5 + j - (segCells b off cap x).length = i * 5 + j from by show (i + 1) * 5 + j - 5 = _; omega]
    exact ih
section
variable [Inhabited Seg]
theorem flat_row (b off cap : Nat) (ss : List Seg) : Go.Sort.flatK (segCells b off cap) 5 ss.toArray = (segsRow b off cap ss).toArray := by
  apply Go.Sort.ext_get!
  · simp [segsRow_length]
  · intro t ht
    have ht' : t < ss.length * 5 := by simpa using ht
    rw [Go.Sort.get_flatK _ _ _ _ (by simpa using ht')]
    have hi : t / 5 < ss.length := by omega
    have h := segsRow_get b off cap ss (t / 5) (t % 5) ss[t / 5] (Nat.mod_lt _ (by omega)) (List.getElem?_eq_getElem hi)
    rw [show t / 5 * 5 + t % 5 = t from by omega] at h
    have e : ss.toArray[t / 5]! = ss[t / 5] := by simp [getElem!_pos, hi]
    rw [e]
    simp only [List.getElem!_toArray, List.getElem!_eq_getElem?_getD, h]
theorem holdsK_of {w : World} {g : Nat} {t : TypeId} {b off cap : Nat} {ss : List Seg} (h : Holds w g t (segsRow b off cap ss)) : Go.Sort.HoldsK (segCells b off cap) 5 w g 0 ss.toArray := by
  unfold Go.Sort.HoldsK
  rw [flat_row]
  intro j hj
  rw [Nat.zero_add]
  refine ⟨?_, h.frozen j⟩
  have hj' : j < (segsRow b off cap ss).length := by simpa using hj
  rw [h.cell (List.getElem?_eq_getElem hj')]
  simp [getElem!_pos, hj']
theorem holds_sorted {w : World} {g : Nat} {t : TypeId} {b off cap : Nat} {ss ss' : List Seg} (h : Holds w g t (segsRow b off cap ss)) (hl : ss'.length = ss.length) (m : Nat) (os : Array Obj) :
    Holds (sortWorldK (segCells b off cap) 5 w g 0 m ss'.toArray os) g t (segsRow b off cap ss') ∧ w.grownBy (sortWorldK (segCells b off cap) 5 w g 0 m ss'.toArray os) (some g) := by
  have hlt := h.lt
  have hl2 : (segsRow b off cap ss').length = (segsRow b off cap ss).length := by rw [segsRow_length, segsRow_length, hl]
  unfold sortWorldK Go.Sort.grow Go.Sort.putRowK Go.Sort.putRow Go.Sort.mapBlock Go.Sort.ahead
  rw [flat_row]
  constructor
  · unfold Holds at h ⊢
    simp only
    rw [Array.getElem?_append_left (by simpa using hlt), Array.getElem?_modify, if_pos rfl, h]
    simp only [Option.map_some, Go.Sort.onCells, Option.some.injEq, Obj.cells.injEq, and_true]
    unfold Go.Sort.putCells
    apply Array.ext
    · simp [hl2]
    · intro i h1 h2
      have h2' : i < (segsRow b off cap ss').length := by simpa using h2
      simp [h2', getElem!_pos]
  · refine ⟨rfl, rfl, rfl, by simp, fun k hk hne => ?_⟩
    simp only
    rw [Array.getElem?_append_left (by simpa using hk), Array.getElem?_modify, if_neg (fun e => hne (by rw [e]))]
end
theorem addr_swo : Go.Sort.SWO (ltOf addrCmp) where
  irrefl x := by simp only [ltOf, addrCmp_neg]; simp
  trans x y z h1 h2 := by simp only [ltOf, addrCmp_neg, decide_eq_true_eq] at *; omega
  ntrans x y z h1 h2 := by simp only [ltOf, addrCmp_neg, decide_eq_false_iff_not] at *; omega
theorem bitsLen_some (n : Nat) (W : World) (h : n ≤ 12) : Calls Tryz.prog 114 #[.int .u64 n] W fun e w' => (∃ l : Int, e = .returned (.int .i64 l)) ∧ w' = W :=
  (Any.bits_Len bitsLen n W (by omega) (by omega)).mono fun _ _ ⟨he, hw⟩ => ⟨⟨_, he⟩, hw⟩
theorem sort_any (b off cap g c : Nat) (ss : List Seg) (w : World) (h : Holds w g 245 (segsRow b off cap ss)) (h8 : ss.length ≤ 8) :
    Calls Tryz.prog 99 #[.slice (some ⟨g, 0, none⟩) ss.length c, .func (.func 100) #[] #[]] w fun e w' =>
      e = .returned (.tuple #[]) ∧ ∃ ss' : List Seg, ss'.Perm ss ∧ (∀ i j, i < j → j < ss'.length → (ss'.getD i seg0).addr ≤ (ss'.getD j seg0).addr) ∧ Holds w' g 245 (segsRow b off cap ss') ∧ w.grownBy w' (some g) := by
  haveI hinh : Inhabited Seg := ⟨seg0⟩
  have eg : ∀ args w, (callFunc 100 args).run Tryz.prog w = .ok (.enter 100 args) w := enters_of Tryz.func100 (by kernel_rfl) rfl
  have hcon := AnyQ.slices_SortFunc_small_sorted sortSeg 5 Tryz.isAgg245 Tryz.sizeOf245 (segCells b off cap) (fun _ => rfl) (segCells_one b off cap) addrCmp 100 #[] addr_swo g 0 c ss.toArray w eg (fun _ _ _ _ x y => closure_any b off cap x y _) (holdsK_of h) h.lt (by simp; omega) (fun n W hn => bitsLen_some n W hn)
  change Calls Tryz.prog 99 #[.slice (some ⟨g, 0, none⟩) ss.length c, .func (.func 100) #[] #[]] w _ at hcon
  refine hcon.mono ?_
  rintro e w' ⟨he, d', n, os, hp, hs, rfl⟩
  refine ⟨he, d'.toList, ?_, ?_, ?_⟩
  · have := hp.2.2
    have hsz := hp.1
    simp only [List.size_toArray] at this hsz
    rw [show d'.extract 0 ss.length = d' from by rw [← hsz]; simp] at this
    simpa using this
  · intro i j hij hj
    have hsz := hp.1
    simp only [List.size_toArray] at hsz
    have := hs i j (Nat.zero_le _) hij (by simp only [List.size_toArray]; simpa [hsz] using hj)
    simp only [ltOf, addrCmp_neg, decide_eq_false_iff_not] at this
    have hj' : j < d'.size := by simpa using hj
    have hi' : i < d'.size := by omega
    rw [getElem!_pos d' j hj', getElem!_pos d' i hi'] at this
    simp only [List.getD, Array.getElem?_toList, Array.getElem?_eq_getElem hj', Array.getElem?_eq_getElem hi', Option.getD_some]
    omega
  · have hsz := hp.1
    have := holds_sorted (ss' := d'.toList) h (by simpa using hsz) n os
    simpa using this
end Go.Proofs.YtkokiefclmbgaaaGreatDoor
