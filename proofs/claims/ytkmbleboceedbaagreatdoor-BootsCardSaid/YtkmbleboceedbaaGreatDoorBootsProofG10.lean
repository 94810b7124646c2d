import Derived.Test.YtkmbleboceedbaaGreatDoorBootsProofG03
import Derived.Deep.MidRow
import Derived.Test.YtkmbleboceedbaaGreatDoorBootsProofG09
import Derived.Test.YtkmbleboceedbaaGreatDoorBootsProofG02
import Derived.Test.YtkmbleboceedbaaGreatDoorBootsProofG04
/- exe.readSegments. -/
namespace Go.Proofs.YtkmbleboceedbaaGreatDoor
open Go.RowKit
set_option linter.unusedVariables false
set_option linter.unusedSimpArgs false

def segCells (b off cap : Nat) (s : Seg) : List Value := [.int .u8 s.perm, .int .u64 s.addr, .slice (some ⟨b, segPtr off cap s, none⟩) s.inFile.toNat (cap - s.offs.toNat), .int .i64 (s.addr / 256), .int .i64 ((s.addr + s.mem - 1) / 256)]
theorem segVal_cells (b off cap : Nat) (s : Seg) : segVal b off cap s = .agg (segCells b off cap s).toArray := rfl
def noCells : List Value := [.int .u8 0, .int .u64 0, .slice none 0 0, .int .i64 0, .int .i64 0]
def segsRow (b off cap : Nat) (ss : List Seg) : List Value := ss.flatMap (segCells b off cap)
/-- The first k segments of the file. -/
def segsUpTo (B : List Int) (k : Nat) : List Seg := (List.range k).map fun i => segAt B (64 + 56 * i)
/-- The row of n segments, k of them read. -/
def segsFill (b off cap : Nat) (B : List Int) (n k : Nat) : List Value := segsRow b off cap (segsUpTo B k) ++ (List.replicate (n - k) noCells).flatten
theorem segsRow_length (b off cap : Nat) (ss : List Seg) : (segsRow b off cap ss).length = ss.length * 5 := by
  unfold segsRow
  induction ss with
  | nil => rfl
  | cons s r ih => rw [List.flatMap_cons, List.length_append, ih]; simp [segCells]; omega
theorem segsUpTo_length (B : List Int) (k : Nat) : (segsUpTo B k).length = k := by simp [segsUpTo]
theorem segCells_one (b off cap : Nat) (s : Seg) : ∀ v ∈ segCells b off cap s, v.oneCell' = true := by
  intro v hv
  simp only [segCells, List.mem_cons, List.not_mem_nil, or_false] at hv
  rcases hv with rfl | rfl | rfl | rfl | rfl <;> rfl
theorem noRow_length (m : Nat) : (List.replicate m noCells).flatten.length = m * 5 := by
  induction m with
  | zero => rfl
  | succ m ih => rw [List.replicate_succ, List.flatten_cons, List.length_append, ih]; simp [noCells]; omega
theorem segsFill_length (b off cap : Nat) (B : List Int) (n k : Nat) (h : k ≤ n) : (segsFill b off cap B n k).length = n * 5 := by
  rw [segsFill, List.length_append, segsRow_length, segsUpTo_length, noRow_length]; omega
theorem segsFill_step (b off cap : Nat) (B : List Int) (n k : Nat) (h : k < n) : splice (segsFill b off cap B n k) (k * 5) (segCells b off cap (segAt B (64 + 56 * k))) = segsFill b off cap B n (k + 1) := by
  have e1 : n - k = (n - (k + 1)) + 1 := by omega
  have e2 : segsUpTo B (k + 1) = segsUpTo B k ++ [segAt B (64 + 56 * k)] := by simp [segsUpTo, List.range_succ]
  have hl : (segsRow b off cap (segsUpTo B k)).length = k * 5 := by rw [segsRow_length, segsUpTo_length]
  unfold splice segsFill
  rw [e1, List.replicate_succ, List.flatten_cons, e2, segsRow, segsRow, List.flatMap_append]
  change _ = (segsRow b off cap (segsUpTo B k) ++ _) ++ _
  change List.take _ (segsRow b off cap (segsUpTo B k) ++ _) ++ (_ ++ List.drop _ (segsRow b off cap (segsUpTo B k) ++ _)) = _
  rw [List.take_append_of_le_length (by omega), List.take_of_length_le (by omega), List.drop_append, List.drop_of_length_le (by omega), hl,
    show k * 5 + (segCells b off cap (segAt B (64 + 56 * k))).length - k * 5 = 5 from by simp [segCells]]
  simp [noCells]
theorem segsFill_full (b off cap : Nat) (B : List Int) (n : Nat) : segsFill b off cap B n n = segsRow b off cap (segsUpTo B n) := by
  rw [segsFill, Nat.sub_self]; simp
theorem segsFill_none (b off cap : Nat) (B : List Int) (n : Nat) : segsFill b off cap B n 0 = (List.replicate n noCells).flatten := by
  rw [segsFill, Nat.sub_zero]; rfl
theorem makeSegs1 (w : World) : (Instr.makeSlice 237 (.int .i64 ((1 : Nat) : Int)) (.int .i64 ((1 : Nat) : Int))).run Tryz.prog w = .ok (.slice (some ⟨w.heap.size, 0, none⟩) 1 1) (w.alloc (.cells (List.replicate 1 noCells).flatten.toArray 242)) := by kernel_rfl
theorem makeSegs2 (w : World) : (Instr.makeSlice 237 (.int .i64 ((2 : Nat) : Int)) (.int .i64 ((2 : Nat) : Int))).run Tryz.prog w = .ok (.slice (some ⟨w.heap.size, 0, none⟩) 2 2) (w.alloc (.cells (List.replicate 2 noCells).flatten.toArray 242)) := by kernel_rfl
theorem makeSegs3 (w : World) : (Instr.makeSlice 237 (.int .i64 ((3 : Nat) : Int)) (.int .i64 ((3 : Nat) : Int))).run Tryz.prog w = .ok (.slice (some ⟨w.heap.size, 0, none⟩) 3 3) (w.alloc (.cells (List.replicate 3 noCells).flatten.toArray 242)) := by kernel_rfl
theorem makeSegs4 (w : World) : (Instr.makeSlice 237 (.int .i64 ((4 : Nat) : Int)) (.int .i64 ((4 : Nat) : Int))).run Tryz.prog w = .ok (.slice (some ⟨w.heap.size, 0, none⟩) 4 4) (w.alloc (.cells (List.replicate 4 noCells).flatten.toArray 242)) := by kernel_rfl
theorem makeSegs5 (w : World) : (Instr.makeSlice 237 (.int .i64 ((5 : Nat) : Int)) (.int .i64 ((5 : Nat) : Int))).run Tryz.prog w = .ok (.slice (some ⟨w.heap.size, 0, none⟩) 5 5) (w.alloc (.cells (List.replicate 5 noCells).flatten.toArray 242)) := by kernel_rfl
theorem makeSegs6 (w : World) : (Instr.makeSlice 237 (.int .i64 ((6 : Nat) : Int)) (.int .i64 ((6 : Nat) : Int))).run Tryz.prog w = .ok (.slice (some ⟨w.heap.size, 0, none⟩) 6 6) (w.alloc (.cells (List.replicate 6 noCells).flatten.toArray 242)) := by kernel_rfl
theorem makeSegs7 (w : World) : (Instr.makeSlice 237 (.int .i64 ((7 : Nat) : Int)) (.int .i64 ((7 : Nat) : Int))).run Tryz.prog w = .ok (.slice (some ⟨w.heap.size, 0, none⟩) 7 7) (w.alloc (.cells (List.replicate 7 noCells).flatten.toArray 242)) := by kernel_rfl
theorem makeSegs8 (w : World) : (Instr.makeSlice 237 (.int .i64 ((8 : Nat) : Int)) (.int .i64 ((8 : Nat) : Int))).run Tryz.prog w = .ok (.slice (some ⟨w.heap.size, 0, none⟩) 8 8) (w.alloc (.cells (List.replicate 8 noCells).flatten.toArray 242)) := by kernel_rfl
theorem makeSegs (w : World) (n : Nat) (h1 : 1 ≤ n) (h8 : n ≤ 8) : (Instr.makeSlice 237 (.int .i64 n) (.int .i64 n)).run Tryz.prog w = .ok (.slice (some ⟨w.heap.size, 0, none⟩) n n) (w.alloc (.cells (List.replicate n noCells).flatten.toArray 242)) := by
  have h : n = 1 ∨ n = 2 ∨ n = 3 ∨ n = 4 ∨ n = 5 ∨ n = 6 ∨ n = 7 ∨ n = 8 := by omega
  rcases h with rfl | rfl | rfl | rfl | rfl | rfl | rfl | rfl
  · exact makeSegs1 w
  · exact makeSegs2 w
  · exact makeSegs3 w
  · exact makeSegs4 w
  · exact makeSegs5 w
  · exact makeSegs6 w
  · exact makeSegs7 w
  · exact makeSegs8 w
theorem segSize : (Tryz.prog.info? 242).map (·.size) = some 5 := by kernel_rfl
theorem holds_setCells {b : Nat} {t : TypeId} : ∀ (vs : List Value) (o : Nat) (W : World) (L : List Value), Holds W b t L → o + vs.length ≤ L.length → Holds (W.setCells b o vs) b t (splice L o vs)
  | [], o, W, L, h, _ => by rw [splice_nil]; exact h
  | v :: r, o, W, L, h, hl => by
    have hl' : o + (r.length + 1) ≤ L.length := hl
    have := holds_setCells r (o + 1) _ _ (h.set o v) (by rw [List.length_set]; omega)
    rw [World.setCells]
    have e : splice (L.set o v) (o + 1) r = splice L o (v :: r) := by
      have a := splice_set L o [v] 0 v rfl (by simp; omega)
      simp only [List.take_zero, splice_nil, Nat.add_zero, Nat.zero_add] at a
      rw [a, show (List.take 1 [v]) = [v] from rfl]
      exact splice_splice L o [v] r (by simp; omega)
    rwa [e] at this
theorem grown_setCells {w : World} {b : Nat} : ∀ (vs : List Value) (o : Nat) (wr : World), w.grownBy wr (some b) → w.grownBy (wr.setCells b o vs) (some b)
  | [], _, _, h => h
  | v :: r, o, wr, h => grown_setCells r (o + 1) _ (grown_set h o v)
theorem below_setCells {B b : Nat} {w : World} (hB : B ≤ b) : ∀ (vs : List Value) (o : Nat) (wr : World), Below B w wr → Below B w (wr.setCells b o vs)
  | [], _, _, h => h
  | v :: r, o, wr, h => below_setCells hB r (o + 1) _ (h.setCell (p := ⟨b, o, none⟩) hB v)
theorem holds_there {W : World} {b : Nat} {t : TypeId} {vs : List Value} (h : Holds W b t vs) (o n : Nat) (hn : o + n ≤ vs.length) : W.there b o n := fun j hj =>
  ⟨by rw [h.cell (List.getElem?_eq_getElem (show o + j < vs.length by omega))]; rfl, h.frozen _⟩

theorem wpList_store_part {P : Program} {ops : Array Oper} {rest : List Oper} {o : Oper} {a : Act} {w : World} {Q : Exit → Act → World → Prop} (hgd : o.guard = none) (ty : TypeId) (x y : Operand) (ho : o.op = .store ty x y)
    (g off : Nat) (cs : List Value) (hx : a.eval x = .pointer (some ⟨g, off, none⟩)) (hy : a.eval y = .agg cs.toArray)
    (t : TypeId) (old : List Value) (hg : Holds w g t old) (hi : (P.info? ty).map (·.size) = some cs.length) (hfit : off + cs.length ≤ old.length) (h1 : ∀ v ∈ cs, v.oneCell' = true)
    (h : ∀ w', Hid (Holds w' g t (splice old off cs)) → Hid (w.grownBy w' (some g)) → wpList P ops Q rest (a.put o.dst undef) w') : wpList P ops Q (o :: rest) a w := by
  refine wpList_store_mid hgd ty x y ho g off cs.toArray hx hy (holds_there hg _ _ (by simpa using hfit)) (by simpa using hi) (all_oneCell_toArray h1) ?_
  refine h _ (hide (holds_setCells cs off _ _ hg hfit)) (hide (grown_setCells cs off w ⟨rfl, rfl, rfl, Nat.le_refl _, fun _ _ _ => rfl⟩))
theorem segSize' (b off cap : Nat) (s : Seg) : (Tryz.prog.info? 242).map (·.size) = some (segCells b off cap s).length := segSize
theorem segs_fit {b off cap : Nat} {B : List Int} {n k : Nat} (h : k < n) (s : Seg) : k * 5 + (segCells b off cap s).length ≤ (segsFill b off cap B n k).length := by
  rw [segsFill_length _ _ _ _ _ _ (by omega)]
  show k * 5 + 5 ≤ n * 5
  omega

theorem upTo_step {p : Nat → Prop} {k : Nat} (h : ∀ i, i < k → p i) (hk : p k) : ∀ i, i < k + 1 → p i := fun i hi => by
  rcases Nat.lt_succ_iff_lt_or_eq.1 hi with h' | h'
  · exact h i h'
  · rw [h']; exact hk

def SegsPost (b off cap : Nat) (B : List Int) (n : Nat) (w : World) (e : Ending) (w' : World) : Prop :=
  ((∀ i, i < n → SegOk B (64 + 56 * i)) ∧ e = .returned (.tuple #[.slice (some ⟨w.heap.size, 0, none⟩) n n, .bool true]) ∧ Holds w' w.heap.size 242 (segsRow b off cap (segsUpTo B n)) ∨
   (¬ ∀ i, i < n → SegOk B (64 + 56 * i)) ∧ e = .returned (.tuple #[.slice none 0 0, .bool false])) ∧ Below w.heap.size w w'

set_option maxRecDepth 100000 in
set_option maxHeartbeats 2000000 in
theorem readSegments_any (b off cap : Nat) (B : List Int) (n : Nat) (w : World) (hB : IsBytes B) (hcap : B.length ≤ cap) (hlen : B.length ≤ 500000) (hv : BView w b off B) (hbw : b < w.heap.size) (h1 : 1 ≤ n) (h8 : n ≤ 8) (hp : 64 + 56 * n ≤ B.length) :
    Calls Tryz.prog 96 #[.slice (some ⟨b, off, none⟩) B.length cap, .int .i64 n] w fun e w' => SegsPost b off cap B n w e w' := by
  have hmk := fun w => makeSegs w n h1 h8
  have HB := hide hB
  have HV := hide hv
  have HL := hide (And.intro hcap (And.intro hlen hp))
  clear hB hv hcap hlen hp
  go_enter Tryz.func96, Tryz.ntmps96
  go_wp2
  go_loopw [14] (fun i wr => ∃ k : Nat, k ≤ n ∧ i = .int .i64 k ∧ (∀ i, i < k → SegOk B (64 + 56 * i)) ∧ Holds wr w.heap.size 242 (segsFill b off cap B n k) ∧ Below w.heap.size w wr) (fun i _ => n - (intOf i).toNat)
  case atStart => exact ⟨0, by omega, rfl, fun i hi => by omega, by rw [segsFill_none]; exact Holds.new _ _ _, (Below.refl _ _).alloc (Nat.le_refl _) _⟩
  case round =>
    obtain ⟨k, hk, rfl, hok, hh, hbl⟩ := hrel
    have HOK := hide hok
    have HH := hide hh
    have HBL := hide hbl
    have hgl := hh.lt
    clear hok hh hbl
    by_cases hlt : k < n
    · obtain ⟨p, hp⟩ : ∃ p, p = 64 + 56 * k := ⟨_, rfl⟩
      have e1 : (64 : Int) + 56 * (k : Int) = (p : Int) := by omega
      have hp5 : (p : Int) ≤ 600 := by omega
      have hvr : BView wr b off B := (unhide HV).below (unhide HBL) hbw
      have HR := hide (readSegment_any b off cap B p wr (unhide HB) (unhide HL).1 (unhide HL).2.1 hvr (by omega) (by have := (unhide HL).2.2; omega))
      have HP := hide hp
      have hk0 : (0 : Int) ≤ (k : Int) := by omega
      have hkn : (k : Int) < (n : Int) := by omega
      have hk8 : (k : Int) ≤ 8 := by omega
      clear hp hvr
      go_wp2_with fail
      refine (unhide HR).mono ?_
      rintro e w1 ⟨(⟨ok, rfl⟩ | ⟨nok, rfl⟩), hb1⟩
      · have hh1 := (unhide HH).below hb1 hgl
        have hbl1 := (unhide HBL).trans (hb1.mono (unhide HBL).size)
        have OK := hide ok
        have HH1 := hide hh1
        have HBL1 := hide hbl1
        clear ok hh1 hbl1 hb1 HH HBL HR
        unfold segVal
        obtain ⟨sg, hsg⟩ : ∃ s, s = segAt B p := ⟨_, rfl⟩
        rw [← hsg]
        have hstep : splice (segsFill b off cap B n k) (k * 5) (segCells b off cap sg) = segsFill b off cap B n (k + 1) := by rw [hsg, unhide HP]; exact segsFill_step _ _ _ _ _ _ hlt
        clear hsg
        have HST := hide hstep
        have hgl1 := (unhide HH1).lt
        clear hstep
        go_wp2_with (refine wpList_store_part rfl 242 (.tmp 30) (.tmp 29) rfl w.heap.size (k * 5) (segCells b off cap sg) (by rfl) (by rfl) 242 (segsFill b off cap B n k) ((unhide HH1).alloc _) (segSize' b off cap sg) (segs_fit hlt sg) (segCells_one b off cap sg) ?_; intro w2 HH2 HG2)
        go_roundw
        case rel =>
          have hba := (unhide HBL1).alloc (Nat.le_of_lt hgl1) (.cells (segCells b off cap sg).toArray 242)
          exact ⟨k + 1, by omega, by go_num, upTo_step (unhide HOK) (by rw [← unhide HP]; exact unhide OK), by rw [← unhide HST]; exact unhide HH2, hba.trans (below_grown (unhide HG2) (Nat.le_refl _) hba.size)⟩
        case measure => simp [intOf]; omega
      · have hbl1 := (unhide HBL).trans (hb1.mono (unhide HBL).size)
        have hsz1 := hbl1.size
        have HBL1 := hide hbl1
        have NOK := hide nok
        clear hb1 hbl1 nok HR
        unfold noSeg
        go_wp2
        exact bodyPost_ret (v := .tuple #[.slice none 0 0, .bool false]) (by simp [results, Tryz.results96, go_sem]) rfl ⟨.inr ⟨fun h => unhide NOK (by rw [unhide HP]; exact h k hlt), rfl⟩, (unhide HBL1).alloc hsz1 _⟩
    · have hkn : k = n := by omega
      subst hkn
      go_wp2
      exact bodyPost_ret (v := .tuple #[.slice (some ⟨w.heap.size, 0, none⟩) k k, .bool true]) (by simp [results, Tryz.results96, go_sem]) rfl ⟨.inl ⟨unhide HOK, rfl, by rw [← segsFill_full]; exact unhide HH⟩, unhide HBL⟩
end Go.Proofs.YtkmbleboceedbaaGreatDoor

/- The program's address spaces: the cells of one, Count. -/
namespace Go.Proofs.YtkmbleboceedbaaGreatDoor
open Go Go.RowKit
set_option linter.unusedVariables false
set_option linter.unusedSimpArgs false

def isZ : Value → Bool
  | .int .u8 0 => true
  | _ => false
def allZ : List Value → Bool
  | [] => true
  | v :: r => match isZ v with | true => allZ r | false => false
theorem isZ_eq {v : Value} (h : isZ v = true) : v = .int .u8 0 := by
  unfold isZ at h
  split at h
  · rfl
  · cases h
theorem allZ_rep : ∀ (l : List Value), allZ l = true → l = List.replicate l.length (.int .u8 0)
  | [], _ => rfl
  | v :: r, h => by
    unfold allZ at h
    split at h
    · rename_i hv
      rw [isZ_eq hv, List.length_cons, List.replicate_succ, ← allZ_rep r h]
    · cases h
set_option maxRecDepth 1000000 in
theorem space_z : allZ Tryz.zeroCells176.toList = true := by kernel_rfl
def zeroSpace : List Value := List.replicate 65792 (.int .u8 0)
theorem space_zero : Tryz.zeroCells176 = zeroSpace.toArray := by
  have h := allZ_rep _ space_z
  have hl : Tryz.zeroCells176.toList.length = 65792 := by rw [Array.length_toList]; exact Tryz.zeroCells176_size
  rw [hl] at h
  unfold zeroSpace
  rw [← h]

/-! ### Rows of rows -/
theorem flat_congr' {α : Type} {l : List Nat} {f g : Nat → List α} (h : ∀ a ∈ l, f a = g a) : l.flatMap f = l.flatMap g := by
  induction l with
  | nil => rfl
  | cons a r ih => rw [List.flatMap_cons, List.flatMap_cons, h a (by simp), ih (fun b hb => h b (by simp [hb]))]
theorem range_split (n N : Nat) (h : n < N) : List.range N = List.range n ++ n :: List.range' (n + 1) (N - n - 1) := by
  rw [List.range_eq_range', List.range_eq_range', show N = n + (N - n - 1 + 1) by omega, ← List.range'_append_1, Nat.zero_add, List.range'_succ]
  congr 3
  omega
theorem flat_len {α : Type} (f : Nat → List α) (m : Nat) : ∀ (l : List Nat), (∀ j ∈ l, (f j).length = m) → (l.flatMap f).length = l.length * m
  | [], _ => by simp
  | a :: r, h => by
    rw [List.flatMap_cons, List.length_append, h a (by simp), flat_len f m r (fun j hj => h j (by simp [hj])), List.length_cons, Nat.succ_mul, Nat.add_comm]
theorem flat_get {α : Type} (f : Nat → List α) (m N : Nat) (hf : ∀ j, j < N → (f j).length = m) (j k : Nat) (hj : j < N) (hk : k < m) : ((List.range N).flatMap f)[j * m + k]? = (f j)[k]? := by
  rw [range_split j N hj, List.flatMap_append, List.flatMap_cons]
  have hl : ((List.range j).flatMap f).length = j * m := by rw [flat_len f m _ (fun i hi => hf i (by have := List.mem_range.1 hi; omega)), List.length_range]
  rw [List.getElem?_append_right (by omega), hl, Nat.add_sub_cancel_left, List.getElem?_append_left (by rw [hf j hj]; exact hk)]
theorem flat_splice {α : Type} (f g : Nat → List α) (m N n : Nat) (r : List α) (hf : ∀ j, j < N → (f j).length = m) (hr : r.length = m) (hn : n < N) (hg : g n = r) (ho : ∀ j, j < N → j ≠ n → g j = f j) : splice ((List.range N).flatMap f) (n * m) r = (List.range N).flatMap g := by
  rw [range_split n N hn, List.flatMap_append, List.flatMap_cons, List.flatMap_append, List.flatMap_cons]
  have hl : ((List.range n).flatMap f).length = n * m := by rw [flat_len f m _ (fun i hi => hf i (by have := List.mem_range.1 hi; omega)), List.length_range]
  have e1 : (List.range n).flatMap g = (List.range n).flatMap f := by
    refine flat_congr' (fun j hj => ho j ?_ ?_) <;> have := List.mem_range.1 hj <;> omega
  have e2 : (List.range' (n + 1) (N - n - 1)).flatMap g = (List.range' (n + 1) (N - n - 1)).flatMap f := by
    refine flat_congr' (fun j hj => ho j ?_ ?_) <;> have := List.mem_range'_1.1 hj <;> omega
  rw [e1, e2, hg]
  unfold splice
  rw [List.take_left' hl, hr]
  congr 2
  rw [← List.append_assoc, List.drop_left' (by rw [List.length_append, hl, hf n hn])]

/-! ### A space -/
def pageCells (p : Pg) : List Value := .int .u8 p.perm :: bytesRow p.bytes
def noPage : List Value := List.replicate 257 (.int .u8 0)
def spacePage (PS : List Pg) (j : Nat) : List Value := match PS.find? (fun p => p.num == (j : Int)) with | some p => pageCells p | none => noPage
/-- The cells of an address space with these pages. -/
def spaceRow (PS : List Pg) : List Value := (List.range 256).flatMap (spacePage PS)
/-- Pages by their numbers, all below 256, which may be used for something, of 256 bytes. -/
structure PgsOk (PS : List Pg) : Prop where
  sorted : PS.Pairwise (fun p q => p.num < q.num)
  each : ∀ p ∈ PS, 0 ≤ p.num ∧ p.num < 256 ∧ 1 ≤ p.perm ∧ p.perm ≤ 255 ∧ p.bytes.length = 256
theorem PgsOk.pre {PS QS : List Pg} (h : PgsOk (PS ++ QS)) : PgsOk PS := ⟨(List.pairwise_append.1 h.sorted).1, fun p hp => h.each p (List.mem_append_left _ hp)⟩
theorem pageCells_length {p : Pg} (h : p.bytes.length = 256) : (pageCells p).length = 257 := by unfold pageCells; rw [List.length_cons, bytesRow_length, h]
theorem spacePage_length {PS : List Pg} (h : ∀ p ∈ PS, p.bytes.length = 256) (j : Nat) : (spacePage PS j).length = 257 := by
  unfold spacePage
  split
  · rename_i p hp
    exact pageCells_length (h p (List.mem_of_find?_eq_some hp))
  · unfold noPage; exact List.length_replicate
theorem spaceRow_length {PS : List Pg} (h : ∀ p ∈ PS, p.bytes.length = 256) : (spaceRow PS).length = 65792 := by
  unfold spaceRow
  rw [flat_len _ 257 _ (fun j _ => spacePage_length h j), List.length_range]
theorem flat_const (z : Value) (m : Nat) : ∀ (l : List Nat), (l.flatMap fun _ => List.replicate m z) = List.replicate (l.length * m) z
  | [] => by simp
  | a :: r => by rw [List.flatMap_cons, flat_const z m r, List.length_cons, Nat.succ_mul, Nat.add_comm (r.length * m), List.replicate_append_replicate]
theorem space_nil : spaceRow [] = zeroSpace := by
  show (List.range 256).flatMap (fun _ => List.replicate 257 (Value.int .u8 0)) = zeroSpace
  rw [flat_const, List.length_range]
  rfl
theorem space_get {PS : List Pg} (h : ∀ p ∈ PS, p.bytes.length = 256) (j k : Nat) (hj : j < 256) (hk : k < 257) : (spaceRow PS)[j * 257 + k]? = (spacePage PS j)[k]? := flat_get _ 257 256 (fun j _ => spacePage_length h j) j k hj hk
theorem space_step {PS : List Pg} {p : Pg} (h : PgsOk (PS ++ [p])) (n : Nat) (hn : p.num = n) : splice (spaceRow PS) (n * 257) (pageCells p) = spaceRow (PS ++ [p]) := by
  have hp := h.each p (by simp)
  have hb : ∀ q ∈ PS, q.bytes.length = 256 := fun q hq => (h.each q (by simp [hq])).2.2.2.2
  have hlt : ∀ q ∈ PS, q.num < p.num := fun q hq => (List.pairwise_append.1 h.sorted).2.2 q hq p (by simp)
  refine flat_splice _ _ 257 256 n _ (fun j _ => spacePage_length hb j) (pageCells_length hp.2.2.2.2) (by omega) ?_ (fun j hj hne => ?_)
  · unfold spacePage
    rw [List.find?_append, show PS.find? (fun q => q.num == (n : Int)) = none from List.find?_eq_none.2 (fun q hq => by have := hlt q hq; simp; omega)]
    simp [hn]
  · unfold spacePage
    rw [List.find?_append]
    cases hf : PS.find? (fun q => q.num == (j : Int)) with
    | some q => rfl
    | none =>
      have : ([p].find? (fun q => q.num == (j : Int))) = none := List.find?_eq_none.2 (fun q hq => by simp at hq; subst hq; simp; omega)
      rw [this]; rfl
/-- The pages below a number. -/
def pgsTo (PS : List Pg) (n : Nat) : List Pg := (List.range n).filterMap (fun j : Nat => PS.find? (fun p => p.num == (j : Int)))
theorem pgsTo_succ (PS : List Pg) (n : Nat) : pgsTo PS (n + 1) = pgsTo PS n ++ (PS.find? (fun p => p.num == (n : Int))).toList := by
  unfold pgsTo
  rw [List.range_succ, List.filterMap_append]
  cases h : PS.find? (fun p => p.num == (n : Int)) <;> simp [h]
theorem pgsTo_take {PS : List Pg} (h : PgsOk PS) : ∀ n : Nat, pgsTo PS n = PS.filter (fun p => decide (p.num < (n : Int)))
  | 0 => by
    unfold pgsTo
    simp only [List.range_zero, List.filterMap_nil]
    symm
    rw [List.filter_eq_nil_iff]
    intro p hp
    have := (h.each p hp).1
    simp; omega
  | n + 1 => by
    rw [pgsTo_succ, pgsTo_take h n]
    clear pgsTo_take
    have hs := h.sorted
    have h0 : ∀ p ∈ PS, 0 ≤ p.num := fun p hp => (h.each p hp).1
    clear h
    induction PS with
    | nil => rfl
    | cons a r ih =>
      obtain ⟨ha, hr⟩ := List.pairwise_cons.1 hs
      have ih := ih hr (fun p hp => h0 p (by simp [hp]))
      by_cases hlt : a.num < (n : Int)
      · rw [List.filter_cons_of_pos (by simpa using hlt), List.filter_cons_of_pos (by simp; omega), List.find?_cons_of_neg (by simp; omega), List.cons_append, ih]
      · have hrn : ∀ q ∈ r, ¬ q.num < (n : Int) := fun q hq => by have := ha q hq; omega
        by_cases heq : a.num = (n : Int)
        · rw [List.filter_cons_of_neg (by simpa using hlt), List.filter_cons_of_pos (by simp; omega), List.find?_cons_of_pos (by simpa using heq)]
          have e1 : r.filter (fun p => decide (p.num < (n : Int))) = [] := List.filter_eq_nil_iff.2 (fun q hq => by have := hrn q hq; simpa using this)
          have e2 : r.filter (fun p => decide (p.num < ((n + 1 : Nat) : Int))) = [] := List.filter_eq_nil_iff.2 (fun q hq => by have := ha q hq; simp; omega)
          rw [e1, e2]; rfl
        · rw [List.filter_cons_of_neg (by simpa using hlt), List.filter_cons_of_neg (by simp; omega), List.find?_cons_of_neg (by simpa using heq)]
          exact ih
theorem pgsTo_all {PS : List Pg} (h : PgsOk PS) : pgsTo PS 256 = PS := by
  rw [pgsTo_take h]
  exact List.filter_eq_self.2 (fun p hp => by have := (h.each p hp).2.1; simp; omega)
theorem pgsTo_len (PS : List Pg) : ∀ n, (pgsTo PS n).length ≤ n
  | 0 => by simp [pgsTo]
  | n + 1 => by
    have := pgsTo_len PS n
    rw [pgsTo_succ, List.length_append]
    cases h : PS.find? (fun p => p.num == (n : Int)) <;> simp <;> omega
def permAt (PS : List Pg) (j : Nat) : Int := match PS.find? (fun p => p.num == (j : Int)) with | some p => p.perm | none => 0
theorem spacePage_perm (PS : List Pg) (j : Nat) : (spacePage PS j)[0]? = some (.int .u8 (permAt PS j)) := by
  unfold spacePage permAt
  split <;> rfl
end Go.Proofs.YtkmbleboceedbaaGreatDoor
