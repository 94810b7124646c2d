/- exe.readSegments. -/
import Derived.Test.YtkkpeboejgkmaaaDoorLoadSegExe
import Derived.Deep.MidRow
namespace Go.Proofs.YtkkpeboejgkmaaaDoor
open Go.RowKit
set_option linter.unusedVariables false
set_option linter.unusedSimpArgs false

def segCells (b off cap : Nat) (s : Seg) : List Value := [.int .u8 s.perm, .int .u64 s.addr, .slice (some ⟨b, segPtr off cap s, none⟩) s.inFile.toNat (cap - s.offs.toNat), .int .i64 (s.addr / 256), .int .i64 ((s.addr + s.mem - 1) / 256)]
theorem segVal_cells (b off cap : Nat) (s : Seg) : segVal b off cap s = .agg (segCells b off cap s).toArray := rfl
def noCells : List Value := [.int .u8 0, .int .u64 0, .slice none 0 0, .int .i64 0, .int .i64 0]
def segsRow (b off cap : Nat) (ss : List Seg) : List Value := ss.flatMap (segCells b off cap)
/-- The first k segments of the file. -/
def segsUpTo (B : List Int) (k : Nat) : List Seg := (List.range k).map fun i => segAt B (64 + 56 * i)
/-- The row of n segments, k of them read. -/
def segsFill (b off cap : Nat) (B : List Int) (n k : Nat) : List Value := segsRow b off cap (segsUpTo B k) ++ (List.replicate (n - k) noCells).flatten
theorem segsRow_length (b off cap : Nat) (ss : List Seg) : (segsRow b off cap ss).length = ss.length * 5 := by
  unfold segsRow
  induction ss with
  | nil => rfl
  | cons s r ih => rw [List.flatMap_cons, List.length_append, ih]; simp [segCells]; omega
theorem segsUpTo_length (B : List Int) (k : Nat) : (segsUpTo B k).length = k := by simp [segsUpTo]
theorem segCells_one (b off cap : Nat) (s : Seg) : ∀ v ∈ segCells b off cap s, v.oneCell' = true := by
  intro v hv
  simp only [segCells, List.mem_cons, List.not_mem_nil, or_false] at hv
  rcases hv with rfl | rfl | rfl | rfl | rfl <;> rfl
theorem noRow_length (m : Nat) : (List.replicate m noCells).flatten.length = m * 5 := by
  induction m with
  | zero => rfl
  | succ m ih => rw [List.replicate_succ, List.flatten_cons, List.length_append, ih]; simp [noCells]; omega
theorem segsFill_length (b off cap : Nat) (B : List Int) (n k : Nat) (h : k ≤ n) : (segsFill b off cap B n k).length = n * 5 := by
  rw [segsFill, List.length_append, segsRow_length, segsUpTo_length, noRow_length]; omega
theorem segsFill_step (b off cap : Nat) (B : List Int) (n k : Nat) (h : k < n) : splice (segsFill b off cap B n k) (k * 5) (segCells b off cap (segAt B (64 + 56 * k))) = segsFill b off cap B n (k + 1) := by
  have e1 : n - k = (n - (k + 1)) + 1 := by omega
  have e2 : segsUpTo B (k + 1) = segsUpTo B k ++ [segAt B (64 + 56 * k)] := by simp [segsUpTo, List.range_succ]
  have hl : (segsRow b off cap (segsUpTo B k)).length = k * 5 := by rw [segsRow_length, segsUpTo_length]
  unfold splice segsFill
  rw [e1, List.replicate_succ, List.flatten_cons, e2, segsRow, segsRow, List.flatMap_append]
  change _ = (segsRow b off cap (segsUpTo B k) ++ _) ++ _
  change List.take _ (segsRow b off cap (segsUpTo B k) ++ _) ++ (_ ++ List.drop _ (segsRow b off cap (segsUpTo B k) ++ _)) = _
  rw [List.take_append_of_le_length (by omega), List.take_of_length_le (by omega), List.drop_append, List.drop_of_length_le (by omega), hl,
    show k * 5 + (segCells b off cap (segAt B (64 + 56 * k))).length - k * 5 = 5 from by simp [segCells]]
  simp [noCells]
theorem segsFill_full (b off cap : Nat) (B : List Int) (n : Nat) : segsFill b off cap B n n = segsRow b off cap (segsUpTo B n) := by
  rw [segsFill, Nat.sub_self]; simp
theorem segsFill_none (b off cap : Nat) (B : List Int) (n : Nat) : segsFill b off cap B n 0 = (List.replicate n noCells).flatten := by
  rw [segsFill, Nat.sub_zero]; rfl
theorem makeSegs1 (w : World) : (Instr.makeSlice 101 (.int .i64 ((1 : Nat) : Int)) (.int .i64 ((1 : Nat) : Int))).run Tryd.prog w = .ok (.slice (some ⟨w.heap.size, 0, none⟩) 1 1) (w.alloc (.cells (List.replicate 1 noCells).flatten.toArray 106)) := by kernel_rfl
theorem makeSegs2 (w : World) : (Instr.makeSlice 101 (.int .i64 ((2 : Nat) : Int)) (.int .i64 ((2 : Nat) : Int))).run Tryd.prog w = .ok (.slice (some ⟨w.heap.size, 0, none⟩) 2 2) (w.alloc (.cells (List.replicate 2 noCells).flatten.toArray 106)) := by kernel_rfl
theorem makeSegs3 (w : World) : (Instr.makeSlice 101 (.int .i64 ((3 : Nat) : Int)) (.int .i64 ((3 : Nat) : Int))).run Tryd.prog w = .ok (.slice (some ⟨w.heap.size, 0, none⟩) 3 3) (w.alloc (.cells (List.replicate 3 noCells).flatten.toArray 106)) := by kernel_rfl
theorem makeSegs4 (w : World) : (Instr.makeSlice 101 (.int .i64 ((4 : Nat) : Int)) (.int .i64 ((4 : Nat) : Int))).run Tryd.prog w = .ok (.slice (some ⟨w.heap.size, 0, none⟩) 4 4) (w.alloc (.cells (List.replicate 4 noCells).flatten.toArray 106)) := by kernel_rfl
theorem makeSegs5 (w : World) : (Instr.makeSlice 101 (.int .i64 ((5 : Nat) : Int)) (.int .i64 ((5 : Nat) : Int))).run Tryd.prog w = .ok (.slice (some ⟨w.heap.size, 0, none⟩) 5 5) (w.alloc (.cells (List.replicate 5 noCells).flatten.toArray 106)) := by kernel_rfl
theorem makeSegs6 (w : World) : (Instr.makeSlice 101 (.int .i64 ((6 : Nat) : Int)) (.int .i64 ((6 : Nat) : Int))).run Tryd.prog w = .ok (.slice (some ⟨w.heap.size, 0, none⟩) 6 6) (w.alloc (.cells (List.replicate 6 noCells).flatten.toArray 106)) := by kernel_rfl
theorem makeSegs7 (w : World) : (Instr.makeSlice 101 (.int .i64 ((7 : Nat) : Int)) (.int .i64 ((7 : Nat) : Int))).run Tryd.prog w = .ok (.slice (some ⟨w.heap.size, 0, none⟩) 7 7) (w.alloc (.cells (List.replicate 7 noCells).flatten.toArray 106)) := by kernel_rfl
theorem makeSegs8 (w : World) : (Instr.makeSlice 101 (.int .i64 ((8 : Nat) : Int)) (.int .i64 ((8 : Nat) : Int))).run Tryd.prog w = .ok (.slice (some ⟨w.heap.size, 0, none⟩) 8 8) (w.alloc (.cells (List.replicate 8 noCells).flatten.toArray 106)) := by kernel_rfl
theorem makeSegs (w : World) (n : Nat) (h1 : 1 ≤ n) (h8 : n ≤ 8) : (Instr.makeSlice 101 (.int .i64 n) (.int .i64 n)).run Tryd.prog w = .ok (.slice (some ⟨w.heap.size, 0, none⟩) n n) (w.alloc (.cells (List.replicate n noCells).flatten.toArray 106)) := by
  have h : n = 1 ∨ n = 2 ∨ n = 3 ∨ n = 4 ∨ n = 5 ∨ n = 6 ∨ n = 7 ∨ n = 8 := by omega
  rcases h with rfl | rfl | rfl | rfl | rfl | rfl | rfl | rfl
  · exact makeSegs1 w
  · exact makeSegs2 w
  · exact makeSegs3 w
  · exact makeSegs4 w
  · exact makeSegs5 w
  · exact makeSegs6 w
  · exact makeSegs7 w
  · exact makeSegs8 w
theorem segSize : (Tryd.prog.info? 106).map (·.size) = some 5 := by kernel_rfl
theorem holds_setCells {b : Nat} {t : TypeId} : ∀ (vs : List Value) (o : Nat) (W : World) (L : List Value), Holds W b t L → o + vs.length ≤ L.length → Holds (W.setCells b o vs) b t (splice L o vs)
  | [], o, W, L, h, _ => by rw [splice_nil]; exact h
  | v :: r, o, W, L, h, hl => by
    have hl' : o + (r.length + 1) ≤ L.length := hl
    have := holds_setCells r (o + 1) _ _ (h.set o v) (by rw [List.length_set]; omega)
    rw [World.setCells]
    have e : splice (L.set o v) (o + 1) r = splice L o (v :: r) := by
      have a := splice_set L o [v] 0 v rfl (by simp; omega)
      simp only [List.take_zero, splice_nil, Nat.add_zero, Nat.zero_add] at a
      rw [a, show (List.take 1 [v]) = [v] from rfl]
      exact splice_splice L o [v] r (by simp; omega)
    rwa [e] at this
theorem grown_setCells {w : World} {b : Nat} : ∀ (vs : List Value) (o : Nat) (wr : World), w.grownBy wr (some b) → w.grownBy (wr.setCells b o vs) (some b)
  | [], _, _, h => h
  | v :: r, o, wr, h => grown_setCells r (o + 1) _ (grown_set h o v)
theorem below_setCells {B b : Nat} {w : World} (hB : B ≤ b) : ∀ (vs : List Value) (o : Nat) (wr : World), Below B w wr → Below B w (wr.setCells b o vs)
  | [], _, _, h => h
  | v :: r, o, wr, h => below_setCells hB r (o + 1) _ (h.setCell (p := ⟨b, o, none⟩) hB v)
theorem holds_there {W : World} {b : Nat} {t : TypeId} {vs : List Value} (h : Holds W b t vs) (o n : Nat) (hn : o + n ≤ vs.length) : W.there b o n := fun j hj =>
  ⟨by rw [h.cell (List.getElem?_eq_getElem (show o + j < vs.length by omega))]; rfl, h.frozen _⟩

theorem wpList_store_part {P : Program} {ops : Array Oper} {rest : List Oper} {o : Oper} {a : Act} {w : World} {Q : Exit → Act → World → Prop} (hgd : o.guard = none) (ty : TypeId) (x y : Operand) (ho : o.op = .store ty x y)
    (g off : Nat) (cs : List Value) (hx : a.eval x = .pointer (some ⟨g, off, none⟩)) (hy : a.eval y = .agg cs.toArray)
    (t : TypeId) (old : List Value) (hg : Holds w g t old) (hi : (P.info? ty).map (·.size) = some cs.length) (hfit : off + cs.length ≤ old.length) (h1 : ∀ v ∈ cs, v.oneCell' = true)
    (h : ∀ w', Hid (Holds w' g t (splice old off cs)) → Hid (w.grownBy w' (some g)) → wpList P ops Q rest (a.put o.dst undef) w') : wpList P ops Q (o :: rest) a w := by
  refine wpList_store_mid hgd ty x y ho g off cs.toArray hx hy (holds_there hg _ _ (by simpa using hfit)) (by simpa using hi) (all_oneCell_toArray h1) ?_
  refine h _ (hide (holds_setCells cs off _ _ hg hfit)) (hide (grown_setCells cs off w ⟨rfl, rfl, rfl, Nat.le_refl _, fun _ _ _ => rfl⟩))
theorem segSize' (b off cap : Nat) (s : Seg) : (Tryd.prog.info? 106).map (·.size) = some (segCells b off cap s).length := segSize
theorem segs_fit {b off cap : Nat} {B : List Int} {n k : Nat} (h : k < n) (s : Seg) : k * 5 + (segCells b off cap s).length ≤ (segsFill b off cap B n k).length := by
  rw [segsFill_length _ _ _ _ _ _ (by omega)]
  show k * 5 + 5 ≤ n * 5
  omega

theorem upTo_step {p : Nat → Prop} {k : Nat} (h : ∀ i, i < k → p i) (hk : p k) : ∀ i, i < k + 1 → p i := fun i hi => by
  rcases Nat.lt_succ_iff_lt_or_eq.1 hi with h' | h'
  · exact h i h'
  · rw [h']; exact hk

def SegsPost (b off cap : Nat) (B : List Int) (n : Nat) (w : World) (e : Ending) (w' : World) : Prop :=
  ((∀ i, i < n → SegOk B (64 + 56 * i)) ∧ e = .returned (.tuple #[.slice (some ⟨w.heap.size, 0, none⟩) n n, .bool true]) ∧ Holds w' w.heap.size 106 (segsRow b off cap (segsUpTo B n)) ∨
   (¬ ∀ i, i < n → SegOk B (64 + 56 * i)) ∧ e = .returned (.tuple #[.slice none 0 0, .bool false])) ∧ Below w.heap.size w w'

set_option maxRecDepth 100000 in
set_option maxHeartbeats 2000000 in
theorem readSegments_any (b off cap : Nat) (B : List Int) (n : Nat) (w : World) (hB : IsBytes B) (hcap : B.length ≤ cap) (hlen : B.length ≤ 500000) (hv : BView w b off B) (hbw : b < w.heap.size) (h1 : 1 ≤ n) (h8 : n ≤ 8) (hp : 64 + 56 * n ≤ B.length) :
    Calls Tryd.prog 39 #[.slice (some ⟨b, off, none⟩) B.length cap, .int .i64 n] w fun e w' => SegsPost b off cap B n w e w' := by
  have hmk := fun w => makeSegs w n h1 h8
  have HB := hide hB
  have HV := hide hv
  have HL := hide (And.intro hcap (And.intro hlen hp))
  clear hB hv hcap hlen hp
  go_enter Tryd.func39, Tryd.ntmps39
  go_wp2
  go_loopw [14] (fun i wr => ∃ k : Nat, k ≤ n ∧ i = .int .i64 k ∧ (∀ i, i < k → SegOk B (64 + 56 * i)) ∧ Holds wr w.heap.size 106 (segsFill b off cap B n k) ∧ Below w.heap.size w wr) (fun i _ => n - (intOf i).toNat)
  case atStart => exact ⟨0, by omega, rfl, fun i hi => by omega, by rw [segsFill_none]; exact Holds.new _ _ _, (Below.refl _ _).alloc (Nat.le_refl _) _⟩
  case round =>
    obtain ⟨k, hk, rfl, hok, hh, hbl⟩ := hrel
    have HOK := hide hok
    have HH := hide hh
    have HBL := hide hbl
    have hgl := hh.lt
    clear hok hh hbl
    by_cases hlt : k < n
    · obtain ⟨p, hp⟩ : ∃ p, p = 64 + 56 * k := ⟨_, rfl⟩
      have e1 : (64 : Int) + 56 * (k : Int) = (p : Int) := by omega
      have hp5 : (p : Int) ≤ 600 := by omega
      have hvr : BView wr b off B := (unhide HV).below (unhide HBL) hbw
      have HR := hide (readSegment_any b off cap B p wr (unhide HB) (unhide HL).1 (unhide HL).2.1 hvr (by omega) (by have := (unhide HL).2.2; omega))
      have HP := hide hp
      have hk0 : (0 : Int) ≤ (k : Int) := by omega
      have hkn : (k : Int) < (n : Int) := by omega
      have hk8 : (k : Int) ≤ 8 := by omega
      clear hp hvr
      go_wp2_with fail
      refine (unhide HR).mono ?_
      rintro e w1 ⟨(⟨ok, rfl⟩ | ⟨nok, rfl⟩), hb1⟩
      · have hh1 := (unhide HH).below hb1 hgl
        have hbl1 := (unhide HBL).trans (hb1.mono (unhide HBL).size)
        have OK := hide ok
        have HH1 := hide hh1
        have HBL1 := hide hbl1
        clear ok hh1 hbl1 hb1 HH HBL HR
        unfold segVal
        obtain ⟨sg, hsg⟩ : ∃ s, s = segAt B p := ⟨_, rfl⟩
        rw [← hsg]
        have hstep : splice (segsFill b off cap B n k) (k * 5) (segCells b off cap sg) = segsFill b off cap B n (k + 1) := by rw [hsg, unhide HP]; exact segsFill_step _ _ _ _ _ _ hlt
        clear hsg
        have HST := hide hstep
        have hgl1 := (unhide HH1).lt
        clear hstep
        go_wp2_with (refine wpList_store_part rfl 106 (.tmp 30) (.tmp 29) rfl w.heap.size (k * 5) (segCells b off cap sg) (by rfl) (by rfl) 106 (segsFill b off cap B n k) ((unhide HH1).alloc _) (segSize' b off cap sg) (segs_fit hlt sg) (segCells_one b off cap sg) ?_; intro w2 HH2 HG2)
        go_roundw
        case rel =>
          have hba := (unhide HBL1).alloc (Nat.le_of_lt hgl1) (.cells (segCells b off cap sg).toArray 106)
          exact ⟨k + 1, by omega, by go_num, upTo_step (unhide HOK) (by rw [← unhide HP]; exact unhide OK), by rw [← unhide HST]; exact unhide HH2, hba.trans (below_grown (unhide HG2) (Nat.le_refl _) hba.size)⟩
        case measure => simp [intOf]; omega
      · have hbl1 := (unhide HBL).trans (hb1.mono (unhide HBL).size)
        have hsz1 := hbl1.size
        have HBL1 := hide hbl1
        have NOK := hide nok
        clear hb1 hbl1 nok HR
        unfold noSeg
        go_wp2
        exact bodyPost_ret (v := .tuple #[.slice none 0 0, .bool false]) (by simp [results, Tryd.results39, go_sem]) rfl ⟨.inr ⟨fun h => unhide NOK (by rw [unhide HP]; exact h k hlt), rfl⟩, (unhide HBL1).alloc hsz1 _⟩
    · have hkn : k = n := by omega
      subst hkn
      go_wp2
      exact bodyPost_ret (v := .tuple #[.slice (some ⟨w.heap.size, 0, none⟩) k k, .bool true]) (by simp [results, Tryd.results39, go_sem]) rfl ⟨.inl ⟨unhide HOK, rfl, by rw [← segsFill_full]; exact unhide HH⟩, unhide HBL⟩
end Go.Proofs.YtkkpeboejgkmaaaDoor
