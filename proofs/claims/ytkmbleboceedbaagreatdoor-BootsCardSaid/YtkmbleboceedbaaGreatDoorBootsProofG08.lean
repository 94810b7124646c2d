import Derived.Test.YtkmbleboceedbaaGreatDoorBootsProofG07
import Derived.Deep.MidRow
import Derived.Shelf.SlSortCmp.SmallK
import Derived.Shelf.Small.Bits
import Derived.Test.YtkmbleboceedbaaGreatDoorBootsProofG01
/- exe.readSegments. -/
namespace Go.Proofs.YtkmbleboceedbaaGreatDoor
open Go.RowKit
set_option linter.unusedVariables false
set_option linter.unusedSimpArgs false

def segCells (b off cap : Nat) (s : Seg) : List Value := [.int .u8 s.perm, .int .u64 s.addr, .slice (some ⟨b, segPtr off cap s, none⟩) s.inFile.toNat (cap - s.offs.toNat), .int .i64 (s.addr / 256), .int .i64 ((s.addr + s.mem - 1) / 256)]
theorem segVal_cells (b off cap : Nat) (s : Seg) : segVal b off cap s = .agg (segCells b off cap s).toArray := rfl
def noCells : List Value := [.int .u8 0, .int .u64 0, .slice none 0 0, .int .i64 0, .int .i64 0]
def segsRow (b off cap : Nat) (ss : List Seg) : List Value := ss.flatMap (segCells b off cap)
/-- The first k segments of the file. -/
def segsUpTo (B : List Int) (k : Nat) : List Seg := (List.range k).map fun i => segAt B (64 + 56 * i)
/-- The row of n segments, k of them read. -/
def segsFill (b off cap : Nat) (B : List Int) (n k : Nat) : List Value := segsRow b off cap (segsUpTo B k) ++ (List.replicate (n - k) noCells).flatten
theorem segsRow_length (b off cap : Nat) (ss : List Seg) : (segsRow b off cap ss).length = ss.length * 5 := by
  unfold segsRow
  induction ss with
  | nil => rfl
  | cons s r ih => rw [List.flatMap_cons, List.length_append, ih]; simp [segCells]; omega
theorem segsUpTo_length (B : List Int) (k : Nat) : (segsUpTo B k).length = k := by simp [segsUpTo]
theorem segCells_one (b off cap : Nat) (s : Seg) : ∀ v ∈ segCells b off cap s, v.oneCell' = true := by
  intro v hv
  simp only [segCells, List.mem_cons, List.not_mem_nil, or_false] at hv
  rcases hv with rfl | rfl | rfl | rfl | rfl <;> rfl
theorem noRow_length (m : Nat) : (List.replicate m noCells).flatten.length = m * 5 := by
  induction m with
  | zero => rfl
  | succ m ih => rw [List.replicate_succ, List.flatten_cons, List.length_append, ih]; simp [noCells]; omega
theorem segsFill_length (b off cap : Nat) (B : List Int) (n k : Nat) (h : k ≤ n) : (segsFill b off cap B n k).length = n * 5 := by
  rw [segsFill, List.length_append, segsRow_length, segsUpTo_length, noRow_length]; omega
theorem segsFill_step (b off cap : Nat) (B : List Int) (n k : Nat) (h : k < n) : splice (segsFill b off cap B n k) (k * 5) (segCells b off cap (segAt B (64 + 56 * k))) = segsFill b off cap B n (k + 1) := by
  have e1 : n - k = (n - (k + 1)) + 1 := by omega
  have e2 : segsUpTo B (k + 1) = segsUpTo B k ++ [segAt B (64 + 56 * k)] := by simp [segsUpTo, List.range_succ]
  have hl : (segsRow b off cap (segsUpTo B k)).length = k * 5 := by rw [segsRow_length, segsUpTo_length]
  unfold splice segsFill
  rw [e1, List.replicate_succ, List.flatten_cons, e2, segsRow, segsRow, List.flatMap_append]
  change _ = (segsRow b off cap (segsUpTo B k) ++ _) ++ _
  change List.take _ (segsRow b off cap (segsUpTo B k) ++ _) ++ (_ ++ List.drop _ (segsRow b off cap (segsUpTo B k) ++ _)) = _
  rw [List.take_append_of_le_length (by omega), List.take_of_length_le (by omega), List.drop_append, List.drop_of_length_le (by omega), hl,
    show k * 5 + (segCells b off cap (segAt B (64 + 56 * k))).length - k * 5 = 5 from by simp [segCells]]
  simp [noCells]
theorem segsFill_full (b off cap : Nat) (B : List Int) (n : Nat) : segsFill b off cap B n n = segsRow b off cap (segsUpTo B n) := by
  rw [segsFill, Nat.sub_self]; simp
theorem segsFill_none (b off cap : Nat) (B : List Int) (n : Nat) : segsFill b off cap B n 0 = (List.replicate n noCells).flatten := by
  rw [segsFill, Nat.sub_zero]; rfl
theorem makeSegs1 (w : World) : (Instr.makeSlice 237 (.int .i64 ((1 : Nat) : Int)) (.int .i64 ((1 : Nat) : Int))).run Tryz.prog w = .ok (.slice (some ⟨w.heap.size, 0, none⟩) 1 1) (w.alloc (.cells (List.replicate 1 noCells).flatten.toArray 242)) := by kernel_rfl
theorem makeSegs2 (w : World) : (Instr.makeSlice 237 (.int .i64 ((2 : Nat) : Int)) (.int .i64 ((2 : Nat) : Int))).run Tryz.prog w = .ok (.slice (some ⟨w.heap.size, 0, none⟩) 2 2) (w.alloc (.cells (List.replicate 2 noCells).flatten.toArray 242)) := by kernel_rfl
theorem makeSegs3 (w : World) : (Instr.makeSlice 237 (.int .i64 ((3 : Nat) : Int)) (.int .i64 ((3 : Nat) : Int))).run Tryz.prog w = .ok (.slice (some ⟨w.heap.size, 0, none⟩) 3 3) (w.alloc (.cells (List.replicate 3 noCells).flatten.toArray 242)) := by kernel_rfl
theorem makeSegs4 (w : World) : (Instr.makeSlice 237 (.int .i64 ((4 : Nat) : Int)) (.int .i64 ((4 : Nat) : Int))).run Tryz.prog w = .ok (.slice (some ⟨w.heap.size, 0, none⟩) 4 4) (w.alloc (.cells (List.replicate 4 noCells).flatten.toArray 242)) := by kernel_rfl
theorem makeSegs5 (w : World) : (Instr.makeSlice 237 (.int .i64 ((5 : Nat) : Int)) (.int .i64 ((5 : Nat) : Int))).run Tryz.prog w = .ok (.slice (some ⟨w.heap.size, 0, none⟩) 5 5) (w.alloc (.cells (List.replicate 5 noCells).flatten.toArray 242)) := by kernel_rfl
theorem makeSegs6 (w : World) : (Instr.makeSlice 237 (.int .i64 ((6 : Nat) : Int)) (.int .i64 ((6 : Nat) : Int))).run Tryz.prog w = .ok (.slice (some ⟨w.heap.size, 0, none⟩) 6 6) (w.alloc (.cells (List.replicate 6 noCells).flatten.toArray 242)) := by kernel_rfl
theorem makeSegs7 (w : World) : (Instr.makeSlice 237 (.int .i64 ((7 : Nat) : Int)) (.int .i64 ((7 : Nat) : Int))).run Tryz.prog w = .ok (.slice (some ⟨w.heap.size, 0, none⟩) 7 7) (w.alloc (.cells (List.replicate 7 noCells).flatten.toArray 242)) := by kernel_rfl
theorem makeSegs8 (w : World) : (Instr.makeSlice 237 (.int .i64 ((8 : Nat) : Int)) (.int .i64 ((8 : Nat) : Int))).run Tryz.prog w = .ok (.slice (some ⟨w.heap.size, 0, none⟩) 8 8) (w.alloc (.cells (List.replicate 8 noCells).flatten.toArray 242)) := by kernel_rfl
theorem makeSegs (w : World) (n : Nat) (h1 : 1 ≤ n) (h8 : n ≤ 8) : (Instr.makeSlice 237 (.int .i64 n) (.int .i64 n)).run Tryz.prog w = .ok (.slice (some ⟨w.heap.size, 0, none⟩) n n) (w.alloc (.cells (List.replicate n noCells).flatten.toArray 242)) := by
  have h : n = 1 ∨ n = 2 ∨ n = 3 ∨ n = 4 ∨ n = 5 ∨ n = 6 ∨ n = 7 ∨ n = 8 := by omega
  rcases h with rfl | rfl | rfl | rfl | rfl | rfl | rfl | rfl
  · exact makeSegs1 w
  · exact makeSegs2 w
  · exact makeSegs3 w
  · exact makeSegs4 w
  · exact makeSegs5 w
  · exact makeSegs6 w
  · exact makeSegs7 w
  · exact makeSegs8 w
theorem segSize : (Tryz.prog.info? 242).map (·.size) = some 5 := by kernel_rfl
theorem holds_setCells {b : Nat} {t : TypeId} : ∀ (vs : List Value) (o : Nat) (W : World) (L : List Value), Holds W b t L → o + vs.length ≤ L.length → Holds (W.setCells b o vs) b t (splice L o vs)
  | [], o, W, L, h, _ => by rw [splice_nil]; exact h
  | v :: r, o, W, L, h, hl => by
    have hl' : o + (r.length + 1) ≤ L.length := hl
    have := holds_setCells r (o + 1) _ _ (h.set o v) (by rw [List.length_set]; omega)
    rw [World.setCells]
    have e : splice (L.set o v) (o + 1) r = splice L o (v :: r) := by
      have a := splice_set L o [v] 0 v rfl (by simp; omega)
      simp only [List.take_zero, splice_nil, Nat.add_zero, Nat.zero_add] at a
      rw [a, show (List.take 1 [v]) = [v] from rfl]
      exact splice_splice L o [v] r (by simp; omega)
    rwa [e] at this
theorem grown_setCells {w : World} {b : Nat} : ∀ (vs : List Value) (o : Nat) (wr : World), w.grownBy wr (some b) → w.grownBy (wr.setCells b o vs) (some b)
  | [], _, _, h => h
  | v :: r, o, wr, h => grown_setCells r (o + 1) _ (grown_set h o v)
theorem below_setCells {B b : Nat} {w : World} (hB : B ≤ b) : ∀ (vs : List Value) (o : Nat) (wr : World), Below B w wr → Below B w (wr.setCells b o vs)
  | [], _, _, h => h
  | v :: r, o, wr, h => below_setCells hB r (o + 1) _ (h.setCell (p := ⟨b, o, none⟩) hB v)
theorem holds_there {W : World} {b : Nat} {t : TypeId} {vs : List Value} (h : Holds W b t vs) (o n : Nat) (hn : o + n ≤ vs.length) : W.there b o n := fun j hj =>
  ⟨by rw [h.cell (List.getElem?_eq_getElem (show o + j < vs.length by omega))]; rfl, h.frozen _⟩

theorem wpList_store_part {P : Program} {ops : Array Oper} {rest : List Oper} {o : Oper} {a : Act} {w : World} {Q : Exit → Act → World → Prop} (hgd : o.guard = none) (ty : TypeId) (x y : Operand) (ho : o.op = .store ty x y)
    (g off : Nat) (cs : List Value) (hx : a.eval x = .pointer (some ⟨g, off, none⟩)) (hy : a.eval y = .agg cs.toArray)
    (t : TypeId) (old : List Value) (hg : Holds w g t old) (hi : (P.info? ty).map (·.size) = some cs.length) (hfit : off + cs.length ≤ old.length) (h1 : ∀ v ∈ cs, v.oneCell' = true)
    (h : ∀ w', Hid (Holds w' g t (splice old off cs)) → Hid (w.grownBy w' (some g)) → wpList P ops Q rest (a.put o.dst undef) w') : wpList P ops Q (o :: rest) a w := by
  refine wpList_store_mid hgd ty x y ho g off cs.toArray hx hy (holds_there hg _ _ (by simpa using hfit)) (by simpa using hi) (all_oneCell_toArray h1) ?_
  refine h _ (hide (holds_setCells cs off _ _ hg hfit)) (hide (grown_setCells cs off w ⟨rfl, rfl, rfl, Nat.le_refl _, fun _ _ _ => rfl⟩))
theorem segSize' (b off cap : Nat) (s : Seg) : (Tryz.prog.info? 242).map (·.size) = some (segCells b off cap s).length := segSize
theorem segs_fit {b off cap : Nat} {B : List Int} {n k : Nat} (h : k < n) (s : Seg) : k * 5 + (segCells b off cap s).length ≤ (segsFill b off cap B n k).length := by
  rw [segsFill_length _ _ _ _ _ _ (by omega)]
  show k * 5 + 5 ≤ n * 5
  omega

theorem upTo_step {p : Nat → Prop} {k : Nat} (h : ∀ i, i < k → p i) (hk : p k) : ∀ i, i < k + 1 → p i := fun i hi => by
  rcases Nat.lt_succ_iff_lt_or_eq.1 hi with h' | h'
  · exact h i h'
  · rw [h']; exact hk

def SegsPost (b off cap : Nat) (B : List Int) (n : Nat) (w : World) (e : Ending) (w' : World) : Prop :=
  ((∀ i, i < n → SegOk B (64 + 56 * i)) ∧ e = .returned (.tuple #[.slice (some ⟨w.heap.size, 0, none⟩) n n, .bool true]) ∧ Holds w' w.heap.size 242 (segsRow b off cap (segsUpTo B n)) ∨
   (¬ ∀ i, i < n → SegOk B (64 + 56 * i)) ∧ e = .returned (.tuple #[.slice none 0 0, .bool false])) ∧ Below w.heap.size w w'

set_option maxRecDepth 100000 in
set_option maxHeartbeats 2000000 in
theorem readSegments_any (b off cap : Nat) (B : List Int) (n : Nat) (w : World) (hB : IsBytes B) (hcap : B.length ≤ cap) (hlen : B.length ≤ 500000) (hv : BView w b off B) (hbw : b < w.heap.size) (h1 : 1 ≤ n) (h8 : n ≤ 8) (hp : 64 + 56 * n ≤ B.length) :
    Calls Tryz.prog 96 #[.slice (some ⟨b, off, none⟩) B.length cap, .int .i64 n] w fun e w' => SegsPost b off cap B n w e w' := by
  have hmk := fun w => makeSegs w n h1 h8
  have HB := hide hB
  have HV := hide hv
  have HL := hide (And.intro hcap (And.intro hlen hp))
  clear hB hv hcap hlen hp
  go_enter Tryz.func96, Tryz.ntmps96
  go_wp2
  go_loopw [14] (fun i wr => ∃ k : Nat, k ≤ n ∧ i = .int .i64 k ∧ (∀ i, i < k → SegOk B (64 + 56 * i)) ∧ Holds wr w.heap.size 242 (segsFill b off cap B n k) ∧ Below w.heap.size w wr) (fun i _ => n - (intOf i).toNat)
  case atStart => exact ⟨0, by omega, rfl, fun i hi => by omega, by rw [segsFill_none]; exact Holds.new _ _ _, (Below.refl _ _).alloc (Nat.le_refl _) _⟩
  case round =>
    obtain ⟨k, hk, rfl, hok, hh, hbl⟩ := hrel
    have HOK := hide hok
    have HH := hide hh
    have HBL := hide hbl
    have hgl := hh.lt
    clear hok hh hbl
    by_cases hlt : k < n
    · obtain ⟨p, hp⟩ : ∃ p, p = 64 + 56 * k := ⟨_, rfl⟩
      have e1 : (64 : Int) + 56 * (k : Int) = (p : Int) := by omega
      have hp5 : (p : Int) ≤ 600 := by omega
      have hvr : BView wr b off B := (unhide HV).below (unhide HBL) hbw
      have HR := hide (readSegment_any b off cap B p wr (unhide HB) (unhide HL).1 (unhide HL).2.1 hvr (by omega) (by have := (unhide HL).2.2; omega))
      have HP := hide hp
      have hk0 : (0 : Int) ≤ (k : Int) := by omega
      have hkn : (k : Int) < (n : Int) := by omega
      have hk8 : (k : Int) ≤ 8 := by omega
      clear hp hvr
      go_wp2_with fail
      refine (unhide HR).mono ?_
      rintro e w1 ⟨(⟨ok, rfl⟩ | ⟨nok, rfl⟩), hb1⟩
      · have hh1 := (unhide HH).below hb1 hgl
        have hbl1 := (unhide HBL).trans (hb1.mono (unhide HBL).size)
        have OK := hide ok
        have HH1 := hide hh1
        have HBL1 := hide hbl1
        clear ok hh1 hbl1 hb1 HH HBL HR
        unfold segVal
        obtain ⟨sg, hsg⟩ : ∃ s, s = segAt B p := ⟨_, rfl⟩
        rw [← hsg]
        have hstep : splice (segsFill b off cap B n k) (k * 5) (segCells b off cap sg) = segsFill b off cap B n (k + 1) := by rw [hsg, unhide HP]; exact segsFill_step _ _ _ _ _ _ hlt
        clear hsg
        have HST := hide hstep
        have hgl1 := (unhide HH1).lt
        clear hstep
        go_wp2_with (refine wpList_store_part rfl 242 (.tmp 30) (.tmp 29) rfl w.heap.size (k * 5) (segCells b off cap sg) (by rfl) (by rfl) 242 (segsFill b off cap B n k) ((unhide HH1).alloc _) (segSize' b off cap sg) (segs_fit hlt sg) (segCells_one b off cap sg) ?_; intro w2 HH2 HG2)
        go_roundw
        case rel =>
          have hba := (unhide HBL1).alloc (Nat.le_of_lt hgl1) (.cells (segCells b off cap sg).toArray 242)
          exact ⟨k + 1, by omega, by go_num, upTo_step (unhide HOK) (by rw [← unhide HP]; exact unhide OK), by rw [← unhide HST]; exact unhide HH2, hba.trans (below_grown (unhide HG2) (Nat.le_refl _) hba.size)⟩
        case measure => simp [intOf]; omega
      · have hbl1 := (unhide HBL).trans (hb1.mono (unhide HBL).size)
        have hsz1 := hbl1.size
        have HBL1 := hide hbl1
        have NOK := hide nok
        clear hb1 hbl1 nok HR
        unfold noSeg
        go_wp2
        exact bodyPost_ret (v := .tuple #[.slice none 0 0, .bool false]) (by simp [results, Tryz.results96, go_sem]) rfl ⟨.inr ⟨fun h => unhide NOK (by rw [unhide HP]; exact h k hlt), rfl⟩, (unhide HBL1).alloc hsz1 _⟩
    · have hkn : k = n := by omega
      subst hkn
      go_wp2
      exact bodyPost_ret (v := .tuple #[.slice (some ⟨w.heap.size, 0, none⟩) k k, .bool true]) (by simp [results, Tryz.results96, go_sem]) rfl ⟨.inl ⟨unhide HOK, rfl, by rw [← segsFill_full]; exact unhide HH⟩, unhide HBL⟩
end Go.Proofs.YtkmbleboceedbaaGreatDoor

/- The shelf's layings at this seat, in plain words. Written by laysort.sh: the numbers are one seat's own. -/
namespace Go.Proofs.YtkmbleboceedbaaGreatDoor
open Go.Shelf
def sortSeg_ren : Go.Shelf.Ren := ⟨fun | 6 => 97 | 15 => 112 | 14 => 119 | 28 => 134 | 29 => 135 | 20 => 142 | 21 => 143 | 22 => 144 | 23 => 145 | 24 => 146 | 25 => 147 | 26 => 148 | 27 => 149 | 46 => 168 | 47 => 161 | 48 => 162 | 49 => 169 | 50 => 170 | 57 => 181 | n => n, fun | 22 => 237 | 24 => 242 | 25 => 244 | 3 => 3 | 39 => 260 | 0 => 0 | 53 => 285 | 55 => 74 | 4 => 4 | 46 => 279 | 45 => 278 | 50 => 208 | 5 => 5 | 9 => 9 | 66 => 302 | 70 => 306 | 76 => 314 | 77 => 103 | n => n, fun | n => n⟩
theorem sortSeg : Go.Proofs.SlLaysF0.n6 Tryz.prog sortSeg_ren := {
  mixed := by kernel_rfl
  f6 := ⟨Tryz.f97.name, by decide, Tryz.func97.trans (congrArg some (by kernel_rfl))⟩
  f14 := ⟨Tryz.f119.name, by decide, Tryz.func119.trans (congrArg some (by kernel_rfl))⟩
  f15 := Tryz.func112.trans (congrArg some (by kernel_rfl))
  f20 := ⟨Tryz.f142.name, by decide, Tryz.func142.trans (congrArg some (by kernel_rfl))⟩
  f21 := ⟨Tryz.f143.name, by decide, Tryz.func143.trans (congrArg some (by kernel_rfl))⟩
  f22 := ⟨Tryz.f144.name, by decide, Tryz.func144.trans (congrArg some (by kernel_rfl))⟩
  f23 := ⟨Tryz.f145.name, by decide, Tryz.func145.trans (congrArg some (by kernel_rfl))⟩
  f24 := ⟨Tryz.f146.name, by decide, Tryz.func146.trans (congrArg some (by kernel_rfl))⟩
  f25 := ⟨Tryz.f147.name, by decide, Tryz.func147.trans (congrArg some (by kernel_rfl))⟩
  f26 := ⟨Tryz.f148.name, by decide, Tryz.func148.trans (congrArg some (by kernel_rfl))⟩
  f27 := ⟨Tryz.f149.name, by decide, Tryz.func149.trans (congrArg some (by kernel_rfl))⟩
  f28 := Tryz.func134.trans (congrArg some (by kernel_rfl))
  f29 := Tryz.func135.trans (congrArg some (by kernel_rfl))
  f46 := ⟨Tryz.f168.name, by decide, Tryz.func168.trans (congrArg some (by kernel_rfl))⟩
  f47 := Tryz.func161.trans (congrArg some (by kernel_rfl))
  f48 := Tryz.func162.trans (congrArg some (by kernel_rfl))
  f49 := ⟨Tryz.f169.name, by decide, Tryz.func169.trans (congrArg some (by kernel_rfl))⟩
  f50 := ⟨Tryz.f170.name, by decide, Tryz.func170.trans (congrArg some (by kernel_rfl))⟩
  f57 := ⟨Tryz.f181.name, by decide, Tryz.func181.trans (congrArg some (by kernel_rfl))⟩
  t0 := Tryz.underlying0
  a0 := Tryz.isAgg0
  z0 := Tryz.sizeOf0
  v0 := Tryz.zeroValue0
  t3 := Tryz.underlying3
  a3 := Tryz.isAgg3
  z3 := Tryz.sizeOf3
  v3 := Tryz.zeroValue3
  t4 := Tryz.underlying4
  a4 := Tryz.isAgg4
  z4 := Tryz.sizeOf4
  v4 := Tryz.zeroValue4
  t5 := Tryz.underlying5
  a5 := Tryz.isAgg5
  z5 := Tryz.sizeOf5
  v5 := Tryz.zeroValue5
  t9 := Tryz.underlying9
  a9 := Tryz.isAgg9
  z9 := Tryz.sizeOf9
  v9 := Tryz.zeroValue9
  t22 := Tryz.underlying237
  a22 := Tryz.isAgg237
  z22 := Tryz.sizeOf237
  v22 := Tryz.zeroValue237
  t25 := Tryz.underlying244
  a25 := Tryz.isAgg244
  z25 := Tryz.sizeOf244
  v25 := Tryz.zeroValue244
  t39 := Tryz.underlying260
  a39 := Tryz.isAgg260
  z39 := Tryz.sizeOf260
  v39 := Tryz.zeroValue260
  t45 := Tryz.underlying278
  a45 := Tryz.isAgg278
  z45 := Tryz.sizeOf278
  v45 := Tryz.zeroValue278
  t46 := Tryz.underlying279
  a46 := Tryz.isAgg279
  z46 := Tryz.sizeOf279
  v46 := Tryz.zeroValue279
  t50 := Tryz.underlying208
  a50 := Tryz.isAgg208
  z50 := Tryz.sizeOf208
  v50 := Tryz.zeroValue208
  t53 := Tryz.underlying285
  a53 := Tryz.isAgg285
  z53 := Tryz.sizeOf285
  v53 := Tryz.zeroValue285
  t55 := Tryz.underlying74
  a55 := Tryz.isAgg74
  z55 := Tryz.sizeOf74
  v55 := Tryz.zeroValue74
  t66 := Tryz.underlying302
  a66 := Tryz.isAgg302
  z66 := Tryz.sizeOf302
  v66 := Tryz.zeroValue302
  t70 := Tryz.underlying306
  a70 := Tryz.isAgg306
  z70 := Tryz.sizeOf306
  v70 := Tryz.zeroValue306
  t76 := Tryz.underlying314
  a76 := Tryz.isAgg314
  z76 := Tryz.sizeOf314
  v76 := Tryz.zeroValue314
  t77 := Tryz.underlying103
  a77 := Tryz.isAgg103
  z77 := Tryz.sizeOf103
  v77 := Tryz.zeroValue103 }
def bitsLen_ren : Go.Shelf.Ren := ⟨fun | 125 => 112 | 128 => 134 | 129 => 135 | n => n, fun | 46 => 260 | 3 => 3 | 51 => 285 | 53 => 74 | 4 => 4 | 5 => 5 | 9 => 9 | n => n, fun | n => n⟩
theorem bitsLen : Go.Proofs.Lays.n125 Tryz.prog bitsLen_ren := {
  mixed := by kernel_rfl
  f125 := Tryz.func112.trans (congrArg some (by kernel_rfl))
  f128 := Tryz.func134.trans (congrArg some (by kernel_rfl))
  f129 := Tryz.func135.trans (congrArg some (by kernel_rfl))
  t3 := Tryz.underlying3
  a3 := Tryz.isAgg3
  z3 := Tryz.sizeOf3
  v3 := Tryz.zeroValue3
  t4 := Tryz.underlying4
  a4 := Tryz.isAgg4
  z4 := Tryz.sizeOf4
  v4 := Tryz.zeroValue4
  t5 := Tryz.underlying5
  a5 := Tryz.isAgg5
  z5 := Tryz.sizeOf5
  v5 := Tryz.zeroValue5
  t9 := Tryz.underlying9
  a9 := Tryz.isAgg9
  z9 := Tryz.sizeOf9
  v9 := Tryz.zeroValue9
  t46 := Tryz.underlying260
  a46 := Tryz.isAgg260
  z46 := Tryz.sizeOf260
  v46 := Tryz.zeroValue260
  t51 := Tryz.underlying285
  a51 := Tryz.isAgg285
  z51 := Tryz.sizeOf285
  v51 := Tryz.zeroValue285
  t53 := Tryz.underlying74
  a53 := Tryz.isAgg74
  z53 := Tryz.sizeOf74
  v53 := Tryz.zeroValue74 }
end Go.Proofs.YtkmbleboceedbaaGreatDoor

/- slices.SortFunc at segments, by their addresses. -/
namespace Go.Proofs.YtkmbleboceedbaaGreatDoor
open Go.RowKit
set_option linter.unusedVariables false
set_option linter.unusedSimpArgs false

instance : Inhabited Seg := ⟨⟨0, 0, 0, 0, 0⟩⟩
def addrCmp (x y : Seg) : Int := if x.addr < y.addr then -1 else if y.addr < x.addr then 1 else 0
theorem addrCmp_neg (x y : Seg) : addrCmp x y < 0 ↔ x.addr < y.addr := by
  unfold addrCmp
  split
  · simp [*]
  · split <;> simp [*]

set_option maxHeartbeats 400000 in
theorem isNaN_no (x : Int) (w : World) : Calls Tryz.prog 120 #[.int .u64 x] w fun e w' => e = .returned (.bool false) ∧ w' = w := by
  have h : (x != x) = false := by simp
  go_enter Tryz.func120, Tryz.ntmps120
  go_wp2
  go_ret
  exact ⟨rfl, rfl⟩
set_option maxHeartbeats 400000 in
theorem cmpU64 (x y r : Int) (w : World) (hr : r = if x < y then -1 else if y < x then 1 else 0) : Calls Tryz.prog 99 #[.int .u64 x, .int .u64 y] w fun e w' => e = .returned (.int .i64 r) ∧ w' = w := by
  have H := hide isNaN_no
  by_cases h1 : x < y
  · rw [if_pos h1] at hr
    subst hr
    go_enter Tryz.func99, Tryz.ntmps99
    go_wp2_with (go_at_call 120; refine (unhide H _ _).mono ?_; rintro e w' ⟨rfl, rfl⟩)
    go_ret
    exact ⟨rfl, rfl⟩
  · rw [if_neg h1] at hr
    by_cases h2 : y < x
    · rw [if_pos h2] at hr
      subst hr
      go_enter Tryz.func99, Tryz.ntmps99
      go_wp2_with (go_at_call 120; refine (unhide H _ _).mono ?_; rintro e w' ⟨rfl, rfl⟩)
      go_ret
      exact ⟨rfl, rfl⟩
    · rw [if_neg h2] at hr
      subst hr
      go_enter Tryz.func99, Tryz.ntmps99
      go_wp2_with (go_at_call 120; refine (unhide H _ _).mono ?_; rintro e w' ⟨rfl, rfl⟩)
      go_ret
      exact ⟨rfl, rfl⟩
set_option maxHeartbeats 1000000 in
theorem closure_any (b off cap : Nat) (x y : Seg) (W : World) : Calls Tryz.prog 98 #[.agg (segCells b off cap x).toArray, .agg (segCells b off cap y).toArray] W fun e w' => e = .returned (.int .i64 (addrCmp x y)) ∧ ∃ q os', w' = Go.Sort.grow (W.drewN q) os' := by
  have H := hide (fun w => cmpU64 x.addr y.addr (addrCmp x y) w rfl)
  generalize addrCmp x y = r at H ⊢
  unfold segCells
  go_enter Tryz.func98, Tryz.ntmps98
  go_wp2_with (go_at_call 99; refine (unhide H _).mono ?_; rintro e w' ⟨rfl, rfl⟩)
  go_ret
  exact ⟨rfl, 0, _, by rw [Go.Sort.alloc_eq_grow, Go.Sort.alloc_eq_grow, Go.Sort.grow_grow]; rfl⟩

theorem segsRow_get (b off cap : Nat) : ∀ (ss : List Seg) (i j : Nat) (s : Seg), j < 5 → ss[i]? = some s → (segsRow b off cap ss)[i * 5 + j]? = (segCells b off cap s)[j]?
  | [], i, j, s, _, h => by simp at h
  | x :: r, 0, j, s, hj, h => by
    obtain rfl : x = s := by simpa using h
    rw [segsRow, List.flatMap_cons, Nat.zero_mul, Nat.zero_add, List.getElem?_append_left (show j < (segCells b off cap x).length from hj)]
  | x :: r, i + 1, j, s, hj, h => by
    have ih := segsRow_get b off cap r i j s hj (by simpa using h)
    rw [segsRow, List.flatMap_cons, List.getElem?_append_right (show (segCells b off cap x).length ≤ (i + 1) * 5 + j from by show 5 ≤ _; omega)]
    rw [show (i + 1) * 5 + j - (segCells b off cap x).length = i * 5 + j from by show (i + 1) * 5 + j - 5 = _; omega]
    exact ih
theorem flat_row (b off cap : Nat) (ss : List Seg) : Go.Sort.flatK (segCells b off cap) 5 ss.toArray = (segsRow b off cap ss).toArray := by
  apply Go.Sort.ext_get!
  · simp [segsRow_length]
  · intro t ht
    have ht' : t < ss.length * 5 := by simpa using ht
    rw [Go.Sort.get_flatK _ _ _ _ (by simpa using ht')]
    have hi : t / 5 < ss.length := by omega
    have h := segsRow_get b off cap ss (t / 5) (t % 5) ss[t / 5] (Nat.mod_lt _ (by omega)) (List.getElem?_eq_getElem hi)
    rw [show t / 5 * 5 + t % 5 = t from by omega] at h
    have e : ss.toArray[t / 5]! = ss[t / 5] := by simp [getElem!_pos, hi]
    rw [e]
    simp only [List.getElem!_toArray, List.getElem!_eq_getElem?_getD, h]
theorem holdsK_of {w : World} {g : Nat} {t : TypeId} {b off cap : Nat} {ss : List Seg} (h : Holds w g t (segsRow b off cap ss)) : Go.Sort.HoldsK (segCells b off cap) 5 w g 0 ss.toArray := by
  unfold Go.Sort.HoldsK
  rw [flat_row]
  intro j hj
  rw [Nat.zero_add]
  refine ⟨?_, h.frozen j⟩
  have hj' : j < (segsRow b off cap ss).length := by simpa using hj
  rw [h.cell (List.getElem?_eq_getElem hj')]
  simp [getElem!_pos, hj']
theorem holds_sorted {w : World} {g : Nat} {t : TypeId} {b off cap : Nat} {ss ss' : List Seg} (h : Holds w g t (segsRow b off cap ss)) (hl : ss'.length = ss.length) (m : Nat) (os : Array Obj) :
    Holds (sortWorldK (segCells b off cap) 5 w g 0 m ss'.toArray os) g t (segsRow b off cap ss') ∧ w.grownBy (sortWorldK (segCells b off cap) 5 w g 0 m ss'.toArray os) (some g) := by
  have hlt := h.lt
  have hl2 : (segsRow b off cap ss').length = (segsRow b off cap ss).length := by rw [segsRow_length, segsRow_length, hl]
  unfold sortWorldK Go.Sort.grow Go.Sort.putRowK Go.Sort.putRow Go.Sort.mapBlock Go.Sort.ahead
  rw [flat_row]
  constructor
  · unfold Holds at h ⊢
    simp only
    rw [Array.getElem?_append_left (by simpa using hlt), Array.getElem?_modify, if_pos rfl, h]
    simp only [Option.map_some, Go.Sort.onCells, Option.some.injEq, Obj.cells.injEq, and_true]
    unfold Go.Sort.putCells
    apply Array.ext
    · simp [hl2]
    · intro i h1 h2
      have h2' : i < (segsRow b off cap ss').length := by simpa using h2
      simp [h2', getElem!_pos]
  · refine ⟨rfl, rfl, rfl, by simp, fun k hk hne => ?_⟩
    simp only
    rw [Array.getElem?_append_left (by simpa using hk), Array.getElem?_modify, if_neg (fun e => hne (by rw [e]))]
theorem addr_swo : Go.Sort.SWO (ltOf addrCmp) where
  irrefl x := by simp only [ltOf, addrCmp_neg]; simp
  trans x y z h1 h2 := by simp only [ltOf, addrCmp_neg, decide_eq_true_eq] at *; omega
  ntrans x y z h1 h2 := by simp only [ltOf, addrCmp_neg, decide_eq_false_iff_not] at *; omega
theorem bitsLen_some (n : Nat) (W : World) (h : n ≤ 12) : Calls Tryz.prog 112 #[.int .u64 n] W fun e w' => (∃ l : Int, e = .returned (.int .i64 l)) ∧ w' = W :=
  (Any.bits_Len bitsLen n W (by omega) (by omega)).mono fun _ _ ⟨he, hw⟩ => ⟨⟨_, he⟩, hw⟩
theorem sort_any (b off cap g c : Nat) (ss : List Seg) (w : World) (h : Holds w g 242 (segsRow b off cap ss)) (h8 : ss.length ≤ 8) :
    Calls Tryz.prog 97 #[.slice (some ⟨g, 0, none⟩) ss.length c, .func (.func 98) #[] #[]] w fun e w' =>
      e = .returned (.tuple #[]) ∧ ∃ ss' : List Seg, ss'.Perm ss ∧ (∀ i j, i < j → j < ss'.length → (ss'.getD i default).addr ≤ (ss'.getD j default).addr) ∧ Holds w' g 242 (segsRow b off cap ss') ∧ w.grownBy w' (some g) := by
  have eg : ∀ args w, (callFunc 98 args).run Tryz.prog w = .ok (.enter 98 args) w := enters_of Tryz.func98 (by kernel_rfl) rfl
  have hcon := AnyQ.slices_SortFunc_small_sorted sortSeg 5 Tryz.isAgg242 Tryz.sizeOf242 (segCells b off cap) (fun _ => rfl) (segCells_one b off cap) addrCmp 98 #[] addr_swo g 0 c ss.toArray w eg (fun _ _ _ _ x y => closure_any b off cap x y _) (holdsK_of h) h.lt (by simp; omega) (fun n W hn => bitsLen_some n W hn)
  change Calls Tryz.prog 97 #[.slice (some ⟨g, 0, none⟩) ss.length c, .func (.func 98) #[] #[]] w _ at hcon
  refine hcon.mono ?_
  rintro e w' ⟨he, d', n, os, hp, hs, rfl⟩
  refine ⟨he, d'.toList, ?_, ?_, ?_⟩
  · have := hp.2.2
    have hsz := hp.1
    simp only [List.size_toArray] at this hsz
    rw [show d'.extract 0 ss.length = d' from by rw [← hsz]; simp] at this
    simpa using this
  · intro i j hij hj
    have hsz := hp.1
    simp only [List.size_toArray] at hsz
    have := hs i j (Nat.zero_le _) hij (by simp only [List.size_toArray]; simpa [hsz] using hj)
    simp only [ltOf, addrCmp_neg, decide_eq_false_iff_not] at this
    have hj' : j < d'.size := by simpa using hj
    have hi' : i < d'.size := by omega
    rw [getElem!_pos d' j hj', getElem!_pos d' i hi'] at this
    simp only [List.getD, Array.getElem?_toList, Array.getElem?_eq_getElem hj', Array.getElem?_eq_getElem hi', Option.getD_some]
    omega
  · have hsz := hp.1
    have := holds_sorted (ss' := d'.toList) h (by simpa using hsz) n os
    simpa using this
end Go.Proofs.YtkmbleboceedbaaGreatDoor
