/- exe.overlap and exe.isEntry. -/
import Derived.Test.YtkkpeboejgkmaaaDoorLoadSort
import Derived.Deep.QuietTactic
import Derived.BigQuiet
namespace Go.Proofs.YtkkpeboejgkmaaaDoor
open Go.RowKit
set_option linter.unusedVariables false
set_option linter.unusedSimpArgs false

def Seg.first (s : Seg) : Int := s.addr / 256
def Seg.last (s : Seg) : Int := (s.addr + s.mem - 1) / 256
/-- Neighbours that share a page. -/
def ovAt (ss : List Seg) (i : Nat) : Prop := (ss.getD (i + 1) seg0).first ≤ (ss.getD i seg0).last
theorem seg_cell {w : World} {g : Nat} {t : TypeId} {b off cap : Nat} {ss : List Seg} (h : Holds w g t (segsRow b off cap ss)) (i : Nat) (hi : i < ss.length) (j : Nat) (v : Value) (hj : j < 5) (hv : (segCells b off cap (ss.getD i seg0))[j]? = some v) : w.cell? ⟨g, i * 5 + j, none⟩ = some v := by
  refine h.cell ?_
  rw [segsRow_get b off cap ss i j (ss.getD i seg0) hj (by simp [List.getD, List.getElem?_eq_getElem hi])]
  exact hv

set_option maxRecDepth 100000 in
set_option maxHeartbeats 1000000 in
theorem overlap_any (b off cap g c : Nat) (ss : List Seg) (w : World) (h : Holds w g 106 (segsRow b off cap ss)) (h8 : ss.length ≤ 8) (h1 : 1 ≤ ss.length) :
    Calls Tryd.prog 43 #[.slice (some ⟨g, 0, none⟩) ss.length c] w fun e w' =>
      ((∃ i, i + 1 < ss.length ∧ ovAt ss i) ∧ e = .returned (.bool true) ∨ (∀ i, i + 1 < ss.length → ¬ ovAt ss i) ∧ e = .returned (.bool false)) ∧ w'.heap = w.heap ∧ Below w.heap.size w w' := by
  have H := hide h
  clear h
  go_enter Tryd.func43, Tryd.ntmps43
  go_wp2
  go_loopw [3] (fun i wr => ∃ k : Nat, k + 1 ≤ ss.length ∧ i = .int .i64 ((k + 1 : Nat) : Int) ∧ Hid (∀ j, j < k → ¬ ovAt ss j) ∧ wr.heap = w.heap ∧ Below w.heap.size w wr) (fun i _ => ss.length - (intOf i).toNat)
  case atStart => exact ⟨0, by omega, rfl, fun j hj => by omega, rfl, Below.refl _ _⟩
  case round =>
    obtain ⟨k, hk, rfl, HN, hh, hbl⟩ := hrel
    obtain ⟨q, hq⟩ : ∃ q, q = k + 1 := ⟨_, rfl⟩
    rw [← hq]
    have HQ := hide hq
    have HBL := hide hbl
    have hho := (unhide H).heap hh
    have HH := hide hh
    by_cases hlt : q < ss.length
    · have c1 : wr.cell? ⟨g, q * 5 + 3, none⟩ = some (.int .i64 (ss.getD q seg0).first) := seg_cell hho q hlt 3 _ (by omega) rfl
      have c2 : wr.cell? ⟨g, k * 5 + 4, none⟩ = some (.int .i64 (ss.getD k seg0).last) := seg_cell hho k (by omega) 4 _ (by omega) rfl
      have e1 : (q : Int) - 1 = (k : Int) := by omega
      have hq0 : (0 : Int) ≤ (q : Int) := by omega
      have hq1 : (q : Int) < (ss.length : Int) := by omega
      have hk0 : (0 : Int) ≤ (k : Int) := by omega
      have hk1 : (k : Int) < (ss.length : Int) := by omega
      have hqe : (q : Int) ≤ 8 := by omega
      have hov : ovAt ss k ↔ (ss.getD q seg0).first ≤ (ss.getD k seg0).last := by rw [hq]; rfl
      have HOV := hide hov
      generalize (ss.getD q seg0).first = F at c1 HOV
      generalize (ss.getD k seg0).last = L at c2 HOV
      clear hho hh hbl hq hov
      by_cases hfl : F ≤ L
      · go_wp2
        go_quiet (fail)
        go_wp2
        go_ret
        exact ⟨.inl ⟨⟨k, by omega, (unhide HOV).2 hfl⟩, rfl⟩, unhide HH, ⟨(unhide HBL).os, (unhide HBL).tape, (unhide HBL).output, (unhide HBL).size, (unhide HBL).block⟩⟩
      · go_wp2
        go_quiet (fail)
        go_wp2
        go_roundw
        case rel => exact ⟨q, by omega, by go_num, hide (by rw [unhide HQ]; exact upTo_step (unhide HN) (fun ho => by (have := (unhide HOV).1 ho; omega))), unhide HH, ⟨(unhide HBL).os, (unhide HBL).tape, (unhide HBL).output, (unhide HBL).size, (unhide HBL).block⟩⟩
        case measure => simp [intOf]; omega
    · have hq1 : ¬ (q : Int) < (ss.length : Int) := by omega
      clear hho hh hbl hq
      go_wp2
      go_ret
      exact ⟨.inr ⟨fun i hi => (unhide HN) i (by have := unhide HQ; omega), rfl⟩, unhide HH, unhide HBL⟩

/-- A segment in whose pages the entry lies, and that may be executed. -/
def entSeg (E : Int) (s : Seg) : Prop := bits BinOp.and IntKind.u8 s.perm 1 ≠ 0 ∧ s.first ≤ E / 256 ∧ E / 256 ≤ s.last
def entOk (E : Int) (ss : List Seg) : Prop := E % 4 = 0 ∧ E < 65024 ∧ ∃ i, i < ss.length ∧ entSeg E (ss.getD i seg0)
theorem ent_i64 (n : Int) (h0 : 0 ≤ n) (h1 : n < 1000000) : IntKind.i64.wrap n = n := by
  simp [IntKind.wrap, IntKind.bits, IntKind.signed]; split <;> omega

set_option maxRecDepth 100000 in
set_option maxHeartbeats 1000000 in
theorem isEntry_any (b off cap g c : Nat) (E : Int) (ss : List Seg) (w : World) (h : Holds w g 106 (segsRow b off cap ss)) (h8 : ss.length ≤ 8) (E0 : 0 ≤ E) :
    Calls Tryd.prog 45 #[.int .u64 E, .slice (some ⟨g, 0, none⟩) ss.length c] w fun e w' =>
      (entOk E ss ∧ e = .returned (.bool true) ∨ ¬ entOk E ss ∧ e = .returned (.bool false)) ∧ Below w.heap.size w w' := by
  have H := hide h
  have hgl := h.lt
  clear h
  by_cases q1 : E % 4 = 0
  case neg =>
    have f1 : (E % 4 != 0) = true := by simpa using q1
    have Q1 := hide q1
    clear q1
    go_enter Tryd.func45, Tryd.ntmps45
    go_wp2
    go_ret
    exact ⟨.inr ⟨fun ho => unhide Q1 ho.1, rfl⟩, Below.refl _ _⟩
  have f1 : (E % 4 != 0) = false := by simpa using q1
  have Q1 := hide q1
  clear q1
  by_cases q2 : E < 65024
  case neg =>
    go_enter Tryd.func45, Tryd.ntmps45
    go_wp2
    go_ret
    exact ⟨.inr ⟨fun ho => by (have := ho.2.1; omega), rfl⟩, Below.refl _ _⟩
  obtain ⟨P, hP⟩ : ∃ P, P = E / 256 := ⟨_, rfl⟩
  have y1 : IntKind.i64.wrap (E / 256) = P := by rw [ent_i64 _ (by omega) (by omega)]; exact hP.symm
  have HP := hide hP
  clear hP
  go_enter Tryd.func45, Tryd.ntmps45
  go_wp2
  go_loopw [20] (fun i wr => ∃ k : Nat, k ≤ ss.length ∧ i = .int .i64 k ∧ Hid (∀ j, j < k → ¬ entSeg E (ss.getD j seg0)) ∧ Below w.heap.size w wr) (fun i _ => ss.length - (intOf i).toNat)
  case atStart => exact ⟨0, by omega, rfl, fun j hj => by omega, Below.refl _ _⟩
  case round =>
    obtain ⟨k, hk, rfl, HN, hbl⟩ := hrel
    have HBL := hide hbl
    have hho := (unhide H).below hbl hgl
    have hsz := hbl.size
    by_cases hlt : k < ss.length
    · obtain ⟨s, hs⟩ : ∃ s, s = ss.getD k seg0 := ⟨_, rfl⟩
      have c0 : wr.cell? ⟨g, k * 5, none⟩ = some (.int .u8 s.perm) := by rw [hs]; exact seg_cell hho k hlt 0 _ (by omega) rfl
      have c1 : wr.cell? ⟨g, k * 5 + 1, none⟩ = some (.int .u64 s.addr) := by rw [hs]; exact seg_cell hho k hlt 1 _ (by omega) rfl
      have c2 : wr.cell? ⟨g, k * 5 + 2, none⟩ = some (.slice (some ⟨b, segPtr off cap s, none⟩) s.inFile.toNat (cap - s.offs.toNat)) := by rw [hs]; exact seg_cell hho k hlt 2 _ (by omega) rfl
      have c3 : wr.cell? ⟨g, k * 5 + 3, none⟩ = some (.int .i64 s.first) := by rw [hs]; exact seg_cell hho k hlt 3 _ (by omega) rfl
      have c4 : wr.cell? ⟨g, k * 5 + 4, none⟩ = some (.int .i64 s.last) := by rw [hs]; exact seg_cell hho k hlt 4 _ (by omega) rfl
      have hk0 : (0 : Int) ≤ (k : Int) := by omega
      have hk1 : (k : Int) < (ss.length : Int) := by omega
      have hent : entSeg E (ss.getD k seg0) ↔ (bits BinOp.and IntKind.u8 s.perm 1 ≠ 0 ∧ s.first ≤ P ∧ P ≤ s.last) := by rw [← hs, unhide HP]; rfl
      have HE := hide hent
      obtain ⟨X, hX⟩ : ∃ X, X = bits BinOp.and IntKind.u8 s.perm 1 := ⟨_, rfl⟩
      rw [← hX] at HE
      have hX' := hX.symm
      generalize s.first = F at c3 HE
      generalize s.last = L at c4 HE
      generalize s.addr = A at c1
      generalize s.inFile.toNat = FL at c2
      generalize s.offs.toNat = OF at c2
      clear hho hbl hs hent hX
      by_cases t1 : X = 0
      · have g1 : (X != 0) = false := by simpa using t1
        clear t1
        go_wp2
        go_roundw
        case rel => exact ⟨k + 1, by omega, by go_num, hide (upTo_step (unhide HN) (fun ho => by (have := ((unhide HE).1 ho).1; simp at g1; exact this g1))), (unhide HBL).alloc hsz _⟩
        case measure => simp [intOf]; omega
      · have g1 : (X != 0) = true := by simpa using t1
        have T1 := hide t1
        clear t1
        by_cases t2 : F ≤ P
        · by_cases t3 : P ≤ L
          · go_wp2
            go_ret
            exact ⟨.inl ⟨⟨unhide Q1, q2, k, hlt, (unhide HE).2 ⟨unhide T1, t2, t3⟩⟩, rfl⟩, (unhide HBL).alloc hsz _⟩
          · go_wp2
            go_roundw
            case rel => exact ⟨k + 1, by omega, by go_num, hide (upTo_step (unhide HN) (fun ho => by (have := ((unhide HE).1 ho).2.2; omega))), (unhide HBL).alloc hsz _⟩
            case measure => simp [intOf]; omega
        · go_wp2
          go_roundw
          case rel => exact ⟨k + 1, by omega, by go_num, hide (upTo_step (unhide HN) (fun ho => by (have := ((unhide HE).1 ho).2.1; omega))), (unhide HBL).alloc hsz _⟩
          case measure => simp [intOf]; omega
    · clear hho hbl
      go_wp2
      go_ret
      exact ⟨.inr ⟨fun ho => by (obtain ⟨_, _, i, hi, he⟩ := ho; exact (unhide HN) i (by omega) he), rfl⟩, unhide HBL⟩
end Go.Proofs.YtkkpeboejgkmaaaDoor
