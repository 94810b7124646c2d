import Derived.Test.YtkmbleboceedbaaGreatDoorBootsProofG08
import Derived.Deep.QuietTactic
import Derived.BigQuiet
import Derived.Test.YtkmbleboceedbaaGreatDoorBootsProofG01
import Derived.Laws.Bits64
import Derived.Lib.Bytealg
import Derived.WalkKit
/- exe.overlap and exe.isEntry. -/
namespace Go.Proofs.YtkmbleboceedbaaGreatDoor
open Go.RowKit
set_option linter.unusedVariables false
set_option linter.unusedSimpArgs false

def Seg.first (s : Seg) : Int := s.addr / 256
def Seg.last (s : Seg) : Int := (s.addr + s.mem - 1) / 256
/-- Neighbours that share a page. -/
def ovAt (ss : List Seg) (i : Nat) : Prop := (ss.getD (i + 1) default).first ≤ (ss.getD i default).last
theorem seg_cell {w : World} {g : Nat} {t : TypeId} {b off cap : Nat} {ss : List Seg} (h : Holds w g t (segsRow b off cap ss)) (i : Nat) (hi : i < ss.length) (j : Nat) (v : Value) (hj : j < 5) (hv : (segCells b off cap (ss.getD i default))[j]? = some v) : w.cell? ⟨g, i * 5 + j, none⟩ = some v := by
  refine h.cell ?_
  rw [segsRow_get b off cap ss i j (ss.getD i default) hj (by simp [List.getD, List.getElem?_eq_getElem hi])]
  exact hv

set_option maxRecDepth 100000 in
set_option maxHeartbeats 1000000 in
theorem overlap_any (b off cap g c : Nat) (ss : List Seg) (w : World) (h : Holds w g 242 (segsRow b off cap ss)) (h8 : ss.length ≤ 8) (h1 : 1 ≤ ss.length) :
    Calls Tryz.prog 100 #[.slice (some ⟨g, 0, none⟩) ss.length c] w fun e w' =>
      ((∃ i, i + 1 < ss.length ∧ ovAt ss i) ∧ e = .returned (.bool true) ∨ (∀ i, i + 1 < ss.length → ¬ ovAt ss i) ∧ e = .returned (.bool false)) ∧ w'.heap = w.heap ∧ Below w.heap.size w w' := by
  have H := hide h
  clear h
  go_enter Tryz.func100, Tryz.ntmps100
  go_wp2
  go_loopw [3] (fun i wr => ∃ k : Nat, k + 1 ≤ ss.length ∧ i = .int .i64 ((k + 1 : Nat) : Int) ∧ Hid (∀ j, j < k → ¬ ovAt ss j) ∧ wr.heap = w.heap ∧ Below w.heap.size w wr) (fun i _ => ss.length - (intOf i).toNat)
  case atStart => exact ⟨0, by omega, rfl, fun j hj => by omega, rfl, Below.refl _ _⟩
  case round =>
    obtain ⟨k, hk, rfl, HN, hh, hbl⟩ := hrel
    obtain ⟨q, hq⟩ : ∃ q, q = k + 1 := ⟨_, rfl⟩
    rw [← hq]
    have HQ := hide hq
    have HBL := hide hbl
    have hho := (unhide H).heap hh
    have HH := hide hh
    by_cases hlt : q < ss.length
    · have c1 : wr.cell? ⟨g, q * 5 + 3, none⟩ = some (.int .i64 (ss.getD q default).first) := seg_cell hho q hlt 3 _ (by omega) rfl
      have c2 : wr.cell? ⟨g, k * 5 + 4, none⟩ = some (.int .i64 (ss.getD k default).last) := seg_cell hho k (by omega) 4 _ (by omega) rfl
      have e1 : (q : Int) - 1 = (k : Int) := by omega
      have hq0 : (0 : Int) ≤ (q : Int) := by omega
      have hq1 : (q : Int) < (ss.length : Int) := by omega
      have hk0 : (0 : Int) ≤ (k : Int) := by omega
      have hk1 : (k : Int) < (ss.length : Int) := by omega
      have hqe : (q : Int) ≤ 8 := by omega
      have hov : ovAt ss k ↔ (ss.getD q default).first ≤ (ss.getD k default).last := by rw [hq]; rfl
      have HOV := hide hov
      generalize (ss.getD q default).first = F at c1 HOV
      generalize (ss.getD k default).last = L at c2 HOV
      clear hho hh hbl hq hov
      by_cases hfl : F ≤ L
      · go_wp2
        go_quiet (fail)
        go_wp2
        go_ret
        exact ⟨.inl ⟨⟨k, by omega, (unhide HOV).2 hfl⟩, rfl⟩, unhide HH, ⟨(unhide HBL).os, (unhide HBL).tape, (unhide HBL).output, (unhide HBL).size, (unhide HBL).block⟩⟩
      · go_wp2
        go_quiet (fail)
        go_wp2
        go_roundw
        case rel => exact ⟨q, by omega, by go_num, hide (by rw [unhide HQ]; exact upTo_step (unhide HN) (fun ho => by (have := (unhide HOV).1 ho; omega))), unhide HH, ⟨(unhide HBL).os, (unhide HBL).tape, (unhide HBL).output, (unhide HBL).size, (unhide HBL).block⟩⟩
        case measure => simp [intOf]; omega
    · have hq1 : ¬ (q : Int) < (ss.length : Int) := by omega
      clear hho hh hbl hq
      go_wp2
      go_ret
      exact ⟨.inr ⟨fun i hi => (unhide HN) i (by have := unhide HQ; omega), rfl⟩, unhide HH, unhide HBL⟩

/-- A segment in whose pages the entry lies, and that may be executed. -/
def entSeg (E : Int) (s : Seg) : Prop := bits BinOp.and IntKind.u8 s.perm 1 ≠ 0 ∧ s.first ≤ E / 256 ∧ E / 256 ≤ s.last
def entOk (E : Int) (ss : List Seg) : Prop := E % 4 = 0 ∧ E < 65024 ∧ ∃ i, i < ss.length ∧ entSeg E (ss.getD i default)
theorem ent_i64 (n : Int) (h0 : 0 ≤ n) (h1 : n < 1000000) : IntKind.i64.wrap n = n := by
  simp [IntKind.wrap, IntKind.bits, IntKind.signed]; split <;> omega

set_option maxRecDepth 100000 in
set_option maxHeartbeats 1000000 in
theorem isEntry_any (b off cap g c : Nat) (E : Int) (ss : List Seg) (w : World) (h : Holds w g 242 (segsRow b off cap ss)) (h8 : ss.length ≤ 8) (E0 : 0 ≤ E) :
    Calls Tryz.prog 102 #[.int .u64 E, .slice (some ⟨g, 0, none⟩) ss.length c] w fun e w' =>
      (entOk E ss ∧ e = .returned (.bool true) ∨ ¬ entOk E ss ∧ e = .returned (.bool false)) ∧ Below w.heap.size w w' := by
  have H := hide h
  have hgl := h.lt
  clear h
  by_cases q1 : E % 4 = 0
  case neg =>
    have f1 : (E % 4 != 0) = true := by simpa using q1
    have Q1 := hide q1
    clear q1
    go_enter Tryz.func102, Tryz.ntmps102
    go_wp2
    go_ret
    exact ⟨.inr ⟨fun ho => unhide Q1 ho.1, rfl⟩, Below.refl _ _⟩
  have f1 : (E % 4 != 0) = false := by simpa using q1
  have Q1 := hide q1
  clear q1
  by_cases q2 : E < 65024
  case neg =>
    go_enter Tryz.func102, Tryz.ntmps102
    go_wp2
    go_ret
    exact ⟨.inr ⟨fun ho => by (have := ho.2.1; omega), rfl⟩, Below.refl _ _⟩
  obtain ⟨P, hP⟩ : ∃ P, P = E / 256 := ⟨_, rfl⟩
  have y1 : IntKind.i64.wrap (E / 256) = P := by rw [ent_i64 _ (by omega) (by omega)]; exact hP.symm
  have HP := hide hP
  clear hP
  go_enter Tryz.func102, Tryz.ntmps102
  go_wp2
  go_loopw [20] (fun i wr => ∃ k : Nat, k ≤ ss.length ∧ i = .int .i64 k ∧ Hid (∀ j, j < k → ¬ entSeg E (ss.getD j default)) ∧ Below w.heap.size w wr) (fun i _ => ss.length - (intOf i).toNat)
  case atStart => exact ⟨0, by omega, rfl, fun j hj => by omega, Below.refl _ _⟩
  case round =>
    obtain ⟨k, hk, rfl, HN, hbl⟩ := hrel
    have HBL := hide hbl
    have hho := (unhide H).below hbl hgl
    have hsz := hbl.size
    by_cases hlt : k < ss.length
    · obtain ⟨s, hs⟩ : ∃ s, s = ss.getD k default := ⟨_, rfl⟩
      have c0 : wr.cell? ⟨g, k * 5, none⟩ = some (.int .u8 s.perm) := by rw [hs]; exact seg_cell hho k hlt 0 _ (by omega) rfl
      have c1 : wr.cell? ⟨g, k * 5 + 1, none⟩ = some (.int .u64 s.addr) := by rw [hs]; exact seg_cell hho k hlt 1 _ (by omega) rfl
      have c2 : wr.cell? ⟨g, k * 5 + 2, none⟩ = some (.slice (some ⟨b, segPtr off cap s, none⟩) s.inFile.toNat (cap - s.offs.toNat)) := by rw [hs]; exact seg_cell hho k hlt 2 _ (by omega) rfl
      have c3 : wr.cell? ⟨g, k * 5 + 3, none⟩ = some (.int .i64 s.first) := by rw [hs]; exact seg_cell hho k hlt 3 _ (by omega) rfl
      have c4 : wr.cell? ⟨g, k * 5 + 4, none⟩ = some (.int .i64 s.last) := by rw [hs]; exact seg_cell hho k hlt 4 _ (by omega) rfl
      have hk0 : (0 : Int) ≤ (k : Int) := by omega
      have hk1 : (k : Int) < (ss.length : Int) := by omega
      have hent : entSeg E (ss.getD k default) ↔ (bits BinOp.and IntKind.u8 s.perm 1 ≠ 0 ∧ s.first ≤ P ∧ P ≤ s.last) := by rw [← hs, unhide HP]; rfl
      have HE := hide hent
      obtain ⟨X, hX⟩ : ∃ X, X = bits BinOp.and IntKind.u8 s.perm 1 := ⟨_, rfl⟩
      rw [← hX] at HE
      have hX' := hX.symm
      generalize s.first = F at c3 HE
      generalize s.last = L at c4 HE
      generalize s.addr = A at c1
      generalize s.inFile.toNat = FL at c2
      generalize s.offs.toNat = OF at c2
      clear hho hbl hs hent hX
      by_cases t1 : X = 0
      · have g1 : (X != 0) = false := by simpa using t1
        clear t1
        go_wp2
        go_roundw
        case rel => exact ⟨k + 1, by omega, by go_num, hide (upTo_step (unhide HN) (fun ho => by (have := ((unhide HE).1 ho).1; simp at g1; exact this g1))), (unhide HBL).alloc hsz _⟩
        case measure => simp [intOf]; omega
      · have g1 : (X != 0) = true := by simpa using t1
        have T1 := hide t1
        clear t1
        by_cases t2 : F ≤ P
        · by_cases t3 : P ≤ L
          · go_wp2
            go_ret
            exact ⟨.inl ⟨⟨unhide Q1, q2, k, hlt, (unhide HE).2 ⟨unhide T1, t2, t3⟩⟩, rfl⟩, (unhide HBL).alloc hsz _⟩
          · go_wp2
            go_roundw
            case rel => exact ⟨k + 1, by omega, by go_num, hide (upTo_step (unhide HN) (fun ho => by (have := ((unhide HE).1 ho).2.2; omega))), (unhide HBL).alloc hsz _⟩
            case measure => simp [intOf]; omega
        · go_wp2
          go_roundw
          case rel => exact ⟨k + 1, by omega, by go_num, hide (upTo_step (unhide HN) (fun ho => by (have := ((unhide HE).1 ho).2.1; omega))), (unhide HBL).alloc hsz _⟩
          case measure => simp [intOf]; omega
    · clear hho hbl
      go_wp2
      go_ret
      exact ⟨.inr ⟨fun ho => by (obtain ⟨_, _, i, hi, he⟩ := ho; exact (unhide HN) i (by omega) he), rfl⟩, unhide HBL⟩
end Go.Proofs.YtkmbleboceedbaaGreatDoor

/- Stack: the small callees: put, PutWords, word. -/
namespace Go.Proofs.YtkmbleboceedbaaGreatDoor
open Go.RowKit
set_option linter.unusedVariables false

set_option maxHeartbeats 1000000 in
theorem put_any (b off len cap : Nat) (t : TypeId) (L : List Int) (p : Nat) (n : Int) (w : World) (hrow : Holds w b t (bytesRow L)) (hp : p + 8 ≤ len) (hL : off + len ≤ L.length) (hl : L.length ≤ 100000) (n0 : 0 ≤ n) :
    Calls Tryz.prog 81 #[.slice (some ⟨b, off, none⟩) len cap, .int .i64 p, .int .u64 n] w fun e w' => e = .returned (.tuple #[]) ∧ Holds w' b t (bytesRow (splice L (off + p) (bytes8 n))) ∧ w.grownBy w' (some b) := by
  have h8 := bytes8_length n
  have H8 := hide h8
  have HW := hide hrow
  clear h8 hrow
  go_enter Tryz.func81, Tryz.ntmps81
  go_wp2
  go_loopw [6] (fun i wr => ∃ k : Nat, k ≤ 8 ∧ i = .int .i64 k ∧ Holds wr b t (bytesRow (splice L (off + p) ((bytes8 n).take k))) ∧ w.grownBy wr (some b)) (fun i _ => 8 - (intOf i).toNat)
  case atStart => exact ⟨0, by omega, rfl, by rw [List.take_zero, splice_nil]; exact unhide HW, World.grownBy.refl _ _⟩
  case round =>
    obtain ⟨k, hk, rfl, hr, hg⟩ := hrel
    by_cases hlt : k < 8
    · have ht : off + p + ((bytes8 n).take k).length ≤ L.length := by rw [List.length_take, unhide H8]; omega
      have hc : ∀ j, j < L.length → wr.cell? ⟨b, j, none⟩ = some (.int .u8 ((splice L (off + p) ((bytes8 n).take k)).getD j 0)) := fun j hj => hr.bytes j (by rw [splice_length _ _ _ ht]; exact hj)
      have hf : ∀ j, wr.frozen? ⟨b, j, none⟩ = false := fun j => hr.frozen j
      have hin : off + (p + k) < L.length := by omega
      have R := hr.set (off + (p + k)) (.int .u8 (n / 2 ^ (8 * k) % 256))
      rw [bytesRow_set, ← Nat.add_assoc, splice_set L (off + p) (bytes8 n) k _ (bytes8_get n k hlt) (by rw [unhide H8]; omega), Nat.add_assoc] at R
      have G := grown_set hg (off + (p + k)) (.int .u8 (n / 2 ^ (8 * k) % 256))
      have HR := hide R
      have HGG := hide G
      clear hr hg ht R G
      go_wp2
      go_roundw
      case rel => exact ⟨k + 1, by omega, by go_num, unhide HR, unhide HGG⟩
      case measure => simp [intOf]; omega
    · have e : k = 8 := by omega
      subst e
      have HR := hide hr
      clear hr
      go_wp2
      go_end0
      refine ⟨rfl, ?_, hg⟩
      have := unhide HR
      rwa [List.take_of_length_le (by rw [unhide H8]; omega)] at this

set_option maxHeartbeats 1000000 in
theorem putWords_any (b off len cap : Nat) (t : TypeId) (L : List Int) (q wcap : Nat) (tq : TypeId) (ws : List Int) (w : World) (hrow : Holds w b t (bytesRow L)) (hws : Holds w q tq (wordsRow ws)) (hqb : q ≠ b)
    (hp : 8 * ws.length ≤ len) (hL : off + len ≤ L.length) (hl : L.length ≤ 100000) :
    Calls Tryz.prog 105 #[.slice (some ⟨b, off, none⟩) len cap, .slice (some ⟨q, 0, none⟩) ws.length wcap] w fun e w' => e = .returned (.tuple #[]) ∧ Holds w' b t (bytesRow (splice L off (words8 ws))) ∧ w.grownBy w' (some b) := by
  have h8 := words8_length ws
  have H8 := hide h8
  have HW := hide hrow
  have HQ := hide hws
  clear h8 hrow hws
  go_enter Tryz.func105, Tryz.ntmps105
  go_wp2
  go_loopw [9] (fun i wr => ∃ k : Nat, k ≤ ws.length ∧ i = .int .i64 k ∧ Holds wr b t (bytesRow (splice L off ((words8 ws).take (8 * k)))) ∧ w.grownBy wr (some b)) (fun i _ => ws.length - (intOf i).toNat)
  case atStart => exact ⟨0, by omega, rfl, by rw [Nat.mul_zero, List.take_zero, splice_nil]; exact unhide HW, World.grownBy.refl _ _⟩
  case round =>
    obtain ⟨k, hk, rfl, hr, hg⟩ := hrel
    by_cases hlt : k < ws.length
    · obtain ⟨x, hx⟩ : ∃ x, x = ws.getD k 0 := ⟨_, rfl⟩
      have hq : wr.cell? ⟨q, k, none⟩ = some (.int .u64 x) := by rw [hx]; exact ((unhide HQ).grown hg (by simp; omega)).cell (wordsRow_get ws k hlt)
      have HX := hide hx
      clear hx
      have HR := hide hr
      have HGG := hide hg
      clear hr hg
      go_wp2
      go_loopw [14] (fun i wr => ∃ m : Nat, m ≤ 8 ∧ i = .int .i64 m ∧ Holds wr b t (bytesRow (splice L off ((words8 ws).take (8 * k + m)))) ∧ w.grownBy wr (some b)) (fun i _ => 8 - (intOf i).toNat)
      case atStart => exact ⟨0, by omega, rfl, unhide HR, unhide HGG⟩
      case round =>
        obtain ⟨m, hm, rfl, hr, hg⟩ := hrel
        by_cases hl8 : m < 8
        · have ht : off + ((words8 ws).take (8 * k + m)).length ≤ L.length := by rw [List.length_take, unhide H8]; omega
          have hc : ∀ j, j < L.length → wr.cell? ⟨b, j, none⟩ = some (.int .u8 ((splice L off ((words8 ws).take (8 * k + m))).getD j 0)) := fun j hj => hr.bytes j (by rw [splice_length _ _ _ ht]; exact hj)
          have hf : ∀ j, wr.frozen? ⟨b, j, none⟩ = false := fun j => hr.frozen j
          have hin : off + (k * 8 + m) < L.length := by omega
          have R := hr.set (off + (k * 8 + m)) (.int .u8 (x / 2 ^ (8 * m) % 256))
          rw [bytesRow_set, show k * 8 + m = 8 * k + m from by omega, splice_set L off (words8 ws) (8 * k + m) _ (by rw [unhide HX]; exact words8_get ws k m hl8 hlt) (by rw [unhide H8]; omega), show 8 * k + m = k * 8 + m from by omega] at R
          have G := grown_set hg (off + (k * 8 + m)) (.int .u8 (x / 2 ^ (8 * m) % 256))
          have HR2 := hide R
          have HG2 := hide G
          clear hr hg ht R G
          go_wp2
          go_roundw
          case rel => exact ⟨m + 1, by omega, by go_num, by have := unhide HR2; rwa [show k * 8 + m + 1 = 8 * k + (m + 1) from by omega] at this, unhide HG2⟩
          case measure => simp [intOf]; omega
        · have e : m = 8 := by omega
          subst e
          have HR2 := hide hr
          have HG2 := hide hg
          clear hr hg
          go_wp2
          go_roundw
          case rel => exact ⟨k + 1, by omega, by go_num, by have := unhide HR2; rwa [show 8 * k + 8 = 8 * (k + 1) from by omega] at this, unhide HG2⟩
          case measure => simp [intOf]; omega
    · have e : k = ws.length := by omega
      subst e
      have HR := hide hr
      clear hr
      go_wp2
      go_end0
      refine ⟨rfl, ?_, hg⟩
      have := unhide HR
      rwa [List.take_of_length_le (by rw [unhide H8]; omega)] at this

theorem word_step (x : Int) (i : Nat) : x / 2 ^ (8 * (i + 1)) * 256 + x / 2 ^ (8 * i) % 256 = x / 2 ^ (8 * i) := by
  have e : (2 : Int) ^ (8 * (i + 1)) = 2 ^ (8 * i) * 256 := by rw [show 8 * (i + 1) = 8 * i + 8 from by omega, Int.pow_add]; rfl
  have hp : (0 : Int) ≤ 2 ^ (8 * i) := Int.pow_nonneg (by decide)
  rw [e, ← Int.ediv_ediv_of_nonneg hp]
  omega
theorem word_wrap (y z : Int) (h : y * 256 + z % 256 = z) (h0 : 0 ≤ y) (h1 : 0 ≤ z) (h2 : z < 18446744073709551616) : IntKind.u64.wrap (IntKind.u64.wrap (y * 256) + z % 256) = z := by
  rw [IntKind.wrap_u64, IntKind.wrap_u64]; omega
theorem word_bd (x : Int) (i : Nat) (h0 : 0 ≤ x) (h1 : x < 18446744073709551616) : 0 ≤ x / 2 ^ (8 * i) ∧ x / 2 ^ (8 * i) < 18446744073709551616 := by
  have hp : (0 : Int) < 2 ^ (8 * i) := Int.pow_pos (by decide)
  refine ⟨Int.ediv_nonneg h0 (by omega), ?_⟩
  have : x / 2 ^ (8 * i) ≤ x := Int.ediv_le_self _ h0
  omega

end Go.Proofs.YtkmbleboceedbaaGreatDoor

/- Stack: are these arguments? -/
namespace Go.Proofs.YtkmbleboceedbaaGreatDoor
open Go.RowKit
set_option linter.unusedVariables false
set_option linter.unusedSimpArgs false

theorem index_nonneg (l : List UInt8) (c : UInt8) : 0 ≤ Lib.indexByte l c ↔ c ∈ l := by
  induction l with
  | nil => simp [Lib.indexByte]
  | cons b l ih =>
    unfold Lib.indexByte
    by_cases h : b = c
    · simp [h]
    · have h' : c ≠ b := fun e => h e.symm
      simp only [List.mem_cons, h', false_or, ← ih]
      have hne : (b == c) = false := by simpa using h
      simp only [hne]
      simp only [Bool.false_eq_true, if_false]
      by_cases g : Lib.indexByte l c = -1
      · simp [g]
      · have g' : (Lib.indexByte l c == -1) = false := by simpa using g
        simp only [g', Bool.false_eq_true, if_false]
        constructor <;> intro <;> omega

set_option maxHeartbeats 1000000 in
theorem index_any (s : ByteArray) (w : World) : Calls Tryz.prog 122 #[.string s, .int .u8 0] w fun e w' => e = .returned (.int .i64 (Lib.indexByte s.data.toList 0)) ∧ w' = w := by
  have h76 := @run_callFunc_extern Tryz.prog 171 _ Extern.BytealgIndexByte.indexByte Tryz.func171 (by kernel_rfl) (by kernel_rfl) (by kernel_rfl) (by kernel_rfl)
  have hr : ∀ w, (Extern.BytealgIndexByte.indexByte #[.string s, .int .u8 0]).run Tryz.prog w = .ok (.int .i64 (Lib.indexByte s.data.toList 0)) w := fun w => Lib.run_indexByteString s 0 w
  generalize Lib.indexByte s.data.toList 0 = r at *
  go_enter Tryz.func122, Tryz.ntmps122
  go_wp2
  go_ret
  exact ⟨rfl, rfl⟩

def okArg (s : ByteArray) : Bool := decide (s.size ≤ 30) && !(s.data.toList.contains 0)
def okArgs (ss : List ByteArray) : Bool := decide (ss.length ≤ 8) && ss.all okArg
theorem okArg_long {s : ByteArray} (h : 30 < s.size) : okArg s = false := by simp [okArg]; omega
theorem okArg_zero {s : ByteArray} (h : 0 ≤ Lib.indexByte s.data.toList 0) : okArg s = false := by
  have := (index_nonneg _ _).1 h
  simp [okArg, List.contains_iff_mem, this]
theorem okArg_yes {s : ByteArray} (h : s.size ≤ 30) (h0 : Lib.indexByte s.data.toList 0 < 0) : okArg s = true := by
  have : ¬ (0 : UInt8) ∈ s.data.toList := fun m => by have := (index_nonneg _ _).2 m; omega
  simp [okArg, h, this]
theorem all_false {ss : List ByteArray} {k : Nat} (hk : k < ss.length) (h : okArg (ss.getD k ByteArray.empty) = false) : ss.all okArg = false := by
  rw [List.all_eq_false]
  refine ⟨ss.getD k ByteArray.empty, ?_, by rw [h]; decide⟩
  simp [List.getD, List.getElem?_eq_getElem hk]
theorem all_take {ss : List ByteArray} {k : Nat} (hk : k < ss.length) (h : okArg (ss.getD k ByteArray.empty) = true) (ht : (ss.take k).all okArg = true) : (ss.take (k + 1)).all okArg = true := by
  rw [List.take_succ_eq_append_getElem hk, List.all_append, ht]
  simp [List.getD, List.getElem?_eq_getElem hk] at h
  simp [h]

set_option maxHeartbeats 1000000 in
theorem areArgs_any (a : Option Addr) (b off cap : Nat) (ss : List ByteArray) (w : World) (hn : ss.length ≤ 1000) (ha : 0 < ss.length → a = some ⟨b, off, none⟩)
    (hcell : ∀ i, i < ss.length → w.cell? ⟨b, off + i, none⟩ = some (.string (ss.getD i ByteArray.empty))) :
    Calls Tryz.prog 104 #[.slice a ss.length cap] w fun e w' => e = .returned (.bool (okArgs ss)) ∧ w' = w := by
  by_cases h8 : 8 < ss.length
  · have hr : okArgs ss = false := by simp [okArgs]; omega
    rw [hr]
    clear hr hcell ha
    go_enter Tryz.func104, Tryz.ntmps104
    go_wp2
    go_ret
    exact ⟨rfl, rfl⟩
  · have hr : okArgs ss = ss.all okArg := by simp [okArgs]; intro; omega
    rw [hr]
    have HC := hide hcell
    have HA := hide ha
    clear hr hcell ha
    go_enter Tryz.func104, Tryz.ntmps104
    go_wp2
    go_loop [10] (fun i => ∃ k : Nat, k ≤ ss.length ∧ i = .int .i64 k ∧ (ss.take k).all okArg = true) (fun i => ss.length - (intOf i).toNat)
    case atStart => exact ⟨0, by omega, rfl, rfl⟩
    case round =>
      obtain ⟨k, hk, rfl, hall⟩ := hrel
      have HALL := hide hall
      clear hall
      by_cases hlt : k < ss.length
      · have hca := (unhide HC) k hlt
        have e := (unhide HA) (by omega)
        subst e
        obtain ⟨s, hs⟩ : ∃ s, s = ss.getD k ByteArray.empty := ⟨_, rfl⟩
        rw [← hs] at hca
        have HS := hide hs
        clear hs
        by_cases hl : s.size ≤ 30
        · obtain ⟨r, hr⟩ : ∃ r, r = Lib.indexByte s.data.toList 0 := ⟨_, rfl⟩
          have HR := hide hr
          clear hr
          by_cases h0 : 0 ≤ r
          · have F := hide (all_false hlt (by rw [← unhide HS]; exact okArg_zero (by rw [← unhide HR]; exact h0)))
            go_wp2_with (go_at_call 122; refine (index_any _ _).mono ?_; rw [← unhide HR]; rintro e w' ⟨rfl, rfl⟩)
            go_ret
            exact ⟨by rw [unhide F]; rfl, rfl⟩
          · have F := hide (all_take hlt (by rw [← unhide HS]; exact okArg_yes hl (by rw [← unhide HR]; omega)) (unhide HALL))
            go_wp2_with (go_at_call 122; refine (index_any _ _).mono ?_; rw [← unhide HR]; rintro e w' ⟨rfl, rfl⟩)
            go_round
            case rel => exact ⟨k + 1, by omega, by go_num, unhide F⟩
            case measure => simp [intOf]; omega
        · have F := hide (all_false hlt (by rw [← unhide HS]; exact okArg_long (by omega)))
          go_wp2_with fail
          go_ret
          exact ⟨by rw [unhide F]; rfl, rfl⟩
      · have F := hide (show ss.all okArg = true by have := unhide HALL; rwa [List.take_of_length_le (by omega)] at this)
        go_wp2
        go_ret
        exact ⟨by rw [unhide F]; rfl, rfl⟩
end Go.Proofs.YtkmbleboceedbaaGreatDoor

/- Stack: what the pages hold, as plain lists. -/
namespace Go.Proofs.YtkmbleboceedbaaGreatDoor
open Go.RowKit

def strInts (s : ByteArray) : List Int := s.data.toList.map fun c => (c.toNat : Int)
theorem strInts_length (s : ByteArray) : (strInts s).length = s.size := by simp [strInts]
/-- How many bytes the arguments take, each with a byte 0 behind it. -/
def total : List ByteArray → Nat
  | [] => 0
  | s :: r => s.size + 1 + total r
def zeroRoom : List Int := List.replicate 512 0
theorem zeroRoom_length : zeroRoom.length = 512 := List.length_replicate
/-- The room with the arguments at its end. -/
def room : List ByteArray → List Int
  | [] => zeroRoom
  | s :: r => splice (room r) (512 - total (s :: r)) (strInts s)
/-- Their addresses. -/
def addrs : List ByteArray → List Int
  | [] => []
  | s :: r => ((65024 + (512 - total (s :: r)) : Nat) : Int) :: addrs r
theorem addrs_length : ∀ ss, (addrs ss).length = ss.length
  | [] => rfl
  | s :: r => by simp [addrs, addrs_length r]
theorem room_length : ∀ ss, total ss ≤ 512 → (room ss).length = 512
  | [], _ => zeroRoom_length
  | s :: r, h => by
    unfold room
    have h' : total r ≤ 512 := by unfold total at h; omega
    rw [splice_length _ _ _ (by rw [room_length r h', strInts_length]; unfold total at h ⊢; omega), room_length r h']
theorem total_le {ss : List ByteArray} (h : ss.all okArg = true) : total ss ≤ 31 * ss.length := by
  induction ss with
  | nil => simp [total]
  | cons s r ih =>
    simp only [List.all_cons, Bool.and_eq_true] at h
    have h1 := h.1
    simp [okArg] at h1
    have := ih h.2
    simp only [total, List.length_cons]
    omega
theorem all_drop {ss : List ByteArray} (h : ss.all okArg = true) (k : Nat) : (ss.drop k).all okArg = true := by
  rw [List.all_eq_true] at h ⊢
  exact fun x hx => h x (List.mem_of_mem_drop hx)
theorem ok_all {ss : List ByteArray} (h : okArgs ss = true) : ss.length ≤ 8 ∧ ss.all okArg = true := by
  simpa [okArgs] using h
theorem total_drop_le {ss : List ByteArray} (h : okArgs ss = true) (k : Nat) : total (ss.drop k) ≤ 248 := by
  have h1 := ok_all h
  have := total_le (all_drop h1.2 k)
  simp at this
  omega
theorem drop_cons {ss : List ByteArray} {k : Nat} (h : k < ss.length) : ss.drop k = ss.getD k ByteArray.empty :: ss.drop (k + 1) := by
  rw [List.drop_eq_getElem_cons h]
  simp [List.getD, List.getElem?_eq_getElem h]
theorem size_le {ss : List ByteArray} (h : okArgs ss = true) {k : Nat} (hk : k < ss.length) : (ss.getD k ByteArray.empty).size ≤ 30 := by
  have h1 := (List.all_eq_true.1 (ok_all h).2) (ss.getD k ByteArray.empty) (by simp [List.getD, List.getElem?_eq_getElem hk])
  simp [okArg] at h1
  exact h1.1
/-- Where the header goes. -/
def spOff (ss : List ByteArray) : Nat := (512 - total ss - 8 * (ss.length + 2)) / 16 * 16
def heads (ss : List ByteArray) : List Int := ((ss.length : Nat) : Int) :: (addrs ss ++ [0])
theorem heads_length (ss : List ByteArray) : (heads ss).length = ss.length + 2 := by simp [heads, addrs_length]
/-- All that the two pages hold. -/
def stackRoom (ss : List ByteArray) : List Int := splice (room ss) (spOff ss) (words8 (heads ss))
/-- The words as they are while the arguments from k on are laid. -/
def wordsTo (ss : List ByteArray) (k : Nat) : List Int := ((ss.length : Nat) : Int) :: (List.replicate k 0 ++ addrs (ss.drop k) ++ [0])
theorem wordsTo_length (ss : List ByteArray) (k : Nat) (h : k ≤ ss.length) : (wordsTo ss k).length = ss.length + 2 := by
  simp [wordsTo, addrs_length]; omega
theorem wordsTo_zero (ss : List ByteArray) : wordsTo ss 0 = heads ss := by simp [wordsTo, heads]
theorem wordsTo_step (ss : List ByteArray) (k : Nat) (h : k < ss.length) :
    (wordsTo ss (k + 1)).set (k + 1) ((65024 + (512 - total (ss.drop k)) : Nat) : Int) = wordsTo ss k := by
  unfold wordsTo
  rw [List.set_cons_succ]
  congr 1
  rw [drop_cons h, addrs]
  rw [List.replicate_succ', List.append_assoc, List.append_assoc, List.append_assoc]
  rw [List.set_append_right _ _ (by simp)]
  simp
end Go.Proofs.YtkmbleboceedbaaGreatDoor

/- A great array's zero value laid in a new block: the block behind a name. -/
namespace Go.Proofs.YtkmbleboceedbaaGreatDoor
open Go Go.RowKit
theorem wpList_alloc_big {P : Program} {ops : Array Oper} {rest : List Oper} {op : Oper} {a : Act} {w : World} {Q : Exit → Act → World → Prop} (hgd : op.guard = none) (ty : TypeId) (ho : op.op = .alloc ty)
    (vs : Array Value) (hrun : ∀ old w, (Instr.alloc ty true old).run P w = .ok (.pointer (some ⟨w.heap.size, 0, none⟩)) (w.alloc (.cells vs ty)))
    (h : wpList P ops Q rest (a.put op.dst (.pointer (some ⟨w.heap.size, 0, none⟩))) (w.alloc (.cells vs ty))) : wpList P ops Q (op :: rest) a w :=
  wpList_plain hgd fun _ hK => by
    unfold Oper.wp execOp
    simp only [ho]
    simp [hrun, Result.andThen]
    exact hK _ _ h
end Go.Proofs.YtkmbleboceedbaaGreatDoor

/- Stack: closed facts on great zero values. -/
namespace Go.Proofs.YtkmbleboceedbaaGreatDoor
open Go.RowKit
def zeros512 : Array Value := (bytesRow zeroRoom).toArray
set_option maxRecDepth 100000 in
theorem alloc512 (old : Value) (w : World) : (Instr.alloc 216 true old).run Tryz.prog w = .ok (.pointer (some ⟨w.heap.size, 0, none⟩)) (w.alloc (.cells zeros512 216)) := by kernel_rfl
/-- A page of package api as cells. -/
def pageRow (num perm : Int) (bytes : List Int) : List Value := .int .i64 num :: .int .u8 perm :: bytesRow bytes
def zero256 : List Int := List.replicate 256 0
theorem zero256_length : zero256.length = 256 := List.length_replicate
def zeroPages : Array Value := (pageRow 0 0 zero256 ++ pageRow 0 0 zero256).toArray
set_option maxRecDepth 100000 in
theorem makePages (w : World) : (Instr.makeSlice 76 (.int .i64 2) (.int .i64 2)).run Tryz.prog w = .ok (.slice (some ⟨w.heap.size, 0, none⟩) 2 2) (w.alloc (.cells zeroPages 87)) := by kernel_rfl
end Go.Proofs.YtkmbleboceedbaaGreatDoor
