import Derived.Test.YtkokiefclmbgaaaGreatDoorBootsProofG03
import Derived.Test.YtkokiefclmbgaaaGreatDoorBootsProofG02
import Derived.Deep.OwnRows
import Derived.Deep.QuietTactic
import Derived.BigQuiet
import Derived.Test.YtkokiefclmbgaaaGreatDoorBootsProofG01
import Derived.Laws.Bits64
import Derived.Lib.Bytealg
import Derived.Shelf.SlIterI.Nil
import Derived.Shelf.SortM.Plain
import Derived.Shelf.SortM.SortNone
import Derived.Shelf.SlSortCmp.SmallK
import Derived.Shelf.SlicesE.Clone
import Derived.Shelf.Small.Strs
/- The law's own helpers: same, roomy, still. -/
namespace Go.Proofs.YtkokiefclmbgaaaGreatDoor
open Go.RowKit
set_option linter.unusedVariables false
set_option linter.unusedSimpArgs false

set_option maxRecDepth 100000 in
set_option maxHeartbeats 1000000 in
theorem same_any (aa ab : Option Addr) (ga oa ca gb ob cb : Nat) (B : List Int) (w : World) (ha : 0 < B.length → aa = some ⟨ga, oa, none⟩) (hb : 0 < B.length → ab = some ⟨gb, ob, none⟩)
    (hA : BView w ga oa B) (hB : BView w gb ob B) (hn : B.length ≤ 1000000) :
    Calls Tryz.prog 22 #[.slice aa B.length ca, .slice ab B.length cb] w fun e w' => e = .returned (.bool true) ∧ w'.heap = w.heap ∧ Below w.heap.size w w' := by
  have HA := hide hA
  have HB := hide hB
  have HA1 := hide ha
  have HB1 := hide hb
  clear hA hB ha hb
  go_enter Tryz.func22, Tryz.ntmps22
  go_wp2
  go_loopw [5] (fun i wr => ∃ k : Nat, k ≤ B.length ∧ i = .int .i64 k ∧ wr.heap = w.heap ∧ Below w.heap.size w wr) (fun i _ => B.length - (intOf i).toNat)
  case atStart => exact ⟨0, by omega, rfl, rfl, Below.refl _ _⟩
  case round =>
    obtain ⟨k, hk, rfl, hh, hbl⟩ := hrel
    have HH := hide hh
    have HBL := hide hbl
    clear hh hbl
    by_cases hlt : k < B.length
    · have e1 := (unhide HA1) (by omega)
      have e2 := (unhide HB1) (by omega)
      subst e1 e2
      have hcells : ∀ a, wr.cell? a = w.cell? a := fun a => by unfold World.cell?; rw [unhide HH]
      have c1 : wr.cell? ⟨ga, oa + k, none⟩ = some (.int .u8 (B.getD k 0)) := by rw [hcells]; exact (unhide HA) k hlt
      have c2 : wr.cell? ⟨gb, ob + k, none⟩ = some (.int .u8 (B.getD k 0)) := by rw [hcells]; exact (unhide HB) k hlt
      generalize B.getD k 0 = x at c1 c2
      have hk0 : (0 : Int) ≤ (k : Int) := by omega
      have hk1 : (k : Int) < (B.length : Int) := by omega
      clear hcells
      go_wp2
      go_quiet (fail)
      go_wp2
      go_roundw
      case rel => exact ⟨k + 1, by omega, by go_num, unhide HH, ⟨(unhide HBL).os, (unhide HBL).tape, (unhide HBL).output, (unhide HBL).size, (unhide HBL).block⟩⟩
      case measure => simp [intOf]; omega
    · go_wp2
      go_ret
      exact ⟨rfl, unhide HH, unhide HBL⟩

theorem u8info : (Tryz.prog.info? 5).map (fun i => (i.zero, i.size, i.bytes)) = some (some (.int .u8 0), 1, 1) := by kernel_rfl
theorem u8one : (Tryz.prog.info? 5).map (·.size) = some 1 := by kernel_rfl
def zeroBytes (n : Nat) : Array Value := (bytesRow (List.replicate n 0)).toArray
theorem made_bytes (n : Nat) : madeCells #[.int .u8 0] n = zeroBytes n := by
  unfold madeCells zeroBytes bytesRow
  apply Array.ext
  · simp
  · intro i h1 h2
    simp [Nat.mod_one]
theorem roomy_row (B : List Int) : ((splice (List.replicate (B.length + 2) 0) 0 B).set B.length 71).set (B.length + 1) 72 = B ++ [71, 72] := by
  have e : splice (List.replicate (B.length + 2) 0) 0 B = B ++ [0, 0] := by
    unfold splice
    rw [List.drop_replicate, show B.length + 2 - (0 + B.length) = 2 from by omega]
    rfl
  rw [e, List.set_append_right _ _ (Nat.le_refl _), List.set_append_right _ _ (by omega)]
  simp
theorem bytesRow_one' (L : List Int) : ∀ v ∈ bytesRow L, v.oneCell' = true := by
  intro v hv
  obtain ⟨x, _, rfl⟩ := List.mem_map.1 hv
  rfl
theorem addr_add (b o j : Nat) : (⟨b, o, none⟩ : Addr).add j = ⟨b, o + j, none⟩ := by unfold Addr.add; split <;> simp_all

set_option maxRecDepth 100000 in
set_option maxHeartbeats 1000000 in
theorem roomy_any (a : Option Addr) (b off cap : Nat) (B : List Int) (w : World) (ha : 0 < B.length → a = some ⟨b, off, none⟩) (hv : BView w b off B) (hbw : 0 < B.length → b < w.heap.size) (hn : B.length ≤ 1000000) :
    Calls Tryz.prog 14 #[.slice a B.length cap] w fun e w' => e = .returned (.slice (some ⟨w.heap.size, 0, none⟩) B.length (B.length + 2)) ∧ Holds w' w.heap.size 5 (bytesRow (B ++ [71, 72])) ∧ Below w.heap.size w w' := by
  have HA := hide ha
  have HV := hide hv
  have HBW := hide hbw
  have hmk : ∀ w, (Instr.makeSlice 32 (.int .i64 ((B.length : Int) + 2)) (.int .i64 ((B.length : Int) + 2))).run Tryz.prog w = .ok (.slice (some ⟨w.heap.size, 0, none⟩) (B.length + 2) (B.length + 2)) (w.alloc (.cells (zeroBytes (B.length + 2)) 5)) := by
    intro w
    have := run_make_row' (P := Tryz.prog) 32 5 (.int .u8 0) 1 Tryz.underlying32 u8info rfl .i64 .i64 (B.length + 2) (by omega) (by omega) w
    rwa [show (((B.length + 2 : Nat)) : Int) = (B.length : Int) + 2 from by omega, made_bytes] at this
  have hsrc : 0 < (bytesRow B).length → (some ⟨w.heap.size, 0, none⟩ : Option Addr) = some ⟨w.heap.size, 0, none⟩ ∧ ∃ ad, a = some ad ∧ ∀ j v, (bytesRow B)[j]? = some v → (w.alloc (.cells (zeroBytes (B.length + 2)) 5)).cell? (ad.add j) = some v := by
    intro h0
    rw [bytesRow_length] at h0
    refine ⟨rfl, ⟨b, off, none⟩, ha h0, fun j v hj => ?_⟩
    have hl := (List.getElem?_eq_some_iff.1 hj).1
    rw [bytesRow_length] at hl
    rw [bytesRow_get _ _ hl] at hj
    rw [addr_add, Below.cell ((Below.refl _ w).alloc (Nat.le_refl _) _) (p := ⟨b, off + j, none⟩) (hbw h0), hv j hl]
    exact hj
  have HSRC := hide hsrc
  clear ha hv hbw hsrc
  go_enter Tryz.func14, Tryz.ntmps14
  go_wp2_with (
                refine wpList_copy_splice rfl _ _ 32 32 rfl 5 Tryz.underlying32 u8one (some ⟨w.heap.size, 0, none⟩) a (B.length + 2) (B.length + 2) B.length cap rfl rfl w.heap.size 0 (bytesRow (List.replicate (B.length + 2) 0)) 5 (Holds.new _ _ _) (bytesRow B) (by rw [bytesRow_length]; simp only [Nat.min_def]; split <;> omega) (unhide HSRC) (by rw [bytesRow_length, bytesRow_length]; simp) (bytesRow_one' _) w.heap.size w ((Below.refl _ _).alloc (Nat.le_refl _) _) (Nat.le_refl _) ?_
                intro w1 H1 hb1
                have hh : Holds w1 w.heap.size 5 (bytesRow (splice (List.replicate (B.length + 2) 0) 0 B)) := by
                  rw [← bytesRow_splice]; exact unhide H1
                have hl : (splice (List.replicate (B.length + 2) 0) 0 B).length = B.length + 2 := by rw [splice_length _ _ _ (by simp)]; simp
                have HRR := hide (roomy_row B)
                generalize splice (List.replicate (B.length + 2) 0) 0 B = R at hh hl HRR
                have c1 := hh.cell (bytesRow_get R B.length (by omega))
                have f1 := hh.frozen B.length
                have hh2 := hh.set B.length (.int .u8 71)
                have c2 : (w1.setCell ⟨w.heap.size, B.length, none⟩ (.int .u8 71)).cell? ⟨w.heap.size, B.length + 1, none⟩ = some (.int .u8 ((R.set B.length 71).getD (B.length + 1) 0)) := hh2.cell (by rw [bytesRow_set]; exact bytesRow_get _ _ (by rw [List.length_set]; omega))
                have f2 := hh2.frozen (B.length + 1)
                have hh3 := hh2.set (B.length + 1) (.int .u8 72)
                rw [bytesRow_set, bytesRow_set, unhide HRR] at hh3
                have hb3 := (hb1.setCell (p := ⟨w.heap.size, B.length, none⟩) (Nat.le_refl _) (.int .u8 71)).setCell (p := ⟨w.heap.size, B.length + 1, none⟩) (Nat.le_refl _) (.int .u8 72)
                have HH3 := hide hh3
                have HB3 := hide hb3
                generalize R.getD B.length 0 = x1 at c1
                generalize (R.set B.length 71).getD (B.length + 1) 0 = x2 at c2
                clear hh hh2 hh3 hb3 H1 hb1 hl HRR
                have k1 : (B.length : Int) < (B.length : Int) + 2 := by omega)
  go_ret
  exact ⟨rfl, unhide HH3, unhide HB3⟩

theorem still_step {w wr : World} {g : Nat} {t : TypeId} {L : List Int} {n : Nat} (h : Holds wr g t (bytesRow L)) (hL : L.length = n) (hr : w.grownBy wr (some g)) (k : Nat) (y : Int) :
    ∃ L : List Int, L.length = n ∧ Holds (wr.setCell ⟨g, k, none⟩ (.int .u8 y)) g t (bytesRow L) ∧ w.grownBy (wr.setCell ⟨g, k, none⟩ (.int .u8 y)) (some g) :=
  ⟨L.set k y, by rw [List.length_set]; exact hL, by rw [← bytesRow_set]; exact h.set k _, grown_set hr _ _⟩
set_option maxRecDepth 100000 in
set_option maxHeartbeats 1000000 in
theorem still_any (g : Nat) (a : Option Addr) (b off cap : Nat) (B : List Int) (w : World) (hg : Holds w g 5 (bytesRow (B ++ [71, 72]))) (ha : 0 < B.length → a = some ⟨b, off, none⟩) (hv : BView w b off B) (hn : B.length ≤ 1000000) :
    Calls Tryz.prog 15 #[.slice (some ⟨g, 0, none⟩) B.length (B.length + 2), .slice a B.length cap] w fun e w' => e = .returned (.bool true) ∧ w.grownBy w' (some g) := by
  have hA : BView w g 0 B := fun j hj => by
    rw [Nat.zero_add]
    refine hg.cell ?_
    rw [bytesRow_get _ _ (by simp; omega)]
    simp [List.getD, List.getElem?_append_left hj]
  have HS := hide (same_any (some ⟨g, 0, none⟩) a g 0 (B.length + 2) b off cap B w (fun _ => rfl) ha hA hv hn)
  have HG := hide hg
  clear hA hg ha hv
  go_enter Tryz.func15, Tryz.ntmps15
  go_wp2_with fail
  refine (unhide HS).mono ?_
  rintro e w1 ⟨rfl, hh1, hb1⟩
  have hg1 := (unhide HG).heap hh1
  have c1 : w1.cell? ⟨g, B.length, none⟩ = some (.int .u8 71) := hg1.cell (by simp [bytesRow])
  have c2 : w1.cell? ⟨g, B.length + 1, none⟩ = some (.int .u8 72) := hg1.cell (by simp [bytesRow])
  have hgr : w.grownBy w1 (some g) := ⟨hb1.os, hb1.tape, hb1.output, hb1.size, fun k hk _ => hb1.block k hk⟩
  have HG1 := hide hg1
  have HGR := hide hgr
  clear hh1 hb1 hg1 hgr HS
  have k1 : (B.length : Int) < (B.length : Int) + 2 := by omega
  go_wp2
  go_loopw [8] (fun i wr => ∃ k : Nat, k ≤ B.length + 2 ∧ i = .int .i64 k ∧ ∃ L : List Int, L.length = B.length + 2 ∧ Holds wr g 5 (bytesRow L) ∧ w.grownBy wr (some g)) (fun i _ => B.length + 2 - (intOf i).toNat)
  case atStart => exact ⟨0, by omega, rfl, B ++ [71, 72], by simp, unhide HG1, unhide HGR⟩
  case round =>
    obtain ⟨k, hk, rfl, L, hL, hh, hgr⟩ := hrel
    have HH := hide hh
    have HR := hide hgr
    clear c1 c2
    by_cases hlt : k < B.length + 2
    · have c1 := hh.cell (bytesRow_get L k (by omega))
      have f1 := hh.frozen k
      generalize L.getD k 0 = x at c1
      have hk0 : (0 : Int) ≤ (k : Int) := by omega
      have hk1 : (k : Int) < (B.length : Int) + 2 := by omega
      clear hh hgr
      go_wp2
      go_roundw
      case rel => exact ⟨k + 1, by omega, by go_num, still_step (unhide HH) hL (unhide HR) k _⟩
      case measure => simp [intOf]; omega
    · clear hh hgr
      have hk1 : ¬ (k : Int) < (B.length : Int) + 2 := by omega
      go_wp2
      go_ret
      exact ⟨rfl, unhide HR⟩
end Go.Proofs.YtkokiefclmbgaaaGreatDoor

/- Stack: the small callees: put, PutWords, word. -/
namespace Go.Proofs.YtkokiefclmbgaaaGreatDoor
open Go.RowKit
set_option linter.unusedVariables false

set_option maxHeartbeats 1000000 in
theorem put_any (b off len cap : Nat) (t : TypeId) (L : List Int) (p : Nat) (n : Int) (w : World) (hrow : Holds w b t (bytesRow L)) (hp : p + 8 ≤ len) (hL : off + len ≤ L.length) (hl : L.length ≤ 100000) (n0 : 0 ≤ n) :
    Calls Tryz.prog 81 #[.slice (some ⟨b, off, none⟩) len cap, .int .i64 p, .int .u64 n] w fun e w' => e = .returned (.tuple #[]) ∧ Holds w' b t (bytesRow (splice L (off + p) (bytes8 n))) ∧ w.grownBy w' (some b) := by
  have h8 := bytes8_length n
  have H8 := hide h8
  have HW := hide hrow
  clear h8 hrow
  go_enter Tryz.func81, Tryz.ntmps81
  go_wp2
  go_loopw [6] (fun i wr => ∃ k : Nat, k ≤ 8 ∧ i = .int .i64 k ∧ Holds wr b t (bytesRow (splice L (off + p) ((bytes8 n).take k))) ∧ w.grownBy wr (some b)) (fun i _ => 8 - (intOf i).toNat)
  case atStart => exact ⟨0, by omega, rfl, by rw [List.take_zero, splice_nil]; exact unhide HW, World.grownBy.refl _ _⟩
  case round =>
    obtain ⟨k, hk, rfl, hr, hg⟩ := hrel
    by_cases hlt : k < 8
    · have ht : off + p + ((bytes8 n).take k).length ≤ L.length := by rw [List.length_take, unhide H8]; omega
      have hc : ∀ j, j < L.length → wr.cell? ⟨b, j, none⟩ = some (.int .u8 ((splice L (off + p) ((bytes8 n).take k)).getD j 0)) := fun j hj => hr.bytes j (by rw [splice_length _ _ _ ht]; exact hj)
      have hf : ∀ j, wr.frozen? ⟨b, j, none⟩ = false := fun j => hr.frozen j
      have hin : off + (p + k) < L.length := by omega
      have R := hr.set (off + (p + k)) (.int .u8 (n / 2 ^ (8 * k) % 256))
      rw [bytesRow_set, ← Nat.add_assoc, splice_set L (off + p) (bytes8 n) k _ (bytes8_get n k hlt) (by rw [unhide H8]; omega), Nat.add_assoc] at R
      have G := grown_set hg (off + (p + k)) (.int .u8 (n / 2 ^ (8 * k) % 256))
      have HR := hide R
      have HGG := hide G
      clear hr hg ht R G
      go_wp2
      go_roundw
      case rel => exact ⟨k + 1, by omega, by go_num, unhide HR, unhide HGG⟩
      case measure => simp [intOf]; omega
    · have e : k = 8 := by omega
      subst e
      have HR := hide hr
      clear hr
      go_wp2
      go_end0
      refine ⟨rfl, ?_, hg⟩
      have := unhide HR
      rwa [List.take_of_length_le (by rw [unhide H8]; omega)] at this

set_option maxHeartbeats 1000000 in
theorem putWords_any (b off len cap : Nat) (t : TypeId) (L : List Int) (q wcap : Nat) (tq : TypeId) (ws : List Int) (w : World) (hrow : Holds w b t (bytesRow L)) (hws : Holds w q tq (wordsRow ws)) (hqb : q ≠ b)
    (hp : 8 * ws.length ≤ len) (hL : off + len ≤ L.length) (hl : L.length ≤ 100000) :
    Calls Tryz.prog 107 #[.slice (some ⟨b, off, none⟩) len cap, .slice (some ⟨q, 0, none⟩) ws.length wcap] w fun e w' => e = .returned (.tuple #[]) ∧ Holds w' b t (bytesRow (splice L off (words8 ws))) ∧ w.grownBy w' (some b) := by
  have h8 := words8_length ws
  have H8 := hide h8
  have HW := hide hrow
  have HQ := hide hws
  clear h8 hrow hws
  go_enter Tryz.func107, Tryz.ntmps107
  go_wp2
  go_loopw [9] (fun i wr => ∃ k : Nat, k ≤ ws.length ∧ i = .int .i64 k ∧ Holds wr b t (bytesRow (splice L off ((words8 ws).take (8 * k)))) ∧ w.grownBy wr (some b)) (fun i _ => ws.length - (intOf i).toNat)
  case atStart => exact ⟨0, by omega, rfl, by rw [Nat.mul_zero, List.take_zero, splice_nil]; exact unhide HW, World.grownBy.refl _ _⟩
  case round =>
    obtain ⟨k, hk, rfl, hr, hg⟩ := hrel
    by_cases hlt : k < ws.length
    · obtain ⟨x, hx⟩ : ∃ x, x = ws.getD k 0 := ⟨_, rfl⟩
      have hq : wr.cell? ⟨q, k, none⟩ = some (.int .u64 x) := by rw [hx]; exact ((unhide HQ).grown hg (by simp; omega)).cell (wordsRow_get ws k hlt)
      have HX := hide hx
      clear hx
      have HR := hide hr
      have HGG := hide hg
      clear hr hg
      go_wp2
      go_loopw [14] (fun i wr => ∃ m : Nat, m ≤ 8 ∧ i = .int .i64 m ∧ Holds wr b t (bytesRow (splice L off ((words8 ws).take (8 * k + m)))) ∧ w.grownBy wr (some b)) (fun i _ => 8 - (intOf i).toNat)
      case atStart => exact ⟨0, by omega, rfl, unhide HR, unhide HGG⟩
      case round =>
        obtain ⟨m, hm, rfl, hr, hg⟩ := hrel
        by_cases hl8 : m < 8
        · have ht : off + ((words8 ws).take (8 * k + m)).length ≤ L.length := by rw [List.length_take, unhide H8]; omega
          have hc : ∀ j, j < L.length → wr.cell? ⟨b, j, none⟩ = some (.int .u8 ((splice L off ((words8 ws).take (8 * k + m))).getD j 0)) := fun j hj => hr.bytes j (by rw [splice_length _ _ _ ht]; exact hj)
          have hf : ∀ j, wr.frozen? ⟨b, j, none⟩ = false := fun j => hr.frozen j
          have hin : off + (k * 8 + m) < L.length := by omega
          have R := hr.set (off + (k * 8 + m)) (.int .u8 (x / 2 ^ (8 * m) % 256))
          rw [bytesRow_set, show k * 8 + m = 8 * k + m from by omega, splice_set L off (words8 ws) (8 * k + m) _ (by rw [unhide HX]; exact words8_get ws k m hl8 hlt) (by rw [unhide H8]; omega), show 8 * k + m = k * 8 + m from by omega] at R
          have G := grown_set hg (off + (k * 8 + m)) (.int .u8 (x / 2 ^ (8 * m) % 256))
          have HR2 := hide R
          have HG2 := hide G
          clear hr hg ht R G
          go_wp2
          go_roundw
          case rel => exact ⟨m + 1, by omega, by go_num, by have := unhide HR2; rwa [show k * 8 + m + 1 = 8 * k + (m + 1) from by omega] at this, unhide HG2⟩
          case measure => simp [intOf]; omega
        · have e : m = 8 := by omega
          subst e
          have HR2 := hide hr
          have HG2 := hide hg
          clear hr hg
          go_wp2
          go_roundw
          case rel => exact ⟨k + 1, by omega, by go_num, by have := unhide HR2; rwa [show 8 * k + 8 = 8 * (k + 1) from by omega] at this, unhide HG2⟩
          case measure => simp [intOf]; omega
    · have e : k = ws.length := by omega
      subst e
      have HR := hide hr
      clear hr
      go_wp2
      go_end0
      refine ⟨rfl, ?_, hg⟩
      have := unhide HR
      rwa [List.take_of_length_le (by rw [unhide H8]; omega)] at this

theorem word_step (x : Int) (i : Nat) : x / 2 ^ (8 * (i + 1)) * 256 + x / 2 ^ (8 * i) % 256 = x / 2 ^ (8 * i) := by
  have e : (2 : Int) ^ (8 * (i + 1)) = 2 ^ (8 * i) * 256 := by rw [show 8 * (i + 1) = 8 * i + 8 from by omega, Int.pow_add]; rfl
  have hp : (0 : Int) ≤ 2 ^ (8 * i) := Int.pow_nonneg (by decide)
  rw [e, ← Int.ediv_ediv_of_nonneg hp]
  omega
theorem word_wrap (y z : Int) (h : y * 256 + z % 256 = z) (h0 : 0 ≤ y) (h1 : 0 ≤ z) (h2 : z < 18446744073709551616) : IntKind.u64.wrap (IntKind.u64.wrap (y * 256) + z % 256) = z := by
  rw [IntKind.wrap_u64, IntKind.wrap_u64]; omega
theorem word_bd (x : Int) (i : Nat) (h0 : 0 ≤ x) (h1 : x < 18446744073709551616) : 0 ≤ x / 2 ^ (8 * i) ∧ x / 2 ^ (8 * i) < 18446744073709551616 := by
  have hp : (0 : Int) < 2 ^ (8 * i) := Int.pow_pos (by decide)
  refine ⟨Int.ediv_nonneg h0 (by omega), ?_⟩
  have : x / 2 ^ (8 * i) ≤ x := Int.ediv_le_self _ h0
  omega

end Go.Proofs.YtkokiefclmbgaaaGreatDoor

/- Stack: are these arguments? -/
namespace Go.Proofs.YtkokiefclmbgaaaGreatDoor
open Go.RowKit
set_option linter.unusedVariables false
set_option linter.unusedSimpArgs false

theorem index_nonneg (l : List UInt8) (c : UInt8) : 0 ≤ Lib.indexByte l c ↔ c ∈ l := by
  induction l with
  | nil => simp [Lib.indexByte]
  | cons b l ih =>
    unfold Lib.indexByte
    by_cases h : b = c
    · simp [h]
    · have h' : c ≠ b := fun e => h e.symm
      simp only [List.mem_cons, h', false_or, ← ih]
      have hne : (b == c) = false := by simpa using h
      simp only [hne]
      simp only [Bool.false_eq_true, if_false]
      by_cases g : Lib.indexByte l c = -1
      · simp [g]
      · have g' : (Lib.indexByte l c == -1) = false := by simpa using g
        simp only [g', Bool.false_eq_true, if_false]
        constructor <;> intro <;> omega

set_option maxHeartbeats 1000000 in
theorem index_any (s : ByteArray) (w : World) : Calls Tryz.prog 124 #[.string s, .int .u8 0] w fun e w' => e = .returned (.int .i64 (Lib.indexByte s.data.toList 0)) ∧ w' = w := by
  have h76 := @run_callFunc_extern Tryz.prog 173 _ Extern.BytealgIndexByte.indexByte Tryz.func173 (by kernel_rfl) (by kernel_rfl) (by kernel_rfl) (by kernel_rfl)
  have hr : ∀ w, (Extern.BytealgIndexByte.indexByte #[.string s, .int .u8 0]).run Tryz.prog w = .ok (.int .i64 (Lib.indexByte s.data.toList 0)) w := fun w => Lib.run_indexByteString s 0 w
  generalize Lib.indexByte s.data.toList 0 = r at *
  go_enter Tryz.func124, Tryz.ntmps124
  go_wp2
  go_ret
  exact ⟨rfl, rfl⟩

def okArg (s : ByteArray) : Bool := decide (s.size ≤ 30) && !(s.data.toList.contains 0)
def okArgs (ss : List ByteArray) : Bool := decide (ss.length ≤ 8) && ss.all okArg
theorem okArg_long {s : ByteArray} (h : 30 < s.size) : okArg s = false := by simp [okArg]; omega
theorem okArg_zero {s : ByteArray} (h : 0 ≤ Lib.indexByte s.data.toList 0) : okArg s = false := by
  have := (index_nonneg _ _).1 h
  simp [okArg, List.contains_iff_mem, this]
theorem okArg_yes {s : ByteArray} (h : s.size ≤ 30) (h0 : Lib.indexByte s.data.toList 0 < 0) : okArg s = true := by
  have : ¬ (0 : UInt8) ∈ s.data.toList := fun m => by have := (index_nonneg _ _).2 m; omega
  simp [okArg, h, this]
theorem all_false {ss : List ByteArray} {k : Nat} (hk : k < ss.length) (h : okArg (ss.getD k ByteArray.empty) = false) : ss.all okArg = false := by
  rw [List.all_eq_false]
  refine ⟨ss.getD k ByteArray.empty, ?_, by rw [h]; decide⟩
  simp [List.getD, List.getElem?_eq_getElem hk]
theorem all_take {ss : List ByteArray} {k : Nat} (hk : k < ss.length) (h : okArg (ss.getD k ByteArray.empty) = true) (ht : (ss.take k).all okArg = true) : (ss.take (k + 1)).all okArg = true := by
  rw [List.take_succ_eq_append_getElem hk, List.all_append, ht]
  simp [List.getD, List.getElem?_eq_getElem hk] at h
  simp [h]

set_option maxHeartbeats 1000000 in
theorem areArgs_any (a : Option Addr) (b off cap : Nat) (ss : List ByteArray) (w : World) (hn : ss.length ≤ 1000) (ha : 0 < ss.length → a = some ⟨b, off, none⟩)
    (hcell : ∀ i, i < ss.length → w.cell? ⟨b, off + i, none⟩ = some (.string (ss.getD i ByteArray.empty))) :
    Calls Tryz.prog 106 #[.slice a ss.length cap] w fun e w' => e = .returned (.bool (okArgs ss)) ∧ w' = w := by
  by_cases h8 : 8 < ss.length
  · have hr : okArgs ss = false := by simp [okArgs]; omega
    rw [hr]
    clear hr hcell ha
    go_enter Tryz.func106, Tryz.ntmps106
    go_wp2
    go_ret
    exact ⟨rfl, rfl⟩
  · have hr : okArgs ss = ss.all okArg := by simp [okArgs]; intro; omega
    rw [hr]
    have HC := hide hcell
    have HA := hide ha
    clear hr hcell ha
    go_enter Tryz.func106, Tryz.ntmps106
    go_wp2
    go_loop [10] (fun i => ∃ k : Nat, k ≤ ss.length ∧ i = .int .i64 k ∧ (ss.take k).all okArg = true) (fun i => ss.length - (intOf i).toNat)
    case atStart => exact ⟨0, by omega, rfl, rfl⟩
    case round =>
      obtain ⟨k, hk, rfl, hall⟩ := hrel
      have HALL := hide hall
      clear hall
      by_cases hlt : k < ss.length
      · have hca := (unhide HC) k hlt
        have e := (unhide HA) (by omega)
        subst e
        obtain ⟨s, hs⟩ : ∃ s, s = ss.getD k ByteArray.empty := ⟨_, rfl⟩
        rw [← hs] at hca
        have HS := hide hs
        clear hs
        by_cases hl : s.size ≤ 30
        · obtain ⟨r, hr⟩ : ∃ r, r = Lib.indexByte s.data.toList 0 := ⟨_, rfl⟩
          have HR := hide hr
          clear hr
          by_cases h0 : 0 ≤ r
          · have F := hide (all_false hlt (by rw [← unhide HS]; exact okArg_zero (by rw [← unhide HR]; exact h0)))
            go_wp2_with (go_at_call 124; refine (index_any _ _).mono ?_; rw [← unhide HR]; rintro e w' ⟨rfl, rfl⟩)
            go_ret
            exact ⟨by rw [unhide F]; rfl, rfl⟩
          · have F := hide (all_take hlt (by rw [← unhide HS]; exact okArg_yes hl (by rw [← unhide HR]; omega)) (unhide HALL))
            go_wp2_with (go_at_call 124; refine (index_any _ _).mono ?_; rw [← unhide HR]; rintro e w' ⟨rfl, rfl⟩)
            go_round
            case rel => exact ⟨k + 1, by omega, by go_num, unhide F⟩
            case measure => simp [intOf]; omega
        · have F := hide (all_false hlt (by rw [← unhide HS]; exact okArg_long (by omega)))
          go_wp2_with fail
          go_ret
          exact ⟨by rw [unhide F]; rfl, rfl⟩
      · have F := hide (show ss.all okArg = true by have := unhide HALL; rwa [List.take_of_length_le (by omega)] at this)
        go_wp2
        go_ret
        exact ⟨by rw [unhide F]; rfl, rfl⟩
end Go.Proofs.YtkokiefclmbgaaaGreatDoor

/- Stack: what the pages hold, as plain lists. -/
namespace Go.Proofs.YtkokiefclmbgaaaGreatDoor
open Go.RowKit

def strInts (s : ByteArray) : List Int := s.data.toList.map fun c => (c.toNat : Int)
theorem strInts_length (s : ByteArray) : (strInts s).length = s.size := by simp [strInts]
/-- How many bytes the arguments take, each with a byte 0 behind it. -/
def total : List ByteArray → Nat
  | [] => 0
  | s :: r => s.size + 1 + total r
def zeroRoom : List Int := List.replicate 512 0
theorem zeroRoom_length : zeroRoom.length = 512 := List.length_replicate
/-- The room with the arguments at its end. -/
def room : List ByteArray → List Int
  | [] => zeroRoom
  | s :: r => splice (room r) (512 - total (s :: r)) (strInts s)
/-- Their addresses. -/
def addrs : List ByteArray → List Int
  | [] => []
  | s :: r => ((65024 + (512 - total (s :: r)) : Nat) : Int) :: addrs r
theorem addrs_length : ∀ ss, (addrs ss).length = ss.length
  | [] => rfl
  | s :: r => by simp [addrs, addrs_length r]
theorem room_length : ∀ ss, total ss ≤ 512 → (room ss).length = 512
  | [], _ => zeroRoom_length
  | s :: r, h => by
    unfold room
    have h' : total r ≤ 512 := by unfold total at h; omega
    rw [splice_length _ _ _ (by rw [room_length r h', strInts_length]; unfold total at h ⊢; omega), room_length r h']
theorem total_le {ss : List ByteArray} (h : ss.all okArg = true) : total ss ≤ 31 * ss.length := by
  induction ss with
  | nil => simp [total]
  | cons s r ih =>
    simp only [List.all_cons, Bool.and_eq_true] at h
    have h1 := h.1
    simp [okArg] at h1
    have := ih h.2
    simp only [total, List.length_cons]
    omega
theorem all_drop {ss : List ByteArray} (h : ss.all okArg = true) (k : Nat) : (ss.drop k).all okArg = true := by
  rw [List.all_eq_true] at h ⊢
  exact fun x hx => h x (List.mem_of_mem_drop hx)
theorem ok_all {ss : List ByteArray} (h : okArgs ss = true) : ss.length ≤ 8 ∧ ss.all okArg = true := by
  simpa [okArgs] using h
theorem total_drop_le {ss : List ByteArray} (h : okArgs ss = true) (k : Nat) : total (ss.drop k) ≤ 248 := by
  have h1 := ok_all h
  have := total_le (all_drop h1.2 k)
  simp at this
  omega
theorem drop_cons {ss : List ByteArray} {k : Nat} (h : k < ss.length) : ss.drop k = ss.getD k ByteArray.empty :: ss.drop (k + 1) := by
  rw [List.drop_eq_getElem_cons h]
  simp [List.getD, List.getElem?_eq_getElem h]
theorem size_le {ss : List ByteArray} (h : okArgs ss = true) {k : Nat} (hk : k < ss.length) : (ss.getD k ByteArray.empty).size ≤ 30 := by
  have h1 := (List.all_eq_true.1 (ok_all h).2) (ss.getD k ByteArray.empty) (by simp [List.getD, List.getElem?_eq_getElem hk])
  simp [okArg] at h1
  exact h1.1
/-- Where the header goes. -/
def spOff (ss : List ByteArray) : Nat := (512 - total ss - 8 * (ss.length + 2)) / 16 * 16
def heads (ss : List ByteArray) : List Int := ((ss.length : Nat) : Int) :: (addrs ss ++ [0])
theorem heads_length (ss : List ByteArray) : (heads ss).length = ss.length + 2 := by simp [heads, addrs_length]
/-- All that the two pages hold. -/
def stackRoom (ss : List ByteArray) : List Int := splice (room ss) (spOff ss) (words8 (heads ss))
/-- The words as they are while the arguments from k on are laid. -/
def wordsTo (ss : List ByteArray) (k : Nat) : List Int := ((ss.length : Nat) : Int) :: (List.replicate k 0 ++ addrs (ss.drop k) ++ [0])
theorem wordsTo_length (ss : List ByteArray) (k : Nat) (h : k ≤ ss.length) : (wordsTo ss k).length = ss.length + 2 := by
  simp [wordsTo, addrs_length]; omega
theorem wordsTo_zero (ss : List ByteArray) : wordsTo ss 0 = heads ss := by simp [wordsTo, heads]
theorem wordsTo_step (ss : List ByteArray) (k : Nat) (h : k < ss.length) :
    (wordsTo ss (k + 1)).set (k + 1) ((65024 + (512 - total (ss.drop k)) : Nat) : Int) = wordsTo ss k := by
  unfold wordsTo
  rw [List.set_cons_succ]
  congr 1
  rw [drop_cons h, addrs]
  rw [List.replicate_succ', List.append_assoc, List.append_assoc, List.append_assoc]
  rw [List.set_append_right _ _ (by simp)]
  simp
end Go.Proofs.YtkokiefclmbgaaaGreatDoor

/- Stack: arguments that are none: both programs say so. -/
namespace Go.Proofs.YtkokiefclmbgaaaGreatDoor
open Go.RowKit
set_option linter.unusedVariables false
set_option linter.unusedSimpArgs false

set_option maxHeartbeats 1000000 in
theorem stack_exe_bad (a : Option Addr) (b off cap : Nat) (ss : List ByteArray) (w : World) (hn : ss.length ≤ 1000) (ha : 0 < ss.length → a = some ⟨b, off, none⟩)
    (hcell : ∀ i, i < ss.length → w.cell? ⟨b, off + i, none⟩ = some (.string (ss.getD i ByteArray.empty))) (hok : okArgs ss = false) :
    Calls Tryz.prog 69 #[.slice a ss.length cap] w fun e w' => e = .returned (.tuple #[.slice none 0 0, .int .u64 0, .iface 45 (.int .i64 6)]) ∧ w' = w := by
  have HC := hide hcell
  have HA := hide ha
  have HO := hide hok
  clear hcell ha hok
  go_enter Tryz.func69, Tryz.ntmps69
  go_wp2_with fail
  refine (areArgs_any a b off cap ss _ hn (unhide HA) (unhide HC)).mono ?_
  rw [unhide HO]
  rintro e w' ⟨rfl, rfl⟩
  go_wp2
  go_ret3
  exact ⟨rfl, rfl⟩

/-- A byte of a string. -/
theorem byte_zero {s : ByteArray} {j : Nat} (hj : j < s.size) (h : (s[j].toNat : Int) = 0) : okArg s = false := by
  have : s[j] = 0 := by
    apply UInt8.toNat_inj.1
    have : s[j].toNat = 0 := by omega
    simpa using this
  have hm : (0 : UInt8) ∈ s.data.toList := by
    rw [← this]
    exact List.getElem_mem (l := s.data.toList) (by simpa using hj)
  simp [okArg, hm]
theorem byte_ok {s : ByteArray} (h : okArg s = true) {j : Nat} (hj : j < s.size) : (s[j].toNat : Int) ≠ 0 := fun e => by
  have := byte_zero hj e
  rw [h] at this
  cases this
theorem okArg_bytes {s : ByteArray} (h : s.size ≤ 30) (h0 : ∀ j, (hj : j < s.size) → (s[j].toNat : Int) ≠ 0) : okArg s = true := by
  have : ¬ (0 : UInt8) ∈ s.data.toList := fun m => by
    obtain ⟨j, hj, e⟩ := List.getElem_of_mem m
    have hj' : j < s.size := by simpa using hj
    have : s[j] = 0 := e
    exact h0 j hj' (by rw [this]; rfl)
  simp [okArg, h, this]

set_option maxHeartbeats 1000000 in
theorem stack_ref_bad (a : Option Addr) (b off cap : Nat) (ss : List ByteArray) (w : World) (hn : ss.length ≤ 1000) (ha : 0 < ss.length → a = some ⟨b, off, none⟩)
    (hcell : ∀ i, i < ss.length → w.cell? ⟨b, off + i, none⟩ = some (.string (ss.getD i ByteArray.empty))) (hs : ∀ s ∈ ss, s.size ≤ maxLen) (hok : okArgs ss = false) :
    Calls Tryz.prog 50 #[.slice a ss.length cap] w fun e w' => e = .returned (.tuple #[.slice none 0 0, .int .u64 0, .int .i64 6]) ∧ w' = w := by
  have HC := hide hcell
  have HA := hide ha
  have HO := hide hok
  by_cases h8 : 8 < ss.length
  · clear hcell ha hok
    go_enter Tryz.func50, Tryz.ntmps50
    go_wp2
    go_ret3
    exact ⟨rfl, rfl⟩
  · clear hcell ha hok
    go_enter Tryz.func50, Tryz.ntmps50
    go_wp2
    go_loop [5] (fun i => ∃ k : Nat, k ≤ ss.length ∧ i = .int .i64 k ∧ (ss.take k).all okArg = true) (fun i => ss.length - (intOf i).toNat)
    case atStart => exact ⟨0, by omega, rfl, rfl⟩
    case round =>
      obtain ⟨k, hk, rfl, hall⟩ := hrel
      have HALL := hide hall
      clear hall
      by_cases hlt : k < ss.length
      · have hca := (unhide HC) k hlt
        have e := (unhide HA) (by omega)
        subst e
        have hms := hs (ss.getD k ByteArray.empty) (by simp [List.getD, List.getElem?_eq_getElem hlt])
        obtain ⟨s, hs'⟩ : ∃ s, s = ss.getD k ByteArray.empty := ⟨_, rfl⟩
        rw [← hs'] at hca hms
        have HS := hide hs'
        unfold maxLen at hms
        clear hs'
        by_cases hl : s.size ≤ 30
        · go_wp2
          go_loop [6] (fun i => ∃ j : Nat, j ≤ s.size ∧ i = .int .i64 j ∧ ∀ m, (hm : m < s.size) → m < j → (s[m].toNat : Int) ≠ 0) (fun i => s.size - (intOf i).toNat)
          case atStart => exact ⟨0, by omega, rfl, fun m hm h => by omega⟩
          case round =>
            obtain ⟨j, hj, rfl, hnz⟩ := hrel
            have HNZ := hide hnz
            clear hnz
            by_cases hjl : j < s.size
            · by_cases hz : (s[j].toNat : Int) = 0
              · have hb : ((s[j].toNat : Int) == 0) = true := by simpa using hz
                have HZ := hide hz
                clear hz
                go_wp2
                go_ret3
                exact ⟨rfl, rfl⟩
              · have hb : ((s[j].toNat : Int) == 0) = false := by simpa using hz
                have HZ := hide hz
                clear hz
                go_wp2
                go_round
                case rel =>
                  refine ⟨j + 1, by omega, by go_num, fun m hm h => ?_⟩
                  by_cases e : m = j
                  · subst e; exact unhide HZ
                  · exact unhide HNZ m hm (by omega)
                case measure => simp [intOf]; omega
            · have F := hide (all_take hlt (by rw [← unhide HS]; exact okArg_bytes hl (fun m hm => unhide HNZ m hm (by omega))) (unhide HALL))
              go_wp2
              go_round
              case rel => exact ⟨k + 1, by omega, by go_num, unhide F⟩
              case measure => simp [intOf]; omega
        · go_wp2
          go_ret3
          exact ⟨rfl, rfl⟩
      · exfalso
        have : ss.all okArg = true := by have := unhide HALL; rwa [List.take_of_length_le (by omega)] at this
        have h2 := unhide HO
        simp [okArgs, this] at h2
        omega
end Go.Proofs.YtkokiefclmbgaaaGreatDoor

/- The shelf's layings at this seat, in plain words. Written by layker.sh: the numbers are one seat's own. -/
namespace Go.Proofs.YtkokiefclmbgaaaGreatDoor
open Go.Shelf
def keysL_ren : Go.Shelf.Ren := ⟨fun | 7 => 83 | 10 => 111 | n => n, fun | 23 => 119 | 26 => 3 | 3 => 130 | 28 => 223 | 0 => 0 | 27 => 222 | 33 => 257 | 4 => 4 | n => n, fun | n => n⟩
theorem keysL : Go.Proofs.SlLaysZI.n7 Tryz.prog keysL_ren := {
  mixed := by kernel_rfl
  f7 := ⟨Tryz.f83.name, by decide, Tryz.func83.trans (congrArg some (by kernel_rfl))⟩
  f10 := ⟨Tryz.f111.name, by decide, Tryz.func111.trans (congrArg some (by kernel_rfl))⟩
  t0 := Tryz.underlying0
  a0 := Tryz.isAgg0
  z0 := Tryz.sizeOf0
  v0 := Tryz.zeroValue0
  t4 := Tryz.underlying4
  a4 := Tryz.isAgg4
  z4 := Tryz.sizeOf4
  v4 := Tryz.zeroValue4
  t23 := Tryz.underlying119
  a23 := Tryz.isAgg119
  z23 := Tryz.sizeOf119
  v23 := Tryz.zeroValue119
  t26 := Tryz.underlying3
  a26 := Tryz.isAgg3
  z26 := Tryz.sizeOf3
  v26 := Tryz.zeroValue3
  t27 := Tryz.underlying222
  a27 := Tryz.isAgg222
  z27 := Tryz.sizeOf222
  v27 := Tryz.zeroValue222
  t28 := Tryz.underlying223
  a28 := Tryz.isAgg223
  z28 := Tryz.sizeOf223
  v28 := Tryz.zeroValue223
  t33 := Tryz.underlying257
  a33 := Tryz.isAgg257
  z33 := Tryz.sizeOf257
  v33 := Tryz.zeroValue257 }
def sortedL_ren : Go.Shelf.Ren := ⟨fun | 6 => 82 | 8 => 109 | 9 => 110 | 11 => 125 | 13 => 114 | 12 => 126 | 23 => 136 | 24 => 137 | 14 => 153 | 15 => 154 | 16 => 155 | 17 => 156 | 18 => 157 | 19 => 158 | 20 => 159 | 21 => 160 | 22 => 161 | 25 => 174 | 26 => 163 | 27 => 164 | 28 => 175 | 29 => 176 | 30 => 177 | 31 => 184 | n => n, fun | 26 => 3 | 28 => 223 | 24 => 219 | 0 => 0 | 3 => 3 | 37 => 263 | 48 => 288 | 50 => 74 | 4 => 4 | 40 => 282 | 39 => 281 | 45 => 210 | 5 => 5 | 9 => 9 | 51 => 304 | 55 => 308 | 57 => 316 | 58 => 103 | 33 => 257 | n => n, fun | n => n⟩
theorem sortedL : Go.Proofs.SlLaysZI.n6 Tryz.prog sortedL_ren := {
  mixed := by kernel_rfl
  f6 := ⟨Tryz.f82.name, by decide, Tryz.func82.trans (congrArg some (by kernel_rfl))⟩
  f8 := ⟨Tryz.f109.name, by decide, Tryz.func109.trans (congrArg some (by kernel_rfl))⟩
  f11 := ⟨Tryz.f125.name, by decide, Tryz.func125.trans (congrArg some (by kernel_rfl))⟩
  t0 := Tryz.underlying0
  a0 := Tryz.isAgg0
  z0 := Tryz.sizeOf0
  v0 := Tryz.zeroValue0
  t24 := Tryz.underlying219
  a24 := Tryz.isAgg219
  z24 := Tryz.sizeOf219
  v24 := Tryz.zeroValue219
  t26 := Tryz.underlying3
  a26 := Tryz.isAgg3
  z26 := Tryz.sizeOf3
  v26 := Tryz.zeroValue3
  t28 := Tryz.underlying223
  a28 := Tryz.isAgg223
  z28 := Tryz.sizeOf223
  v28 := Tryz.zeroValue223
  i26 := by kernel_rfl }
def sortIntL_ren : Go.Shelf.Ren := ⟨fun | 5 => 110 | 8 => 114 | 7 => 126 | 19 => 136 | 20 => 137 | 10 => 153 | 11 => 154 | 12 => 155 | 13 => 156 | 14 => 157 | 15 => 158 | 16 => 159 | 17 => 160 | 18 => 161 | 30 => 174 | 31 => 163 | 32 => 164 | 33 => 175 | 34 => 176 | 35 => 177 | 40 => 184 | n => n, fun | 23 => 219 | 25 => 3 | 3 => 3 | 32 => 263 | 22 => 219 | 0 => 0 | 44 => 288 | 46 => 74 | 4 => 4 | 36 => 282 | 35 => 281 | 41 => 210 | 5 => 5 | 9 => 9 | 53 => 304 | 57 => 308 | 63 => 316 | 64 => 103 | n => n, fun | n => n⟩
theorem sortIntL : Go.Proofs.SlLaysM.n5 Tryz.prog sortIntL_ren := {
  mixed := by kernel_rfl
  f5 := ⟨Tryz.f110.name, by decide, Tryz.func110.trans (congrArg some (by kernel_rfl))⟩
  f7 := ⟨Tryz.f126.name, by decide, Tryz.func126.trans (congrArg some (by kernel_rfl))⟩
  f8 := Tryz.func114.trans (congrArg some (by kernel_rfl))
  f10 := ⟨Tryz.f153.name, by decide, Tryz.func153.trans (congrArg some (by kernel_rfl))⟩
  f11 := ⟨Tryz.f154.name, by decide, Tryz.func154.trans (congrArg some (by kernel_rfl))⟩
  f12 := ⟨Tryz.f155.name, by decide, Tryz.func155.trans (congrArg some (by kernel_rfl))⟩
  f13 := ⟨Tryz.f156.name, by decide, Tryz.func156.trans (congrArg some (by kernel_rfl))⟩
  f14 := ⟨Tryz.f157.name, by decide, Tryz.func157.trans (congrArg some (by kernel_rfl))⟩
  f15 := ⟨Tryz.f158.name, by decide, Tryz.func158.trans (congrArg some (by kernel_rfl))⟩
  f16 := ⟨Tryz.f159.name, by decide, Tryz.func159.trans (congrArg some (by kernel_rfl))⟩
  f17 := ⟨Tryz.f160.name, by decide, Tryz.func160.trans (congrArg some (by kernel_rfl))⟩
  f18 := ⟨Tryz.f161.name, by decide, Tryz.func161.trans (congrArg some (by kernel_rfl))⟩
  f19 := Tryz.func136.trans (congrArg some (by kernel_rfl))
  f20 := Tryz.func137.trans (congrArg some (by kernel_rfl))
  f30 := ⟨Tryz.f174.name, by decide, Tryz.func174.trans (congrArg some (by kernel_rfl))⟩
  f31 := Tryz.func163.trans (congrArg some (by kernel_rfl))
  f32 := Tryz.func164.trans (congrArg some (by kernel_rfl))
  f33 := ⟨Tryz.f175.name, by decide, Tryz.func175.trans (congrArg some (by kernel_rfl))⟩
  f34 := ⟨Tryz.f176.name, by decide, Tryz.func176.trans (congrArg some (by kernel_rfl))⟩
  f35 := ⟨Tryz.f177.name, by decide, Tryz.func177.trans (congrArg some (by kernel_rfl))⟩
  f40 := ⟨Tryz.f184.name, by decide, Tryz.func184.trans (congrArg some (by kernel_rfl))⟩
  t0 := Tryz.underlying0
  a0 := Tryz.isAgg0
  z0 := Tryz.sizeOf0
  v0 := Tryz.zeroValue0
  t3 := Tryz.underlying3
  a3 := Tryz.isAgg3
  z3 := Tryz.sizeOf3
  v3 := Tryz.zeroValue3
  t4 := Tryz.underlying4
  a4 := Tryz.isAgg4
  z4 := Tryz.sizeOf4
  v4 := Tryz.zeroValue4
  t5 := Tryz.underlying5
  a5 := Tryz.isAgg5
  z5 := Tryz.sizeOf5
  v5 := Tryz.zeroValue5
  t9 := Tryz.underlying9
  a9 := Tryz.isAgg9
  z9 := Tryz.sizeOf9
  v9 := Tryz.zeroValue9
  t22 := Tryz.underlying219
  a22 := Tryz.isAgg219
  z22 := Tryz.sizeOf219
  v22 := Tryz.zeroValue219
  t23 := Tryz.underlying219
  a23 := Tryz.isAgg219
  z23 := Tryz.sizeOf219
  v23 := Tryz.zeroValue219
  t25 := Tryz.underlying3
  a25 := Tryz.isAgg3
  z25 := Tryz.sizeOf3
  v25 := Tryz.zeroValue3
  t32 := Tryz.underlying263
  a32 := Tryz.isAgg263
  z32 := Tryz.sizeOf263
  v32 := Tryz.zeroValue263
  t35 := Tryz.underlying281
  a35 := Tryz.isAgg281
  z35 := Tryz.sizeOf281
  v35 := Tryz.zeroValue281
  t36 := Tryz.underlying282
  a36 := Tryz.isAgg282
  z36 := Tryz.sizeOf282
  v36 := Tryz.zeroValue282
  t41 := Tryz.underlying210
  a41 := Tryz.isAgg210
  z41 := Tryz.sizeOf210
  v41 := Tryz.zeroValue210
  t44 := Tryz.underlying288
  a44 := Tryz.isAgg288
  z44 := Tryz.sizeOf288
  v44 := Tryz.zeroValue288
  t46 := Tryz.underlying74
  a46 := Tryz.isAgg74
  z46 := Tryz.sizeOf74
  v46 := Tryz.zeroValue74
  t53 := Tryz.underlying304
  a53 := Tryz.isAgg304
  z53 := Tryz.sizeOf304
  v53 := Tryz.zeroValue304
  t57 := Tryz.underlying308
  a57 := Tryz.isAgg308
  z57 := Tryz.sizeOf308
  v57 := Tryz.zeroValue308
  t63 := Tryz.underlying316
  a63 := Tryz.isAgg316
  z63 := Tryz.sizeOf316
  v63 := Tryz.zeroValue316
  t64 := Tryz.underlying103
  a64 := Tryz.isAgg103
  z64 := Tryz.sizeOf103
  v64 := Tryz.zeroValue103 }
def sortFileL_ren : Go.Shelf.Ren := ⟨fun | 6 => 88 | 15 => 114 | 14 => 113 | 28 => 136 | 29 => 137 | 20 => 128 | 21 => 129 | 22 => 130 | 23 => 131 | 24 => 132 | 25 => 133 | 26 => 134 | 27 => 135 | 46 => 162 | 47 => 163 | 48 => 164 | 49 => 165 | 50 => 166 | 57 => 178 | n => n, fun | 22 => 24 | 24 => 44 | 25 => 234 | 3 => 3 | 39 => 263 | 0 => 0 | 53 => 288 | 55 => 74 | 4 => 4 | 46 => 282 | 45 => 281 | 50 => 210 | 5 => 5 | 9 => 9 | 66 => 304 | 70 => 308 | 76 => 316 | 77 => 103 | n => n, fun | n => n⟩
theorem sortFileL : Go.Proofs.SlLaysF0.n6 Tryz.prog sortFileL_ren := {
  mixed := by kernel_rfl
  f6 := ⟨Tryz.f88.name, by decide, Tryz.func88.trans (congrArg some (by kernel_rfl))⟩
  f14 := ⟨Tryz.f113.name, by decide, Tryz.func113.trans (congrArg some (by kernel_rfl))⟩
  f15 := Tryz.func114.trans (congrArg some (by kernel_rfl))
  f20 := ⟨Tryz.f128.name, by decide, Tryz.func128.trans (congrArg some (by kernel_rfl))⟩
  f21 := ⟨Tryz.f129.name, by decide, Tryz.func129.trans (congrArg some (by kernel_rfl))⟩
  f22 := ⟨Tryz.f130.name, by decide, Tryz.func130.trans (congrArg some (by kernel_rfl))⟩
  f23 := ⟨Tryz.f131.name, by decide, Tryz.func131.trans (congrArg some (by kernel_rfl))⟩
  f24 := ⟨Tryz.f132.name, by decide, Tryz.func132.trans (congrArg some (by kernel_rfl))⟩
  f25 := ⟨Tryz.f133.name, by decide, Tryz.func133.trans (congrArg some (by kernel_rfl))⟩
  f26 := ⟨Tryz.f134.name, by decide, Tryz.func134.trans (congrArg some (by kernel_rfl))⟩
  f27 := ⟨Tryz.f135.name, by decide, Tryz.func135.trans (congrArg some (by kernel_rfl))⟩
  f28 := Tryz.func136.trans (congrArg some (by kernel_rfl))
  f29 := Tryz.func137.trans (congrArg some (by kernel_rfl))
  f46 := ⟨Tryz.f162.name, by decide, Tryz.func162.trans (congrArg some (by kernel_rfl))⟩
  f47 := Tryz.func163.trans (congrArg some (by kernel_rfl))
  f48 := Tryz.func164.trans (congrArg some (by kernel_rfl))
  f49 := ⟨Tryz.f165.name, by decide, Tryz.func165.trans (congrArg some (by kernel_rfl))⟩
  f50 := ⟨Tryz.f166.name, by decide, Tryz.func166.trans (congrArg some (by kernel_rfl))⟩
  f57 := ⟨Tryz.f178.name, by decide, Tryz.func178.trans (congrArg some (by kernel_rfl))⟩
  t0 := Tryz.underlying0
  a0 := Tryz.isAgg0
  z0 := Tryz.sizeOf0
  v0 := Tryz.zeroValue0
  t3 := Tryz.underlying3
  a3 := Tryz.isAgg3
  z3 := Tryz.sizeOf3
  v3 := Tryz.zeroValue3
  t4 := Tryz.underlying4
  a4 := Tryz.isAgg4
  z4 := Tryz.sizeOf4
  v4 := Tryz.zeroValue4
  t5 := Tryz.underlying5
  a5 := Tryz.isAgg5
  z5 := Tryz.sizeOf5
  v5 := Tryz.zeroValue5
  t9 := Tryz.underlying9
  a9 := Tryz.isAgg9
  z9 := Tryz.sizeOf9
  v9 := Tryz.zeroValue9
  t22 := Tryz.underlying24
  a22 := Tryz.isAgg24
  z22 := Tryz.sizeOf24
  v22 := Tryz.zeroValue24
  t25 := Tryz.underlying234
  a25 := Tryz.isAgg234
  z25 := Tryz.sizeOf234
  v25 := Tryz.zeroValue234
  t39 := Tryz.underlying263
  a39 := Tryz.isAgg263
  z39 := Tryz.sizeOf263
  v39 := Tryz.zeroValue263
  t45 := Tryz.underlying281
  a45 := Tryz.isAgg281
  z45 := Tryz.sizeOf281
  v45 := Tryz.zeroValue281
  t46 := Tryz.underlying282
  a46 := Tryz.isAgg282
  z46 := Tryz.sizeOf282
  v46 := Tryz.zeroValue282
  t50 := Tryz.underlying210
  a50 := Tryz.isAgg210
  z50 := Tryz.sizeOf210
  v50 := Tryz.zeroValue210
  t53 := Tryz.underlying288
  a53 := Tryz.isAgg288
  z53 := Tryz.sizeOf288
  v53 := Tryz.zeroValue288
  t55 := Tryz.underlying74
  a55 := Tryz.isAgg74
  z55 := Tryz.sizeOf74
  v55 := Tryz.zeroValue74
  t66 := Tryz.underlying304
  a66 := Tryz.isAgg304
  z66 := Tryz.sizeOf304
  v66 := Tryz.zeroValue304
  t70 := Tryz.underlying308
  a70 := Tryz.isAgg308
  z70 := Tryz.sizeOf308
  v70 := Tryz.zeroValue308
  t76 := Tryz.underlying316
  a76 := Tryz.isAgg316
  z76 := Tryz.sizeOf316
  v76 := Tryz.zeroValue316
  t77 := Tryz.underlying103
  a77 := Tryz.isAgg103
  z77 := Tryz.sizeOf103
  v77 := Tryz.zeroValue103 }
def cloneBL_ren : Go.Shelf.Ren := ⟨fun | 41 => 91 | n => n, fun | 22 => 32 | 23 => 5 | 4 => 4 | n => n, fun | n => n⟩
theorem cloneBL : Go.Proofs.SlLaysE0.n41 Tryz.prog cloneBL_ren := {
  mixed := by kernel_rfl
  f41 := ⟨Tryz.f91.name, by decide, Tryz.func91.trans (congrArg some (by kernel_rfl))⟩
  t4 := Tryz.underlying4
  a4 := Tryz.isAgg4
  z4 := Tryz.sizeOf4
  v4 := Tryz.zeroValue4
  t22 := Tryz.underlying32
  a22 := Tryz.isAgg32
  z22 := Tryz.sizeOf32
  v22 := Tryz.zeroValue32 }
def compareSL_ren : Go.Shelf.Ren := ⟨fun | 106 => 90 | 213 => 115 | 265 => 138 | n => n, fun | 9 => 9 | 3 => 3 | n => n, fun | n => n⟩
theorem compareSL : Go.Proofs.Lays.n106 Tryz.prog compareSL_ren := {
  mixed := by kernel_rfl
  f106 := Tryz.func90.trans (congrArg some (by kernel_rfl))
  f213 := Tryz.func115.trans (congrArg some (by kernel_rfl))
  f265 := Tryz.func138.trans (congrArg some (by kernel_rfl))
  t3 := Tryz.underlying3
  a3 := Tryz.isAgg3
  z3 := Tryz.sizeOf3
  v3 := Tryz.zeroValue3
  t9 := Tryz.underlying9
  a9 := Tryz.isAgg9
  z9 := Tryz.sizeOf9
  v9 := Tryz.zeroValue9 }
end Go.Proofs.YtkokiefclmbgaaaGreatDoor
