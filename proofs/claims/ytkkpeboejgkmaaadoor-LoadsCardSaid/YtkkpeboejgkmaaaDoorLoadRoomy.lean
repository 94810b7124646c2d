/- The law's own helpers: same, roomy, still. -/
import Derived.Test.YtkkpeboejgkmaaaDoorLoadBase
import Derived.Test.YtkkpeboejgkmaaaDoorCopyStr
import Derived.Deep.OwnRows
import Derived.Deep.QuietTactic
import Derived.BigQuiet
namespace Go.Proofs.YtkkpeboejgkmaaaDoor
open Go.RowKit
set_option linter.unusedVariables false
set_option linter.unusedSimpArgs false

set_option maxRecDepth 100000 in
set_option maxHeartbeats 1000000 in
theorem same_any (aa ab : Option Addr) (ga oa ca gb ob cb : Nat) (B : List Int) (w : World) (ha : 0 < B.length → aa = some ⟨ga, oa, none⟩) (hb : 0 < B.length → ab = some ⟨gb, ob, none⟩)
    (hA : BView w ga oa B) (hB : BView w gb ob B) (hn : B.length ≤ 1000000) :
    Calls Tryd.prog 24 #[.slice aa B.length ca, .slice ab B.length cb] w fun e w' => e = .returned (.bool true) ∧ w'.heap = w.heap ∧ Below w.heap.size w w' := by
  have HA := hide hA
  have HB := hide hB
  have HA1 := hide ha
  have HB1 := hide hb
  clear hA hB ha hb
  go_enter Tryd.func24, Tryd.ntmps24
  go_wp2
  go_loopw [5] (fun i wr => ∃ k : Nat, k ≤ B.length ∧ i = .int .i64 k ∧ wr.heap = w.heap ∧ Below w.heap.size w wr) (fun i _ => B.length - (intOf i).toNat)
  case atStart => exact ⟨0, by omega, rfl, rfl, Below.refl _ _⟩
  case round =>
    obtain ⟨k, hk, rfl, hh, hbl⟩ := hrel
    have HH := hide hh
    have HBL := hide hbl
    clear hh hbl
    by_cases hlt : k < B.length
    · have e1 := (unhide HA1) (by omega)
      have e2 := (unhide HB1) (by omega)
      subst e1 e2
      have hcells : ∀ a, wr.cell? a = w.cell? a := fun a => by unfold World.cell?; rw [unhide HH]
      have c1 : wr.cell? ⟨ga, oa + k, none⟩ = some (.int .u8 (B.getD k 0)) := by rw [hcells]; exact (unhide HA) k hlt
      have c2 : wr.cell? ⟨gb, ob + k, none⟩ = some (.int .u8 (B.getD k 0)) := by rw [hcells]; exact (unhide HB) k hlt
      generalize B.getD k 0 = x at c1 c2
      have hk0 : (0 : Int) ≤ (k : Int) := by omega
      have hk1 : (k : Int) < (B.length : Int) := by omega
      clear hcells
      go_wp2
      go_quiet (fail)
      go_wp2
      go_roundw
      case rel => exact ⟨k + 1, by omega, by go_num, unhide HH, ⟨(unhide HBL).os, (unhide HBL).tape, (unhide HBL).output, (unhide HBL).size, (unhide HBL).block⟩⟩
      case measure => simp [intOf]; omega
    · go_wp2
      go_ret
      exact ⟨rfl, unhide HH, unhide HBL⟩

theorem u8info : (Tryd.prog.info? 5).map (fun i => (i.zero, i.size, i.bytes)) = some (some (.int .u8 0), 1, 1) := by kernel_rfl
theorem u8one : (Tryd.prog.info? 5).map (·.size) = some 1 := by kernel_rfl
def zeroBytes (n : Nat) : Array Value := (bytesRow (List.replicate n 0)).toArray
theorem made_bytes (n : Nat) : madeCells #[.int .u8 0] n = zeroBytes n := by
  unfold madeCells zeroBytes bytesRow
  apply Array.ext
  · simp
  · intro i h1 h2
    simp [Nat.mod_one]
theorem roomy_row (B : List Int) : ((splice (List.replicate (B.length + 2) 0) 0 B).set B.length 71).set (B.length + 1) 72 = B ++ [71, 72] := by
  have e : splice (List.replicate (B.length + 2) 0) 0 B = B ++ [0, 0] := by
    unfold splice
    rw [List.drop_replicate, show B.length + 2 - (0 + B.length) = 2 from by omega]
    rfl
  rw [e, List.set_append_right _ _ (Nat.le_refl _), List.set_append_right _ _ (by omega)]
  simp
theorem bytesRow_one' (L : List Int) : ∀ v ∈ bytesRow L, v.oneCell' = true := by
  intro v hv
  obtain ⟨x, _, rfl⟩ := List.mem_map.1 hv
  rfl
theorem addr_add (b o j : Nat) : (⟨b, o, none⟩ : Addr).add j = ⟨b, o + j, none⟩ := by unfold Addr.add; split <;> simp_all

set_option maxRecDepth 100000 in
set_option maxHeartbeats 1000000 in
theorem roomy_any (a : Option Addr) (b off cap : Nat) (B : List Int) (w : World) (ha : 0 < B.length → a = some ⟨b, off, none⟩) (hv : BView w b off B) (hbw : 0 < B.length → b < w.heap.size) (hn : B.length ≤ 1000000) :
    Calls Tryd.prog 11 #[.slice a B.length cap] w fun e w' => e = .returned (.slice (some ⟨w.heap.size, 0, none⟩) B.length (B.length + 2)) ∧ Holds w' w.heap.size 5 (bytesRow (B ++ [71, 72])) ∧ Below w.heap.size w w' := by
  have HA := hide ha
  have HV := hide hv
  have HBW := hide hbw
  have hmk : ∀ w, (Instr.makeSlice 40 (.int .i64 ((B.length : Int) + 2)) (.int .i64 ((B.length : Int) + 2))).run Tryd.prog w = .ok (.slice (some ⟨w.heap.size, 0, none⟩) (B.length + 2) (B.length + 2)) (w.alloc (.cells (zeroBytes (B.length + 2)) 5)) := by
    intro w
    have := run_make_row' (P := Tryd.prog) 40 5 (.int .u8 0) 1 Tryd.underlying40 u8info rfl .i64 .i64 (B.length + 2) (by omega) (by omega) w
    rwa [show (((B.length + 2 : Nat)) : Int) = (B.length : Int) + 2 from by omega, made_bytes] at this
  have hsrc : 0 < (bytesRow B).length → (some ⟨w.heap.size, 0, none⟩ : Option Addr) = some ⟨w.heap.size, 0, none⟩ ∧ ∃ ad, a = some ad ∧ ∀ j v, (bytesRow B)[j]? = some v → (w.alloc (.cells (zeroBytes (B.length + 2)) 5)).cell? (ad.add j) = some v := by
    intro h0
    rw [bytesRow_length] at h0
    refine ⟨rfl, ⟨b, off, none⟩, ha h0, fun j v hj => ?_⟩
    have hl := (List.getElem?_eq_some_iff.1 hj).1
    rw [bytesRow_length] at hl
    rw [bytesRow_get _ _ hl] at hj
    rw [addr_add, Below.cell ((Below.refl _ w).alloc (Nat.le_refl _) _) (p := ⟨b, off + j, none⟩) (hbw h0), hv j hl]
    exact hj
  have HSRC := hide hsrc
  clear ha hv hbw hsrc
  go_enter Tryd.func11, Tryd.ntmps11
  go_wp2_with (
                refine wpList_copy_splice rfl _ _ 40 40 rfl 5 Tryd.underlying40 u8one (some ⟨w.heap.size, 0, none⟩) a (B.length + 2) (B.length + 2) B.length cap rfl rfl w.heap.size 0 (bytesRow (List.replicate (B.length + 2) 0)) 5 (Holds.new _ _ _) (bytesRow B) (by rw [bytesRow_length]; simp only [Nat.min_def]; split <;> omega) (unhide HSRC) (by rw [bytesRow_length, bytesRow_length]; simp) (bytesRow_one' _) w.heap.size w ((Below.refl _ _).alloc (Nat.le_refl _) _) (Nat.le_refl _) ?_
                intro w1 H1 hb1
                have hh : Holds w1 w.heap.size 5 (bytesRow (splice (List.replicate (B.length + 2) 0) 0 B)) := by
                  rw [← bytesRow_splice]; exact unhide H1
                have hl : (splice (List.replicate (B.length + 2) 0) 0 B).length = B.length + 2 := by rw [splice_length _ _ _ (by simp)]; simp
                have HRR := hide (roomy_row B)
                generalize splice (List.replicate (B.length + 2) 0) 0 B = R at hh hl HRR
                have c1 := hh.cell (bytesRow_get R B.length (by omega))
                have f1 := hh.frozen B.length
                have hh2 := hh.set B.length (.int .u8 71)
                have c2 : (w1.setCell ⟨w.heap.size, B.length, none⟩ (.int .u8 71)).cell? ⟨w.heap.size, B.length + 1, none⟩ = some (.int .u8 ((R.set B.length 71).getD (B.length + 1) 0)) := hh2.cell (by rw [bytesRow_set]; exact bytesRow_get _ _ (by rw [List.length_set]; omega))
                have f2 := hh2.frozen (B.length + 1)
                have hh3 := hh2.set (B.length + 1) (.int .u8 72)
                rw [bytesRow_set, bytesRow_set, unhide HRR] at hh3
                have hb3 := (hb1.setCell (p := ⟨w.heap.size, B.length, none⟩) (Nat.le_refl _) (.int .u8 71)).setCell (p := ⟨w.heap.size, B.length + 1, none⟩) (Nat.le_refl _) (.int .u8 72)
                have HH3 := hide hh3
                have HB3 := hide hb3
                generalize R.getD B.length 0 = x1 at c1
                generalize (R.set B.length 71).getD (B.length + 1) 0 = x2 at c2
                clear hh hh2 hh3 hb3 H1 hb1 hl HRR
                have k1 : (B.length : Int) < (B.length : Int) + 2 := by omega)
  go_ret
  exact ⟨rfl, unhide HH3, unhide HB3⟩

theorem still_step {w wr : World} {g : Nat} {t : TypeId} {L : List Int} {n : Nat} (h : Holds wr g t (bytesRow L)) (hL : L.length = n) (hr : w.grownBy wr (some g)) (k : Nat) (y : Int) :
    ∃ L : List Int, L.length = n ∧ Holds (wr.setCell ⟨g, k, none⟩ (.int .u8 y)) g t (bytesRow L) ∧ w.grownBy (wr.setCell ⟨g, k, none⟩ (.int .u8 y)) (some g) :=
  ⟨L.set k y, by rw [List.length_set]; exact hL, by rw [← bytesRow_set]; exact h.set k _, grown_set hr _ _⟩
set_option maxRecDepth 100000 in
set_option maxHeartbeats 1000000 in
theorem still_any (g : Nat) (a : Option Addr) (b off cap : Nat) (B : List Int) (w : World) (hg : Holds w g 5 (bytesRow (B ++ [71, 72]))) (ha : 0 < B.length → a = some ⟨b, off, none⟩) (hv : BView w b off B) (hn : B.length ≤ 1000000) :
    Calls Tryd.prog 13 #[.slice (some ⟨g, 0, none⟩) B.length (B.length + 2), .slice a B.length cap] w fun e w' => e = .returned (.bool true) ∧ w.grownBy w' (some g) := by
  have hA : BView w g 0 B := fun j hj => by
    rw [Nat.zero_add]
    refine hg.cell ?_
    rw [bytesRow_get _ _ (by simp; omega)]
    simp [List.getD, List.getElem?_append_left hj]
  have HS := hide (same_any (some ⟨g, 0, none⟩) a g 0 (B.length + 2) b off cap B w (fun _ => rfl) ha hA hv hn)
  have HG := hide hg
  clear hA hg ha hv
  go_enter Tryd.func13, Tryd.ntmps13
  go_wp2_with fail
  refine (unhide HS).mono ?_
  rintro e w1 ⟨rfl, hh1, hb1⟩
  have hg1 := (unhide HG).heap hh1
  have c1 : w1.cell? ⟨g, B.length, none⟩ = some (.int .u8 71) := hg1.cell (by simp [bytesRow])
  have c2 : w1.cell? ⟨g, B.length + 1, none⟩ = some (.int .u8 72) := hg1.cell (by simp [bytesRow])
  have hgr : w.grownBy w1 (some g) := ⟨hb1.os, hb1.tape, hb1.output, hb1.size, fun k hk _ => hb1.block k hk⟩
  have HG1 := hide hg1
  have HGR := hide hgr
  clear hh1 hb1 hg1 hgr HS
  have k1 : (B.length : Int) < (B.length : Int) + 2 := by omega
  go_wp2
  go_loopw [8] (fun i wr => ∃ k : Nat, k ≤ B.length + 2 ∧ i = .int .i64 k ∧ ∃ L : List Int, L.length = B.length + 2 ∧ Holds wr g 5 (bytesRow L) ∧ w.grownBy wr (some g)) (fun i _ => B.length + 2 - (intOf i).toNat)
  case atStart => exact ⟨0, by omega, rfl, B ++ [71, 72], by simp, unhide HG1, unhide HGR⟩
  case round =>
    obtain ⟨k, hk, rfl, L, hL, hh, hgr⟩ := hrel
    have HH := hide hh
    have HR := hide hgr
    clear c1 c2
    by_cases hlt : k < B.length + 2
    · have c1 := hh.cell (bytesRow_get L k (by omega))
      have f1 := hh.frozen k
      generalize L.getD k 0 = x at c1
      have hk0 : (0 : Int) ≤ (k : Int) := by omega
      have hk1 : (k : Int) < (B.length : Int) + 2 := by omega
      clear hh hgr
      go_wp2
      go_roundw
      case rel => exact ⟨k + 1, by omega, by go_num, still_step (unhide HH) hL (unhide HR) k _⟩
      case measure => simp [intOf]; omega
    · clear hh hgr
      have hk1 : ¬ (k : Int) < (B.length : Int) + 2 := by omega
      go_wp2
      go_ret
      exact ⟨rfl, unhide HR⟩
end Go.Proofs.YtkkpeboejgkmaaaDoor
