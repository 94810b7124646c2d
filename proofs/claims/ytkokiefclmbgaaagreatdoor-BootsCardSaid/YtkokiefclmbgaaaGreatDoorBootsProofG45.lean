import Derived.Test.YtkokiefclmbgaaaGreatDoorBootsProofG14
import Derived.Deep.RegionHeld3
/- exe.Stack. -/
namespace Go.Proofs.YtkokiefclmbgaaaGreatDoor
open Go.RowKit
set_option linter.unusedVariables false
set_option linter.unusedSimpArgs false

set_option maxRecDepth 100000 in
set_option maxHeartbeats 2000000 in
theorem stack_exe (a : Option Addr) (b off cap : Nat) (ss : List ByteArray) (w : World) (hn : ss.length ≤ 1000) (ha : 0 < ss.length → a = some ⟨b, off, none⟩) (hbw : b < w.heap.size)
    (hcell : ∀ i, i < ss.length → w.cell? ⟨b, off + i, none⟩ = some (.string (ss.getD i ByteArray.empty))) (hok : okArgs ss = true) :
    Calls Tryz.prog 69 #[.slice a ss.length cap] w fun e w' => ∃ g, e = .returned (.tuple #[.slice (some ⟨g, 0, none⟩) 2 2, .int .u64 (65024 + (spOff ss : Int)), .nilIface]) ∧ Holds w' g 87 (pagesTo (stackRoom ss) 2) ∧ w.heap.size ≤ g ∧ Below w.heap.size w w' := by
  have HC := hide hcell
  have HA := hide ha
  have HO := hide hok
  have hn8 := (ok_all hok).1
  have hmk : ∀ w, (Instr.makeSlice 252 (.int .i64 ((ss.length : Int) + 2)) (.int .i64 ((ss.length : Int) + 2))).run Tryz.prog w = .ok (.slice (some ⟨w.heap.size, 0, none⟩) (ss.length + 2) (ss.length + 2)) (w.alloc (.cells (zeroWords (ss.length + 2)) 74)) := by
    intro w
    have := run_make_row' (P := Tryz.prog) 252 74 (.int .u64 0) 8 Tryz.underlying252 u64info rfl .i64 .i64 (ss.length + 2) (by omega) (by omega) w
    rwa [show (((ss.length + 2 : Nat)) : Int) = (ss.length : Int) + 2 from by omega, made_zero] at this
  have hz0 := zeroWords_get (ss.length + 2) 0 (by omega)
  clear hcell ha hok
  go_enter Tryz.func69, Tryz.ntmps69
  go_wp2_with fail
  refine (areArgs_any a b off cap ss _ hn (unhide HA) (unhide HC)).mono ?_
  rw [unhide HO]
  rintro e wx ⟨rfl, hwx⟩
  subst hwx
  go_wp2_with (refine wpList_alloc_big rfl 218 rfl zeros512 alloc512 ?_)
  go_loopw [7, 8] (fun at_ i wr => ∃ k : Nat, k ≤ ss.length ∧ i = .int .i64 ((k : Int) - 1) ∧ at_ = .int .i64 ((512 - total (ss.drop k) : Nat) : Int) ∧ Holds wr wx.heap.size 218 (bytesRow (room (ss.drop k))) ∧ Holds wr (wx.heap.size + 1) 74 (wordsRow (wordsTo ss k)) ∧ Below wx.heap.size wx wr ∧ wx.heap.size + 2 ≤ wr.heap.size)
    (fun _ i _ => (intOf i + 1).toNat)
  case atStart =>
    refine ⟨ss.length, Nat.le_refl _, rfl, ?_, ?_, ?_, ?_, ?_⟩
    · simp [total]
    · rw [List.drop_length, room]
      exact (Holds.new _ _ _).alloc _
    · rw [zeroWords_head]
      have := Holds.new (wx.alloc (.cells zeros512 218)) 74 (wordsRow (((ss.length : Nat) : Int) :: List.replicate (ss.length + 1) 0))
      simpa [wordsTo, addrs, List.replicate_succ'] using this
    · exact ((Below.refl _ _).alloc (Nat.le_refl _) _).alloc (by simp) _
    · simp
  case round =>
    obtain ⟨k, hk, rfl, rfl, hroom, hwords, hbel, hsz⟩ := hrel
    have HRo := hide hroom
    have HWo := hide hwords
    have HBe := hide hbel
    clear hroom hwords hbel
    rcases k with _ | k
    · have ht : total ss ≤ 248 := by have := total_drop_le (unhide HO) 0; simpa using this
      obtain ⟨T, hT⟩ : ∃ T, T = 512 - total (ss.drop 0) := ⟨_, rfl⟩
      rw [← hT]
      rw [List.drop_zero] at hT
      obtain ⟨V, hV⟩ : ∃ V, V = T - 8 * (ss.length + 2) := ⟨_, rfl⟩
      obtain ⟨X, hX⟩ : ∃ X, X = spOff ss := ⟨_, rfl⟩
      have hX2 : X = V - V % 16 := by rw [hX, spOff, hV, hT]; omega
      have q1 : (T : Int) - 8 * ((ss.length : Int) + 2) = (V : Int) := by omega
      have q2 : (V : Int) - (V : Int) % 16 = (X : Int) := by omega
      have hXV : X + 8 * (ss.length + 2) ≤ 512 := by omega
      have hX5 : ¬ 512 = X := by omega
      have hXle : (X : Int) ≤ 512 := by omega
      have hX0 : (0 : Int) ≤ (X : Int) := by omega
      have hV0 : (0 : Int) ≤ (V : Int) := by omega
      have hV5 : (V : Int) ≤ 512 := by omega
      have hT5 : (T : Int) ≤ 512 := by omega
      have HX := hide hX
      have hmp := makePages
      have hrl : (room ss).length = 512 := room_length _ (by omega)
      have P := putWords_any wx.heap.size X (512 - X) (512 - X) 218 (room ss) (wx.heap.size + 1) (ss.length + 2) 74 (heads ss) wr (by simpa using unhide HRo) (by rw [← wordsTo_zero]; exact unhide HWo) (by omega) (by rw [heads_length]; omega) (by omega) (by omega)
      rw [heads_length] at P
      have HP := hide P
      clear hT hV hX hX2 P hrl
      go_wp2_with fail
      refine (unhide HP).mono ?_
      rintro e w3 ⟨rfl, hrm, hg3⟩
      have hst : Holds w3 wx.heap.size 218 (bytesRow (stackRoom ss)) := by rw [stackRoom, ← unhide HX]; exact hrm
      have hb3 := hide ((unhide HBe).trans (below_grown hg3 (Nat.le_refl _) (by omega)))
      have hs3 : wx.heap.size + 2 ≤ w3.heap.size := by have := hg3.size; omega
      have HST := hide hst
      clear hst hrm hg3 HP HRo HWo HBe
      have hRl := stackRoom_length (unhide HO)
      have HRl := hide hRl
      have hpl := pagesTo_length (stackRoom ss) hRl
      have HPL := hide hpl
      obtain ⟨R, hR⟩ : ∃ R, R = stackRoom ss := ⟨_, rfl⟩
      rw [← hR] at hRl
      have HRR := hide hR
      clear hR hRl hpl
      go_wp2_with fail
      go_loopw [69] (fun i wr => ∃ k : Nat, k ≤ 2 ∧ i = .int .i64 k ∧ Holds wr w3.heap.size 87 (pagesTo (stackRoom ss) k) ∧ Holds wr wx.heap.size 218 (bytesRow (stackRoom ss)) ∧ Below wx.heap.size wx wr) (fun i _ => 2 - (intOf i).toNat)
      case atStart => exact ⟨0, by omega, rfl, Holds.new _ _ _, (unhide HST).alloc _, (unhide hb3).alloc (by omega) _⟩
      case round =>
        obtain ⟨k, hk, rfl, hpg, hrm, hbl⟩ := hrel
        have hlt := hpg.lt
        have cs : ∀ j, j < 516 → wr.cell? ⟨w3.heap.size, j, none⟩ = some ((pagesTo (stackRoom ss) k).getD j .nilIface) := fun j hj => hpg.cell (by rw [List.getD, List.getElem?_eq_getElem (by rw [unhide HPL]; exact hj)]; rfl)
        have cf : ∀ j, wr.frozen? ⟨w3.heap.size, j, none⟩ = false := fun j => hpg.frozen j
        have HPg := hide hpg
        have HRm := hide hrm
        have HBl := hide hbl
        clear hpg hrm hbl
        have hk3 : k = 0 ∨ k = 1 ∨ k = 2 := by omega
        rcases hk3 with rfl | rfl | rfl
        · have c0 := cs 0 (by omega)
          have c1 := cs 1 (by omega)
          have f0 := cf 0
          have f1 := cf 1
          generalize (pagesTo (stackRoom ss) 0).getD 0 .nilIface = v0 at c0
          generalize (pagesTo (stackRoom ss) 0).getD 1 .nilIface = v1 at c1
          clear cs cf
          rw [show ((0 : Nat) : Int) = (0 : Int) from rfl]
          have hp1 := ((unhide HPg).set 0 (.int .i64 254)).set 1 (.int .u8 6)
          have hp2 := ((unhide HRm).set_other (c := w3.heap.size) (by omega) 0 (.int .i64 254)).set_other (c := w3.heap.size) (by omega) 1 (.int .u8 6)
          have hb4 := ((unhide HBl).setCell (p := ⟨w3.heap.size, 0, none⟩) (by show wx.heap.size ≤ w3.heap.size; omega) (.int .i64 254)).setCell (p := ⟨w3.heap.size, 1, none⟩) (by show wx.heap.size ≤ w3.heap.size; omega) (.int .u8 6)
          have wz0 : IntKind.i64.wrap 0 = 0 := by decide
          have wz1 : IntKind.i64.wrap 256 = 256 := by decide
          have HP1 := hide hp1
          have HP2 := hide hp2
          have HB4 := hide hb4
          clear hp1 hp2 hb4
          go_wp2
          go_region_held3 (fun _ => True) (trivial)
            ((refine step_copy_row (by rfl) _ _ 32 32 (by rfl) 5 Tryz.underlying32 u8size w3.heap.size 2 256 256 wx.heap.size 0 512 512 (by rfl) (by rfl) (((pagesTo (stackRoom ss) 0).set 0 (.int .i64 254)).set 1 (.int .u8 6)) 87 (by exact (unhide HP1).heap rfl) (bytesRow ((stackRoom ss).take 256)) (by rw [bytesRow_length]; simp [unhide HRl]) (by exact src0 HP2) (bytesRow_one _) (by rw [bytesRow_length, List.length_set, List.length_set, unhide HPL]; simp [unhide HRl]) ?_; intro w5 HR5 hg5))
          have r1 := unhide HR5
          rw [pages_step0 _ (unhide HRl)] at r1
          have hg6 : ((wr.setCell ⟨w3.heap.size, 0, none⟩ (.int .i64 254)).setCell ⟨w3.heap.size, 1, none⟩ (.int .u8 6)).grownBy w5 (some w3.heap.size) := ⟨hg5.os, hg5.tape, hg5.output, hg5.size, hg5.block⟩
          have r2 := (unhide HP2).grown hg6 (by simp; omega)
          have r3 := (unhide HB4).trans (below_grown hg6 (by omega) (by simp [World.setCell]; omega))
          have H1 := hide r1
          have H2 := hide r2
          have H3 := hide r3
          clear r1 r2 r3 hg5 hg6
          go_wp2
          go_roundw
          case rel => exact ⟨1, by omega, rfl, unhide H1, unhide H2, unhide H3⟩
          case measure => simp [intOf]
        · have c0 := cs 258 (by omega)
          have c1 := cs 259 (by omega)
          have f0 := cf 258
          have f1 := cf 259
          generalize (pagesTo (stackRoom ss) 1).getD 258 .nilIface = v0 at c0
          generalize (pagesTo (stackRoom ss) 1).getD 259 .nilIface = v1 at c1
          clear cs cf
          rw [show ((1 : Nat) : Int) = (1 : Int) from rfl]
          have hp1 := ((unhide HPg).set 258 (.int .i64 255)).set 259 (.int .u8 6)
          have hp2 := ((unhide HRm).set_other (c := w3.heap.size) (by omega) 258 (.int .i64 255)).set_other (c := w3.heap.size) (by omega) 259 (.int .u8 6)
          have hb4 := ((unhide HBl).setCell (p := ⟨w3.heap.size, 258, none⟩) (by show wx.heap.size ≤ w3.heap.size; omega) (.int .i64 255)).setCell (p := ⟨w3.heap.size, 259, none⟩) (by show wx.heap.size ≤ w3.heap.size; omega) (.int .u8 6)
          have wz0 : IntKind.i64.wrap 0 = 0 := by decide
          have wz1 : IntKind.i64.wrap 256 = 256 := by decide
          have HP1 := hide hp1
          have HP2 := hide hp2
          have HB4 := hide hb4
          clear hp1 hp2 hb4
          go_wp2
          go_region_held3 (fun _ => True) (trivial)
            ((refine step_copy_row (by rfl) _ _ 32 32 (by rfl) 5 Tryz.underlying32 u8size w3.heap.size 260 256 256 wx.heap.size 256 256 256 (by rfl) (by rfl) (((pagesTo (stackRoom ss) 1).set 258 (.int .i64 255)).set 259 (.int .u8 6)) 87 (by exact (unhide HP1).heap rfl) (bytesRow ((stackRoom ss).drop 256)) (by rw [bytesRow_length]; simp [unhide HRl]) (by exact src1 HP2) (bytesRow_one _) (by rw [bytesRow_length, List.length_set, List.length_set, unhide HPL]; simp [unhide HRl]) ?_; intro w5 HR5 hg5))
          have r1 := unhide HR5
          rw [pages_step1 _ (unhide HRl)] at r1
          have hg6 : ((wr.setCell ⟨w3.heap.size, 258, none⟩ (.int .i64 255)).setCell ⟨w3.heap.size, 259, none⟩ (.int .u8 6)).grownBy w5 (some w3.heap.size) := ⟨hg5.os, hg5.tape, hg5.output, hg5.size, hg5.block⟩
          have r2 := (unhide HP2).grown hg6 (by simp; omega)
          have r3 := (unhide HB4).trans (below_grown hg6 (by omega) (by simp [World.setCell]; omega))
          have H1 := hide r1
          have H2 := hide r2
          have H3 := hide r3
          clear r1 r2 r3 hg5 hg6
          go_wp2
          go_roundw
          case rel => exact ⟨2, by omega, rfl, unhide H1, unhide H2, unhide H3⟩
          case measure => simp [intOf]
        · rw [show ((2 : Nat) : Int) = (2 : Int) from rfl]
          clear cs cf
          go_wp2
          go_ret3
          exact ⟨w3.heap.size, by rw [← unhide HX]; rfl, unhide HPg, by omega, unhide HBl⟩
    · have ht : total (ss.drop (k + 1)) ≤ 248 := total_drop_le (unhide HO) (k + 1)
      have ht' : total (ss.drop k) ≤ 248 := total_drop_le (unhide HO) k
      have hts := total_step (ss := ss) (k := k) (by omega)
      have hsz30 := size_le (unhide HO) (k := k) (by omega)
      have e := (unhide HA) (by omega)
      subst e
      have hca : wr.cell? ⟨b, off + k, none⟩ = some (.string (ss.getD k ByteArray.empty)) := by
        rw [(unhide HBe).cell (p := ⟨b, off + k, none⟩) hbw]; exact (unhide HC) k (by omega)
      obtain ⟨s, hs⟩ : ∃ s, s = ss.getD k ByteArray.empty := ⟨_, rfl⟩
      rw [← hs] at hca hts hsz30
      have HS := hide hs
      have HT := hide hts
      obtain ⟨U, hU⟩ : ∃ U, U = 512 - total (ss.drop k) := ⟨_, rfl⟩
      have hT : ((512 - total (ss.drop (k + 1)) : Nat) : Int) = (U : Int) + ((s.size : Int) + 1) := by omega
      rw [hT]
      have HU := hide hU
      have hb1 : b < wr.drew.heap.size := by show b < wr.heap.size; omega
      have hb2 : b ≠ wx.heap.size := by omega
      have hUn : U < 512 := by omega
      have hUne : ¬ 512 = U := by omega
      have hUs : U + s.size + 1 ≤ 512 := by omega
      have hUl : 264 ≤ U := by omega
      have hk8 : k < 8 := by omega
      have e1 : (((k + 1 : Nat) : Int) - 1) = (k : Int) := by omega
      rw [e1]
      have hkn : (k : Int) < (ss.length : Int) := by omega
      have hk0 : (0 : Int) ≤ (k : Int) := by omega
      have hU0 : (0 : Int) ≤ (U : Int) := by omega
      have hU5 : (U : Int) ≤ 512 := by omega
      have hrl : (bytesRow (room (ss.drop (k + 1)))).length = 512 := by rw [bytesRow_length, room_length _ (by omega)]
      have HRL := hide hrl
      clear hs hts hT hU e1 ht ht' hrl
      go_wp2
      go_region_held3 (fun w' => w'.cell? ⟨b, off + k, none⟩ = some (.string s)) (first | go_keep | (rw [grown_cell hg2 hb1 hb2]; assumption))
        ((refine step_copy_str (by rfl) _ _ 32 9 (by rfl) 5 Tryz.underlying32 u8size wx.heap.size U (512 - U) (512 - U) s (by rfl) (by rfl) (bytesRow (room (ss.drop (k + 1)))) 218 (by exact (unhide HRo).heap rfl) (by omega) (by rw [unhide HRL]; omega) ?_; intro w2 HR2 hg2))
      have hwk := ((unhide HWo).heap (W' := wr.drew) rfl).grown hg2 (by simp)
      have hwl := wordsTo_length ss (k + 1) hk
      have hc2 : w2.cell? ⟨wx.heap.size + 1, k + 1, none⟩ = some (.int .u64 ((wordsTo ss (k + 1)).getD (k + 1) 0)) := hwk.cell (wordsRow_get _ _ (by omega))
      have hf2 : w2.frozen? ⟨wx.heap.size + 1, k + 1, none⟩ = false := hwk.frozen _
      have hg3 : wr.grownBy w2 (some wx.heap.size) := ⟨hg2.os, hg2.tape, hg2.output, hg2.size, hg2.block⟩
      have R1 := (unhide HR2).set_other (c := wx.heap.size + 1) (by omega) (k + 1) (.int .u64 (65024 + (U : Int)))
      have eR : splice (room (ss.drop (k + 1))) U (strInts s) = room (ss.drop k) := by rw [room_step (ss := ss) (k := k) (by omega), ← unhide HS, ← unhide HU]
      rw [byteCells_ints, bytesRow_splice, eR] at R1
      have R2 := hwk.set (k + 1) (.int .u64 (65024 + (U : Int)))
      have eW : (wordsTo ss (k + 1)).set (k + 1) (65024 + (U : Int)) = wordsTo ss k := by
        have := wordsTo_step ss k (by omega)
        rwa [show ((65024 + (512 - total (ss.drop k)) : Nat) : Int) = 65024 + (U : Int) from by have := unhide HU; omega] at this
      rw [wordsRow_set, eW] at R2
      have R3 := ((unhide HBe).trans (below_grown hg3 (Nat.le_refl _) (by omega))).setCell (p := ⟨wx.heap.size + 1, k + 1, none⟩) (by simp) (.int .u64 (65024 + (U : Int)))
      have hsz2 : wx.heap.size + 2 ≤ w2.heap.size := by have := hg3.size; omega
      obtain ⟨x, hx⟩ : ∃ x, x = (wordsTo ss (k + 1)).getD (k + 1) 0 := ⟨_, rfl⟩
      rw [← hx] at hc2
      have H1 := hide R1
      have H2 := hide R2
      have H3 := hide R3
      clear R1 R2 R3 hwk hg2 hg3 hx hwl eR eW
      go_wp2
      go_roundw
      case rel => exact ⟨k, by omega, rfl, by rw [← unhide HU], unhide H1, unhide H2, unhide H3, by simp only [World.setCell, Array.size_modify]; exact hsz2⟩
      case measure => simp [intOf]
end Go.Proofs.YtkokiefclmbgaaaGreatDoor
