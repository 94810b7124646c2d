import Derived.Test.YtkmbleboceedbaaGreatDoorBootsProofG14
import Derived.Deep.RegionHeld3
import Derived.Test.YtkmbleboceedbaaGreatDoorBootsProofG41
/- exe.Stack. -/
namespace Go.Proofs.YtkmbleboceedbaaGreatDoor
open Go.RowKit
set_option linter.unusedVariables false
set_option linter.unusedSimpArgs false

set_option maxRecDepth 100000 in
set_option maxHeartbeats 2000000 in
theorem stack_exe (a : Option Addr) (b off cap : Nat) (ss : List ByteArray) (w : World) (hn : ss.length ≤ 1000) (ha : 0 < ss.length → a = some ⟨b, off, none⟩) (hbw : b < w.heap.size)
    (hcell : ∀ i, i < ss.length → w.cell? ⟨b, off + i, none⟩ = some (.string (ss.getD i ByteArray.empty))) (hok : okArgs ss = true) :
    Calls Tryz.prog 69 #[.slice a ss.length cap] w fun e w' => ∃ g, e = .returned (.tuple #[.slice (some ⟨g, 0, none⟩) 2 2, .int .u64 (65024 + (spOff ss : Int)), .nilIface]) ∧ Holds w' g 87 (pagesTo (stackRoom ss) 2) ∧ w.heap.size ≤ g ∧ Below w.heap.size w w' := by
  have HC := hide hcell
  have HA := hide ha
  have HO := hide hok
  have hn8 := (ok_all hok).1
  have hmk : ∀ w, (Instr.makeSlice 249 (.int .i64 ((ss.length : Int) + 2)) (.int .i64 ((ss.length : Int) + 2))).run Tryz.prog w = .ok (.slice (some ⟨w.heap.size, 0, none⟩) (ss.length + 2) (ss.length + 2)) (w.alloc (.cells (zeroWords (ss.length + 2)) 74)) := by
    intro w
    have := run_make_row' (P := Tryz.prog) 249 74 (.int .u64 0) 8 Tryz.underlying249 u64info rfl .i64 .i64 (ss.length + 2) (by omega) (by omega) w
    rwa [show (((ss.length + 2 : Nat)) : Int) = (ss.length : Int) + 2 from by omega, made_zero] at this
  have hz0 := zeroWords_get (ss.length + 2) 0 (by omega)
  clear hcell ha hok
  go_enter Tryz.func69, Tryz.ntmps69
  go_wp2_with fail
  refine (areArgs_any a b off cap ss _ hn (unhide HA) (unhide HC)).mono ?_
  rw [unhide HO]
  rintro e wx ⟨rfl, hwx⟩
  subst hwx
  go_wp2_with (refine wpList_alloc_big rfl 216 rfl zeros512 alloc512 ?_)
  go_loopw [7, 8] (fun at_ i wr => ∃ k : Nat, k ≤ ss.length ∧ i = .int .i64 ((k : Int) - 1) ∧ at_ = .int .i64 ((512 - total (ss.drop k) : Nat) : Int) ∧ Holds wr wx.heap.size 216 (bytesRow (room (ss.drop k))) ∧ Holds wr (wx.heap.size + 1) 74 (wordsRow (wordsTo ss k)) ∧ Below wx.heap.size wx wr ∧ wx.heap.size + 2 ≤ wr.heap.size)
    (fun _ i _ => (intOf i + 1).toNat)
  case atStart =>
    refine ⟨ss.length, Nat.le_refl _, rfl, ?_, ?_, ?_, ?_, ?_⟩
    · simp [total]
    · rw [List.drop_length, room]
      exact (Holds.new _ _ _).alloc _
    · rw [zeroWords_head]
      have := Holds.new (wx.alloc (.cells zeros512 216)) 74 (wordsRow (((ss.length : Nat) : Int) :: List.replicate (ss.length + 1) 0))
      simpa [wordsTo, addrs, List.replicate_succ'] using this
    · exact ((Below.refl _ _).alloc (Nat.le_refl _) _).alloc (by simp) _
    · simp
  case round =>
    obtain ⟨k, hk, rfl, rfl, hroom, hwords, hbel, hsz⟩ := hrel
    have HRo := hide hroom
    have HWo := hide hwords
    have HBe := hide hbel
    clear hroom hwords hbel
    rcases k with _ | k
    · have ht : total ss ≤ 248 := by have := total_drop_le (unhide HO) 0; simpa using this
      obtain ⟨T, hT⟩ : ∃ T, T = 512 - total (ss.drop 0) := ⟨_, rfl⟩
      rw [← hT]
      rw [List.drop_zero] at hT
      obtain ⟨V, hV⟩ : ∃ V, V = T - 8 * (ss.length + 2) := ⟨_, rfl⟩
      obtain ⟨X, hX⟩ : ∃ X, X = spOff ss := ⟨_, rfl⟩
      have hX2 : X = V - V % 16 := by rw [hX, spOff, hV, hT]; omega
      have q1 : (T : Int) - 8 * ((ss.length : Int) + 2) = (V : Int) := by omega
      have q2 : (V : Int) - (V : Int) % 16 = (X : Int) := by omega
      have hXV : X + 8 * (ss.length + 2) ≤ 512 := by omega
      have hX5 : ¬ 512 = X := by omega
      have hXle : (X : Int) ≤ 512 := by omega
      have hX0 : (0 : Int) ≤ (X : Int) := by omega
      have hV0 : (0 : Int) ≤ (V : Int) := by omega
      have hV5 : (V : Int) ≤ 512 := by omega
      have hT5 : (T : Int) ≤ 512 := by omega
      have HX := hide hX
      have hmp := makePages
      have hrl : (room ss).length = 512 := room_length _ (by omega)
      have P := putWords_any wx.heap.size X (512 - X) (512 - X) 216 (room ss) (wx.heap.size + 1) (ss.length + 2) 74 (heads ss) wr (by simpa using unhide HRo) (by rw [← wordsTo_zero]; exact unhide HWo) (by omega) (by rw [heads_length]; omega) (by omega) (by omega)
      rw [heads_length] at P
      have HP := hide P
      clear hT hV hX hX2 P hrl
      go_wp2_with fail
      refine (unhide HP).mono ?_
      rintro e w3 ⟨rfl, hrm, hg3⟩
      have hst : Holds w3 wx.heap.size 216 (bytesRow (stackRoom ss)) := by rw [stackRoom, ← unhide HX]; exact hrm
      have hb3 := hide ((unhide HBe).trans (below_grown hg3 (Nat.le_refl _) (by omega)))
      have hs3 : wx.heap.size + 2 ≤ w3.heap.size := by have := hg3.size; omega
      have HST := hide hst
      clear hst hrm hg3 HP HRo HWo HBe
      have hRl := stackRoom_length (unhide HO)
      have HRl := hide hRl
      have hpl := pagesTo_length (stackRoom ss) hRl
      have HPL := hide hpl
      obtain ⟨R, hR⟩ : ∃ R, R = stackRoom ss := ⟨_, rfl⟩
      rw [← hR] at hRl
      have HRR := hide hR
      clear hR hRl hpl
      go_wp2_with fail
      go_loopw [69] (fun i wr => ∃ k : Nat, k ≤ 2 ∧ i = .int .i64 k ∧ Holds wr w3.heap.size 87 (pagesTo (stackRoom ss) k) ∧ Holds wr wx.heap.size 216 (bytesRow (stackRoom ss)) ∧ Below wx.heap.size wx wr) (fun i _ => 2 - (intOf i).toNat)
      case atStart => exact ⟨0, by omega, rfl, Holds.new _ _ _, (unhide HST).alloc _, (unhide hb3).alloc (by omega) _⟩
      case round =>
        obtain ⟨k, hk, rfl, hpg, hrm, hbl⟩ := hrel
        have hlt := hpg.lt
        have cs : ∀ j, j < 516 → wr.cell? ⟨w3.heap.size, j, none⟩ = some ((pagesTo (stackRoom ss) k).getD j .nilIface) := fun j hj => hpg.cell (by rw [List.getD, List.getElem?_eq_getElem (by rw [unhide HPL]; exact hj)]; rfl)
        have cf : ∀ j, wr.frozen? ⟨w3.heap.size, j, none⟩ = false := fun j => hpg.frozen j
        have HPg := hide hpg
        have HRm := hide hrm
        have HBl := hide hbl
        clear hpg hrm hbl
        have hk3 : k = 0 ∨ k = 1 ∨ k = 2 := by omega
        rcases hk3 with rfl | rfl | rfl
        · have c0 := cs 0 (by omega)
          have c1 := cs 1 (by omega)
          have f0 := cf 0
          have f1 := cf 1
          generalize (pagesTo (stackRoom ss) 0).getD 0 .nilIface = v0 at c0
          generalize (pagesTo (stackRoom ss) 0).getD 1 .nilIface = v1 at c1
          clear cs cf
          rw [show ((0 : Nat) : Int) = (0 : Int) from rfl]
          have hp1 := ((unhide HPg).set 0 (.int .i64 254)).set 1 (.int .u8 6)
          have hp2 := ((unhide HRm).set_other (c := w3.heap.size) (by omega) 0 (.int .i64 254)).set_other (c := w3.heap.size) (by omega) 1 (.int .u8 6)
          have hb4 := ((unhide HBl).setCell (p := ⟨w3.heap.size, 0, none⟩) (by show wx.heap.size ≤ w3.heap.size; omega) (.int .i64 254)).setCell (p := ⟨w3.heap.size, 1, none⟩) (by show wx.heap.size ≤ w3.heap.size; omega) (.int .u8 6)
          have wz0 : IntKind.i64.wrap 0 = 0 := by decide
          have wz1 : IntKind.i64.wrap 256 = 256 := by decide
          have HP1 := hide hp1
          have HP2 := hide hp2
          have HB4 := hide hb4
          clear hp1 hp2 hb4
          go_wp2
          go_region_held3 (fun _ => True) (trivial)
            ((refine step_copy_row (by rfl) _ _ 32 32 (by rfl) 5 Tryz.underlying32 u8size w3.heap.size 2 256 256 wx.heap.size 0 512 512 (by rfl) (by rfl) (((pagesTo (stackRoom ss) 0).set 0 (.int .i64 254)).set 1 (.int .u8 6)) 87 (by exact (unhide HP1).heap rfl) (bytesRow ((stackRoom ss).take 256)) (by rw [bytesRow_length]; simp [unhide HRl]) (by exact src0 HP2) (bytesRow_one _) (by rw [bytesRow_length, List.length_set, List.length_set, unhide HPL]; simp [unhide HRl]) ?_; intro w5 HR5 hg5))
          have r1 := unhide HR5
          rw [pages_step0 _ (unhide HRl)] at r1
          have hg6 : ((wr.setCell ⟨w3.heap.size, 0, none⟩ (.int .i64 254)).setCell ⟨w3.heap.size, 1, none⟩ (.int .u8 6)).grownBy w5 (some w3.heap.size) := ⟨hg5.os, hg5.tape, hg5.output, hg5.size, hg5.block⟩
          have r2 := (unhide HP2).grown hg6 (by simp; omega)
          have r3 := (unhide HB4).trans (below_grown hg6 (by omega) (by simp [World.setCell]; omega))
          have H1 := hide r1
          have H2 := hide r2
          have H3 := hide r3
          clear r1 r2 r3 hg5 hg6
          go_wp2
          go_roundw
          case rel => exact ⟨1, by omega, rfl, unhide H1, unhide H2, unhide H3⟩
          case measure => simp [intOf]
        · have c0 := cs 258 (by omega)
          have c1 := cs 259 (by omega)
          have f0 := cf 258
          have f1 := cf 259
          generalize (pagesTo (stackRoom ss) 1).getD 258 .nilIface = v0 at c0
          generalize (pagesTo (stackRoom ss) 1).getD 259 .nilIface = v1 at c1
          clear cs cf
          rw [show ((1 : Nat) : Int) = (1 : Int) from rfl]
          have hp1 := ((unhide HPg).set 258 (.int .i64 255)).set 259 (.int .u8 6)
          have hp2 := ((unhide HRm).set_other (c := w3.heap.size) (by omega) 258 (.int .i64 255)).set_other (c := w3.heap.size) (by omega) 259 (.int .u8 6)
          have hb4 := ((unhide HBl).setCell (p := ⟨w3.heap.size, 258, none⟩) (by show wx.heap.size ≤ w3.heap.size; omega) (.int .i64 255)).setCell (p := ⟨w3.heap.size, 259, none⟩) (by show wx.heap.size ≤ w3.heap.size; omega) (.int .u8 6)
          have wz0 : IntKind.i64.wrap 0 = 0 := by decide
          have wz1 : IntKind.i64.wrap 256 = 256 := by decide
          have HP1 := hide hp1
          have HP2 := hide hp2
          have HB4 := hide hb4
          clear hp1 hp2 hb4
          go_wp2
          go_region_held3 (fun _ => True) (trivial)
            ((refine step_copy_row (by rfl) _ _ 32 32 (by rfl) 5 Tryz.underlying32 u8size w3.heap.size 260 256 256 wx.heap.size 256 256 256 (by rfl) (by rfl) (((pagesTo (stackRoom ss) 1).set 258 (.int .i64 255)).set 259 (.int .u8 6)) 87 (by exact (unhide HP1).heap rfl) (bytesRow ((stackRoom ss).drop 256)) (by rw [bytesRow_length]; simp [unhide HRl]) (by exact src1 HP2) (bytesRow_one _) (by rw [bytesRow_length, List.length_set, List.length_set, unhide HPL]; simp [unhide HRl]) ?_; intro w5 HR5 hg5))
          have r1 := unhide HR5
          rw [pages_step1 _ (unhide HRl)] at r1
          have hg6 : ((wr.setCell ⟨w3.heap.size, 258, none⟩ (.int .i64 255)).setCell ⟨w3.heap.size, 259, none⟩ (.int .u8 6)).grownBy w5 (some w3.heap.size) := ⟨hg5.os, hg5.tape, hg5.output, hg5.size, hg5.block⟩
          have r2 := (unhide HP2).grown hg6 (by simp; omega)
          have r3 := (unhide HB4).trans (below_grown hg6 (by omega) (by simp [World.setCell]; omega))
          have H1 := hide r1
          have H2 := hide r2
          have H3 := hide r3
          clear r1 r2 r3 hg5 hg6
          go_wp2
          go_roundw
          case rel => exact ⟨2, by omega, rfl, unhide H1, unhide H2, unhide H3⟩
          case measure => simp [intOf]
        · rw [show ((2 : Nat) : Int) = (2 : Int) from rfl]
          clear cs cf
          go_wp2
          go_ret3
          exact ⟨w3.heap.size, by rw [← unhide HX]; rfl, unhide HPg, by omega, unhide HBl⟩
    · have ht : total (ss.drop (k + 1)) ≤ 248 := total_drop_le (unhide HO) (k + 1)
      have ht' : total (ss.drop k) ≤ 248 := total_drop_le (unhide HO) k
      have hts := total_step (ss := ss) (k := k) (by omega)
      have hsz30 := size_le (unhide HO) (k := k) (by omega)
      have e := (unhide HA) (by omega)
      subst e
      have hca : wr.cell? ⟨b, off + k, none⟩ = some (.string (ss.getD k ByteArray.empty)) := by
        rw [(unhide HBe).cell (p := ⟨b, off + k, none⟩) hbw]; exact (unhide HC) k (by omega)
      obtain ⟨s, hs⟩ : ∃ s, s = ss.getD k ByteArray.empty := ⟨_, rfl⟩
      rw [← hs] at hca hts hsz30
      have HS := hide hs
      have HT := hide hts
      obtain ⟨U, hU⟩ : ∃ U, U = 512 - total (ss.drop k) := ⟨_, rfl⟩
      have hT : ((512 - total (ss.drop (k + 1)) : Nat) : Int) = (U : Int) + ((s.size : Int) + 1) := by omega
      rw [hT]
      have HU := hide hU
      have hb1 : b < wr.drew.heap.size := by show b < wr.heap.size; omega
      have hb2 : b ≠ wx.heap.size := by omega
      have hUn : U < 512 := by omega
      have hUne : ¬ 512 = U := by omega
      have hUs : U + s.size + 1 ≤ 512 := by omega
      have hUl : 264 ≤ U := by omega
      have hk8 : k < 8 := by omega
      have e1 : (((k + 1 : Nat) : Int) - 1) = (k : Int) := by omega
      rw [e1]
      have hkn : (k : Int) < (ss.length : Int) := by omega
      have hk0 : (0 : Int) ≤ (k : Int) := by omega
      have hU0 : (0 : Int) ≤ (U : Int) := by omega
      have hU5 : (U : Int) ≤ 512 := by omega
      have hrl : (bytesRow (room (ss.drop (k + 1)))).length = 512 := by rw [bytesRow_length, room_length _ (by omega)]
      have HRL := hide hrl
      clear hs hts hT hU e1 ht ht' hrl
      go_wp2
      go_region_held3 (fun w' => w'.cell? ⟨b, off + k, none⟩ = some (.string s)) (first | go_keep | (rw [grown_cell hg2 hb1 hb2]; assumption))
        ((refine step_copy_str (by rfl) _ _ 32 9 (by rfl) 5 Tryz.underlying32 u8size wx.heap.size U (512 - U) (512 - U) s (by rfl) (by rfl) (bytesRow (room (ss.drop (k + 1)))) 216 (by exact (unhide HRo).heap rfl) (by omega) (by rw [unhide HRL]; omega) ?_; intro w2 HR2 hg2))
      have hwk := ((unhide HWo).heap (W' := wr.drew) rfl).grown hg2 (by simp)
      have hwl := wordsTo_length ss (k + 1) hk
      have hc2 : w2.cell? ⟨wx.heap.size + 1, k + 1, none⟩ = some (.int .u64 ((wordsTo ss (k + 1)).getD (k + 1) 0)) := hwk.cell (wordsRow_get _ _ (by omega))
      have hf2 : w2.frozen? ⟨wx.heap.size + 1, k + 1, none⟩ = false := hwk.frozen _
      have hg3 : wr.grownBy w2 (some wx.heap.size) := ⟨hg2.os, hg2.tape, hg2.output, hg2.size, hg2.block⟩
      have R1 := (unhide HR2).set_other (c := wx.heap.size + 1) (by omega) (k + 1) (.int .u64 (65024 + (U : Int)))
      have eR : splice (room (ss.drop (k + 1))) U (strInts s) = room (ss.drop k) := by rw [room_step (ss := ss) (k := k) (by omega), ← unhide HS, ← unhide HU]
      rw [byteCells_ints, bytesRow_splice, eR] at R1
      have R2 := hwk.set (k + 1) (.int .u64 (65024 + (U : Int)))
      have eW : (wordsTo ss (k + 1)).set (k + 1) (65024 + (U : Int)) = wordsTo ss k := by
        have := wordsTo_step ss k (by omega)
        rwa [show ((65024 + (512 - total (ss.drop k)) : Nat) : Int) = 65024 + (U : Int) from by have := unhide HU; omega] at this
      rw [wordsRow_set, eW] at R2
      have R3 := ((unhide HBe).trans (below_grown hg3 (Nat.le_refl _) (by omega))).setCell (p := ⟨wx.heap.size + 1, k + 1, none⟩) (by simp) (.int .u64 (65024 + (U : Int)))
      have hsz2 : wx.heap.size + 2 ≤ w2.heap.size := by have := hg3.size; omega
      obtain ⟨x, hx⟩ : ∃ x, x = (wordsTo ss (k + 1)).getD (k + 1) 0 := ⟨_, rfl⟩
      rw [← hx] at hc2
      have H1 := hide R1
      have H2 := hide R2
      have H3 := hide R3
      clear R1 R2 R3 hwk hg2 hg3 hx hwl eR eW
      go_wp2
      go_roundw
      case rel => exact ⟨k, by omega, rfl, by rw [← unhide HU], unhide H1, unhide H2, unhide H3, by simp only [World.setCell, Array.size_modify]; exact hsz2⟩
      case measure => simp [intOf]
end Go.Proofs.YtkmbleboceedbaaGreatDoor

/- The program's execute, for a process that has no pages yet. -/
namespace Go.Proofs.YtkmbleboceedbaaGreatDoor
open Go Go.RowKit Go.Maps
set_option linter.unusedVariables false
set_option linter.unusedSimpArgs false

set_option maxHeartbeats 1000000 in
theorem readHeader_nil (w : World) : Calls Tryz.prog 95 #[.slice none 0 0] w fun e w' => e = .returned (.tuple #[.int .i64 0, .bool false]) ∧ w' = w := by
  go_enter Tryz.func95, Tryz.ntmps95
  go_wp2
  go_ret2
  exact ⟨rfl, rfl⟩
set_option maxRecDepth 100000 in
set_option maxHeartbeats 1000000 in
theorem load_nil (w : World) : Calls Tryz.prog 66 #[.slice none 0 0] w fun e w' => e = errPlan 2 ∧ Below w.heap.size w w' := by
  have HH := hide (readHeader_nil (w.alloc (.cells #[.int .u64 0, .slice none 0 0] 185)))
  go_enter Tryz.func66, Tryz.ntmps66
  go_wp2_with fail
  refine (unhide HH).mono ?_
  rintro e w1 ⟨rfl, hw1⟩
  have hR1 : Holds w1 w.heap.size 185 [.int .u64 0, .slice none 0 0] := by rw [hw1]; exact Holds.new w 185 _
  have hbl1 : Below w.heap.size w w1 := by rw [hw1]; exact (Below.refl w.heap.size w).alloc (Nat.le_refl _) _
  have c0 : w1.cell? ⟨w.heap.size, 0, none⟩ = some (.int .u64 0) := hR1.cell rfl
  have c1 : w1.cell? ⟨w.heap.size, 1, none⟩ = some (.slice none 0 0) := hR1.cell rfl
  have f0 := hR1.frozen 0
  have f1 := hR1.frozen 1
  obtain ⟨d0, d1, d2⟩ := plan_set hR1 hbl1
  have D2 := hide d2
  clear d2 hw1 hR1 hbl1 HH
  go_wp2
  exact bodyPost_ret (v := .tuple #[noPlan, .iface 45 (.int .i64 2)]) (by simp [results, Tryz.results66, go_sem, noPlan, d0, d1]) rfl ⟨rfl, unhide D2⟩
/-- Load of a file's bytes, as they lie. -/
theorem load_node {B : Nat} {v : Value} {c : List Int} (w : World) (hv : BytesIs w B v c) (hb : IsBytes c) (hl : c.length ≤ 500000) (ht : w.rangeAt 1 0 tblRow) (hgw : 1 < w.heap.size) :
    Calls Tryz.prog 66 #[v] w fun e w' => Below w.heap.size w w' ∧ ((∃ k, Bad c k ∧ e = errPlan k) ∨ (Good c ∧ ∃ g gc, e = .returned (.tuple #[.agg #[.int .u64 (numAt c 24 8), .slice (some ⟨g, 0, none⟩) (outPgs c).length gc], .nilIface]) ∧ w'.ownsRow w.heap.size 87 258 (.slice (some ⟨g, 0, none⟩) (outPgs c).length gc) (outPgs c).length (apiRow (outPgs c)))) := by
  rcases hv with ⟨rfl, rfl⟩ | ⟨R, cp, T, rfl, hR, hcp, _, _⟩
  · refine (load_nil w).mono fun e w' h => ⟨h.2, .inl ⟨2, .inl ⟨fun q => ?_, rfl⟩, h.1⟩⟩
    have := q.1
    simp at this
  · refine (load_exe R 0 cp c w hb (by omega) hl (fun j hj => ?_) hR.lt ht hgw).mono fun e w' h => ⟨h.2, exe_split hb h⟩
    rw [Nat.zero_add]
    refine hR.cell ?_
    rw [bytesRow_append, List.getElem?_append_left (by rw [bytesRow_length]; exact hj)]
    exact bytesRow_get c j hj
theorem mayOpenEnter : ∀ args w, (callFunc 63 args).run Tryz.prog w = .ok (.enter 63 args) w := enters_of Tryz.func63 (by kernel_rfl) rfl
theorem freeEnter : ∀ args w, (callFunc 70 args).run Tryz.prog w = .ok (.enter 70 args) w := enters_of Tryz.func70 (by kernel_rfl) rfl
theorem countEnter : ∀ args w, (callFunc 71 args).run Tryz.prog w = .ok (.enter 71 args) w := enters_of Tryz.func71 (by kernel_rfl) rfl
theorem newSpaceEnter : ∀ args w, (callFunc 72 args).run Tryz.prog w = .ok (.enter 72 args) w := enters_of Tryz.func72 (by kernel_rfl) rfl
def rvOf (c : Int) : Value := if c = 0 then .nilIface else .iface 45 (.int .i64 c)
theorem errRet_rv (c : Int) : errRet c = .returned (rvOf c) := by
  unfold errRet rvOf
  split <;> rfl
theorem two_row (R : List Int) : pagesTo R 2 = apiRow (twoPgs R) := by
  unfold pagesTo twoPgs apiRow
  simp
theorem pgs_len {PS : List Pg} (h : PgsOk PS) : PS.length ≤ 256 := by
  have := pgsTo_len PS 256
  rwa [pgsTo_all h] at this
theorem zeroSpace_get (j : Nat) (h : j < 65792) : zeroSpace[j]? = some (.int .u8 0) := by
  unfold zeroSpace
  rw [List.getElem?_replicate, if_pos h]
theorem perms_none {w : World} {pb : Nat} {E : Int} {R : List Int} {pid par st su wk : Int} {fds : List Value} (hR : R.length = 16) (h : Holds w pb 183 (procRow E R zeroSpace pid par st su wk fds)) : PermsAt w pb [] := fun j hj => by
  refine h.cell ?_
  have h1 : (Value.int .u64 E :: R.map (Value.int .u64)).length = 17 := by simp [hR]
  unfold procRow cpuRow
  rw [List.getElem?_append_left (by rw [List.length_append, h1, zeroSpace_length]; omega), List.getElem?_append_right (by omega), h1, Nat.add_sub_cancel_left]
  exact zeroSpace_get _ (by omega)
theorem noPgs : PgsOk [] := ⟨List.Pairwise.nil, fun p hp => by cases hp⟩
def regs15 (x : Int) : List Int := List.replicate 15 0 ++ [x]
theorem zero16_set (x : Int) : zero16.set 15 x = List.replicate 15 0 ++ [x] := rfl
/-- What execute leaves. -/
def KExecPost (p : PK) (s : ByteArray) (ss : List ByteArray) (pb : Nat) (pid par : Int) (fds : List Value) (w : World) (e : Ending) (w' : World) : Prop :=
  (∃ c, p.ExecErr [0] 0 s ss c ∧ e = errnoRet c ∧ Below w.heap.size w w') ∨
  (p.ExecOk [0] 0 s ss ∧ e = .returned .nilIface ∧ FrameS w w' [pb] ∧ Holds w' pb 183 (procRow (numAt (p.fileOf s) 24 8) (List.replicate 15 0 ++ [65024 + (spOff ss : Int)]) (spaceRow (outPgs (p.fileOf s) ++ twoPgs (stackRoom ss))) pid par 0 0 0 fds))

set_option maxRecDepth 100000 in
set_option maxHeartbeats 8000000 in
theorem execute_any (p : PK) (B tb ab am kb pm pb cb q so cap : Nat) (a : Option Addr) (pid par mm : Int) (fds : List Value) (NB MB : List Nat) (V : List Value) (s : ByteArray) (ss : List ByteArray) (w : World)
    (hr : BootRep w B tb ab am p NB MB V) (hi : PInv p) (hby : AllBytes p.cs) (hu : usedOf p.cs ≤ 500000) (hlen : p.xs.length ≤ 900000) (hlf : 0 ≤ p.lf ∧ p.lf ≤ 1000000)
    (hk : Holds w kb 121 (kernelRow p.lp p.lf p.lo p.li p.lb tb cb pm)) (hm : OneProc w pm pb) (hp : Holds w pb 183 (procRow 0 zero16 zeroSpace pid par 0 0 0 fds)) (hfd : ∀ v ∈ fds, v.oneCell' = true)
    (hsn : ss.length ≤ 1000) (ha : 0 < ss.length → a = some ⟨q, so, none⟩) (hq : q < w.heap.size) (hcell : ∀ i, i < ss.length → w.cell? ⟨q, so + i, none⟩ = some (.string (ss.getD i ByteArray.empty)))
    (hs : s.size ≤ maxLen) (ht : w.rangeAt 1 0 tblRow) (hgw : 1 < w.heap.size) (hmm : w.cell? ⟨2, 0, none⟩ = some (.int .i64 mm)) (hml : 2 < w.heap.size) :
    Calls Tryz.prog 41 #[.pointer (some ⟨kb, 0, none⟩), .pointer (some ⟨pb, 0, none⟩), .string s, .slice a ss.length cap] w (KExecPost p s ss pb pid par fds w) := by
  have c5 : w.cell? ⟨kb, 5, none⟩ = some (.pointer (some ⟨tb, 0, none⟩)) := hk.cell rfl
  have hne : p.xs ≠ [] := by obtain ⟨x, hx, _⟩ := hi.root; intro e; rw [e] at hx; cases hx
  have HFW := hide (fsFollow_any B tb ab am p.li p.lb (usedOf p.cs) p.xs NB MB V s mm w hr.tree (fun _ => hne) (fun x hx => (hi.ids x hx).1) hi.incr hs hmm hml)
  have HR := hide hr
  have HI := hide hi
  have HK := hide hk
  have HM := hide hm
  have HPR := hide hp
  have HNM := hide (show AllBytes p.cs ∧ usedOf p.cs ≤ 500000 ∧ p.xs.length ≤ 900000 ∧ (0 ≤ p.lf ∧ p.lf ≤ 1000000) ∧ ss.length ≤ 1000 ∧ q < w.heap.size ∧ 1 < w.heap.size from ⟨hby, hu, hlen, hlf, hsn, hq, hgw⟩)
  have HAR := hide (And.intro ha hcell)
  have HT := hide ht
  have HFD := hide hfd
  clear hr hi hk hm hp hby hu hlen hlf hsn ha hq hcell ht hgw hmm hml hne hs hfd
  go_enter Tryz.func41, Tryz.ntmps41
  go_wp2_with fail
  refine (unhide HFW).mono ?_
  rintro e w1 ⟨hb1, (⟨he, rfl⟩ | ⟨he, b, name, hpl, rfl⟩)⟩
  · have HP := hide (show KExecPost p s ss pb pid par fds w (errnoRet (walkOf p.xs s).e) (w1.alloc (Obj.cells #[.pointer none, .string ByteArray.empty] 166)) from .inl ⟨_, .inl ⟨he, rfl⟩, rfl, hb1.alloc hb1.size _⟩)
    clear hb1 he HFW c5
    unfold placeErr
    go_wp2
    go_ret
    exact unhide HP
  · obtain ⟨W2, hW2⟩ : ∃ W2, W2 = w1.alloc (Obj.cells #[.pointer (some ⟨b, 0, none⟩), .string name] 166) := ⟨_, rfl⟩
    have hb2 : Below w.heap.size w W2 := by rw [hW2]; exact hb1.alloc hb1.size _
    have hp2 : Holds W2 w1.heap.size 166 [.pointer (some ⟨b, 0, none⟩), .string name] := by rw [hW2]; exact Holds.new w1 166 _
    have hr2 := (unhide HR).below hb2
    obtain ⟨m, k, ff, dvs, hdn, hd2, hdd, hkk, hns, hBm, hcase⟩ := place_at hr2.tree (unhide HI) he hpl
    have HW2 := hide hW2
    have HB2 := hide hb2
    have HP2 := hide hp2
    have HR2 := hide hr2
    have HDN := hide (And.intro hdn (And.intro hd2 (And.intro hdd (And.intro hkk (And.intro hns hBm)))))
    have HCA := hide hcase
    have HE := hide he
    obtain ⟨PB, hPB⟩ : ∃ PB, PB = w1.heap.size := ⟨_, rfl⟩
    clear hb1 hW2 hb2 hp2 hr2 hdn hd2 hdd hkk hns hBm hcase he hpl HFW
    unfold placeAt
    go_upto_region 4 with fail
    rw [← unhide HW2]
    rw [← hPB] at HP2 ⊢
    clear HW2 hPB c5
    have hbd : Below W2.heap.size W2 W2.drew := ⟨rfl, rfl, rfl, Nat.le_refl _, fun _ _ => rfl⟩
    obtain ⟨dv, hdv⟩ : ∃ dv : Bool, ∀ c, ff name = some c → ∃ vs, Holds W2 c 228 (.bool dv :: vs) := by
      rcases unhide HCA with ⟨_, i, x, c, y1, y2, y3, y4⟩ | ⟨_, y, _⟩
      · obtain ⟨mi, hmi⟩ : ∃ mi, MB[i]? = some mi := ⟨_, List.getElem?_eq_getElem (by rw [(unhide HR2).tree.len.2]; exact (List.getElem?_eq_some_iff.1 y1).1)⟩
        obtain ⟨v1, mv1, z1, _⟩ := (unhide HR2).tree.node i x c mi y1 y3 hmi
        exact ⟨x.dir, fun c' hc' => by rw [y4] at hc'; obtain rfl := Option.some.inj hc'; exact ⟨_, z1⟩⟩
      · exact ⟨false, fun c hc => by rw [y] at hc; cases hc⟩
    obtain ⟨mc, hmc⟩ : ∃ mc, mc = mayOf (ff name).isSome false (decide (p.li ≤ (p.xs.length : Int))) dv := ⟨_, rfl⟩
    have hMO : Calls Tryz.prog 63 #[.pointer (some ⟨tb, 0, none⟩), .agg #[.pointer (some ⟨b, 0, none⟩), .string name], .bool false] W2.drew fun e w3 => e = .returned (rvOf mc) ∧ Below W2.heap.size W2 w3 := by
      refine (fsMayOpen_any tb ab b m k p.xs.length p.li (usedOf p.cs) p.lb ff name false dv dvs W2.drew ((unhide HR2).tree.tree.heap rfl) ((unhide HDN).1.heap rfl) (unhide HDN).2.1 ((unhide HDN).2.2.1.kept (grown_below hbd) (by simp)) (by have := (unhide HDN).2.2.2.2.1; omega) (fun c hc => by obtain ⟨vs, h⟩ := hdv c hc; exact ⟨vs, h.heap rfl⟩)).mono ?_
      rintro e w3 ⟨rfl, hb3⟩
      exact ⟨by rw [hmc, errRet_rv], hb3.os, hb3.tape, hb3.output, hb3.size, hb3.block⟩
    have hS2 : W2.cell? ⟨kb, 5, none⟩ = some (.pointer (some ⟨tb, 0, none⟩)) ∧ W2.cell? ⟨PB, 0, none⟩ = some (.pointer (some ⟨b, 0, none⟩)) ∧ W2.cell? ⟨PB, 1, none⟩ = some (.string name) := ⟨((unhide HK).below (unhide HB2) (unhide HK).lt).cell rfl, (unhide HP2).cell rfl, (unhide HP2).cell rfl⟩
    have R1 := hide (show ∀ w' : World, (w'.cell? ⟨kb, 5, none⟩ = some (.pointer (some ⟨tb, 0, none⟩)) ∧ w'.cell? ⟨PB, 0, none⟩ = some (.pointer (some ⟨b, 0, none⟩)) ∧ w'.cell? ⟨PB, 1, none⟩ = some (.string name)) → (Instr.loadAt 113 (.pointer (some ⟨kb, 5, none⟩))).run Tryz.prog w' = .ok (.pointer (some ⟨tb, 0, none⟩)) w' from fun w' h => by
      have d := h.1
      clear h hS2 hMO hdv
      go_simp)
    have R2 := hide (show ∀ w' : World, (w'.cell? ⟨kb, 5, none⟩ = some (.pointer (some ⟨tb, 0, none⟩)) ∧ w'.cell? ⟨PB, 0, none⟩ = some (.pointer (some ⟨b, 0, none⟩)) ∧ w'.cell? ⟨PB, 1, none⟩ = some (.string name)) → (Instr.loadAt 166 (.pointer (some ⟨PB, 0, none⟩))).run Tryz.prog w' = .ok (.agg #[.pointer (some ⟨b, 0, none⟩), .string name]) w' from fun w' h => by
      have c := h.2.1
      have d := h.2.2
      clear h hS2 hMO hdv
      go_simp)
    have HMO := hide hMO
    have HS2 := hide hS2
    have HDV := hide hdv
    have HMC := hide hmc
    have hkl : kb < W2.heap.size := by have := (unhide HK).lt; have := (unhide HB2).size; omega
    have hPl : PB < W2.heap.size := (unhide HP2).lt
    clear hMO hS2 hdv hmc hbd
    refine act_gen ?_
    intro A hA
    have e0 : A.eval (.tmp 0) = .pointer (some ⟨kb, 0, none⟩) := by rw [hA]; rfl
    have e9 : A.eval (.tmp 9) = .pointer (some ⟨PB, 0, none⟩) := by rw [hA]; rfl
    have esz : A.tmps.size = 86 := by rw [hA]; rfl
    have HA4 := hide hA
    clear hA
    refine wp_region_held_drew (S := fun w' => w'.cell? ⟨kb, 5, none⟩ = some (.pointer (some ⟨tb, 0, none⟩)) ∧ w'.cell? ⟨PB, 0, none⟩ = some (.pointer (some ⟨b, 0, none⟩)) ∧ w'.cell? ⟨PB, 1, none⟩ = some (.string name)) (by kernel_rfl) (unhide HS2) (fun hS => ?_)
    refine takeH (i := 0) (some 28) rfl rfl (by kernel_rfl) (by kernel_rfl) (by kernel_rfl) (fun _ _ _ h => h) (yields_move rfl _ rfl (.pointer (some ⟨kb, 0, none⟩)) (by simp [put_eval, put_size, esz, e0, e9])) hS ?_
    refine takeH (i := 1) (some 29) rfl rfl (by kernel_rfl) (by kernel_rfl) (by kernel_rfl) (fun _ _ _ h => h) (yields_nil rfl _ rfl ⟨kb, 0, none⟩ (by simp [put_eval, put_size, esz, e0, e9])) hS ?_
    refine takeH (i := 2) (some 30) rfl rfl (by kernel_rfl) (by kernel_rfl) (by kernel_rfl) (fun _ _ _ h => h) (yields_field rfl _ _ _ rfl (.pointer (some ⟨kb, 0, none⟩)) (by simp [put_eval, put_size, esz, e0, e9]) (.pointer (some ⟨kb, 5, none⟩)) (fun w' => by go_simp)) hS ?_
    refine takeH (i := 3) (some 31) rfl rfl (by kernel_rfl) (by kernel_rfl) (by kernel_rfl) (fun _ _ _ h => h) (yields_load1 rfl _ _ rfl ⟨kb, 5, none⟩ (by simp [put_eval, put_size, esz, e0, e9]) (.pointer (some ⟨tb, 0, none⟩)) (unhide R1)) hS ?_
    refine takeH (i := 4) (some 32) rfl rfl (by kernel_rfl) (by kernel_rfl) (by kernel_rfl) (fun _ _ _ h => h) (yields_load1 rfl _ _ rfl ⟨PB, 0, none⟩ (by simp [put_eval, put_size, esz, e0, e9]) (.agg #[.pointer (some ⟨b, 0, none⟩), .string name]) (unhide R2)) hS ?_
    refine wpAnyH_ready (rs := [5]) (by kernel_rfl) (by simp) (AllReadyH.cons rfl (fun K hK => ?_) AllReadyH.nil)
    refine step_call3c rfl 63 31 32 (.bool false) _ rfl (.pointer (some ⟨tb, 0, none⟩)) (.agg #[.pointer (some ⟨b, 0, none⟩), .string name]) (by simp [put_eval, put_size, esz, e0, e9]) (by simp [put_eval, put_size, esz, e0, e9]) mayOpenEnter _ (fun e w' h => ⟨_, h.1⟩) (unhide HMO) (some 33) rfl ?_
    rintro r3 w3 ⟨hr3, hb3⟩
    have hr3 : r3 = rvOf mc := by injection hr3
    subst hr3
    refine hK.out _ _ ⟨by rw [hb3.cell (p := ⟨kb, 5, none⟩) hkl]; exact (unhide HS2).1, by rw [hb3.cell (p := ⟨PB, 0, none⟩) hPl]; exact (unhide HS2).2.1, by rw [hb3.cell (p := ⟨PB, 1, none⟩) hPl]; exact (unhide HS2).2.2⟩ (fun hS3 => ?_)
    clear hK K
    refine takeH (i := 6) (some 11) rfl rfl (by kernel_rfl) (by kernel_rfl) (by kernel_rfl) (fun _ _ _ h => h) (yields_assign rfl _ rfl (rvOf mc) (by simp [put_eval, put_size, esz])) hS3 ?_
    refine wpAnyH_done (by kernel_rfl) ?_ _
    rw [unhide HA4]
    simp only [Act.put, List.setIfInBounds_toArray, List.set_cons_zero, List.set_cons_succ]
    have HB23 := hide hb3
    have HB3 := hide ((unhide HB2).trans (hb3.mono (unhide HB2).size))
    have HP3 := hide ((unhide HP2).below hb3 hPl)
    have HR3 := hide ((unhide HR2).below hb3)
    clear hb3 HA4 e0 e9 esz hS hS3 R1 R2 HMO HS2 hkl hPl
    have hxd : ∀ (i : Nat) (x : Ino) (c : Nat), p.xs[i]? = some x → NB[i]? = some c → ff name = some c → x.dir = dv := by
      intro i x c y1 y3 y4
      obtain ⟨mi, hmi⟩ : ∃ mi, MB[i]? = some mi := ⟨_, List.getElem?_eq_getElem (by rw [(unhide HR2).tree.len.2]; exact (List.getElem?_eq_some_iff.1 y1).1)⟩
      obtain ⟨v1, mv1, z1, _⟩ := (unhide HR2).tree.node i x c mi y1 y3 hmi
      obtain ⟨vs', hh'⟩ := unhide HDV c y4
      unfold Holds at z1 hh'
      rw [z1] at hh'
      injection hh' with hh'
      injection hh' with hh'
      have := congrArg Array.toList hh'
      simp at this
      exact this.1
    by_cases hz : mc = 0
    · -- a file is there
      obtain ⟨hn, i, x, c, y1, y2, y3, y4, hxf⟩ : (walkOf p.xs s).n ≠ 0 ∧ ∃ (i : Nat) (x : Ino) (c : Nat), p.xs[i]? = some x ∧ x.id = (walkOf p.xs s).n ∧ NB[i]? = some c ∧ ff name = some c ∧ x.dir = false := by
        have hm0 := unhide HMC
        rw [hz] at hm0
        rcases unhide HCA with ⟨hn, i, x, c, y1, y2, y3, y4⟩ | ⟨hn, y, _⟩
        · refine ⟨hn, i, x, c, y1, y2, y3, y4, ?_⟩
          rw [hxd i x c y1 y3 y4]
          rw [y4] at hm0
          cases dv with
          | true => exact absurd hm0 (show ¬ (0 : Int) = 11 by decide)
          | false => rfl
        · rw [y] at hm0; exact absurd hm0 (show ¬ (0 : Int) = 9 by decide)
      subst hz
      rw [show rvOf 0 = .nilIface from rfl]
      have hil := (List.getElem?_eq_some_iff.1 y1).1
      obtain ⟨fc, hfc⟩ : ∃ fc, p.cs[i]? = some fc := ⟨_, List.getElem?_eq_getElem (by rw [(unhide HI).len]; exact hil)⟩
      have hfo : p.fileOf s = fc := by
        unfold PK.fileOf
        rw [← y2, place_idx (unhide HI).incr y1, List.getD_eq_getElem?_getD, show ((i : Int)).toNat = i from rfl, hfc]
        rfl
      obtain ⟨mi, hmi⟩ : ∃ mi, MB[i]? = some mi := ⟨_, List.getElem?_eq_getElem (by rw [(unhide HR3).tree.len.2]; exact hil)⟩
      obtain ⟨v1, mv1, z1, _, z3, _⟩ := (unhide HR3).tree.node i x c mi y1 y3 hmi
      have hcv := (unhide HR3).cont i v1 fc z3 hfc
      obtain ⟨va, vc, hvs⟩ := hcv.len
      rw [hvs] at z1 hcv
      have hdirf : dirOf p.xs (walkOf p.xs s).n = false := by rw [← y2, dirOf_at (unhide HI).incr y1, hxf]
      have hbl := (unhide HDN).1.lt
      have hnm := (unhide HDN).2.2.2.2.1
      have HND := hide (fsNode_any b m k name ff w3 (by unfold maxLen; omega) (((unhide HDN).1.below (unhide HB23) hbl).cell (unhide HDN).2.1) ((unhide HDN).2.2.1.kept (grown_below (unhide HB23)) (by simp)))
      have HFO := hide hfo
      have HZ1 := hide z1
      have HCV := hide hcv
      have HDF := hide (And.intro hn hdirf)
      have HY4 := hide y4
      have HFL := hide (show fc.length ≤ 500000 ∧ IsBytes fc from ⟨by have := used_ge hfc; have := (unhide HNM).2.1; omega, (unhide HNM).1 fc (List.mem_of_getElem? hfc)⟩)
      have c0 : w3.cell? ⟨PB, 0, none⟩ = some (.pointer (some ⟨b, 0, none⟩)) := (unhide HP3).cell rfl
      have c1 : w3.cell? ⟨PB, 1, none⟩ = some (.string name) := (unhide HP3).cell rfl
      clear hil hfc hfo hmi z1 z3 hcv hvs hdirf hbl hnm y1 y2 y3 y4 hxf hn hxd HCA HDV HMC HDN
      go_wp2_with fail
      refine (unhide HND).mono ?_
      rintro e w4 ⟨rfl, hb4⟩
      rw [unhide HY4]
      have hs4 := hb4.size
      have HB4 := hide ((unhide HB3).trans (hb4.mono (unhide HB3).size))
      have HBY := hide (nodeBytes_any c va fc.length vc w4 (((unhide HZ1).below hb4 (unhide HZ1).lt).cell rfl))
      have HLD := hide (load_node w4 ((unhide HCV).block (w' := w4) fun R _ hl _ => hb4.block R hl) (unhide HFL).2 (unhide HFL).1 (fun j v hj => by rw [(unhide HB4).cell (p := ⟨1, 0 + j, none⟩) (unhide HNM).2.2.2.2.2.2]; exact unhide HT j v hj) (by have := (unhide HNM).2.2.2.2.2.2; have := (unhide HB4).size; omega))
      clear hb4 hs4 HND c0 c1 HY4 HZ1 HCV
      unfold nodePtr
      go_wp2_with fail
      refine (unhide HBY).mono ?_
      rintro e w4' ⟨rfl, hw4⟩
      subst hw4
      clear HBY
      go_wp2_with fail
      refine (unhide HLD).mono ?_
      rintro e w5 ⟨hb5, (⟨kk, hbad, rfl⟩ | ⟨hgood, g, gc, rfl, how5⟩)⟩
      · have hcode := hbad.code
        have hk0 : (kk == 0) = false := by simp; omega
        have HP := hide (show KExecPost p s ss pb pid par fds w (errnoRet kk) (w5.alloc (Obj.cells #[.int .u64 0, .slice none 0 0] 185)) from .inl ⟨kk, .inr ⟨unhide HE, .inr ⟨(unhide HDF).1, .inr ⟨(unhide HDF).2, .inl (by rw [unhide HFO]; exact hbad)⟩⟩⟩, rfl, ((unhide HB4).trans (hb5.mono (unhide HB4).size)).alloc (Nat.le_trans (unhide HB4).size hb5.size) _⟩)
        unfold errPlan noPlan
        clear hbad hcode hb5 HLD
        go_wp2
        go_ret
        exact unhide HP
      obtain ⟨W6, hW6⟩ : ∃ W6, W6 = w5.alloc (Obj.cells #[.int .u64 (numAt fc 24 8), .slice (some ⟨g, 0, none⟩) (outPgs fc).length gc] 185) := ⟨_, rfl⟩
      have h6 : Holds W6 w5.heap.size 185 [.int .u64 (numAt fc 24 8), .slice (some ⟨g, 0, none⟩) (outPgs fc).length gc] := by rw [hW6]; exact Holds.new w5 185 _
      have hb6 : Below w5.heap.size w5 W6 := by rw [hW6]; exact (Below.refl _ _).alloc (Nat.le_refl _) _
      have HB6 := hide ((unhide HB4).trans ((hb5.trans (hb6.mono hb5.size)).mono (unhide HB4).size))
      have how6 := own_below how5 (hide hb6)
      have hgl := how5.lt g rfl
      have hnl : (outPgs fc).length ≤ 256 := outPgs_len hgood
      obtain ⟨n0, hn0⟩ : ∃ n0, n0 = (outPgs fc).length := ⟨_, rfl⟩
      obtain ⟨E, hE⟩ : ∃ E, E = numAt fc 24 8 := ⟨_, rfl⟩
      rw [← hn0, ← hE] at hW6 h6
      rw [← hn0] at how6 hnl
      rw [← hn0, ← hE]
      have hgl5 : w4'.heap.size ≤ g ∧ g < w5.heap.size := ⟨hgl.1, hgl.2⟩
      obtain ⟨QB, hQB⟩ : ∃ QB, QB = w5.heap.size := ⟨_, rfl⟩
      have HGL := hide (show w4'.heap.size ≤ g ∧ g < QB ∧ w.heap.size ≤ w4'.heap.size ∧ QB < W6.heap.size from ⟨hgl5.1, by omega, (unhide HB4).size, by rw [hQB]; exact h6.lt⟩)
      have HGD := hide hgood
      have HN0 := hide (And.intro hn0 hE)
      have H6 := hide h6
      have HOW6 := hide how6
      have HW6 := hide hW6
      clear hgood how5 hb5 hb6 how6 hgl hgl5 hn0 hE h6 hW6 HLD
      go_upto_region 10 with fail
      rw [← unhide HW6]
      rw [← hQB] at H6 ⊢
      clear hQB HW6
      have hac : ∀ j, j < ss.length → W6.cell? ⟨q, so + j, none⟩ = some (.string (ss.getD j ByteArray.empty)) := fun j hj => by rw [(unhide HB6).cell (p := ⟨q, so + j, none⟩) (unhide HNM).2.2.2.2.2.1]; exact (unhide HAR).2 j hj
      by_cases hok : okArgs ss = true
      case neg =>
        have hok' : okArgs ss = false := by simpa using hok
        have HST := hide (stack_exe_bad a q so cap ss W6 (unhide HNM).2.2.2.2.1 (unhide HAR).1 hac hok')
        have HP := hide (show KExecPost p s ss pb pid par fds w (errnoRet 6) W6 from .inl ⟨6, .inr ⟨unhide HE, .inr ⟨(unhide HDF).1, .inr ⟨(unhide HDF).2, .inr ⟨by rw [unhide HFO]; exact unhide HGD, .inl ⟨hok', rfl⟩⟩⟩⟩⟩, rfl, unhide HB6⟩)
        clear hok hok' hac
        go_wp2_with fail
        refine (unhide HST).mono ?_
        rintro e w7 ⟨rfl, hw7⟩
        subst hw7
        go_wp2
        go_ret
        exact unhide HP
      have HST := hide (stack_exe a q so cap ss W6 (unhide HNM).2.2.2.2.1 (unhide HAR).1 (by have := (unhide HNM).2.2.2.2.2.1; have := (unhide HB6).size; omega) hac hok)
      have HOK := hide hok
      clear hok hac
      go_wp2_with fail
      refine (unhide HST).mono ?_
      rintro e w7 ⟨g5, rfl, hst7, hg5, hb7⟩
      have hs7 := hb7.size
      have HB7 := hide ((unhide HB6).trans (hb7.mono (unhide HB6).size))
      have h67 := (unhide H6).below hb7 (unhide H6).lt
      have d0 : w7.cell? ⟨QB, 0, none⟩ = some (.int .u64 E) := h67.cell rfl
      have d1 : w7.cell? ⟨QB, 1, none⟩ = some (.slice (some ⟨g, 0, none⟩) n0 gc) := h67.cell rfl
      have HOW7 := hide (own_below (unhide HOW6) (hide hb7))
      obtain ⟨ip, hip, hpz0, hpz1, hpz2⟩ := info_parts apiInfo
      have HIP := hide (And.intro hip (And.intro hpz0 (And.intro hpz1 hpz2)))
      have hRl := stackRoom_length (unhide HOK)
      have hSl : (pagesTo (stackRoom ss) 2).length = 2 * 258 := pagesTo_length _ hRl 2
      have hS1 : ∀ u ∈ pagesTo (stackRoom ss) 2, u.oneCell' = true := by rw [two_row]; exact apiRow_one _
      obtain ⟨SR, hSR⟩ : ∃ SR, SR = pagesTo (stackRoom ss) 2 := ⟨_, rfl⟩
      rw [← hSR] at hSl hS1 hst7
      have HSR := hide (And.intro hSR hRl)
      have HSL := hide (And.intro hSl hS1)
      have HNW := hide (holds_news (hide hst7))
      have hbase7 : w4'.heap.size ≤ w7.heap.size := by have := unhide HGL; omega
      have HS7 := hide (show w.heap.size ≤ w7.heap.size ∧ QB < w7.heap.size from ⟨(unhide HB7).size, h67.lt⟩)
      clear hst7 hip hpz0 hpz1 hpz2 hRl hSl hS1 hSR h67 hb7 hg5 HST HOW6 H6 hs7
      go_upto_region 14 with (at_builtin; refine wpList_append_lies _ (by rfl) _ _ 76 (by rfl) w4'.heap.size 87 ip _ 258 272 Tryz.underlying76 (unhide HIP).1 (unhide HIP).2.1 (unhide HIP).2.2.1 (unhide HIP).2.2.2 (by show zeroRow.toArray.size = 258; simp [zeroRow_length]) (by decide) _ n0 _ (by rfl) (unhide HOW7) ⟨g5, 0, none⟩ 2 2 SR (by rfl) (unhide HSL).1 (unhide HNW) (unhide HSL).2 (by omega) (by unfold maxLen; omega) (by omega) hbase7 w7.heap.size (by rfl) ?_; intro g8 c8 w8 hown8 hgrow8 hat8 hlt8)
      have hgrow8 : w7.grownBy w8 (some g) := hgrow8
      have hgg := unhide HGL
      have hb8 : Below w.heap.size w w8 := (unhide HB7).trans (below_grown hgrow8 (by omega) (unhide HS7).1)
      have d08 : w8.cell? ⟨QB, 0, none⟩ = some (.int .u64 E) := hgrow8.cell d0 (by simp; omega)
      obtain ⟨PS, hPS⟩ : ∃ PS, PS = outPgs fc ++ twoPgs (stackRoom ss) := ⟨_, rfl⟩
      have hPok : PgsOk PS := by rw [hPS]; exact all_pok (unhide HGD) _ (unhide HSR).2
      have hPl : PS.length = n0 + 2 := by rw [hPS, List.length_append, ← (unhide HN0).1]; rfl
      have hPn := pgs_len hPok
      obtain ⟨NN, hNN⟩ : ∃ NN, NN = n0 + 2 := ⟨_, rfl⟩
      have hap : ApiAt w8 g8 PS := by
        refine api_at (base := w4'.heap.size) (gc := c8) (fun q hq => (hPok.each q hq).2.2.2.2) ?_
        rw [hPl, show apiRow PS = apiRow (outPgs fc) ++ SR by rw [hPS, apiRow_append, (unhide HSR).1, two_row]]
        exact hown8
      have hNN0 : (0 : Int) ≤ (NN : Int) ∧ (NN : Int) ≤ 256 := by omega
      rw [← hNN]
      have hPl : PS.length = NN := by omega
      obtain ⟨LF, hLF⟩ : ∃ LF, LF = p.lf := ⟨_, rfl⟩
      have hlf := (unhide HNM).2.2.2.1
      rw [← hLF] at hlf
      have hKm : ∀ ww, Below w8.heap.size w8 ww → Below w.heap.size w ww := fun ww h => hb8.trans (h.mono hb8.size)
      have HKM := hide hKm
      have HFR := hide (show ∀ ww, Below w8.heap.size w8 ww → Calls Tryz.prog 70 #[.pointer (some ⟨kb, 0, none⟩)] ww fun e w' => e = .returned (.int .i64 LF) ∧ Below ww.heap.size ww w' from fun ww hh => by
        have hw := hKm ww hh
        refine (freeFrames_any kb pm pb p.lp p.lf p.lo p.li p.lb tb cb [] ww ((unhide HK).below hw (unhide HK).lt) ((unhide HM).kept (grown_below hw) (by simp)) (by have := (unhide HPR).lt; have := hw.size; omega) (perms_none zero16_length ((unhide HPR).below hw (unhide HPR).lt)) noPgs (by simp) (by rw [← hLF]; exact hlf)).mono ?_
        rintro e w' ⟨rfl, h⟩
        exact ⟨by rw [← hLF]; simp, h⟩)
      have HCT := hide (show ∀ ww, Below w8.heap.size w8 ww → Calls Tryz.prog 71 #[.pointer (some ⟨pb, 17, none⟩)] ww fun e w' => e = .returned (.int .i64 0) ∧ Below ww.heap.size ww w' from fun ww hh => by
        have hw := hKm ww hh
        refine (count_any pb 17 [] ww noPgs (perms_none zero16_length ((unhide HPR).below hw (unhide HPR).lt))).mono ?_
        rintro e w' ⟨rfl, h⟩
        subst h
        exact ⟨rfl, Below.refl _ _⟩)
      obtain ⟨qb, hqb⟩ : ∃ qb : Bool, qb = decide (LF < (NN : Int)) := ⟨_, rfl⟩
      have R9 := hide (show ∀ w' : World, ((do eqGuard .add 3 (.tmp 63) (.tmp 68) (.int .i64 LF) (.int .i64 0); binOp .add 3 (.int .i64 LF) (.int .i64 0) : Sem Value)).run Tryz.prog w' = .ok (.int .i64 LF) w' from fun w' => by
        have h1 := hlf.1
        have h2 := hlf.2
        clear hKm hap hPok hb8 d08 hgrow8 hown8 hat8 d0 d1
        go_simp
        try (rw [IntKind.wrap_i64]; omega))
      have R10 := hide (show ∀ w' : World, ((do eqGuard .gtr 3 (.tmp 61) (.tmp 69) (.int .i64 (NN : Int)) (.int .i64 LF); binOp .gtr 3 (.int .i64 (NN : Int)) (.int .i64 LF) : Sem Value)).run Tryz.prog w' = .ok (.bool qb) w' from fun w' => by
        rw [hqb]
        clear hKm hap hPok hb8 d08 hgrow8 hown8 hat8 d0 d1 hqb
        go_simp)
      have HQB := hide hqb
      have HLF := hide (And.intro hLF hlf)
      have HAP := hide (show ApiAt w8 g8 PS ∧ g8 < w8.heap.size from ⟨hap, hlt8⟩)
      have HPS := hide (show PS = outPgs fc ++ twoPgs (stackRoom ss) ∧ PgsOk PS ∧ PS.length = NN ∧ NN = n0 + 2 from ⟨hPS, hPok, hPl, hNN⟩)
      have HB8 := hide hb8
      have HD08 := hide d08
      have HQL := hide (show QB < w8.heap.size from by have := (unhide HS7).2; have := hgrow8.size; omega)
      have hbd : Below w8.heap.size w8 w8.drew := ⟨rfl, rfl, rfl, Nat.le_refl _, fun _ _ => rfl⟩
      have HBD := hide hbd
      clear hgg hb8 d08 hPS hPok hPl hPn hap hNN hNN0 hLF hlf hKm hqb hbd hown8 hgrow8 hat8 hlt8 d0 d1 HOW7 HIP HNW HSL hbase7
      refine act_gen ?_
      intro A hA
      have e0 : A.eval (.tmp 0) = .pointer (some ⟨kb, 0, none⟩) := by rw [hA]; rfl
      have e1 : A.eval (.tmp 1) = .pointer (some ⟨pb, 0, none⟩) := by rw [hA]; rfl
      have e15 : A.eval (.tmp 15) = .slice (some ⟨g8, 0, none⟩) NN c8 := by rw [hA]; rfl
      have esz : A.tmps.size = 86 := by rw [hA]; rfl
      have HA14 := hide hA
      clear hA
      refine wp_region_held_drew (S := fun _ => True) (by kernel_rfl) trivial (fun hS => ?_)
      refine takeH (i := 0) (some 60) rfl rfl (by kernel_rfl) (by kernel_rfl) (by kernel_rfl) (fun _ _ _ h => h) (yields_move rfl _ rfl (.slice (some ⟨g8, 0, none⟩) NN c8) (by simp [put_eval, put_size, esz, e0, e1, e15])) hS ?_
      refine takeH (i := 1) (some 61) rfl rfl (by kernel_rfl) (by kernel_rfl) (by kernel_rfl) (fun _ _ _ h => h) (yields_len rfl _ _ rfl (.slice (some ⟨g8, 0, none⟩) NN c8) (by simp [put_eval, put_size, esz, e0, e1, e15]) (.int .i64 (NN : Int)) (fun w' _ => by go_simp)) hS ?_
      refine takeH (i := 2) (some 62) rfl rfl (by kernel_rfl) (by kernel_rfl) (by kernel_rfl) (fun _ _ _ h => h) (yields_move rfl _ rfl (.pointer (some ⟨kb, 0, none⟩)) (by simp [put_eval, put_size, esz, e0, e1, e15])) hS ?_
      refine takeH (i := 4) (some 64) rfl rfl (by kernel_rfl) (by kernel_rfl) (by kernel_rfl) (fun _ _ _ h => h) (yields_move rfl _ rfl (.pointer (some ⟨pb, 0, none⟩)) (by simp [put_eval, put_size, esz, e0, e1, e15])) hS ?_
      refine takeH (i := 5) (some 65) rfl rfl (by kernel_rfl) (by kernel_rfl) (by kernel_rfl) (fun _ _ _ h => h) (yields_nil rfl _ rfl ⟨pb, 0, none⟩ (by simp [put_eval, put_size, esz, e0, e1, e15])) hS ?_
      refine takeH (i := 6) (some 66) rfl rfl (by kernel_rfl) (by kernel_rfl) (by kernel_rfl) (fun _ _ _ h => h) (yields_field rfl _ _ _ rfl (.pointer (some ⟨pb, 0, none⟩)) (by simp [put_eval, put_size, esz, e0, e1, e15]) (.pointer (some ⟨pb, 0, none⟩)) (fun w' => by go_simp)) hS ?_
      refine takeH (i := 7) (some 67) rfl rfl (by kernel_rfl) (by kernel_rfl) (by kernel_rfl) (fun _ _ _ h => h) (yields_field rfl _ _ _ rfl (.pointer (some ⟨pb, 0, none⟩)) (by simp [put_eval, put_size, esz, e0, e1, e15]) (.pointer (some ⟨pb, 17, none⟩)) (fun w' => by go_simp)) hS ?_
      refine wpAnyH_ready (rs := [3]) (by kernel_rfl) (by simp) (AllReadyH.cons rfl (fun K hK => ?_) AllReadyH.nil)
      refine step_call1' rfl 70 62 _ rfl (.pointer (some ⟨kb, 0, none⟩)) (by simp [put_eval, put_size, esz, e0, e1, e15]) freeEnter _ (.int .i64 LF) (fun e w' h => h.1) (unhide HFR _ (unhide HBD)) (some 63) rfl ?_
      rintro w9 ⟨_, hb9⟩
      have hb9 : Below w8.heap.size w8 w9 := ⟨hb9.os, hb9.tape, hb9.output, hb9.size, hb9.block⟩
      refine hK.out _ _ trivial (fun hS9 => ?_)
      clear hK K
      refine wpAnyH_ready (rs := [8]) (by kernel_rfl) (by simp) (AllReadyH.cons rfl (fun K hK => ?_) AllReadyH.nil)
      refine step_call1' rfl 71 67 _ rfl (.pointer (some ⟨pb, 17, none⟩)) (by simp [put_eval, put_size, esz, e0, e1, e15]) countEnter _ (.int .i64 0) (fun e w' h => h.1) (unhide HCT _ hb9) (some 68) rfl ?_
      rintro w10 ⟨_, hb10⟩
      refine hK.out _ _ trivial (fun hS10 => ?_)
      clear hK K
      have HB10 := hide (hb9.trans (hb10.mono hb9.size))
      refine takeH (i := 9) (some 69) rfl rfl (by kernel_rfl) (by kernel_rfl) (by kernel_rfl) (fun _ _ _ h => h) (yields_bin rfl .add 3 _ (.tmp 63) (.tmp 68) rfl (.int .i64 LF) (.int .i64 0) (by simp [put_eval, put_size, esz, e0]) (by simp [put_eval, put_size, esz, e0]) (.int .i64 LF) (unhide R9)) hS10 ?_
      refine takeH (i := 10) (some 70) rfl rfl (by kernel_rfl) (by kernel_rfl) (by kernel_rfl) (fun _ _ _ h => h) (yields_bin rfl .gtr 3 _ (.tmp 61) (.tmp 69) rfl (.int .i64 (NN : Int)) (.int .i64 LF) (by simp [put_eval, put_size, esz, e0]) (by simp [put_eval, put_size, esz, e0]) (.bool qb) (unhide R10)) hS10 ?_
      refine wpAnyH_done (by kernel_rfl) ?_ _
      rw [unhide HA14]
      simp only [Act.put, List.setIfInBounds_toArray, List.set_cons_zero, List.set_cons_succ]
      have HB10' := hide ((unhide HKM) w10 (unhide HB10))
      have hb10 := unhide HB10
      have d010 : w10.cell? ⟨QB, 0, none⟩ = some (.int .u64 E) := by rw [hb10.cell (p := ⟨QB, 0, none⟩) (unhide HQL)]; exact unhide HD08
      have HD10 := hide d010
      have HAP10 := hide (show ApiAt w10 g8 PS ∧ g8 < w10.heap.size from ⟨(unhide HAP).1.below hb10 (fun _ => (unhide HAP).2), by have := (unhide HAP).2; have := hb10.size; omega⟩)
      have HQL10 := hide (show QB < w10.heap.size from by have := unhide HQL; have := hb10.size; omega)
      clear hb9 hb10 hS hS9 hS10 d010 HA14 e0 e1 e15 esz R9 R10 HFR HCT HBD HB10 HAP HQL HD08 HB8
      cases qb with
      | true =>
        have HP := hide (show KExecPost p s ss pb pid par fds w (errnoRet 7) w10 from .inl ⟨7, .inr ⟨unhide HE, .inr ⟨(unhide HDF).1, .inr ⟨(unhide HDF).2, .inr ⟨by rw [unhide HFO]; exact unhide HGD, .inr ⟨unhide HOK, by
          have h := of_decide_eq_true (unhide HQB).symm
          rw [unhide HFO, ← (unhide HN0).1, ← (unhide HLF).1]
          have := (unhide HPS).2.2.2
          simp
          omega, rfl⟩⟩⟩⟩⟩, rfl, unhide HB10'⟩)
        go_wp2
        go_ret
        exact unhide HP
      | false =>
        have HEO := hide (show p.ExecOk [0] 0 s ss from ⟨unhide HE, (unhide HDF).1, (unhide HDF).2, by rw [unhide HFO]; exact unhide HGD, unhide HOK, by
          have h := of_decide_eq_false (unhide HQB).symm
          rw [unhide HFO, ← (unhide HN0).1, ← (unhide HLF).1]
          have := (unhide HPS).2.2.2
          simp
          omega⟩)
        obtain ⟨SP, hSP⟩ : ∃ SP, SP = spaceRow PS := ⟨_, rfl⟩
        have hSl : SP.length = 65792 := by rw [hSP]; exact spaceRow_length (fun q hq => ((unhide HPS).2.1.each q hq).2.2.2.2)
        have hS1 : ∀ v ∈ SP, v.oneCell' = true := by rw [hSP]; exact spaceRow_one PS
        have HNS := hide (show Calls Tryz.prog 72 #[.slice (some ⟨g8, 0, none⟩) NN c8] w10.drew fun e w' => e = .returned (.agg SP.toArray) ∧ Below w10.heap.size w10 w' from by
          have hn := newSpace_any (some ⟨g8, 0, none⟩) g8 c8 PS w10.drew (unhide HPS).2.1 (fun _ => ⟨rfl, (unhide HAP10).2⟩) (fun i q hq => (unhide HAP10).1 i q hq) (by have := pgs_len (unhide HPS).2.1; exact this)
          rw [(unhide HPS).2.2.1] at hn
          refine hn.mono ?_
          rintro e w' ⟨rfl, h⟩
          exact ⟨by rw [hSP], h.os, h.tape, h.output, h.size, h.block⟩)
        have HSP := hide (And.intro hSP (And.intro hSl hS1))
        have R3 := hide (show ∀ w' : World, w'.cell? ⟨QB, 0, none⟩ = some (.int .u64 E) → (Instr.loadAt 74 (.pointer (some ⟨QB, 0, none⟩))).run Tryz.prog w' = .ok (.int .u64 E) w' from fun w' h' => by
          clear hSP hSl hS1
          go_simp)
        have hcl : (cpuRow E zero16 SP).length = 65809 := cpuRow_length zero16_length hSl
        have hcl0 : (cpuRow 0 zero16 zeroSpace).length = 65809 := cpuRow_length zero16_length zeroSpace_length
        obtain ⟨CR, hCR⟩ : ∃ CR, CR = cpuRow E zero16 SP := ⟨_, rfl⟩
        have RB := hide (cpu_built E SP hSl)
        rw [← hCR] at RB
        obtain ⟨OLD, hOLD⟩ : ∃ OLD, OLD = procRow 0 zero16 zeroSpace pid par 0 0 0 fds := ⟨_, rfl⟩
        have hCRl : CR.length = 65809 := by rw [hCR]; exact hcl
        have hCR1 : ∀ v ∈ CR, v.oneCell' = true := by rw [hCR]; exact cpuRow_one E zero16 hS1
        have hOLl : 65809 ≤ OLD.length := by rw [hOLD]; unfold procRow; rw [List.length_append, hcl0]; omega
        have hspl : splice OLD 0 CR = procRow E zero16 SP pid par 0 0 0 fds := by rw [hOLD, hCR]; exact proc_splice hcl0 hcl
        have HPR' := hide (show Holds w pb 183 OLD from by rw [hOLD]; exact unhide HPR)
        have HCL := hide (show (Tryz.prog.info? 178).map (·.size) = some CR.length ∧ 0 + CR.length ≤ OLD.length ∧ (∀ v ∈ CR, v.oneCell' = true) ∧ splice OLD 0 CR = procRow E zero16 SP pid par 0 0 0 fds from ⟨by rw [cpuSize, hCRl], by rw [hCRl]; omega, hCR1, hspl⟩)
        clear hSP hSl hS1 hcl hcl0 hCR hOLD hCRl hCR1 hOLl hspl
        go_upto_region 16 with fail
        refine act_gen ?_
        intro A hA
        have e1 : A.eval (.tmp 1) = .pointer (some ⟨pb, 0, none⟩) := by rw [hA]; rfl
        have e12 : A.eval (.tmp 12) = .pointer (some ⟨QB, 0, none⟩) := by rw [hA]; rfl
        have e15 : A.eval (.tmp 15) = .slice (some ⟨g8, 0, none⟩) NN c8 := by rw [hA]; rfl
        have esz : A.tmps.size = 86 := by rw [hA]; rfl
        have HA16 := hide hA
        clear hA
        refine wp_region_held_drew (S := fun w' => w'.cell? ⟨QB, 0, none⟩ = some (.int .u64 E)) (by kernel_rfl) (unhide HD10) (fun hS => ?_)
        refine takeH (i := 0) (some 72) rfl rfl (by kernel_rfl) (by kernel_rfl) (by kernel_rfl) (fun _ _ _ h => h) (yields_move rfl _ rfl (.pointer (some ⟨pb, 0, none⟩)) (by simp [put_eval, put_size, esz, e1, e12, e15])) hS ?_
        refine takeH (i := 1) (some 73) rfl rfl (by kernel_rfl) (by kernel_rfl) (by kernel_rfl) (fun _ _ _ h => h) (yields_field rfl _ _ _ rfl (.pointer (some ⟨QB, 0, none⟩)) (by simp [put_eval, put_size, esz, e1, e12, e15]) (.pointer (some ⟨QB, 0, none⟩)) (fun w' => by go_simp)) hS ?_
        refine takeH (i := 2) (some 74) rfl rfl (by kernel_rfl) (by kernel_rfl) (by kernel_rfl) (fun _ _ _ h => h) (yields_load1 rfl _ _ rfl ⟨QB, 0, none⟩ (by simp [put_eval, put_size, esz, e1, e12, e15]) (.int .u64 E) (unhide R3)) hS ?_
        refine takeH (i := 3) (some 75) rfl rfl (by kernel_rfl) (by kernel_rfl) (by kernel_rfl) (fun _ _ _ h => h) (yields_move rfl _ rfl (.slice (some ⟨g8, 0, none⟩) NN c8) (by simp [put_eval, put_size, esz, e1, e12, e15])) hS ?_
        refine wpAnyH_ready (rs := [4]) (by kernel_rfl) (by simp) (AllReadyH.cons rfl (fun K hK => ?_) AllReadyH.nil)
        refine step_call1' rfl 72 75 _ rfl (.slice (some ⟨g8, 0, none⟩) NN c8) (by simp [put_eval, put_size, esz, e1, e12, e15]) newSpaceEnter _ (.agg SP.toArray) (fun e w' h => h.1) (unhide HNS) (some 76) rfl ?_
        rintro w11 ⟨_, hb11⟩
        have hS11 : w11.cell? ⟨QB, 0, none⟩ = some (.int .u64 E) := by rw [hb11.cell (p := ⟨QB, 0, none⟩) (unhide HQL10)]; exact unhide HD10
        refine hK.out _ _ hS11 (fun hS2 => ?_)
        clear hK K
        have hb11w := (unhide HB10').trans (hb11.mono (unhide HB10').size)
        have hp11 := (unhide HPR').below hb11w (unhide HPR').lt
        have hpl : pb < w.heap.size := (unhide HPR').lt
        have hkeep : ∀ w12, Hid (w11.grownBy w12 (some pb)) → w12.cell? ⟨QB, 0, none⟩ = some (.int .u64 E) := fun w12 g => (unhide g).cell hS11 (by simp; have := unhide HGL; omega)
        refine takeH (i := 5) (some 77) rfl rfl (by kernel_rfl) (by kernel_rfl) (by kernel_rfl) (fun _ _ _ h => h) (yields_build rfl _ _ rfl #[(0, .int .u64 E), (2, .agg SP.toArray)] (by simp [put_eval, put_size, esz]) (.agg CR.toArray) (unhide RB)) hS2 ?_
        refine takeH (i := 6) (some 78) rfl rfl (by kernel_rfl) (by kernel_rfl) (by kernel_rfl) (fun _ _ _ h => h) (yields_nil rfl _ rfl ⟨pb, 0, none⟩ (by simp [put_eval, put_size, esz, e1, e12, e15])) hS2 ?_
        refine takeH (i := 7) (some 79) rfl rfl (by kernel_rfl) (by kernel_rfl) (by kernel_rfl) (fun _ _ _ h => h) (yields_field rfl _ _ _ rfl (.pointer (some ⟨pb, 0, none⟩)) (by simp [put_eval, put_size, esz, e1, e12, e15]) (.pointer (some ⟨pb, 0, none⟩)) (fun w' => by go_simp)) hS2 ?_
        refine wpAnyH_ready (rs := [8]) (by kernel_rfl) (by simp) (ready_store_part rfl rfl 178 (.tmp 79) (.tmp 77) rfl pb 0 CR (by simp [put_eval, put_size, esz]) (by simp [put_eval, put_size, esz]) 183 OLD hp11 (unhide HCL).1 (unhide HCL).2.1 (unhide HCL).2.2.1 rfl (fun w12 H12 G12 => ⟨hkeep w12 G12, fun hS12 => ?_⟩) AllReadyH.nil)
        refine wpAnyH_done (by kernel_rfl) ?_ _
        rw [unhide HA16]
        simp only [Act.put, List.setIfInBounds_toArray, List.set_cons_zero, List.set_cons_succ]
        have h12 := unhide H12
        rw [(unhide HCL).2.2.2] at h12
        have hcl16 : (procRow E zero16 SP pid par 0 0 0 fds)[16]? = some (.int .u64 0) := by
          have h := cpuRow_length (E := E) zero16_length (unhide HSP).2.1
          unfold procRow
          rw [List.getElem?_append_left (by rw [h]; omega)]
          unfold cpuRow zero16
          rw [List.getElem?_append_left (by simp)]
          rfl
        have k16 : w12.cell? ⟨pb, 16, none⟩ = some (.int .u64 0) := h12.cell hcl16
        have f16 := h12.frozen 16
        have hset := h12.set 16 (.int .u64 (65024 + (spOff ss : Int)))
        rw [proc_reg zero16_length, zero16_set] at hset
        have HFN := hide (show KExecPost p s ss pb pid par fds w (.returned .nilIface) (w12.setCell ⟨pb, 16, none⟩ (.int .u64 (65024 + (spOff ss : Int)))) from .inr ⟨unhide HEO, rfl, by
          have g := unhide G12
          have hs11 := hb11w.size
          have q : w12.grownBy (w12.setCell ⟨pb, 16, none⟩ (.int .u64 (65024 + (spOff ss : Int)))) (some pb) := grown_set ⟨rfl, rfl, rfl, Nat.le_refl _, fun _ _ _ => rfl⟩ 16 _
          refine ⟨g.os.trans hb11w.os, g.tape.trans hb11w.tape, g.output.trans hb11w.output, Nat.le_trans hs11 (Nat.le_trans g.size q.size), fun k hk hn => ?_⟩
          have hkp : some k ≠ some pb := by simpa using hn
          exact (q.block k (by have := g.size; omega) hkp).trans ((g.block k (by omega) hkp).trans (hb11w.block k hk)), by
          rw [unhide HFO, ← (unhide HN0).2, ← (unhide HPS).1, ← (unhide HSP).1]
          exact hset⟩)
        clear hS hS2 hS11 hS12 hb11 hb11w hp11 hset h12 H12 G12 hcl16 HA16 e1 e12 e15 esz HNS RB R3 hpl hkeep HCL
        go_wp2
        go_ret
        exact unhide HFN
    · have HP := hide (show KExecPost p s ss pb pid par fds w (errnoRet mc) w3 from by
        refine .inl ⟨mc, .inr ⟨unhide HE, ?_⟩, rfl, unhide HB3⟩
        have hm0 := unhide HMC
        rcases unhide HCA with ⟨hn, i, x, c, y1, y2, y3, y4⟩ | ⟨hn, y, _⟩
        · rw [y4] at hm0
          have hd := hxd i x c y1 y3 y4
          cases dv with
          | true => exact .inr ⟨hn, .inl ⟨by rw [← y2, dirOf_at (unhide HI).incr y1, hd], hm0⟩⟩
          | false => exact absurd hm0 hz
        · rw [y] at hm0
          exact .inl ⟨hn, hm0⟩)
      rw [show rvOf mc = .iface 45 (.int .i64 mc) from by unfold rvOf; rw [if_neg hz]]
      clear hxd hz
      go_wp2
      go_ret
      exact unhide HP
end Go.Proofs.YtkmbleboceedbaaGreatDoor
