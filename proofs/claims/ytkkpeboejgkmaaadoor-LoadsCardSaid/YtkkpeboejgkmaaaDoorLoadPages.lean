/- exe.segment.pages. -/
import Derived.Test.YtkkpeboejgkmaaaDoorLoadPure
import Derived.Test.YtkkpeboejgkmaaaDoorLoadRoomy
import Derived.Laws.MakeOwn
namespace Go.Proofs.YtkkpeboejgkmaaaDoor
open Go.RowKit
set_option linter.unusedVariables false
set_option linter.unusedSimpArgs false

theorem rep_get {α : Type} (Z : List α) : ∀ (n t : Nat), t < n * Z.length → (List.replicate n Z).flatten[t]? = Z[t % Z.length]?
  | 0, t, h => by simp at h
  | n + 1, t, h => by
    rw [List.replicate_succ, List.flatten_cons]
    by_cases h1 : t < Z.length
    · rw [List.getElem?_append_left h1, Nat.mod_eq_of_lt h1]
    · rw [List.getElem?_append_right (by omega), rep_get Z n (t - Z.length) (by rw [Nat.add_mul] at h; omega), ← Nat.mod_eq_sub_mod (by omega)]
set_option maxRecDepth 100000 in
theorem apiInfo : (Tryd.prog.info? 80).map (fun i => (i.zero, i.size, i.bytes)) = some (some (.agg zeroRow.toArray), 258, 272) := by kernel_rfl
theorem made_rep (Z : List Value) (m n : Nat) (hZ : Z.length = m) (hm : 0 < m) : madeCells Z.toArray (n * m) = (List.replicate n Z).flatten.toArray := by
  have hfl : (List.replicate n Z).flatten.length = n * m := by simp [hZ]
  apply Array.ext
  · rw [size_madeCells]; simp only [List.size_toArray]; rw [hfl]
  · intro i h1 h2
    rw [size_madeCells] at h1
    have hmi : i % m < Z.length := by rw [hZ]; exact Nat.mod_lt _ hm
    have h := rep_get Z n i (by rw [hZ]; exact h1)
    rw [hZ, List.getElem?_eq_getElem hmi] at h
    have h2' : i < (List.replicate n Z).flatten.length := by rw [hfl]; exact h1
    rw [List.getElem?_eq_getElem h2'] at h
    have h3 := Option.some.inj h
    simp only [madeCells, Array.getElem_map, Array.getElem_range, List.size_toArray, hZ, List.getElem_toArray, h3]
    rw [getElem!_pos Z.toArray (i % m) (by simpa using hmi)]
    rfl
theorem made_api (n : Nat) : madeCells zeroRow.toArray (n * 258) = (List.replicate n zeroRow).flatten.toArray := made_rep zeroRow 258 n zeroRow_length (by omega)
theorem makeApi (w : World) (n : Nat) (h : n ≤ 100000) : (Instr.makeSlice 43 (.int .i64 n) (.int .i64 n)).run Tryd.prog w = .ok (.slice (some ⟨w.heap.size, 0, none⟩) n n) (w.alloc (.cells (List.replicate n zeroRow).flatten.toArray 80)) := by
  obtain ⟨i, hi, hzz⟩ := Option.map_eq_some_iff.1 apiInfo
  simp only [Prod.mk.injEq] at hzz
  obtain ⟨hz, hs, hb⟩ := hzz
  have hr := run_make (P := Tryd.prog) w 43 80 i _ Tryd.underlying43 hi hz .i64 .i64 n n (by omega) (Int.le_refl _) (by rw [hb]; omega) (by omega)
  rw [hs, Int.toNat_natCast, show (Value.agg zeroRow.toArray).cells = zeroRow.toArray from rfl, made_api] at hr
  exact hr

/-- What is asked of a segment. -/
structure SegFit (B : List Int) (s : Seg) : Prop where
  addr0 : 0 ≤ s.addr
  offs0 : 0 ≤ s.offs
  file0 : 0 ≤ s.inFile
  mem1 : 1 ≤ s.mem
  file : s.inFile ≤ s.mem
  fits : s.offs + s.inFile ≤ (B.length : Int)
  top : s.addr + s.mem ≤ 65024
/-- How many pages a segment has. -/
def Seg.count (s : Seg) : Nat := (s.last - s.first + 1).toNat

theorem chunk_src {w : World} {b off : Nat} {B : List Int} {s : Seg} (hv : BView w b off B) (hf : SegFit B s) (k : Nat) : ∀ j v, (bytesRow (chunk B s k))[j]? = some v → w.cell? ⟨b, off + s.offs.toNat + eaten s k + j, none⟩ = some v := by
  intro j v hj
  have hl := (List.getElem?_eq_some_iff.1 hj).1
  rw [bytesRow_length] at hl
  rw [bytesRow_get _ _ hl] at hj
  have hl2 := hl
  rw [chunk_length] at hl2
  have hm := min_or (s.inFile.toNat - eaten s k) (256 - startAt s k)
  have he := eaten_le s k
  obtain ⟨_, h2, h3, _, _, h6, _⟩ := hf
  have := hv (s.offs.toNat + eaten s k + j) (by omega)
  rw [show off + (s.offs.toNat + eaten s k + j) = off + s.offs.toNat + eaten s k + j from by omega] at this
  rw [this, ← hj]
  have hc : (chunk B s k)[j]? = some (B.getD (s.offs.toNat + eaten s k + j) 0) := by rw [chunk, List.getElem?_map, List.getElem?_range hl2]; rfl
  simp only [List.getD, hc, Option.getD_some]

set_option maxRecDepth 100000 in
set_option maxHeartbeats 2000000 in
theorem pages_any (b off cap : Nat) (B : List Int) (s : Seg) (w : World) (hf : SegFit B s) (hcap : B.length ≤ cap) (hlen : B.length ≤ 500000) (hv : BView w b off B) (hbw : b < w.heap.size) :
    Calls Tryd.prog 46 #[segVal b off cap s] w fun e w' => e = .returned (.slice (some ⟨w.heap.size + 1, 0, none⟩) s.count s.count) ∧ Holds w' (w.heap.size + 1) 80 (apiRow (segPgs B s s.count)) ∧ Below w.heap.size w w' := by
  have HF := hide hf
  have HV := hide hv
  obtain ⟨a0, o0, i0, m1, hfm, hfit, htop⟩ := hf
  obtain ⟨N, hN⟩ : ∃ N, N = s.count := ⟨_, rfl⟩
  rw [← hN]
  have e0 : (s.addr + s.mem - 1) / 256 - s.addr / 256 + 1 = (N : Int) := by rw [hN, Seg.count, Seg.last, Seg.first]; omega
  have hN1 : N ≤ 255 := by omega
  have e5 : s.addr % 256 = ((startAt s 0 : Nat) : Int) := by show _ = ((s.addr.toNat % 256 : Nat) : Int); omega
  have hmk := fun w => makeApi w N (by omega)
  have hfz : s.addr / 256 = ((s.addr.toNat / 256 : Nat) : Int) := by omega
  have HFZ := hide hfz
  have HN := hide hN
  have hcells : segCells b off cap s = [.int .u8 s.perm, .int .u64 s.addr, .slice (some ⟨b, segPtr off cap s, none⟩) s.inFile.toNat (cap - s.offs.toNat), .int .i64 (s.addr / 256), .int .i64 ((s.addr + s.mem - 1) / 256)] := rfl
  have HCE := hide hcells
  have HNum := hide (And.intro hcap (And.intro hlen (And.intro hfit (And.intro o0 (And.intro i0 (And.intro htop (And.intro a0 m1)))))))
  unfold segVal
  clear hv hN hfz hcells a0 o0 i0 m1 hfm hfit htop hcap hlen
  generalize s.addr / 256 = F1 at *
  generalize (s.addr + s.mem - 1) / 256 = L1 at *
  have y1 : (L1 - F1 + 1 : Int) = (N : Int) := e0
  have hN2 : (N : Int) ≤ 255 := by omega
  have y2 : L1 - F1 = (N : Int) - 1 := by omega
  have y3 : (N : Int) - 1 + 1 = (N : Int) := by omega
  clear e0
  go_enter Tryd.func46, Tryd.ntmps46
  go_wp2
  go_loopw [4, 5, 22] (fun rest at_ i wr => ∃ k : Nat, k ≤ N ∧ i = .int .i64 k ∧ at_ = .int .u64 (startAt s k : Nat) ∧ (∃ X : Nat, rest = .slice (some ⟨b, X, none⟩) (s.inFile.toNat - eaten s k) (cap - s.offs.toNat - eaten s k) ∧ (0 < s.inFile.toNat - eaten s k → X = off + s.offs.toNat + eaten s k)) ∧
      Holds wr w.heap.size 106 (segCells b off cap s) ∧ Holds wr (w.heap.size + 1) 80 (pgFill B s N k) ∧ Below w.heap.size w wr) (fun _ _ i _ => N - (intOf i).toNat)
  case atStart =>
    refine ⟨0, by omega, rfl, ?_, ⟨segPtr off cap s, ?_, fun h => ?_⟩, ?_, ?_, ?_⟩
    · rw [Int.tmod_eq_emod_of_nonneg (unhide HNum).2.2.2.2.2.2.1, e5]
    · rfl
    · have hnm := unhide HNum
      unfold segPtr
      rw [if_neg (by have : eaten s 0 = 0 := rfl; omega)]
      rfl
    · rw [unhide HCE]; exact (Holds.new _ _ _).alloc _
    · rw [pgFill_none]
      have := Holds.new (w.alloc (.cells (segCells b off cap s).toArray 106)) 80 (List.replicate N zeroRow).flatten
      rw [unhide HCE] at this
      simpa using this
    · exact ((Below.refl _ _).alloc (Nat.le_refl _) _).alloc (by simp) _
  case round =>
    obtain ⟨k, hk, rfl, rfl, ⟨X, rfl, hX⟩, hbox, hpg, hbl⟩ := hrel
    have HX := hide hX
    clear hX
    have HBX := hide hbox
    have HPG := hide hpg
    have HBL := hide hbl
    by_cases hlt : k < N
    · have bx0 : wr.cell? ⟨w.heap.size, 0, none⟩ = some (.int .u8 s.perm) := hbox.cell (by rw [unhide HCE]; rfl)
      have bx3 : wr.cell? ⟨w.heap.size, 3, none⟩ = some (.int .i64 F1) := hbox.cell (by rw [unhide HCE]; rfl)
      have hL := pgFill_length B s N k hk
      have c0 : wr.cell? ⟨w.heap.size + 1, k * 258, none⟩ = some ((pgFill B s N k).getD (k * 258) .nilIface) := hpg.cell (by rw [List.getD, List.getElem?_eq_getElem (by rw [hL]; omega)]; rfl)
      have f0 := hpg.frozen (k * 258)
      obtain ⟨fk, hfk⟩ : ∃ fk : Nat, fk = s.addr.toNat / 256 + k := ⟨_, rfl⟩
      have z1 : F1 + (k : Int) = (fk : Int) := by have := unhide HFZ; omega
      have hfk9 : (fk : Int) ≤ 1000 := by have := unhide HNum; omega
      have hp1 := hpg.set (k * 258) (.int .i64 (fk : Int))
      have c1 : (wr.setCell ⟨w.heap.size + 1, k * 258, none⟩ (.int .i64 (fk : Int))).cell? ⟨w.heap.size + 1, k * 258 + 1, none⟩ = some (((pgFill B s N k).set (k * 258) (.int .i64 (fk : Int))).getD (k * 258 + 1) .nilIface) := hp1.cell (by rw [List.getD, List.getElem?_eq_getElem (by rw [List.length_set, hL]; omega)]; rfl)
      have f1 := hp1.frozen (k * 258 + 1)
      have bx1 : (wr.setCell ⟨w.heap.size + 1, k * 258, none⟩ (.int .i64 (fk : Int))).cell? ⟨w.heap.size, 0, none⟩ = some (.int .u8 s.perm) := (hbox.set_other (c := w.heap.size + 1) (by omega) (k * 258) (.int .i64 (fk : Int))).cell (by rw [unhide HCE]; rfl)
      have hp2 := hp1.set (k * 258 + 1) (.int .u8 s.perm)
      have hbox2 := (hbox.set_other (c := w.heap.size + 1) (by omega) (k * 258) (.int .i64 (fk : Int))).set_other (c := w.heap.size + 1) (by omega) (k * 258 + 1) (.int .u8 s.perm)
      have hbl2 := (hbl.setCell (p := ⟨w.heap.size + 1, k * 258, none⟩) (by show w.heap.size ≤ w.heap.size + 1; omega) (.int .i64 (fk : Int))).setCell (p := ⟨w.heap.size + 1, k * 258 + 1, none⟩) (by show w.heap.size ≤ w.heap.size + 1; omega) (.int .u8 s.perm)
      have HP2 := hide hp2
      have HX2 := hide hbox2
      have HB2 := hide hbl2
      generalize (pgFill B s N k).getD (k * 258) .nilIface = v0 at c0
      generalize ((pgFill B s N k).set (k * 258) (.int .i64 (fk : Int))).getD (k * 258 + 1) .nilIface = v1 at c1
      obtain ⟨S, hS⟩ : ∃ S, S = startAt s k := ⟨_, rfl⟩
      have hS9 := startAt_lt s k
      rw [← hS] at hS9
      obtain ⟨Ea, hEa⟩ : ∃ E, E = eaten s k := ⟨_, rfl⟩
      have hEl := eaten_le s k
      rw [← hS, ← hEa]
      rw [← hEa] at hEl
      have HFK := hide hfk
      have HS := hide hS
      have HEA := hide hEa
      have HL := hide hL
      have hS0 : (0 : Int) ≤ (S : Int) := by omega
      have hS1 : (S : Int) ≤ 256 := by omega
      have hS2 : ¬ 256 = S := by omega
      have hS3 : (S : Int) < 256 := by omega
      have hk0 : (0 : Int) ≤ (k : Int) := by omega
      have hk1 : (k : Int) < (N : Int) := by omega
      obtain ⟨R, hR⟩ : ∃ R, R = s.inFile.toNat - Ea := ⟨_, rfl⟩
      obtain ⟨C, hC⟩ : ∃ C, C = cap - s.offs.toNat - Ea := ⟨_, rfl⟩
      rw [← hR, ← hC]
      obtain ⟨m, hm⟩ : ∃ m, m = (bytesRow (chunk B s k)).length := ⟨_, rfl⟩
      have hm2 : m = Nat.min R (256 - S) := by rw [hm, bytesRow_length, chunk_length, ← hS, ← hEa, ← hR]
      have hmo := min_or R (256 - S)
      have hRC : R ≤ C := by have := unhide HNum; omega
      have hXv : 0 < R → X = off + s.offs.toNat + Ea := by rw [hR, hEa]; exact unhide HX
      have hfit : k * 258 + 2 + S + (bytesRow (chunk B s k)).length ≤ (((pgFill B s N k).set (k * 258) (.int .i64 (fk : Int))).set (k * 258 + 1) (.int .u8 s.perm)).length := by
        rw [List.length_set, List.length_set, hL, ← hm]; omega
      have hsrc : 0 < (bytesRow (chunk B s k)).length → (some ⟨w.heap.size + 1, k * 258 + 2 + S, none⟩ : Option Addr) = some ⟨w.heap.size + 1, k * 258 + 2 + S, none⟩ ∧ ∃ ad, (some ⟨b, X, none⟩ : Option Addr) = some ad ∧ ∀ j v, (bytesRow (chunk B s k))[j]? = some v → ((wr.setCell ⟨w.heap.size + 1, k * 258, none⟩ (.int .i64 (fk : Int))).setCell ⟨w.heap.size + 1, k * 258 + 1, none⟩ (.int .u8 s.perm)).cell? (ad.add j) = some v :=
        fun hpos => ⟨rfl, ⟨b, X, none⟩, rfl, fun j v hj => by
          rw [hXv (by omega), addr_add, hEa]
          exact chunk_src ((unhide HV).below hbl2 hbw) (unhide HF) k j v hj⟩
      have hstep : splice (((pgFill B s N k).set (k * 258) (.int .i64 (fk : Int))).set (k * 258 + 1) (.int .u8 s.perm)) (k * 258 + 2 + S) (bytesRow (chunk B s k)) = pgFill B s N (k + 1) := by
        rw [hfk, hS]; exact pgFill_step B s N k hlt
      have hrest : eaten s (k + 1) = Ea + m := by rw [hm2, hR, hEa, hS]; exact eaten_step s k
      have hcn : (bytesRow (chunk B s k)).length = Nat.min R (256 - S) := by rw [← hm, hm2]
      have hg2 : w.heap.size + 1 < ((wr.setCell ⟨w.heap.size + 1, k * 258, none⟩ (.int .i64 (fk : Int))).setCell ⟨w.heap.size + 1, k * 258 + 1, none⟩ (.int .u8 s.perm)).heap.size := hp2.lt
      have HM := hide hm
      have HSRC := hide hsrc
      have HST := hide hstep
      have HRS := hide hrest
      have HFT := hide hfit
      have HCN := hide hcn
      have HR := hide hR
      have HC := hide hC
      have n1 : (m : Int) ≤ (R : Int) := by omega
      have n2 : (m : Int) ≤ (C : Int) := by omega
      obtain ⟨Y, hY1, hY2⟩ : ∃ Y : Nat, (C = m → Y = X) ∧ (¬ C = m → Y = X + m) := by
        by_cases q : C = m
        · exact ⟨X, fun _ => rfl, fun h => absurd q h⟩
        · exact ⟨X + m, fun h => absurd h q, fun _ => rfl⟩
      have HYV := hide (show 0 < R - m → Y = off + s.offs.toNat + (Ea + m) from fun h => by
        rw [hY2 (by omega), hXv (by omega)]; omega)
      have n4 : (0 : Int) ≤ (m : Int) := by omega
      have n5 : m ≤ R := by omega
      have n6 : m ≤ C := by omega
      have n7 : (R : Int) ≤ (C : Int) := by omega
      have n8 : R ≤ C := by omega
      clear hbox hpg hbl hp1 hp2 hbox2 hbl2 hL hfk hS hEa hm hsrc hstep hrest hfit hcn hR hC hm2 hmo hRC hXv
      have HG2 := hide hg2
      clear hg2
      by_cases n3 : C = m
      all_goals (
        go_wp2_with (
          refine wpList_copy_splice rfl (.tmp 44) (.tmp 45) 40 40 rfl 5 Tryd.underlying40 u8size (some ⟨w.heap.size + 1, k * 258 + 2 + S, none⟩) (some ⟨b, X, none⟩) (256 - S) (256 - S) R C (by rfl) (by rfl) (w.heap.size + 1) (k * 258 + 2 + S) _ 80 (unhide HP2) (bytesRow (chunk B s k)) (unhide HCN) (unhide HSRC) (unhide HFT) (bytesRow_one _) (w.heap.size + 1) _ (Below.refl _ _) (Nat.le_refl _) ?_
          intro w3 H3 hb3
          have hp3 : Holds w3 (w.heap.size + 1) 80 (pgFill B s N (k + 1)) := by rw [← unhide HST]; exact unhide H3
          have hx3 := (unhide HX2).below hb3 (by omega)
          have hbl3 := (unhide HB2).trans (hb3.mono (Nat.le_succ _))
          have HP3 := hide hp3
          have HX3 := hide hx3
          have HB3 := hide hbl3
          clear hp3 hx3 hbl3 hb3 H3
          rw [← unhide HM])
        go_roundw
        case rel =>
          refine ⟨k + 1, by omega, by go_num, rfl, ⟨Y, ?_, ?_⟩, unhide HX3, unhide HP3, unhide HB3⟩
          · rw [unhide HRS, Nat.sub_add_eq, Nat.sub_add_eq, ← unhide HR, ← unhide HC]
            first
              | (rw [hY1 n3]; done)
              | (rw [hY2 n3]; done)
              | (simp [hY1 n3, n3]; done)
              | (simp [hY2 n3, n3]; done)
          · rw [unhide HRS, Nat.sub_add_eq, ← unhide HR]; exact unhide HYV
        case measure => simp [intOf]; omega)
    · have hkn : k = N := by omega
      subst hkn
      clear hbox hpg hbl
      go_wp2
      go_ret
      exact ⟨rfl, by rw [← pgFill_full]; exact unhide HPG, unhide HBL⟩
end Go.Proofs.YtkkpeboejgkmaaaDoor
