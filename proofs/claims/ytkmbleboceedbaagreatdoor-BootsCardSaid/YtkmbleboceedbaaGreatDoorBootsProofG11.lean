import Derived.Test.YtkmbleboceedbaaGreatDoorBootsProofG10
import Derived.Test.YtkmbleboceedbaaGreatDoorBootsProofG05
import Derived.Laws.MakeOwn
import Derived.Laws.BytesArg
/- exe.segment.pages. -/
namespace Go.Proofs.YtkmbleboceedbaaGreatDoor
open Go.RowKit
set_option linter.unusedVariables false
set_option linter.unusedSimpArgs false

theorem rep_get {α : Type} (Z : List α) : ∀ (n t : Nat), t < n * Z.length → (List.replicate n Z).flatten[t]? = Z[t % Z.length]?
  | 0, t, h => by simp at h
  | n + 1, t, h => by
    rw [List.replicate_succ, List.flatten_cons]
    by_cases h1 : t < Z.length
    · rw [List.getElem?_append_left h1, Nat.mod_eq_of_lt h1]
    · rw [List.getElem?_append_right (by omega), rep_get Z n (t - Z.length) (by rw [Nat.add_mul] at h; omega), ← Nat.mod_eq_sub_mod (by omega)]
set_option maxRecDepth 100000 in
theorem apiInfo : (Tryz.prog.info? 87).map (fun i => (i.zero, i.size, i.bytes)) = some (some (.agg zeroRow.toArray), 258, 272) := by kernel_rfl
theorem made_rep (Z : List Value) (m n : Nat) (hZ : Z.length = m) (hm : 0 < m) : madeCells Z.toArray (n * m) = (List.replicate n Z).flatten.toArray := by
  have hfl : (List.replicate n Z).flatten.length = n * m := by simp [hZ]
  apply Array.ext
  · rw [size_madeCells]; simp only [List.size_toArray]; rw [hfl]
  · intro i h1 h2
    rw [size_madeCells] at h1
    have hmi : i % m < Z.length := by rw [hZ]; exact Nat.mod_lt _ hm
    have h := rep_get Z n i (by rw [hZ]; exact h1)
    rw [hZ, List.getElem?_eq_getElem hmi] at h
    have h2' : i < (List.replicate n Z).flatten.length := by rw [hfl]; exact h1
    rw [List.getElem?_eq_getElem h2'] at h
    have h3 := Option.some.inj h
    simp only [madeCells, Array.getElem_map, Array.getElem_range, List.size_toArray, hZ, List.getElem_toArray, h3]
    rw [getElem!_pos Z.toArray (i % m) (by simpa using hmi)]
    rfl
theorem made_api (n : Nat) : madeCells zeroRow.toArray (n * 258) = (List.replicate n zeroRow).flatten.toArray := made_rep zeroRow 258 n zeroRow_length (by omega)
theorem makeApi (w : World) (n : Nat) (h : n ≤ 100000) : (Instr.makeSlice 76 (.int .i64 n) (.int .i64 n)).run Tryz.prog w = .ok (.slice (some ⟨w.heap.size, 0, none⟩) n n) (w.alloc (.cells (List.replicate n zeroRow).flatten.toArray 87)) := by
  obtain ⟨i, hi, hzz⟩ := Option.map_eq_some_iff.1 apiInfo
  simp only [Prod.mk.injEq] at hzz
  obtain ⟨hz, hs, hb⟩ := hzz
  have hr := run_make (P := Tryz.prog) w 76 87 i _ Tryz.underlying76 hi hz .i64 .i64 n n (by omega) (Int.le_refl _) (by rw [hb]; omega) (by omega)
  rw [hs, Int.toNat_natCast, show (Value.agg zeroRow.toArray).cells = zeroRow.toArray from rfl, made_api] at hr
  exact hr

/-- What is asked of a segment. -/
structure SegFit (B : List Int) (s : Seg) : Prop where
  addr0 : 0 ≤ s.addr
  offs0 : 0 ≤ s.offs
  file0 : 0 ≤ s.inFile
  mem1 : 1 ≤ s.mem
  file : s.inFile ≤ s.mem
  fits : s.offs + s.inFile ≤ (B.length : Int)
  top : s.addr + s.mem ≤ 65024
/-- How many pages a segment has. -/
def Seg.count (s : Seg) : Nat := (s.last - s.first + 1).toNat

theorem chunk_src {w : World} {b off : Nat} {B : List Int} {s : Seg} (hv : BView w b off B) (hf : SegFit B s) (k : Nat) : ∀ j v, (bytesRow (chunk B s k))[j]? = some v → w.cell? ⟨b, off + s.offs.toNat + eaten s k + j, none⟩ = some v := by
  intro j v hj
  have hl := (List.getElem?_eq_some_iff.1 hj).1
  rw [bytesRow_length] at hl
  rw [bytesRow_get _ _ hl] at hj
  have hl2 := hl
  rw [chunk_length] at hl2
  have hm := min_or (s.inFile.toNat - eaten s k) (256 - startAt s k)
  have he := eaten_le s k
  obtain ⟨_, h2, h3, _, _, h6, _⟩ := hf
  have := hv (s.offs.toNat + eaten s k + j) (by omega)
  rw [show off + (s.offs.toNat + eaten s k + j) = off + s.offs.toNat + eaten s k + j from by omega] at this
  rw [this, ← hj]
  have hc : (chunk B s k)[j]? = some (B.getD (s.offs.toNat + eaten s k + j) 0) := by rw [chunk, List.getElem?_map, List.getElem?_range hl2]; rfl
  simp only [List.getD, hc, Option.getD_some]

set_option maxRecDepth 100000 in
set_option maxHeartbeats 2000000 in
theorem pages_any (b off cap : Nat) (B : List Int) (s : Seg) (w : World) (hf : SegFit B s) (hcap : B.length ≤ cap) (hlen : B.length ≤ 500000) (hv : BView w b off B) (hbw : b < w.heap.size) :
    Calls Tryz.prog 103 #[segVal b off cap s] w fun e w' => e = .returned (.slice (some ⟨w.heap.size + 1, 0, none⟩) s.count s.count) ∧ Holds w' (w.heap.size + 1) 87 (apiRow (segPgs B s s.count)) ∧ Below w.heap.size w w' := by
  have HF := hide hf
  have HV := hide hv
  obtain ⟨a0, o0, i0, m1, hfm, hfit, htop⟩ := hf
  obtain ⟨N, hN⟩ : ∃ N, N = s.count := ⟨_, rfl⟩
  rw [← hN]
  have e0 : (s.addr + s.mem - 1) / 256 - s.addr / 256 + 1 = (N : Int) := by rw [hN, Seg.count, Seg.last, Seg.first]; omega
  have hN1 : N ≤ 255 := by omega
  have e5 : s.addr % 256 = ((startAt s 0 : Nat) : Int) := by show _ = ((s.addr.toNat % 256 : Nat) : Int); omega
  have hmk := fun w => makeApi w N (by omega)
  have hfz : s.addr / 256 = ((s.addr.toNat / 256 : Nat) : Int) := by omega
  have HFZ := hide hfz
  have HN := hide hN
  have hcells : segCells b off cap s = [.int .u8 s.perm, .int .u64 s.addr, .slice (some ⟨b, segPtr off cap s, none⟩) s.inFile.toNat (cap - s.offs.toNat), .int .i64 (s.addr / 256), .int .i64 ((s.addr + s.mem - 1) / 256)] := rfl
  have HCE := hide hcells
  have HNum := hide (And.intro hcap (And.intro hlen (And.intro hfit (And.intro o0 (And.intro i0 (And.intro htop (And.intro a0 m1)))))))
  unfold segVal
  clear hv hN hfz hcells a0 o0 i0 m1 hfm hfit htop hcap hlen
  generalize s.addr / 256 = F1 at *
  generalize (s.addr + s.mem - 1) / 256 = L1 at *
  have y1 : (L1 - F1 + 1 : Int) = (N : Int) := e0
  have hN2 : (N : Int) ≤ 255 := by omega
  have y2 : L1 - F1 = (N : Int) - 1 := by omega
  have y3 : (N : Int) - 1 + 1 = (N : Int) := by omega
  clear e0
  go_enter Tryz.func103, Tryz.ntmps103
  go_wp2
  go_loopw [4, 5, 22] (fun rest at_ i wr => ∃ k : Nat, k ≤ N ∧ i = .int .i64 k ∧ at_ = .int .u64 (startAt s k : Nat) ∧ (∃ X : Nat, rest = .slice (some ⟨b, X, none⟩) (s.inFile.toNat - eaten s k) (cap - s.offs.toNat - eaten s k) ∧ (0 < s.inFile.toNat - eaten s k → X = off + s.offs.toNat + eaten s k)) ∧
      Holds wr w.heap.size 242 (segCells b off cap s) ∧ Holds wr (w.heap.size + 1) 87 (pgFill B s N k) ∧ Below w.heap.size w wr) (fun _ _ i _ => N - (intOf i).toNat)
  case atStart =>
    refine ⟨0, by omega, rfl, ?_, ⟨segPtr off cap s, ?_, fun h => ?_⟩, ?_, ?_, ?_⟩
    · rw [Int.tmod_eq_emod_of_nonneg (unhide HNum).2.2.2.2.2.2.1, e5]
    · rfl
    · have hnm := unhide HNum
      unfold segPtr
      rw [if_neg (by have : eaten s 0 = 0 := rfl; omega)]
      rfl
    · rw [unhide HCE]; exact (Holds.new _ _ _).alloc _
    · rw [pgFill_none]
      have := Holds.new (w.alloc (.cells (segCells b off cap s).toArray 242)) 87 (List.replicate N zeroRow).flatten
      rw [unhide HCE] at this
      simpa using this
    · exact ((Below.refl _ _).alloc (Nat.le_refl _) _).alloc (by simp) _
  case round =>
    obtain ⟨k, hk, rfl, rfl, ⟨X, rfl, hX⟩, hbox, hpg, hbl⟩ := hrel
    have HX := hide hX
    clear hX
    have HBX := hide hbox
    have HPG := hide hpg
    have HBL := hide hbl
    by_cases hlt : k < N
    · have bx0 : wr.cell? ⟨w.heap.size, 0, none⟩ = some (.int .u8 s.perm) := hbox.cell (by rw [unhide HCE]; rfl)
      have bx3 : wr.cell? ⟨w.heap.size, 3, none⟩ = some (.int .i64 F1) := hbox.cell (by rw [unhide HCE]; rfl)
      have hL := pgFill_length B s N k hk
      have c0 : wr.cell? ⟨w.heap.size + 1, k * 258, none⟩ = some ((pgFill B s N k).getD (k * 258) .nilIface) := hpg.cell (by rw [List.getD, List.getElem?_eq_getElem (by rw [hL]; omega)]; rfl)
      have f0 := hpg.frozen (k * 258)
      obtain ⟨fk, hfk⟩ : ∃ fk : Nat, fk = s.addr.toNat / 256 + k := ⟨_, rfl⟩
      have z1 : F1 + (k : Int) = (fk : Int) := by have := unhide HFZ; omega
      have hfk9 : (fk : Int) ≤ 1000 := by have := unhide HNum; omega
      have hp1 := hpg.set (k * 258) (.int .i64 (fk : Int))
      have c1 : (wr.setCell ⟨w.heap.size + 1, k * 258, none⟩ (.int .i64 (fk : Int))).cell? ⟨w.heap.size + 1, k * 258 + 1, none⟩ = some (((pgFill B s N k).set (k * 258) (.int .i64 (fk : Int))).getD (k * 258 + 1) .nilIface) := hp1.cell (by rw [List.getD, List.getElem?_eq_getElem (by rw [List.length_set, hL]; omega)]; rfl)
      have f1 := hp1.frozen (k * 258 + 1)
      have bx1 : (wr.setCell ⟨w.heap.size + 1, k * 258, none⟩ (.int .i64 (fk : Int))).cell? ⟨w.heap.size, 0, none⟩ = some (.int .u8 s.perm) := (hbox.set_other (c := w.heap.size + 1) (by omega) (k * 258) (.int .i64 (fk : Int))).cell (by rw [unhide HCE]; rfl)
      have hp2 := hp1.set (k * 258 + 1) (.int .u8 s.perm)
      have hbox2 := (hbox.set_other (c := w.heap.size + 1) (by omega) (k * 258) (.int .i64 (fk : Int))).set_other (c := w.heap.size + 1) (by omega) (k * 258 + 1) (.int .u8 s.perm)
      have hbl2 := (hbl.setCell (p := ⟨w.heap.size + 1, k * 258, none⟩) (by show w.heap.size ≤ w.heap.size + 1; omega) (.int .i64 (fk : Int))).setCell (p := ⟨w.heap.size + 1, k * 258 + 1, none⟩) (by show w.heap.size ≤ w.heap.size + 1; omega) (.int .u8 s.perm)
      have HP2 := hide hp2
      have HX2 := hide hbox2
      have HB2 := hide hbl2
      generalize (pgFill B s N k).getD (k * 258) .nilIface = v0 at c0
      generalize ((pgFill B s N k).set (k * 258) (.int .i64 (fk : Int))).getD (k * 258 + 1) .nilIface = v1 at c1
      obtain ⟨S, hS⟩ : ∃ S, S = startAt s k := ⟨_, rfl⟩
      have hS9 := startAt_lt s k
      rw [← hS] at hS9
      obtain ⟨Ea, hEa⟩ : ∃ E, E = eaten s k := ⟨_, rfl⟩
      have hEl := eaten_le s k
      rw [← hS, ← hEa]
      rw [← hEa] at hEl
      have HFK := hide hfk
      have HS := hide hS
      have HEA := hide hEa
      have HL := hide hL
      have hS0 : (0 : Int) ≤ (S : Int) := by omega
      have hS1 : (S : Int) ≤ 256 := by omega
      have hS2 : ¬ 256 = S := by omega
      have hS3 : (S : Int) < 256 := by omega
      have hk0 : (0 : Int) ≤ (k : Int) := by omega
      have hk1 : (k : Int) < (N : Int) := by omega
      obtain ⟨R, hR⟩ : ∃ R, R = s.inFile.toNat - Ea := ⟨_, rfl⟩
      obtain ⟨C, hC⟩ : ∃ C, C = cap - s.offs.toNat - Ea := ⟨_, rfl⟩
      rw [← hR, ← hC]
      obtain ⟨m, hm⟩ : ∃ m, m = (bytesRow (chunk B s k)).length := ⟨_, rfl⟩
      have hm2 : m = Nat.min R (256 - S) := by rw [hm, bytesRow_length, chunk_length, ← hS, ← hEa, ← hR]
      have hmo := min_or R (256 - S)
      have hRC : R ≤ C := by have := unhide HNum; omega
      have hXv : 0 < R → X = off + s.offs.toNat + Ea := by rw [hR, hEa]; exact unhide HX
      have hfit : k * 258 + 2 + S + (bytesRow (chunk B s k)).length ≤ (((pgFill B s N k).set (k * 258) (.int .i64 (fk : Int))).set (k * 258 + 1) (.int .u8 s.perm)).length := by
        rw [List.length_set, List.length_set, hL, ← hm]; omega
      have hsrc : 0 < (bytesRow (chunk B s k)).length → (some ⟨w.heap.size + 1, k * 258 + 2 + S, none⟩ : Option Addr) = some ⟨w.heap.size + 1, k * 258 + 2 + S, none⟩ ∧ ∃ ad, (some ⟨b, X, none⟩ : Option Addr) = some ad ∧ ∀ j v, (bytesRow (chunk B s k))[j]? = some v → ((wr.setCell ⟨w.heap.size + 1, k * 258, none⟩ (.int .i64 (fk : Int))).setCell ⟨w.heap.size + 1, k * 258 + 1, none⟩ (.int .u8 s.perm)).cell? (ad.add j) = some v :=
        fun hpos => ⟨rfl, ⟨b, X, none⟩, rfl, fun j v hj => by
          rw [hXv (by omega), addr_add, hEa]
          exact chunk_src ((unhide HV).below hbl2 hbw) (unhide HF) k j v hj⟩
      have hstep : splice (((pgFill B s N k).set (k * 258) (.int .i64 (fk : Int))).set (k * 258 + 1) (.int .u8 s.perm)) (k * 258 + 2 + S) (bytesRow (chunk B s k)) = pgFill B s N (k + 1) := by
        rw [hfk, hS]; exact pgFill_step B s N k hlt
      have hrest : eaten s (k + 1) = Ea + m := by rw [hm2, hR, hEa, hS]; exact eaten_step s k
      have hcn : (bytesRow (chunk B s k)).length = Nat.min R (256 - S) := by rw [← hm, hm2]
      have hg2 : w.heap.size + 1 < ((wr.setCell ⟨w.heap.size + 1, k * 258, none⟩ (.int .i64 (fk : Int))).setCell ⟨w.heap.size + 1, k * 258 + 1, none⟩ (.int .u8 s.perm)).heap.size := hp2.lt
      have HM := hide hm
      have HSRC := hide hsrc
      have HST := hide hstep
      have HRS := hide hrest
      have HFT := hide hfit
      have HCN := hide hcn
      have HR := hide hR
      have HC := hide hC
      have n1 : (m : Int) ≤ (R : Int) := by omega
      have n2 : (m : Int) ≤ (C : Int) := by omega
      obtain ⟨Y, hY1, hY2⟩ : ∃ Y : Nat, (C = m → Y = X) ∧ (¬ C = m → Y = X + m) := by
        by_cases q : C = m
        · exact ⟨X, fun _ => rfl, fun h => absurd q h⟩
        · exact ⟨X + m, fun h => absurd h q, fun _ => rfl⟩
      have HYV := hide (show 0 < R - m → Y = off + s.offs.toNat + (Ea + m) from fun h => by
        rw [hY2 (by omega), hXv (by omega)]; omega)
      have n4 : (0 : Int) ≤ (m : Int) := by omega
      have n5 : m ≤ R := by omega
      have n6 : m ≤ C := by omega
      have n7 : (R : Int) ≤ (C : Int) := by omega
      have n8 : R ≤ C := by omega
      clear hbox hpg hbl hp1 hp2 hbox2 hbl2 hL hfk hS hEa hm hsrc hstep hrest hfit hcn hR hC hm2 hmo hRC hXv
      have HG2 := hide hg2
      clear hg2
      by_cases n3 : C = m
      all_goals (
        go_wp2_with (
          refine wpList_copy_splice rfl (.tmp 44) (.tmp 45) 32 32 rfl 5 Tryz.underlying32 u8size (some ⟨w.heap.size + 1, k * 258 + 2 + S, none⟩) (some ⟨b, X, none⟩) (256 - S) (256 - S) R C (by rfl) (by rfl) (w.heap.size + 1) (k * 258 + 2 + S) _ 87 (unhide HP2) (bytesRow (chunk B s k)) (unhide HCN) (unhide HSRC) (unhide HFT) (bytesRow_one _) (w.heap.size + 1) _ (Below.refl _ _) (Nat.le_refl _) ?_
          intro w3 H3 hb3
          have hp3 : Holds w3 (w.heap.size + 1) 87 (pgFill B s N (k + 1)) := by rw [← unhide HST]; exact unhide H3
          have hx3 := (unhide HX2).below hb3 (by omega)
          have hbl3 := (unhide HB2).trans (hb3.mono (Nat.le_succ _))
          have HP3 := hide hp3
          have HX3 := hide hx3
          have HB3 := hide hbl3
          clear hp3 hx3 hbl3 hb3 H3
          rw [← unhide HM])
        go_roundw
        case rel =>
          refine ⟨k + 1, by omega, by go_num, rfl, ⟨Y, ?_, ?_⟩, unhide HX3, unhide HP3, unhide HB3⟩
          · rw [unhide HRS, Nat.sub_add_eq, Nat.sub_add_eq, ← unhide HR, ← unhide HC]
            first
              | (rw [hY1 n3]; done)
              | (rw [hY2 n3]; done)
              | (simp [hY1 n3, n3]; done)
              | (simp [hY2 n3, n3]; done)
          · rw [unhide HRS, Nat.sub_add_eq, ← unhide HR]; exact unhide HYV
        case measure => simp [intOf]; omega)
    · have hkn : k = N := by omega
      subst hkn
      clear hbox hpg hbl
      go_wp2
      go_ret
      exact ⟨rfl, by rw [← pgFill_full]; exact unhide HPG, unhide HBL⟩
end Go.Proofs.YtkmbleboceedbaaGreatDoor

/- tinyosref.header. -/
namespace Go.Proofs.YtkmbleboceedbaaGreatDoor
open Go.RowKit
set_option linter.unusedVariables false
set_option linter.unusedSimpArgs false

theorem no_iff {p : Prop} (h : ¬ p) : (false = true ↔ p) := ⟨fun e => (Bool.false_ne_true e).elim, fun q => (h q).elim⟩
def magicOk (B : List Int) : Prop := ((strOfNums (B.take 7)).toList == [127, 69, 76, 70, 2, 1, 1]) = true
/-- The header is right. -/
def HdrOk (B : List Int) : Prop := 64 ≤ B.length ∧ magicOk B ∧ numAt B 16 2 = 2 ∧ numAt B 18 2 = 243 ∧ numAt B 20 4 = 1 ∧ numAt B 32 8 = 64 ∧ numAt B 52 2 = 64 ∧ numAt B 54 2 = 56 ∧ 1 ≤ numAt B 56 2 ∧ numAt B 56 2 ≤ 8 ∧ 64 + 56 * numAt B 56 2 ≤ (B.length : Int)

theorem conv7 (b off cap : Nat) (B : List Int) (w : World) (hv : BView w b off B) (h : 7 ≤ B.length) : (convert 32 9 (.slice (some ⟨b, off, none⟩) 7 cap)).run Tryz.prog w = .ok (.string (strOfNums (B.take 7))) w :=
  run_convert_bytes_arg w 32 5 Tryz.underlying32 Tryz.underlying5 b off 7 cap (B.take 7) (by simp; omega) (fun i hi => by
    rw [hv i (by omega)]
    simp [List.getD, List.getElem?_take, hi]) 9 Tryz.underlying9

set_option maxRecDepth 100000 in
set_option maxHeartbeats 400000 in
theorem refHeader_any (b off cap : Nat) (B : List Int) (w : World) (hB : IsBytes B) (hcap : B.length ≤ cap) (hlen : B.length ≤ 1000000) (hv : BView w b off B) :
    Calls Tryz.prog 78 #[.slice (some ⟨b, off, none⟩) B.length cap] w fun e w' => ∃ n : Int, ∃ ok : Bool, e = .returned (.tuple #[.int .i64 n, .bool ok]) ∧ w' = w ∧ (ok = true ↔ HdrOk B) ∧ (HdrOk B → n = numAt B 56 2) := by
  by_cases h64 : 64 ≤ B.length
  case neg =>
    have hno : ¬ HdrOk B := fun h => h64 h.1
    have HN := hide hno
    clear hv hB hno
    go_enter Tryz.func78, Tryz.ntmps78
    go_wp2
    go_ret2
    exact ⟨0, false, rfl, rfl, no_iff (unhide HN), fun h => absurd h (unhide HN)⟩
  have hcv := conv7 b off cap B w hv (by omega)
  obtain ⟨s7, hs7⟩ : ∃ s7, s7 = strOfNums (B.take 7) := ⟨_, rfl⟩
  rw [← hs7] at hcv
  have hl7 : s7.size = 7 := by rw [hs7, strOfNums_size]; simp; omega
  have h7 : (7 : Int) ≤ (cap : Int) := by omega
  have h70 : ¬ cap = 0 := by omega
  by_cases hm : (s7.toList == [127, 69, 76, 70, 2, 1, 1]) = true
  case neg =>
    have hm' : (s7.toList == [127, 69, 76, 70, 2, 1, 1]) = false := by simpa using hm
    have hno : ¬ HdrOk B := fun h => hm (by rw [hs7]; exact h.2.1)
    have HN := hide hno
    have HM := hide hm
    clear hv hB hno hm hs7 hl7
    go_enter Tryz.func78, Tryz.ntmps78
    go_wp2
    go_ret2
    exact ⟨0, false, rfl, rfl, no_iff (unhide HN), fun h => absurd h (unhide HN)⟩
  have HM := hide hm
  have HS7 := hide hs7
  have HV := hide hv
  have HBB := hide hB
  have hm2 : (!s7.toList == [127, 69, 76, 70, 2, 1, 1]) = false := by rw [hm]; rfl
  have ne16 : ¬ cap = 16 := by omega
  have ne18 : ¬ cap = 18 := by omega
  have ne20 : ¬ cap = 20 := by omega
  have ne32 : ¬ cap = 32 := by omega
  have ne52 : ¬ cap = 52 := by omega
  have ne54 : ¬ cap = 54 := by omega
  have ne56 : ¬ cap = 56 := by omega
  have h64c : (64 : Int) ≤ (cap : Int) := by omega
  clear hm hs7 hv hB hl7
  go_enter Tryz.func78, Tryz.ntmps78
  go_wp2_with fail
  refine (refNumber_any b (off + 16) 2 (cap - 16) B 16 _ (unhide HBB) (by omega) (fun j hj => by rw [Nat.add_assoc]; exact (unhide HV) (16 + j) (by omega))).mono ?_
  rintro e w1 ⟨rfl, hw1⟩
  subst hw1
  go_wp2_with fail
  refine (refNumber_any b (off + 18) 2 (cap - 18) B 18 _ (unhide HBB) (by omega) (fun j hj => by rw [Nat.add_assoc]; exact (unhide HV) (18 + j) (by omega))).mono ?_
  rintro e w1 ⟨rfl, hw1⟩
  subst hw1
  go_wp2_with fail
  refine (refNumber_any b (off + 20) 4 (cap - 20) B 20 _ (unhide HBB) (by omega) (fun j hj => by rw [Nat.add_assoc]; exact (unhide HV) (20 + j) (by omega))).mono ?_
  rintro e w1 ⟨rfl, hw1⟩
  subst hw1
  go_wp2_with fail
  refine (refNumber_any b (off + 32) 8 (cap - 32) B 32 _ (unhide HBB) (by omega) (fun j hj => by rw [Nat.add_assoc]; exact (unhide HV) (32 + j) (by omega))).mono ?_
  rintro e w1 ⟨rfl, hw1⟩
  subst hw1
  go_wp2_with fail
  refine (refNumber_any b (off + 52) 2 (cap - 52) B 52 _ (unhide HBB) (by omega) (fun j hj => by rw [Nat.add_assoc]; exact (unhide HV) (52 + j) (by omega))).mono ?_
  rintro e w1 ⟨rfl, hw1⟩
  subst hw1
  go_wp2_with fail
  refine (refNumber_any b (off + 54) 2 (cap - 54) B 54 _ (unhide HBB) (by omega) (fun j hj => by rw [Nat.add_assoc]; exact (unhide HV) (54 + j) (by omega))).mono ?_
  rintro e w1 ⟨rfl, hw1⟩
  subst hw1
  go_wp2_with fail
  refine (refNumber_any b (off + 56) 2 (cap - 56) B 56 _ (unhide HBB) (by omega) (fun j hj => by rw [Nat.add_assoc]; exact (unhide HV) (56 + j) (by omega))).mono ?_
  rintro e w1 ⟨rfl, hw1⟩
  subst hw1
  have b0 := numAt_8 (unhide HBB) 16 2 (by omega)
  have b1 := numAt_8 (unhide HBB) 18 2 (by omega)
  have b2 := numAt_8 (unhide HBB) 20 4 (by omega)
  have b3 := numAt_8 (unhide HBB) 32 8 (by omega)
  have b4 := numAt_8 (unhide HBB) 52 2 (by omega)
  have b5 := numAt_8 (unhide HBB) 54 2 (by omega)
  have b6 := numAt_8 (unhide HBB) 56 2 (by omega)
  generalize hx0 : numAt B 16 2 = x0 at b0 ⊢
  generalize hx1 : numAt B 18 2 = x1 at b1 ⊢
  generalize hx2 : numAt B 20 4 = x2 at b2 ⊢
  generalize hx3 : numAt B 32 8 = x3 at b3 ⊢
  generalize hx4 : numAt B 52 2 = x4 at b4 ⊢
  generalize hx5 : numAt B 54 2 = x5 at b5 ⊢
  generalize hx6 : numAt B 56 2 = x6 at b6 ⊢
  have HX := hide (And.intro hx0 (And.intro hx1 (And.intro hx2 (And.intro hx3 (And.intro hx4 (And.intro hx5 hx6))))))
  clear hx0 hx1 hx2 hx3 hx4 hx5 hx6
  have HH : Hid (HdrOk B ↔ (x0 = 2 ∧ x1 = 243 ∧ x2 = 1 ∧ x3 = 64 ∧ x4 = 64 ∧ x5 = 56 ∧ 1 ≤ x6 ∧ x6 ≤ 8 ∧ 64 + 56 * x6 ≤ (B.length : Int))) := hide (by
    obtain ⟨r0, r1, r2, r3, r4, r5, r6⟩ := unhide HX
    unfold HdrOk
    rw [r0, r1, r2, r3, r4, r5, r6]
    have hmg : magicOk B := by unfold magicOk; rw [← unhide HS7]; exact unhide HM
    constructor
    · rintro ⟨_, _, h⟩; exact h
    · intro h; exact ⟨h64, hmg, h⟩)
  have H6 : Hid (numAt B 56 2 = x6) := hide (unhide HX).2.2.2.2.2.2
  obtain ⟨b60, _⟩ := b6
  clear b0 b1 b2 b3 b4 b5 HX HM HS7 HBB hcv HV hm2
  by_cases t0 : x0 = 2
  case neg =>
    have f0 : (x0 != 2) = true := by simpa using t0
    have HN := hide (fun h : HdrOk B => t0 ((unhide HH).1 h).1)
    clear t0
    go_wp2
    go_ret2
    exact ⟨0, false, rfl, rfl, no_iff (unhide HN), fun h => absurd h (unhide HN)⟩
  have f0 : (x0 != 2) = false := by simpa using t0
  have T0 := hide t0
  clear t0
  by_cases t1 : x1 = 243
  case neg =>
    have f1 : (x1 != 243) = true := by simpa using t1
    have HN := hide (fun h : HdrOk B => t1 ((unhide HH).1 h).2.1)
    clear t1
    go_wp2
    go_ret2
    exact ⟨0, false, rfl, rfl, no_iff (unhide HN), fun h => absurd h (unhide HN)⟩
  have f1 : (x1 != 243) = false := by simpa using t1
  have T1 := hide t1
  clear t1
  by_cases t2 : x2 = 1
  case neg =>
    have f2 : (x2 != 1) = true := by simpa using t2
    have HN := hide (fun h : HdrOk B => t2 ((unhide HH).1 h).2.2.1)
    clear t2
    go_wp2
    go_ret2
    exact ⟨0, false, rfl, rfl, no_iff (unhide HN), fun h => absurd h (unhide HN)⟩
  have f2 : (x2 != 1) = false := by simpa using t2
  have T2 := hide t2
  clear t2
  by_cases t3 : x3 = 64
  case neg =>
    have f3 : (x3 != 64) = true := by simpa using t3
    have HN := hide (fun h : HdrOk B => t3 ((unhide HH).1 h).2.2.2.1)
    clear t3
    go_wp2
    go_ret2
    exact ⟨0, false, rfl, rfl, no_iff (unhide HN), fun h => absurd h (unhide HN)⟩
  have f3 : (x3 != 64) = false := by simpa using t3
  have T3 := hide t3
  clear t3
  by_cases t4 : x4 = 64
  case neg =>
    have f4 : (x4 != 64) = true := by simpa using t4
    have HN := hide (fun h : HdrOk B => t4 ((unhide HH).1 h).2.2.2.2.1)
    clear t4
    go_wp2
    go_ret2
    exact ⟨0, false, rfl, rfl, no_iff (unhide HN), fun h => absurd h (unhide HN)⟩
  have f4 : (x4 != 64) = false := by simpa using t4
  have T4 := hide t4
  clear t4
  by_cases t5 : x5 = 56
  case neg =>
    have f5 : (x5 != 56) = true := by simpa using t5
    have HN := hide (fun h : HdrOk B => t5 ((unhide HH).1 h).2.2.2.2.2.1)
    clear t5
    go_wp2
    go_ret2
    exact ⟨0, false, rfl, rfl, no_iff (unhide HN), fun h => absurd h (unhide HN)⟩
  have f5 : (x5 != 56) = false := by simpa using t5
  have T5 := hide t5
  clear t5
  by_cases t6 : 1 ≤ x6
  case neg =>
    have HN := hide (fun h : HdrOk B => t6 ((unhide HH).1 h).2.2.2.2.2.2.1)
    go_wp2
    go_ret2
    exact ⟨0, false, rfl, rfl, no_iff (unhide HN), fun h => absurd h (unhide HN)⟩
  by_cases t7 : x6 ≤ 8
  case neg =>
    have HN := hide (fun h : HdrOk B => t7 ((unhide HH).1 h).2.2.2.2.2.2.2.1)
    go_wp2
    go_ret2
    exact ⟨0, false, rfl, rfl, no_iff (unhide HN), fun h => absurd h (unhide HN)⟩
  go_wp2
  go_ret2
  refine ⟨x6, decide (64 + 56 * x6 ≤ (B.length : Int)), rfl, rfl, ?_, fun _ => (unhide H6).symm⟩
  rw [decide_eq_true_iff, unhide HH]
  exact ⟨fun h => ⟨unhide T0, unhide T1, unhide T2, unhide T3, unhide T4, unhide T5, t6, t7, h⟩, fun h => h.2.2.2.2.2.2.2.2⟩
end Go.Proofs.YtkmbleboceedbaaGreatDoor
