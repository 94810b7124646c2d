import Derived.Test.YtkokiefclmbgaaaGreatDoorBootsProofG25
import Derived.Lib.AppendZeros
/- The program's Write into a file: of no bytes, and where there is no room. -/
namespace Go.Proofs.YtkokiefclmbgaaaGreatDoor
open Go Go.RowKit Go.Maps
set_option linter.unusedVariables false
set_option linter.unusedSimpArgs false

set_option maxHeartbeats 1000000 in
theorem fsWrite_none (tb b : Nat) (o : Int) (a : Option Addr) (c : Nat) (w : World) :
    Calls Tryz.prog 64 #[.pointer (some ⟨tb, 0, none⟩), .pointer (some ⟨b, 0, none⟩), .int .i64 o, .slice a 0 c] w fun e w' => e = .returned .nilIface ∧ w' = w := by
  go_enter Tryz.func64, Tryz.ntmps64
  go_wp2
  go_ret
  exact ⟨rfl, rfl⟩

set_option maxRecDepth 100000 in
set_option maxHeartbeats 1000000 in
theorem fsWrite_full (tb ab b : Nat) (n li used lb : Int) (n0 c0 n1 c1 : Nat) (a0 a1 : Option Addr) (w : World) (ht : Holds w tb 163 [.pointer (some ⟨ab, 0, none⟩), .int .i64 n, .int .i64 li, .int .i64 used, .int .i64 lb]) (hb : w.cell? ⟨b, 2, none⟩ = some (.slice a0 n0 c0)) (hn : 0 ≤ n ∧ n ≤ li) (hli : li ≤ 1000000) (h1 : 0 < n1) (hl0 : n0 ≤ 1000000) (hl1 : n1 ≤ 1000000) (hu : 0 ≤ used ∧ used ≤ 1000000 ∧ 0 ≤ lb ∧ lb ≤ 1000000) (hf : lb - used < ((n1 - n0 : Nat) : Int)) :
    Calls Tryz.prog 64 #[.pointer (some ⟨tb, 0, none⟩), .pointer (some ⟨b, 0, none⟩), .int .i64 0, .slice a1 n1 c1] w fun e w' => e = errnoRet 12 ∧ Below w.heap.size w w' := by
  have t3 : w.cell? ⟨tb, 3, none⟩ = some (.int .i64 used) := ht.cell rfl
  have t4 : w.cell? ⟨tb, 4, none⟩ = some (.int .i64 lb) := ht.cell rfl
  have k1 : ((n1 : Int) == 0) = false := by simp; omega
  have k2 : max (0 : Int) ((n1 : Int) - (n0 : Int)) = ((n1 - n0 : Nat) : Int) := by omega
  have HRM := hide (fsHasRoom_any tb ab n li used lb 0 ((n1 - n0 : Nat) : Int) w ht ⟨hn.1, by omega⟩ ⟨by omega, hli⟩ ⟨hu.1, hu.2.1⟩ hu.2.2)
  rw [decide_eq_false (show ¬ ((n1 - n0 : Nat) : Int) ≤ lb - used by omega), Bool.and_false] at HRM
  clear ht t3 t4
  go_enter Tryz.func64, Tryz.ntmps64
  go_upto_region 4 with fail
  go_wp2_with fail
  refine (unhide HRM).mono ?_
  rintro e w1 ⟨rfl, _, hbw⟩
  have HBW := hide hbw
  clear hbw HRM
  go_wp2
  go_ret
  exact ⟨rfl, unhide HBW⟩

theorem zeroCells_u8 (n : Nat) : Builtin.zeroCells (Value.int .u8 0).cells n = (bytesRow (List.replicate n 0)).toArray := by
  have h : (Value.int .u8 0).cells = #[.int .u8 0] := rfl
  rw [h]
  apply Array.ext
  · simp [Builtin.zeroCells, bytesRow]
  · intro j h1 h2
    simp [Builtin.zeroCells, bytesRow, Nat.mod_one]
theorem u8Inf : (Tryz.prog.info? 5).map (fun i => (i.zero, i.size, i.bytes)) = some (some (.int .u8 0), 1, 1) := by kernel_rfl
set_option maxRecDepth 100000 in
set_option maxHeartbeats 1000000 in
theorem fsWrite_new {pth : ByteArray} (tb ab b q o : Nat) (n li used lb : Int) (n1 c1 : Nat) (mv : Value) (L : List Int) (w : World) (hL : L.length = n1) (hq : q < w.heap.size) (hqt : q ≠ tb) (hqb : q ≠ b) (hv : BView w q o L) (ht : Holds w tb 163 [.pointer (some ⟨ab, 0, none⟩), .int .i64 n, .int .i64 li, .int .i64 used, .int .i64 lb]) (hb : Holds w b 230 [.string pth, .bool false, .slice none 0 0, mv, .int .i64 0]) (hn : 0 ≤ n ∧ n ≤ li) (hli : li ≤ 1000000) (h1 : 0 < n1) (hl1 : n1 ≤ 1000000) (hu : 0 ≤ used ∧ used ≤ 1000000 ∧ 0 ≤ lb ∧ lb ≤ 1000000) (hf : (n1 : Int) ≤ lb - used) :
    Calls Tryz.prog 64 #[.pointer (some ⟨tb, 0, none⟩), .pointer (some ⟨b, 0, none⟩), .int .i64 0, .slice (some ⟨q, o, none⟩) n1 c1] w fun e w' => e = .returned .nilIface ∧ Holds w' tb 163 [.pointer (some ⟨ab, 0, none⟩), .int .i64 n, .int .i64 li, .int .i64 (used + (n1 : Int)), .int .i64 lb] ∧ FrameK w w' tb b ∧ ∃ R cp, w.heap.size ≤ R ∧ n1 ≤ cp ∧ cp ≤ maxLen ∧ Holds w' b 230 [.string pth, .bool false, .slice (some ⟨R, 0, none⟩) n1 cp, mv, .int .i64 0] ∧ Holds w' R 5 (bytesRow (L ++ List.replicate (cp - n1) 0)) := by
  have t3 : w.cell? ⟨tb, 3, none⟩ = some (.int .i64 used) := ht.cell rfl
  have t4 : w.cell? ⟨tb, 4, none⟩ = some (.int .i64 lb) := ht.cell rfl
  have f3 := ht.frozen 3
  have b1 : w.cell? ⟨b, 2, none⟩ = some (.slice none 0 0) := hb.cell rfl
  have k1 : ((n1 : Int) == 0) = false := by simp; omega
  have k2 : max (0 : Int) ((n1 : Int)) = (n1 : Int) := by omega
  have hbt : b ≠ tb := holds_apart hb ht (by decide)
  have HT := hide ht
  have HB := hide hb
  have HV := hide hv
  have HRM := hide (fsHasRoom_any tb ab n li used lb 0 (n1 : Int) w ht ⟨hn.1, by omega⟩ ⟨by omega, hli⟩ ⟨hu.1, hu.2.1⟩ hu.2.2)
  rw [decide_eq_true (show (0 : Int) ≤ li - n by omega), decide_eq_true hf, Bool.and_true] at HRM
  clear ht hb hv t3 t4 f3 hn hli
  go_enter Tryz.func64, Tryz.ntmps64
  go_upto_region 4 with fail
  go_wp2_with fail
  refine (unhide HRM).mono ?_
  rintro e wq ⟨rfl, hhq, hbq⟩
  have HHQ := hide hhq
  have HGQ := hide (show w.grownBy wq (some tb) from ⟨hbq.os, hbq.tape, hbq.output, hbq.size, fun k hk _ => hbq.block k hk⟩)
  have t3 : wq.cell? ⟨tb, 3, none⟩ = some (.int .i64 used) := ((unhide HT).heap (W' := wq) hhq).cell rfl
  have f3 := ((unhide HT).heap (W' := wq) hhq).frozen 3
  have b0 : wq.cell? ⟨b, 2, none⟩ = some (.slice none 0 0) := ((unhide HB).heap (W' := wq) hhq).cell rfl
  clear hhq hbq HRM b1
  go_upto_region 7 with fail
  obtain ⟨W1, hW1⟩ : ∃ W1, W1 = wq.setCell ⟨tb, 3, none⟩ (.int .i64 (used + (n1 : Int))) := ⟨_, rfl⟩
  rw [← hW1]
  have hb1 : Holds W1 b 230 [.string pth, .bool false, .slice none 0 0, mv, .int .i64 0] := by rw [hW1]; exact ((unhide HB).heap (W' := wq) (unhide HHQ)).set_other hbt 3 _
  have ht1 : Holds W1 tb 163 [.pointer (some ⟨ab, 0, none⟩), .int .i64 n, .int .i64 li, .int .i64 (used + (n1 : Int)), .int .i64 lb] := by rw [hW1]; exact ((unhide HT).heap (W' := wq) (unhide HHQ)).set 3 _
  obtain ⟨i, hi⟩ : ∃ i, Tryz.prog.info? 5 = some i := by
    have := u8Inf
    cases h : Tryz.prog.info? 5 with
    | none => rw [h] at this; cases this
    | some i => exact ⟨i, rfl⟩
  have hii : i.zero = some (.int .u8 0) ∧ i.size = 1 ∧ i.bytes = 1 := by
    have := u8Inf
    rw [hi] at this
    simpa using this
  have hap := Go.Lib.run_append_nil_zeros (P := Tryz.prog) W1 32 3 32 5 i (.int .u8 0) .i64 .i64 Tryz.underlying32 Tryz.underlying3 hi hii.1 n1 h1 (by omega) (by omega) (by rw [hii.2.2]; omega)
  obtain ⟨cp, hcp⟩ : ∃ cp, cp = grownCap W1 n1 0 5 := ⟨_, rfl⟩
  rw [← hcp] at hap
  obtain ⟨W2, hW2⟩ : ∃ W2, W2 = W1.drew.alloc (.cells (Builtin.zeroCells (Value.int .u8 0).cells n1 ++ Builtin.zeroCells (Value.int .u8 0).cells (cp - n1)) 5) := ⟨_, rfl⟩
  rw [← hW2] at hap
  have b1' : W1.cell? ⟨b, 2, none⟩ = some (.slice none 0 0) := hb1.cell rfl
  have HAP := hide hap
  have HB1 := hide hb1
  have HT1 := hide ht1
  have HW1 := hide hW1
  have HW2 := hide hW2
  have HCL := hide (show n1 ≤ cp ∧ cp ≤ maxLen from by rw [hcp]; exact ⟨grownCap_ge _ _ _ _, grownCap_le_maxLen _ _ _ _ (by unfold maxLen; omega)⟩)
  clear hap hb1 ht1 hW1 hW2 hcp t3 f3 b0
  have hb2 : Holds W2 b 230 [.string pth, .bool false, .slice none 0 0, mv, .int .i64 0] := by rw [unhide HW2]; exact ((unhide HB1).heap (W' := W1.drew) rfl).alloc _
  have b2 : W2.cell? ⟨b, 2, none⟩ = some (.slice none 0 0) := hb2.cell rfl
  have g2 := hb2.frozen 2
  clear hb2
  go_upto_region 8 with (at_builtin; refine Lib.wpList_append_run _ rfl _ _ _ _ rfl _ _ rfl rfl _ _ (unhide HAP) ?_)
  obtain ⟨R, hR⟩ : ∃ R, R = W1.heap.size := ⟨_, rfl⟩
  rw [← hR]
  obtain ⟨W3, hW3⟩ : ∃ W3, W3 = W2.setCell ⟨b, 2, none⟩ (.slice (some ⟨R, 0, none⟩) n1 cp) := ⟨_, rfl⟩
  rw [← hW3]
  have hRs : W1.heap.size = w.heap.size := by rw [unhide HW1]; simp [World.setCell, unhide HHQ]
  have hbl := (unhide HB).lt
  have htl := (unhide HT).lt
  have hr2 : Holds W2 R 5 (bytesRow (List.replicate n1 0 ++ List.replicate (cp - n1) 0)) := by
    rw [unhide HW2, hR]
    have := Holds.new W1.drew 5 (bytesRow (List.replicate n1 0 ++ List.replicate (cp - n1) 0))
    rw [zeroCells_u8, zeroCells_u8, show (bytesRow (List.replicate n1 0)).toArray ++ (bytesRow (List.replicate (cp - n1) 0)).toArray = (bytesRow (List.replicate n1 0 ++ List.replicate (cp - n1) 0)).toArray by simp [bytesRow]]
    exact this
  have hr3 : Holds W3 R 5 (bytesRow (List.replicate n1 0 ++ List.replicate (cp - n1) 0)) := by rw [hW3]; exact hr2.set_other (by omega) 2 _
  have hn3 : Holds W3 b 230 [.string pth, .bool false, .slice (some ⟨R, 0, none⟩) n1 cp, mv, .int .i64 0] := by rw [hW3, unhide HW2]; exact (((unhide HB1).heap (W' := W1.drew) rfl).alloc _).set 2 _
  have ht3 : Holds W3 tb 163 [.pointer (some ⟨ab, 0, none⟩), .int .i64 n, .int .i64 li, .int .i64 (used + (n1 : Int)), .int .i64 lb] := by rw [hW3, unhide HW2]; exact (((unhide HT1).heap (W' := W1.drew) rfl).alloc _).set_other hbt.symm 2 _
  have hf1 : FrameK w W1 tb b := by rw [unhide HW1]; exact (FrameK.refl w tb b).grownL (w'' := wq.setCell ⟨tb, 3, none⟩ (.int .i64 (used + (n1 : Int)))) (grown_set (w := w) (wr := wq) (b := tb) (unhide HGQ) 3 _)
  have hb12 : Below W1.heap.size W1 W2 := by
    rw [unhide HW2]
    have h := (Below.refl W1.drew.heap.size W1.drew).alloc (Nat.le_refl _) (.cells (Builtin.zeroCells (Value.int .u8 0).cells n1 ++ Builtin.zeroCells (Value.int .u8 0).cells (cp - n1)) 5)
    exact ⟨h.os, h.tape, h.output, h.size, h.block⟩
  have hf3 : FrameK w W3 tb b := by rw [hW3]; exact (hf1.step hb12).grownR (grown_set (w := W2) (wr := W2) ⟨rfl, rfl, rfl, Nat.le_refl _, fun _ _ _ => rfl⟩ 2 _)
  have hsrc : ∀ (j : Nat) (v : Value), (bytesRow L)[j]? = some v → W3.cell? ((⟨q, o, none⟩ : Addr).add j) = some v := by
    intro j v hj
    have hjl : j < L.length := by have := (List.getElem?_eq_some_iff.1 hj).1; rwa [bytesRow_length] at this
    rw [bytesRow_get L j hjl] at hj
    obtain rfl := Option.some.inj hj
    have h := (unhide HV) j hjl
    have he : W3.cell? ⟨q, o + j, none⟩ = w.cell? ⟨q, o + j, none⟩ := by unfold World.cell?; rw [hf3.block q hq hqt hqb]
    rw [show (⟨q, o, none⟩ : Addr).add j = ⟨q, o + j, none⟩ from by simp [Addr.add]]
    exact he.trans h
  have hln : (bytesRow L).length = Nat.min n1 n1 := by rw [bytesRow_length, hL]; simp
  have hft : 0 + (bytesRow L).length ≤ (bytesRow (List.replicate n1 0 ++ List.replicate (cp - n1) 0)).length := by rw [bytesRow_length, bytesRow_length, hL]; simp
  have hrr : w.heap.size ≤ R := by omega
  have HRR := hide hrr
  have HR3 := hide (show W3.heap[R]? = some (.cells (bytesRow (List.replicate n1 0 ++ List.replicate (cp - n1) 0)).toArray 5 (0, 0)) from hr3)
  have HN3 := hide hn3
  have HT3 := hide ht3
  have HF3 := hide hf3
  have HSRC := hide hsrc
  have HLN := hide (And.intro hln hft)
  have c3 : W3.cell? ⟨b, 2, none⟩ = some (.slice (some ⟨R, 0, none⟩) n1 cp) := hn3.cell rfl
  have HLL := hide hL
  clear hsrc hln hft hrr hr3 hn3 ht3 hf3 hf1 hb12 hr2 hRs hbl htl hW3 hR hL hq hqt hqb
  go_upto_region 9 with (refine wpList_copy_splice rfl _ _ 32 32 rfl 5 Tryz.underlying32 u8one (some ⟨R, 0, none⟩) (some ⟨q, o, none⟩) n1 cp n1 c1 rfl rfl R 0 (bytesRow (List.replicate n1 0 ++ List.replicate (cp - n1) 0)) 5 (unhide HR3) (bytesRow L) (unhide HLN).1 (fun _ => ⟨rfl, ⟨q, o, none⟩, rfl, unhide HSRC⟩) (unhide HLN).2 (bytesRow_one' _) R W3 (Below.refl _ _) (Nat.le_refl _) ?_; intro w4 H4 hb4)
  have HP := hide (show Holds w4 tb 163 [.pointer (some ⟨ab, 0, none⟩), .int .i64 n, .int .i64 li, .int .i64 (used + (n1 : Int)), .int .i64 lb] ∧ FrameK w w4 tb b ∧ ∃ R cp, w.heap.size ≤ R ∧ n1 ≤ cp ∧ cp ≤ maxLen ∧ Holds w4 b 230 [.string pth, .bool false, .slice (some ⟨R, 0, none⟩) n1 cp, mv, .int .i64 0] ∧ Holds w4 R 5 (bytesRow (L ++ List.replicate (cp - n1) 0)) from by
    have hrr := unhide HRR
    have htl := (unhide HT).lt
    have hbl := (unhide HB).lt
    have hf3 := unhide HF3
    refine ⟨(unhide HT3).below hb4 (by omega), ⟨hb4.os.trans hf3.os, hb4.tape.trans hf3.tape, hb4.output.trans hf3.output, Nat.le_trans hf3.size hb4.size, fun k hk h1 h2 => (hb4.block k (by omega)).trans (hf3.block k hk h1 h2)⟩, R, cp, hrr, (unhide HCL).1, (unhide HCL).2, (unhide HN3).below hb4 (by omega), ?_⟩
    have h := unhide H4
    rw [bytesRow_splice, show splice (List.replicate n1 (0 : Int) ++ List.replicate (cp - n1) 0) 0 L = L ++ List.replicate (cp - n1) 0 from by simp [splice, unhide HLL]] at h
    exact h)
  clear H4 hb4 HR3 HN3 HT3 HF3 HSRC HLN HRR c3
  go_wp2
  go_ret
  exact ⟨rfl, unhide HP⟩
end Go.Proofs.YtkokiefclmbgaaaGreatDoor
