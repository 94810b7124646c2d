import Derived.Test.YtkmbleboceedbaaGreatDoorBootsProofG01
import Derived.Laws.Bits64
import Derived.Laws.BitsAllLaws
import Derived.Lib.BufferWrite
import Derived.Laws.CopyOwn
import Derived.Deep.OwnRows
import Derived.Deep.QuietTactic
import Derived.BigQuiet
/- Load: numbers out of bytes. -/
namespace Go.Proofs.YtkmbleboceedbaaGreatDoor
open Go.RowKit
set_option linter.unusedVariables false
set_option linter.unusedSimpArgs false

/-- The number that k bytes from p on make, the lowest first. -/
def numAt (B : List Int) (p : Nat) : Nat → Int
  | 0 => 0
  | k + 1 => B.getD p 0 + 256 * numAt B (p + 1) k
/-- Bytes. -/
def IsBytes (B : List Int) : Prop := ∀ j, 0 ≤ B.getD j 0 ∧ B.getD j 0 ≤ 255
theorem numAt_bd {B : List Int} (hB : IsBytes B) : ∀ (k p : Nat), 0 ≤ numAt B p k ∧ numAt B p k < 256 ^ k
  | 0, p => by simp [numAt]
  | k + 1, p => by
    have h1 := numAt_bd hB k (p + 1)
    have h2 := hB p
    rw [numAt, Int.pow_succ]
    omega
theorem pow_le8 : ∀ k : Fin 9, (256 : Int) ^ k.val ≤ 18446744073709551616 := by decide
theorem pow_le7 : ∀ k : Fin 8, (256 : Int) ^ k.val ≤ 72057594037927936 := by decide
theorem numAt_8 {B : List Int} (hB : IsBytes B) (p k : Nat) (hk : k ≤ 8) : 0 ≤ numAt B p k ∧ numAt B p k < 18446744073709551616 := by
  have h := numAt_bd hB k p
  have := pow_le8 ⟨k, by omega⟩
  simp only at this
  omega
theorem numAt_7 {B : List Int} (hB : IsBytes B) (p k : Nat) (hk : k ≤ 7) : 0 ≤ numAt B p k ∧ numAt B p k < 72057594037927936 := by
  have h := numAt_bd hB k p
  have := pow_le7 ⟨k, by omega⟩
  simp only at this
  omega
theorem shl_or (n c : Int) (h0 : 0 ≤ n) (h1 : n < 72057594037927936) (c0 : 0 ≤ c) (c1 : c ≤ 255) : IntKind.u64.wrap (n * 256) = n * 256 ∧ bits BinOp.or IntKind.u64 (n * 256) c = c + 256 * n ∧ IntKind.u64.wrap (n * 256 + c) = c + 256 * n := by
  refine ⟨by rw [IntKind.wrap_u64]; omega, ?_, by rw [IntKind.wrap_u64]; omega⟩
  rw [u64_or (n * 256) c (by omega) (by omega) c0 (by omega)]
  have e : (n * 256).toNat = 2 ^ 8 * n.toNat := by omega
  rw [e, ← Nat.two_pow_add_eq_or_of_lt (by omega)]
  omega
/-- The bytes B lie from off on in block b. -/
def BView (w : World) (b off : Nat) (B : List Int) : Prop := ∀ j, j < B.length → w.cell? ⟨b, off + j, none⟩ = some (.int .u8 (B.getD j 0))
theorem BView.below {w w' : World} {b off : Nat} {B : List Int} (h : BView w b off B) (hb : Below w.heap.size w w') (hlt : b < w.heap.size) : BView w' b off B :=
  fun j hj => by rw [hb.cell (p := ⟨b, off + j, none⟩) hlt]; exact h j hj

set_option maxHeartbeats 1000000 in
theorem memNumber_any (b off k cap : Nat) (B : List Int) (p : Nat) (w : World) (hB : IsBytes B) (hk : k ≤ 8) (hc : ∀ j, j < k → w.cell? ⟨b, off + j, none⟩ = some (.int .u8 (B.getD (p + j) 0))) :
    Calls Tryz.prog 121 #[.slice (some ⟨b, off, none⟩) k cap] w fun e w' => e = .returned (.int .u64 (numAt B p k)) ∧ w' = w := by
  have HB := hide hB
  have HC := hide hc
  clear hB hc
  go_enter Tryz.func121, Tryz.ntmps121
  go_wp2
  go_loop [3, 4] (fun n i => ∃ j : Nat, j ≤ k ∧ i = .int .i64 ((j : Int) - 1) ∧ n = .int .u64 (numAt B (p + j) (k - j))) (fun _ i => (intOf i + 1).toNat)
  case atStart => exact ⟨k, Nat.le_refl _, rfl, by rw [Nat.sub_self]; rfl⟩
  case round =>
    obtain ⟨j, hj, rfl, rfl⟩ := hrel
    rcases j with _ | i
    · go_wp2
      go_ret
      exact ⟨rfl, rfl⟩
    · have hci := (unhide HC) i (by omega)
      have hcb := (unhide HB) (p + i)
      have hn := numAt_7 (unhide HB) (p + (i + 1)) (k - (i + 1)) (by omega)
      have st : numAt B (p + i) (k - i) = B.getD (p + i) 0 + 256 * numAt B (p + (i + 1)) (k - (i + 1)) := by
        rw [show k - i = k - (i + 1) + 1 from by omega, numAt]; rfl
      generalize numAt B (p + (i + 1)) (k - (i + 1)) = n at *
      generalize B.getD (p + i) 0 = c at *
      have e1 : (((i + 1 : Nat) : Int) - 1) = (i : Int) := by omega
      rw [e1]
      obtain ⟨y1, y2, y3⟩ := shl_or n c hn.1 hn.2 hcb.1 hcb.2
      have y0 : IntKind.u64.wrap c = c := by rw [IntKind.wrap_u64]; omega
      have HS := hide st
      clear st e1 hn hcb
      go_wp2
      go_round
      case rel => exact ⟨i, by omega, rfl, by rw [unhide HS]⟩
      case measure => simp [intOf]

set_option maxHeartbeats 1000000 in
theorem refNumber_any (b off k cap : Nat) (B : List Int) (p : Nat) (w : World) (hB : IsBytes B) (hk : k ≤ 8) (hc : ∀ j, j < k → w.cell? ⟨b, off + j, none⟩ = some (.int .u8 (B.getD (p + j) 0))) :
    Calls Tryz.prog 80 #[.slice (some ⟨b, off, none⟩) k cap] w fun e w' => e = .returned (.int .u64 (numAt B p k)) ∧ w' = w := by
  have HB := hide hB
  have HC := hide hc
  clear hB hc
  go_enter Tryz.func80, Tryz.ntmps80
  go_wp2
  go_loop [3, 4] (fun n i => ∃ j : Nat, j ≤ k ∧ i = .int .i64 ((j : Int) - 1) ∧ n = .int .u64 (numAt B (p + j) (k - j))) (fun _ i => (intOf i + 1).toNat)
  case atStart => exact ⟨k, Nat.le_refl _, rfl, by rw [Nat.sub_self]; rfl⟩
  case round =>
    obtain ⟨j, hj, rfl, rfl⟩ := hrel
    rcases j with _ | i
    · go_wp2
      go_ret
      exact ⟨rfl, rfl⟩
    · have hci := (unhide HC) i (by omega)
      have hcb := (unhide HB) (p + i)
      have hn := numAt_7 (unhide HB) (p + (i + 1)) (k - (i + 1)) (by omega)
      have st : numAt B (p + i) (k - i) = B.getD (p + i) 0 + 256 * numAt B (p + (i + 1)) (k - (i + 1)) := by
        rw [show k - i = k - (i + 1) + 1 from by omega, numAt]; rfl
      generalize numAt B (p + (i + 1)) (k - (i + 1)) = n at *
      generalize B.getD (p + i) 0 = c at *
      have e1 : (((i + 1 : Nat) : Int) - 1) = (i : Int) := by omega
      rw [e1]
      obtain ⟨y1, y2, y3⟩ := shl_or n c hn.1 hn.2 hcb.1 hcb.2
      have y0 : IntKind.u64.wrap c = c := by rw [IntKind.wrap_u64]; omega
      have HS := hide st
      clear st e1 hn hcb y2
      go_wp2
      go_round
      case rel => exact ⟨i, by omega, rfl, by rw [unhide HS]⟩
      case measure => simp [intOf]

set_option maxHeartbeats 1000000 in
theorem number_any (b off cap : Nat) (B : List Int) (p k : Nat) (w : World) (hB : IsBytes B) (hk : k ≤ 8) (hk0 : 0 < k) (hp : p + k ≤ B.length) (hcap : B.length ≤ cap) (hlen : B.length ≤ 1000000) (hv : BView w b off B) :
    Calls Tryz.prog 101 #[.slice (some ⟨b, off, none⟩) B.length cap, .int .i64 p, .int .i64 k] w fun e w' => e = .returned (.int .u64 (numAt B p k)) ∧ w' = w := by
  have H := hide (memNumber_any b (off + p) k (cap - p) B p w hB hk (fun j hj => by rw [Nat.add_assoc]; exact hv (p + j) (by omega)))
  obtain ⟨q, hq⟩ : ∃ q, q = p + k := ⟨_, rfl⟩
  have e1 : (p : Int) + (k : Int) = (q : Int) := by omega
  have e2 : ¬ cap = p := by omega
  have e3 : q - p = k := by omega
  have e4 : (p : Int) ≤ (q : Int) := by omega
  have e5 : (q : Int) ≤ (cap : Int) := by omega
  have e6 : p ≤ q := by omega
  have e7 : q ≤ cap := by omega
  have e8 : (q : Int) ≤ 1000000 := by omega
  clear hB hv hq
  go_enter Tryz.func101, Tryz.ntmps101
  go_wp2_with fail
  refine (unhide H).mono ?_
  rintro e w1 ⟨rfl, hw1⟩
  subst hw1
  go_wp2
  go_ret
  exact ⟨rfl, rfl⟩
end Go.Proofs.YtkmbleboceedbaaGreatDoor

/- 'copy(dst, s)' of a string, as one step of a region that draws its order. -/
namespace Go.Proofs.YtkmbleboceedbaaGreatDoor
open Go Go.RowKit
theorem grown_setRow {w : World} {g : Nat} (cs : Array Value) : w.grownBy (w.setRow g cs) (some g) :=
  ⟨rfl, rfl, rfl, by simp [World.setRow], fun k hk hne => setRow_other w g k cs (fun e => hne (by simp [e]))⟩
theorem step_copy_str {P : Program} {ops : Array Oper} {o : Oper} {a : Act} {w : World} {K : Act → World → Prop} {Q : Exit → Act → World → Prop} {E : Prop} (hgd : o.guard = none) (d s : Operand) (dT sT : TypeId)
    (ho : o.op = .call { callee := .builtin .copy, args := #[d, s], argTypes := #[dT, sT] }) (elem : TypeId) (hu : P.underlying dT = some (.slice elem)) (hsz : (P.info? elem).map (·.size) = some 1)
    (g off dLen dCap : Nat) (str : ByteArray) (hd : a.eval d = .slice (some ⟨g, off, none⟩) dLen dCap) (hs : a.eval s = .string str)
    (cur : List Value) (t : TypeId) (hg : Holds w g t cur) (hle : str.size ≤ dLen) (hfit : off + str.size ≤ cur.length)
    (h : ∀ w', Hid (Holds w' g t (splice cur off (Lib.byteCells str.data.toList))) → w.grownBy w' (some g) → K (a.put o.dst (goInt str.size)) w') :
    if Region.wanted o (yielded ops a.tmps) = true then Oper.wp P o a w K Q else E := by
  have hw : Region.wanted o (yielded ops a.tmps) = true := by simp [Region.wanted, hgd]
  rw [if_pos hw]
  have hrun := Lib.run_copy_row_string (P := P) w dT sT o.type elem g off dLen dCap str cur.toArray t hu hsz hg hle (by simpa using hfit)
  have hlen : (Lib.byteCells str.data.toList).length = str.size := by rw [Lib.byteCells_length, ← Lib.size_eq]
  unfold Oper.wp
  simp [execOp, ho, resolve, invoke, builtin, hd, hs, hrun, Result.andThen]
  refine h _ ?_ (grown_setRow _)
  show Holds _ _ _ _
  unfold Holds
  rw [setRow_heap w g _ _ t _ hg]
  unfold splice
  rw [hlen]
/-- The same of a slice. -/
theorem step_copy_row {P : Program} {ops : Array Oper} {o : Oper} {a : Act} {w : World} {K : Act → World → Prop} {Q : Exit → Act → World → Prop} {E : Prop} (hgd : o.guard = none) (d s : Operand) (dT sT : TypeId)
    (ho : o.op = .call { callee := .builtin .copy, args := #[d, s], argTypes := #[dT, sT] }) (elem : TypeId) (hu : P.underlying dT = some (.slice elem)) (hsz : (P.info? elem).map (·.size) = some 1)
    (g off dLen dCap : Nat) (q qo sLen sCap : Nat) (hd : a.eval d = .slice (some ⟨g, off, none⟩) dLen dCap) (hs : a.eval s = .slice (some ⟨q, qo, none⟩) sLen sCap)
    (cur : List Value) (t : TypeId) (hg : Holds w g t cur) (cs : List Value) (hn : cs.length = Nat.min sLen dLen) (hsrc : ∀ j v, cs[j]? = some v → w.cell? ⟨q, qo + j, none⟩ = some v)
    (h1 : ∀ v ∈ cs, v.oneCell' = true) (hfit : off + cs.length ≤ cur.length)
    (h : ∀ w', Hid (Holds w' g t (splice cur off cs)) → w.grownBy w' (some g) → K (a.put o.dst (goInt cs.length)) w') :
    if Region.wanted o (yielded ops a.tmps) = true then Oper.wp P o a w K Q else E := by
  have hw : Region.wanted o (yielded ops a.tmps) = true := by simp [Region.wanted, hgd]
  rw [if_pos hw]
  have hrun := run_copy_row (P := P) w dT sT o.type elem g off dLen dCap ⟨q, qo, none⟩ sLen sCap cur.toArray t cs hu hsz hg hn (fun j v hv => by rw [show (⟨q, qo, none⟩ : Addr).add j = ⟨q, qo + j, none⟩ from by unfold Addr.add; split <;> simp_all]; exact hsrc j v hv) (by simpa using hfit) h1
  unfold Oper.wp
  simp [execOp, ho, resolve, invoke, builtin, hd, hs, hrun, Result.andThen]
  refine h _ ?_ (grown_setRow _)
  show Holds _ _ _ _
  unfold Holds
  rw [setRow_heap w g _ _ t _ hg]
  simp [splice]
end Go.Proofs.YtkmbleboceedbaaGreatDoor

/- The law's own helpers: same, roomy, still. -/
namespace Go.Proofs.YtkmbleboceedbaaGreatDoor
open Go.RowKit
set_option linter.unusedVariables false
set_option linter.unusedSimpArgs false

set_option maxRecDepth 100000 in
set_option maxHeartbeats 1000000 in
theorem same_any (aa ab : Option Addr) (ga oa ca gb ob cb : Nat) (B : List Int) (w : World) (ha : 0 < B.length → aa = some ⟨ga, oa, none⟩) (hb : 0 < B.length → ab = some ⟨gb, ob, none⟩)
    (hA : BView w ga oa B) (hB : BView w gb ob B) (hn : B.length ≤ 1000000) :
    Calls Tryz.prog 22 #[.slice aa B.length ca, .slice ab B.length cb] w fun e w' => e = .returned (.bool true) ∧ w'.heap = w.heap ∧ Below w.heap.size w w' := by
  have HA := hide hA
  have HB := hide hB
  have HA1 := hide ha
  have HB1 := hide hb
  clear hA hB ha hb
  go_enter Tryz.func22, Tryz.ntmps22
  go_wp2
  go_loopw [5] (fun i wr => ∃ k : Nat, k ≤ B.length ∧ i = .int .i64 k ∧ wr.heap = w.heap ∧ Below w.heap.size w wr) (fun i _ => B.length - (intOf i).toNat)
  case atStart => exact ⟨0, by omega, rfl, rfl, Below.refl _ _⟩
  case round =>
    obtain ⟨k, hk, rfl, hh, hbl⟩ := hrel
    have HH := hide hh
    have HBL := hide hbl
    clear hh hbl
    by_cases hlt : k < B.length
    · have e1 := (unhide HA1) (by omega)
      have e2 := (unhide HB1) (by omega)
      subst e1 e2
      have hcells : ∀ a, wr.cell? a = w.cell? a := fun a => by unfold World.cell?; rw [unhide HH]
      have c1 : wr.cell? ⟨ga, oa + k, none⟩ = some (.int .u8 (B.getD k 0)) := by rw [hcells]; exact (unhide HA) k hlt
      have c2 : wr.cell? ⟨gb, ob + k, none⟩ = some (.int .u8 (B.getD k 0)) := by rw [hcells]; exact (unhide HB) k hlt
      generalize B.getD k 0 = x at c1 c2
      have hk0 : (0 : Int) ≤ (k : Int) := by omega
      have hk1 : (k : Int) < (B.length : Int) := by omega
      clear hcells
      go_wp2
      go_quiet (fail)
      go_wp2
      go_roundw
      case rel => exact ⟨k + 1, by omega, by go_num, unhide HH, ⟨(unhide HBL).os, (unhide HBL).tape, (unhide HBL).output, (unhide HBL).size, (unhide HBL).block⟩⟩
      case measure => simp [intOf]; omega
    · go_wp2
      go_ret
      exact ⟨rfl, unhide HH, unhide HBL⟩

theorem u8info : (Tryz.prog.info? 5).map (fun i => (i.zero, i.size, i.bytes)) = some (some (.int .u8 0), 1, 1) := by kernel_rfl
theorem u8one : (Tryz.prog.info? 5).map (·.size) = some 1 := by kernel_rfl
def zeroBytes (n : Nat) : Array Value := (bytesRow (List.replicate n 0)).toArray
theorem made_bytes (n : Nat) : madeCells #[.int .u8 0] n = zeroBytes n := by
  unfold madeCells zeroBytes bytesRow
  apply Array.ext
  · simp
  · intro i h1 h2
    simp [Nat.mod_one]
theorem roomy_row (B : List Int) : ((splice (List.replicate (B.length + 2) 0) 0 B).set B.length 71).set (B.length + 1) 72 = B ++ [71, 72] := by
  have e : splice (List.replicate (B.length + 2) 0) 0 B = B ++ [0, 0] := by
    unfold splice
    rw [List.drop_replicate, show B.length + 2 - (0 + B.length) = 2 from by omega]
    rfl
  rw [e, List.set_append_right _ _ (Nat.le_refl _), List.set_append_right _ _ (by omega)]
  simp
theorem bytesRow_one' (L : List Int) : ∀ v ∈ bytesRow L, v.oneCell' = true := by
  intro v hv
  obtain ⟨x, _, rfl⟩ := List.mem_map.1 hv
  rfl
theorem addr_add (b o j : Nat) : (⟨b, o, none⟩ : Addr).add j = ⟨b, o + j, none⟩ := by unfold Addr.add; split <;> simp_all

set_option maxRecDepth 100000 in
set_option maxHeartbeats 1000000 in
theorem roomy_any (a : Option Addr) (b off cap : Nat) (B : List Int) (w : World) (ha : 0 < B.length → a = some ⟨b, off, none⟩) (hv : BView w b off B) (hbw : 0 < B.length → b < w.heap.size) (hn : B.length ≤ 1000000) :
    Calls Tryz.prog 14 #[.slice a B.length cap] w fun e w' => e = .returned (.slice (some ⟨w.heap.size, 0, none⟩) B.length (B.length + 2)) ∧ Holds w' w.heap.size 5 (bytesRow (B ++ [71, 72])) ∧ Below w.heap.size w w' := by
  have HA := hide ha
  have HV := hide hv
  have HBW := hide hbw
  have hmk : ∀ w, (Instr.makeSlice 32 (.int .i64 ((B.length : Int) + 2)) (.int .i64 ((B.length : Int) + 2))).run Tryz.prog w = .ok (.slice (some ⟨w.heap.size, 0, none⟩) (B.length + 2) (B.length + 2)) (w.alloc (.cells (zeroBytes (B.length + 2)) 5)) := by
    intro w
    have := run_make_row' (P := Tryz.prog) 32 5 (.int .u8 0) 1 Tryz.underlying32 u8info rfl .i64 .i64 (B.length + 2) (by omega) (by omega) w
    rwa [show (((B.length + 2 : Nat)) : Int) = (B.length : Int) + 2 from by omega, made_bytes] at this
  have hsrc : 0 < (bytesRow B).length → (some ⟨w.heap.size, 0, none⟩ : Option Addr) = some ⟨w.heap.size, 0, none⟩ ∧ ∃ ad, a = some ad ∧ ∀ j v, (bytesRow B)[j]? = some v → (w.alloc (.cells (zeroBytes (B.length + 2)) 5)).cell? (ad.add j) = some v := by
    intro h0
    rw [bytesRow_length] at h0
    refine ⟨rfl, ⟨b, off, none⟩, ha h0, fun j v hj => ?_⟩
    have hl := (List.getElem?_eq_some_iff.1 hj).1
    rw [bytesRow_length] at hl
    rw [bytesRow_get _ _ hl] at hj
    rw [addr_add, Below.cell ((Below.refl _ w).alloc (Nat.le_refl _) _) (p := ⟨b, off + j, none⟩) (hbw h0), hv j hl]
    exact hj
  have HSRC := hide hsrc
  clear ha hv hbw hsrc
  go_enter Tryz.func14, Tryz.ntmps14
  go_wp2_with (
                refine wpList_copy_splice rfl _ _ 32 32 rfl 5 Tryz.underlying32 u8one (some ⟨w.heap.size, 0, none⟩) a (B.length + 2) (B.length + 2) B.length cap rfl rfl w.heap.size 0 (bytesRow (List.replicate (B.length + 2) 0)) 5 (Holds.new _ _ _) (bytesRow B) (by rw [bytesRow_length]; simp only [Nat.min_def]; split <;> omega) (unhide HSRC) (by rw [bytesRow_length, bytesRow_length]; simp) (bytesRow_one' _) w.heap.size w ((Below.refl _ _).alloc (Nat.le_refl _) _) (Nat.le_refl _) ?_
                intro w1 H1 hb1
                have hh : Holds w1 w.heap.size 5 (bytesRow (splice (List.replicate (B.length + 2) 0) 0 B)) := by
                  rw [← bytesRow_splice]; exact unhide H1
                have hl : (splice (List.replicate (B.length + 2) 0) 0 B).length = B.length + 2 := by rw [splice_length _ _ _ (by simp)]; simp
                have HRR := hide (roomy_row B)
                generalize splice (List.replicate (B.length + 2) 0) 0 B = R at hh hl HRR
                have c1 := hh.cell (bytesRow_get R B.length (by omega))
                have f1 := hh.frozen B.length
                have hh2 := hh.set B.length (.int .u8 71)
                have c2 : (w1.setCell ⟨w.heap.size, B.length, none⟩ (.int .u8 71)).cell? ⟨w.heap.size, B.length + 1, none⟩ = some (.int .u8 ((R.set B.length 71).getD (B.length + 1) 0)) := hh2.cell (by rw [bytesRow_set]; exact bytesRow_get _ _ (by rw [List.length_set]; omega))
                have f2 := hh2.frozen (B.length + 1)
                have hh3 := hh2.set (B.length + 1) (.int .u8 72)
                rw [bytesRow_set, bytesRow_set, unhide HRR] at hh3
                have hb3 := (hb1.setCell (p := ⟨w.heap.size, B.length, none⟩) (Nat.le_refl _) (.int .u8 71)).setCell (p := ⟨w.heap.size, B.length + 1, none⟩) (Nat.le_refl _) (.int .u8 72)
                have HH3 := hide hh3
                have HB3 := hide hb3
                generalize R.getD B.length 0 = x1 at c1
                generalize (R.set B.length 71).getD (B.length + 1) 0 = x2 at c2
                clear hh hh2 hh3 hb3 H1 hb1 hl HRR
                have k1 : (B.length : Int) < (B.length : Int) + 2 := by omega)
  go_ret
  exact ⟨rfl, unhide HH3, unhide HB3⟩

theorem still_step {w wr : World} {g : Nat} {t : TypeId} {L : List Int} {n : Nat} (h : Holds wr g t (bytesRow L)) (hL : L.length = n) (hr : w.grownBy wr (some g)) (k : Nat) (y : Int) :
    ∃ L : List Int, L.length = n ∧ Holds (wr.setCell ⟨g, k, none⟩ (.int .u8 y)) g t (bytesRow L) ∧ w.grownBy (wr.setCell ⟨g, k, none⟩ (.int .u8 y)) (some g) :=
  ⟨L.set k y, by rw [List.length_set]; exact hL, by rw [← bytesRow_set]; exact h.set k _, grown_set hr _ _⟩
set_option maxRecDepth 100000 in
set_option maxHeartbeats 1000000 in
theorem still_any (g : Nat) (a : Option Addr) (b off cap : Nat) (B : List Int) (w : World) (hg : Holds w g 5 (bytesRow (B ++ [71, 72]))) (ha : 0 < B.length → a = some ⟨b, off, none⟩) (hv : BView w b off B) (hn : B.length ≤ 1000000) :
    Calls Tryz.prog 15 #[.slice (some ⟨g, 0, none⟩) B.length (B.length + 2), .slice a B.length cap] w fun e w' => e = .returned (.bool true) ∧ w.grownBy w' (some g) := by
  have hA : BView w g 0 B := fun j hj => by
    rw [Nat.zero_add]
    refine hg.cell ?_
    rw [bytesRow_get _ _ (by simp; omega)]
    simp [List.getD, List.getElem?_append_left hj]
  have HS := hide (same_any (some ⟨g, 0, none⟩) a g 0 (B.length + 2) b off cap B w (fun _ => rfl) ha hA hv hn)
  have HG := hide hg
  clear hA hg ha hv
  go_enter Tryz.func15, Tryz.ntmps15
  go_wp2_with fail
  refine (unhide HS).mono ?_
  rintro e w1 ⟨rfl, hh1, hb1⟩
  have hg1 := (unhide HG).heap hh1
  have c1 : w1.cell? ⟨g, B.length, none⟩ = some (.int .u8 71) := hg1.cell (by simp [bytesRow])
  have c2 : w1.cell? ⟨g, B.length + 1, none⟩ = some (.int .u8 72) := hg1.cell (by simp [bytesRow])
  have hgr : w.grownBy w1 (some g) := ⟨hb1.os, hb1.tape, hb1.output, hb1.size, fun k hk _ => hb1.block k hk⟩
  have HG1 := hide hg1
  have HGR := hide hgr
  clear hh1 hb1 hg1 hgr HS
  have k1 : (B.length : Int) < (B.length : Int) + 2 := by omega
  go_wp2
  go_loopw [8] (fun i wr => ∃ k : Nat, k ≤ B.length + 2 ∧ i = .int .i64 k ∧ ∃ L : List Int, L.length = B.length + 2 ∧ Holds wr g 5 (bytesRow L) ∧ w.grownBy wr (some g)) (fun i _ => B.length + 2 - (intOf i).toNat)
  case atStart => exact ⟨0, by omega, rfl, B ++ [71, 72], by simp, unhide HG1, unhide HGR⟩
  case round =>
    obtain ⟨k, hk, rfl, L, hL, hh, hgr⟩ := hrel
    have HH := hide hh
    have HR := hide hgr
    clear c1 c2
    by_cases hlt : k < B.length + 2
    · have c1 := hh.cell (bytesRow_get L k (by omega))
      have f1 := hh.frozen k
      generalize L.getD k 0 = x at c1
      have hk0 : (0 : Int) ≤ (k : Int) := by omega
      have hk1 : (k : Int) < (B.length : Int) + 2 := by omega
      clear hh hgr
      go_wp2
      go_roundw
      case rel => exact ⟨k + 1, by omega, by go_num, still_step (unhide HH) hL (unhide HR) k _⟩
      case measure => simp [intOf]; omega
    · clear hh hgr
      have hk1 : ¬ (k : Int) < (B.length : Int) + 2 := by omega
      go_wp2
      go_ret
      exact ⟨rfl, unhide HR⟩
end Go.Proofs.YtkmbleboceedbaaGreatDoor
