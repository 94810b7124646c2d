import Derived.Test.YtkokiefclmbgaaaGreatDoorBootsProofG30
import Derived.Test.YtkokiefclmbgaaaGreatDoorBootsProofG07
import Derived.Test.YtkokiefclmbgaaaGreatDoorBootsProofG23
import Derived.Test.YtkokiefclmbgaaaGreatDoorBootsProofG25
import Derived.Maps.RangeWalk
import Derived.BigQuiet
/- The program's newProcess. -/
namespace Go.Proofs.YtkokiefclmbgaaaGreatDoor
open Go Go.RowKit
set_option linter.unusedVariables false
set_option linter.unusedSimpArgs false

def conFd (cb : Nat) : Value := .iface 114 (.pointer (some ⟨cb, 0, none⟩))
/-- Descriptors while they are set. -/
def kfdsTo (cb k : Nat) : List Value := List.replicate k (conFd cb) ++ List.replicate (8 - k) .nilIface
theorem kfdsTo_step (cb k : Nat) (h : k < 8) : (kfdsTo cb k).set k (conFd cb) = kfdsTo cb (k + 1) := by
  unfold kfdsTo
  have e := set_at (A := List.replicate k (conFd cb)) (B := List.replicate (8 - k) Value.nilIface) (n := k) (j := 0) List.length_replicate (conFd cb)
  rw [Nat.add_zero] at e
  rw [e, show 8 - k = (8 - (k + 1)) + 1 by omega, List.replicate_succ, List.set_cons_zero, List.replicate_succ', List.append_assoc]
  rfl
theorem proc_set {E : Int} {R : List Int} {S : List Value} {pid par st su wk : Int} {fds : List Value} (hR : R.length = 16) (hS : S.length = 65792) (k : Nat) (v : Value) : (procRow E R S pid par st su wk fds).set (65814 + k) v = procRow E R S pid par st su wk (fds.set k v) := by
  unfold procRow
  rw [show 65814 + k = 65809 + (5 + k) by omega, set_at (cpuRow_length hR hS)]
  congr 1
  exact set_at rfl v
theorem zero16_length : zero16.length = 16 := by unfold zero16; exact List.length_replicate

set_option maxRecDepth 100000 in
set_option maxHeartbeats 1000000 in
theorem newProcess_any (pid par : Int) (cb : Nat) (w : World) :
    Calls Tryz.prog 40 #[.int .i64 pid, .int .i64 par, .pointer (some ⟨cb, 0, none⟩)] w fun e w' => e = .returned (.pointer (some ⟨w.heap.size, 0, none⟩)) ∧ Below w.heap.size w w' ∧ Holds w' w.heap.size 183 (procRow 0 zero16 zeroSpace pid par 0 0 0 (kfdsTo cb 3)) := by
  have hpn := proc_new pid par
  obtain ⟨W1, hW1⟩ : ∃ W1, W1 = w.alloc (.cells (procRow 0 zero16 zeroSpace pid par 0 0 0 nil8).toArray 183) := ⟨_, rfl⟩
  have h1 : Holds W1 w.heap.size 183 (procRow 0 zero16 zeroSpace pid par 0 0 0 (kfdsTo cb 0)) := by rw [hW1]; exact Holds.new w 183 _
  have hb1 : Below w.heap.size w W1 := by rw [hW1]; exact (Below.refl _ _).alloc (Nat.le_refl _) _
  have HW1 := hide hW1
  have H1 := hide h1
  have HB1 := hide hb1
  clear hW1 h1 hb1
  go_enter Tryz.func40, Tryz.ntmps40
  go_upto_region 2 with fail
  rw [← unhide HW1]
  clear hpn
  go_wp2
  go_loopw [13] (fun i wr => ∃ k : Nat, k ≤ 3 ∧ i = .int .i64 k ∧ Hid (Holds wr w.heap.size 183 (procRow 0 zero16 zeroSpace pid par 0 0 0 (kfdsTo cb k))) ∧ Hid (Below w.heap.size w wr)) (fun i _ => 3 - (intOf i).toNat)
  case atStart => exact ⟨0, by omega, rfl, H1, HB1⟩
  case round =>
    obtain ⟨k, hk, rfl, HR, HB⟩ := hrel
    by_cases hlt : k < 3
    · have hk0 : (0 : Int) ≤ (k : Int) := by omega
      have hk1 : (k : Int) < 3 := by omega
      have hk8 : (k : Int) < 8 := by omega
      have hcl : (wr.cell? ⟨w.heap.size, 65814 + k, none⟩).isSome = true := by
        have hl : (procRow 0 zero16 zeroSpace pid par 0 0 0 (kfdsTo cb k)).length = 65822 := by
          unfold procRow
          rw [List.length_append, cpuRow_length zero16_length zeroSpace_length]
          unfold kfdsTo
          simp; omega
        rw [(unhide HR).cell (List.getElem?_eq_getElem (show 65814 + k < _ by rw [hl]; omega))]
        rfl
      obtain ⟨ov, hov⟩ := Option.isSome_iff_exists.1 hcl
      have hfz := (unhide HR).frozen (65814 + k)
      have HN := hide (show Holds (wr.setCell ⟨w.heap.size, 65814 + k, none⟩ (conFd cb)) w.heap.size 183 (procRow 0 zero16 zeroSpace pid par 0 0 0 (kfdsTo cb (k + 1))) ∧ Below w.heap.size w (wr.setCell ⟨w.heap.size, 65814 + k, none⟩ (conFd cb)) from by
        refine ⟨?_, (unhide HB).setCell (p := ⟨w.heap.size, 65814 + k, none⟩) (Nat.le_refl _) _⟩
        have := (unhide HR).set (65814 + k) (conFd cb)
        rw [proc_set zero16_length zeroSpace_length, kfdsTo_step cb k (by omega)] at this
        exact this)
      unfold conFd at HN
      clear hcl
      go_wp2
      exact ⟨⟨k + 1, by omega, by simp, hide (unhide HN).1, hide (unhide HN).2⟩, by simp only [intOf]; omega⟩
    · have hke : k = 3 := by omega
      subst hke
      go_wp2
      go_ret
      exact ⟨rfl, unhide HB, unhide HR⟩
end Go.Proofs.YtkokiefclmbgaaaGreatDoor

/- The program's kernel as it lies behind Boot: process 1 alone; frames, freeFrames. -/
namespace Go.Proofs.YtkokiefclmbgaaaGreatDoor
open Go Go.RowKit Go.Maps
set_option linter.unusedVariables false
set_option linter.unusedSimpArgs false

def procD (pb : Nat) : DataW Unit := .map [(.int .i64 1, .lit (.int .i64 pb))]
/-- A map that holds process 1 alone. -/
def OneProc (w : World) (pm pb : Nat) : Prop := w.ownsMap Tryz.prog 3 ptrElem pm 1 (procD pb)
theorem intKeyed : Keyed Tryz.prog 3 := int_keyed Tryz.underlying3
theorem OneProc.kept {w w' : World} {pm pb : Nat} (h : OneProc w pm pb) {row : Option Nat} (hg : w.grownBy w' row) (hne : some pm ≠ row) : OneProc w' pm pb := World.ownsMap.kept h hg hne
theorem procD_has {pb : Nat} {kl : Lit} (h : Maps.has (procD pb) kl = true) : kl = .int .i64 1 := by
  unfold procD at h
  rw [Maps.has_eq] at h
  simp at h
  exact (WideAt.sameKey_eq h).symm
theorem procD_at (pb : Nat) (zd : DataW Unit) : (procD pb).atKey (.int .i64 1) zd = .lit (.int .i64 pb) := rfl
theorem invInt (key : Value) (kl : Lit) (h : keyOf Tryz.prog 3 key = some kl) : ∃ x, key = Value.int .i64 x := by
  obtain ⟨x, rfl, _⟩ := Maps.keyOf_int_inv Tryz.underlying3 h
  exact ⟨x, rfl⟩
theorem invPtr (v : Value) (y : DataW Unit × List MemPlace) (h : ptrElem v = some y) : ∃ c, v = nodePtr c := by
  unfold ptrElem at h
  split at h
  · exact ⟨none, rfl⟩
  · rename_i b
    exact ⟨some b, rfl⟩
  · cases h
theorem one_key {x : Int} {kl : Lit} (h : keyOf Tryz.prog 3 (.int .i64 x) = some kl) (hk : kl = .int .i64 1) : x = 1 := by
  obtain ⟨y, e, h2, _⟩ := Maps.keyOf_int_inv Tryz.underlying3 h
  have hx : x = y := by simpa using e
  rw [hk] at h2
  have hy : 1 = y := by simpa using h2
  omega
theorem one_elem {pb : Nat} {c : Option Nat} {y : DataW Unit × List MemPlace} (h : ptrElem (nodePtr c) = some y) (hy : y.1 = .lit (.int .i64 pb)) : c = some pb := by
  cases c with
  | none =>
    have : y = (.nil, []) := (Option.some.inj h).symm
    rw [this] at hy; cases hy
  | some b =>
    have : y = (.lit (.int .i64 b), []) := (Option.some.inj h).symm
    rw [this] at hy
    injection hy with hy
    injection hy with _ hy
    have : b = pb := by omega
    rw [this]
def kernelRow (lp lf lo li lb : Int) (tb cb pm : Nat) : List Value := [.int .i64 lp, .int .i64 lf, .int .i64 lo, .int .i64 li, .int .i64 lb, .pointer (some ⟨tb, 0, none⟩), .pointer (some ⟨cb, 0, none⟩), .int .i64 0, .slice none 0 0, .map (some pm)]
/-- The pages of a process as its cells tell them. -/
def PermsAt (w : World) (pb : Nat) (PS : List Pg) : Prop := ∀ j : Nat, j < 256 → w.cell? ⟨pb, 17 + j * 257, none⟩ = some (.int .u8 (permAt PS j))
theorem PermsAt.below {w w' : World} {pb : Nat} {PS : List Pg} (h : PermsAt w pb PS) (hb : Below w.heap.size w w') (hl : pb < w.heap.size) : PermsAt w' pb PS := fun j hj => by rw [hb.cell (p := ⟨pb, 17 + j * 257, none⟩) hl]; exact h j hj

set_option maxRecDepth 100000 in
set_option maxHeartbeats 1000000 in
theorem frames_any (kb pm pb : Nat) (lp lf lo li lb : Int) (tb cb : Nat) (PS : List Pg) (w : World) (hk : Holds w kb 121 (kernelRow lp lf lo li lb tb cb pm)) (hm : OneProc w pm pb) (hpl : pb < w.heap.size) (hp : PermsAt w pb PS) (hok : PgsOk PS) (hn : PS.length ≤ 256) :
    Calls Tryz.prog 54 #[.pointer (some ⟨kb, 0, none⟩)] w fun e w' => e = .returned (.int .i64 (PS.length : Nat)) ∧ Below w.heap.size w w' := by
  have c9 : w.cell? ⟨kb, 9, none⟩ = some (.map (some pm)) := hk.cell rfl
  have HM := hide hm
  have HP := hide hp
  have HOK := hide hok
  have HPL := hide (And.intro hpl (show pm < w.heap.size from World.ownsMap.lt hm))
  have HN := hide hn
  clear hk hm hp hok hpl hn
  go_enter Tryz.func54, Tryz.ntmps54
  go_wp2_with (first | (at_range; refine wpList_range_own _ rfl _ 119 rfl 3 130 intKeyed Tryz.underlying119 ptrElem pm 1 (procD pb) rfl (unhide HM) ?_; intro w0 hrg0 hg0 hs0) | go_in)
  have HR0 := hide hrg0
  have HB0 := hide (show Below w.heap.size w w0 from ⟨hg0.os, hg0.tape, hg0.output, hg0.size, fun k hk => hg0.block k hk (by simp)⟩)
  clear hrg0 hg0 hs0 c9
  go_frame
  go_loopw [3] (fun c wr => ∃ (left : Lit → Bool) (cnt : Nat), Hid (wr.ranges Tryz.prog 3 ptrElem pm w.heap.size 1 (procD pb) left cnt) ∧ Hid (∀ kl, left kl = true → kl = .int .i64 1) ∧ Hid (cnt = 1 ∧ c = .int .i64 0 ∨ cnt = 0 ∧ c = .int .i64 (PS.length : Nat)) ∧ Hid (Below w.heap.size w wr)) (fun _ wr => wr.rangeLeft pm w.heap.size)
  case atStart => exact ⟨_, _, HR0, hide (fun kl h => procD_has h), hide (.inl ⟨rfl, rfl⟩), HB0⟩
  case round =>
    obtain ⟨left, cnt, HRG, HLF, HCN, HB⟩ := hrel
    go_wp2_with (first
      | (at_next; refine wpList_next_ranges _ rfl _ rfl 3 intKeyed ptrElem (Value.int .i64) nodePtr invInt invPtr pm w.heap.size 1 (procD pb) left cnt rfl (unhide HRG) ?_ ?_)
      | go_in)
    · intro hc0 hl0
      obtain rfl : u3 = .int .i64 (PS.length : Nat) := by
        rcases unhide HCN with ⟨q, _⟩ | ⟨_, q⟩
        · omega
        · exact q
      go_wp2
      go_ret
      exact ⟨rfl, unhide HB⟩
    · intro x c kl y1 y2 w1 cnt1 hkey hlk hv hat hrg1 hlt hg1 hs1 hen
      have hkl := unhide HLF kl hlk
      subst hkl
      obtain rfl := one_key hkey rfl
      obtain rfl := one_elem hv (show y1 = _ by rw [← hat .nil]; exact procD_at pb .nil)
      obtain ⟨rfl, rfl⟩ : cnt = 1 ∧ u3 = .int .i64 0 := by
        rcases unhide HCN with q | ⟨q, _⟩
        · exact q
        · omega
      have hb1 : Below w.heap.size w w1 := (unhide HB).trans ⟨hg1.os, hg1.tape, hg1.output, hg1.size, fun k hk => hg1.block k (by have := (unhide HB).size; omega) (by simp; omega)⟩
      have HCT := hide (count_any pb 17 PS w1 (unhide HOK) ((unhide HP).below hb1 (unhide HPL).1))
      have HRG1 := hide hrg1
      have HB1 := hide hb1
      have hn := unhide HN
      have hn0 : (PS.length : Int) ≤ 256 := by omega
      have hc1 : cnt1 = 0 := by omega
      clear hkey hlk hv hat hrg1 hlt hg1 hs1 hb1 hn
      unfold nodePtr at hen ⊢
      go_wp2_with fail
      refine (unhide HCT).mono ?_
      rintro e w2 ⟨rfl, rfl⟩
      clear hen HCT
      go_wp2
      subst hc1
      exact ⟨⟨_, _, HRG1, hide (fun kl h => by
        have := (Bool.and_eq_true _ _ ▸ h : left kl = true ∧ (!kl.sameKey (.int .i64 1)) = true)
        exact unhide HLF kl this.1), hide (.inr ⟨rfl, by simp⟩), HB1⟩, by rw [(unhide HRG1).left_eq, (unhide HRG).left_eq]; omega⟩
end Go.Proofs.YtkokiefclmbgaaaGreatDoor
