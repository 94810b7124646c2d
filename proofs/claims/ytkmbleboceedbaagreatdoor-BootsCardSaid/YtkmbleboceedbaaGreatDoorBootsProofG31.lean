import Derived.Test.YtkmbleboceedbaaGreatDoorBootsProofG30
import Derived.Deep.DeepCutAuto
import Derived.RegionTactic
import Derived.Test.YtkmbleboceedbaaGreatDoorBootsProofG04
import Derived.Test.YtkmbleboceedbaaGreatDoorBootsProofG21
import Derived.Test.YtkmbleboceedbaaGreatDoorBootsProofG26
import Derived.Maps.RangeWalk
import Derived.BigQuiet
/- The program's NewSpace. -/
namespace Go.Proofs.YtkmbleboceedbaaGreatDoor
open Go Go.RowKit
set_option linter.unusedVariables false
set_option linter.unusedSimpArgs false

theorem alloc_space (old : Value) (w : World) : (Instr.alloc 176 true old).run Tryz.prog w = .ok (.pointer (some ⟨w.heap.size, 0, none⟩)) (w.alloc (.cells zeroSpace.toArray 176)) := by
  have h := Tryz.zeroValue176 w
  rw [space_zero] at h
  generalize zeroSpace = Z at h
  simp [Instr.alloc, h, newVar, newRow, Value.cells]
set_option maxRecDepth 100000 in
theorem alloc_api (old : Value) (w : World) : (Instr.alloc 87 true old).run Tryz.prog w = .ok (.pointer (some ⟨w.heap.size, 0, none⟩)) (w.alloc (.cells (pageRow 0 0 zero256).toArray 87)) := by kernel_rfl
theorem apiSize : (Tryz.prog.info? 87).map (·.size) = some 258 := by kernel_rfl
theorem b256Size : (Tryz.prog.info? 85).map (·.size) = some 256 := by kernel_rfl
theorem mpageSize : (Tryz.prog.info? 173).map (·.size) = some 257 := by kernel_rfl
theorem spaceSize : (Tryz.prog.info? 176).map (·.size) = some 65792 := by
  have h := Tryz.sizeOf176 default
  cases hi : Tryz.prog.info? 176 with
  | none => simp [sizeOf, typeInfo, hi] at h
  | some i => simp [sizeOf, typeInfo, hi] at h; simp [h]
theorem pageRow_one (a b : Int) (L : List Int) : ∀ v ∈ pageRow a b L, v.oneCell' = true := by
  intro v hv
  simp only [pageRow, List.mem_cons] at hv
  rcases hv with rfl | rfl | hv
  · rfl
  · rfl
  · obtain ⟨x, _, rfl⟩ := List.mem_map.1 hv
    rfl
theorem pageRow_length' (a b : Int) (L : List Int) : (pageRow a b L).length = L.length + 2 := by simp [pageRow, bytesRow_length]
theorem pageCells_one (p : Pg) : ∀ v ∈ pageCells p, v.oneCell' = true := by
  intro v hv
  simp only [pageCells, List.mem_cons] at hv
  rcases hv with rfl | hv
  · rfl
  · obtain ⟨x, _, rfl⟩ := List.mem_map.1 hv
    rfl
theorem spacePage_one (PS : List Pg) (j : Nat) : ∀ v ∈ spacePage PS j, v.oneCell' = true := by
  intro v hv
  unfold spacePage at hv
  split at hv
  · exact pageCells_one _ v hv
  · rw [List.eq_of_mem_replicate hv]; rfl
theorem spaceRow_one (PS : List Pg) : ∀ v ∈ spaceRow PS, v.oneCell' = true := by
  intro v hv
  obtain ⟨j, _, hj⟩ := List.mem_flatMap.1 hv
  exact spacePage_one PS j v hj
theorem results_one {P : Program} {fn : Func} {tmps : Array Value} {a : Tmp} {t : TypeId} (h : fn.results = #[.cell a t]) {b : Nat} (ht : tmps.getD a undef = .pointer (some ⟨b, 0, none⟩)) {v : Value} {w : World} (hl : (loadVar t ⟨b, 0, none⟩).run P w = .ok v w) : (results fn tmps).run P w = .ok v w := by
  unfold results
  rw [h]
  have ht' : tmps[a]?.getD undef = .pointer (some ⟨b, 0, none⟩) := by simpa using ht
  simp [ht', asAddr, hl]
theorem zeroSpace_length : zeroSpace.length = 65792 := by rw [← space_nil]; exact spaceRow_length (fun p hp => by simp at hp)
theorem api_range {w : World} {g k : Nat} {PS : List Pg} {p : Pg} (h : ApiAt w g PS) (hp : PS[k]? = some p) : w.rangeAt g (k * 258) (pageRow p.num p.perm p.bytes) := by
  obtain ⟨h0, h1, h2⟩ := h k p hp
  intro j v hv
  unfold pageRow at hv
  cases j with
  | zero => obtain rfl := Option.some.inj hv; rw [Nat.add_zero]; exact h0
  | succ j =>
    cases j with
    | zero => obtain rfl := Option.some.inj hv; exact h1
    | succ j =>
      have := h2 j v hv
      rw [show k * 258 + (j + 1 + 1) = k * 258 + 2 + j by omega]
      exact this
theorem ApiAt.below {w w' : World} {g : Nat} {PS : List Pg} (h : ApiAt w g PS) (hb : Below w.heap.size w w') (hg : 0 < PS.length → g < w.heap.size) : ApiAt w' g PS := by
  intro i p hp
  have hl : 0 < PS.length := by have := (List.getElem?_eq_some_iff.1 hp).1; omega
  obtain ⟨h0, h1, h2⟩ := h i p hp
  refine ⟨by rw [hb.cell (p := ⟨g, i * 258, none⟩) (hg hl)]; exact h0, by rw [hb.cell (p := ⟨g, i * 258 + 1, none⟩) (hg hl)]; exact h1, fun j v hv => ?_⟩
  rw [hb.cell (p := ⟨g, i * 258 + 2 + j, none⟩) (hg hl)]
  exact h2 j v hv

set_option maxRecDepth 100000 in
set_option maxHeartbeats 2000000 in
theorem newSpace_any (a : Option Addr) (g cap : Nat) (PS : List Pg) (w : World) (hok : PgsOk PS) (ha : 0 < PS.length → a = some ⟨g, 0, none⟩ ∧ g < w.heap.size) (hp : ApiAt w g PS) (hn : PS.length ≤ 256) :
    Calls Tryz.prog 72 #[.slice a PS.length cap] w fun e w' => e = .returned (.agg (spaceRow PS).toArray) ∧ Below w.heap.size w w' := by
  have HP := hide hp
  have HOK := hide hok
  have HA := hide ha
  obtain ⟨W1, hW1⟩ : ∃ W1, W1 = w.alloc (.cells zeroSpace.toArray 176) := ⟨_, rfl⟩
  obtain ⟨W2, hW2⟩ : ∃ W2, W2 = W1.alloc (.cells zeroSpace.toArray 176) := ⟨_, rfl⟩
  have hs1 : W1.heap.size = w.heap.size + 1 := by rw [hW1]; simp
  have h1 : Holds W1 w.heap.size 176 zeroSpace := by rw [hW1]; exact Holds.new w 176 zeroSpace
  have h2 : Holds W2 (w.heap.size + 1) 176 (spaceRow (PS.take 0)) := by rw [List.take_zero, space_nil, ← hs1, hW2]; exact Holds.new W1 176 zeroSpace
  have h3 : Holds W2 w.heap.size 176 zeroSpace := by rw [hW2]; exact h1.alloc _
  have hb2 : Below w.heap.size w W2 := by rw [hW2, hW1]; exact ((Below.refl _ _).alloc (Nat.le_refl _) _).alloc (by simp) _
  have HW1 := hide hW1
  have HW2 := hide hW2
  have HS1 := hide hs1
  have H2 := hide h2
  have H3 := hide h3
  have HB2 := hide hb2
  clear hp hok ha hW1 hW2 hs1 h1 h2 h3 hb2
  go_enter Tryz.func72, Tryz.ntmps72
  go_upto_region 1 with (refine wpList_alloc_big rfl 176 rfl zeroSpace.toArray alloc_space ?_)
  rw [← unhide HW1]
  go_upto_region 2 with (refine wpList_alloc_big rfl 176 rfl zeroSpace.toArray alloc_space ?_)
  rw [← unhide HW2, unhide HS1]
  go_wp2
  go_loopw [8] (fun i wr => ∃ k : Nat, k ≤ PS.length ∧ i = .int .i64 k ∧ Hid (Holds wr (w.heap.size + 1) 176 (spaceRow (PS.take k))) ∧ Hid (Holds wr w.heap.size 176 zeroSpace) ∧ Hid (Below w.heap.size w wr)) (fun i _ => PS.length - (intOf i).toNat)
  case atStart => exact ⟨0, by omega, rfl, H2, H3, HB2⟩
  case round =>
    obtain ⟨k, hk, rfl, HR, HZ, HB⟩ := hrel
    by_cases hlt : k < PS.length
    · obtain ⟨p, hpk⟩ : ∃ p, PS[k]? = some p := ⟨_, List.getElem?_eq_getElem hlt⟩
      obtain ⟨rfl, hgl⟩ := unhide HA (by omega)
      have hrg := api_range ((unhide HP).below (unhide HB) (fun _ => hgl)) hpk
      have hpo := (unhide HOK).each p (List.mem_of_getElem? hpk)
      have hk0 : (0 : Int) ≤ (k : Int) := by omega
      have hk1 : (k : Int) < (PS.length : Int) := by omega
      obtain ⟨nu, hnu⟩ : ∃ nu : Nat, p.num = nu := ⟨p.num.toNat, by omega⟩
      have hbl := hpo.2.2.2.2
      have hnu1 : (nu : Int) < 256 := by omega
      have hnu0 : (0 : Int) ≤ (nu : Int) := by omega
      have hnun : nu < 256 := by omega
      have htk : PS.take (k + 1) = PS.take k ++ [p] := by rw [List.take_add_one, hpk]; rfl
      have hstep : splice (spaceRow (PS.take k)) (nu * 257) (pageCells p) = spaceRow (PS.take (k + 1)) := by
        rw [htk]
        refine space_step ?_ nu hnu
        rw [← htk]
        have : PS = PS.take (k + 1) ++ PS.drop (k + 1) := (List.take_append_drop _ _).symm
        have ho := unhide HOK
        rw [this] at ho
        exact ho.pre
      have hrl : (spaceRow (PS.take k)).length = 65792 := spaceRow_length (fun q hq => ((unhide HOK).each q (List.mem_of_mem_take hq)).2.2.2.2)
      have hpc : pageCells ⟨0, p.perm, p.bytes⟩ = pageCells p := rfl
      have HST := hide hstep
      have HRG := hide hrg
      have HPB := hide (show ∀ w, (Instr.build 173 #[(0, .int .u8 p.perm), (1, .agg (bytesRow p.bytes).toArray)]).run Tryz.prog w = .ok (.agg (pageCells p).toArray) w from page_built p.perm p.bytes hbl)
      have HLN := hide (And.intro hbl hrl)
      have HPM := hide hpo
      have HGL := hide hgl
      obtain ⟨pn, hpn⟩ : ∃ pn, pn = p.num := ⟨_, rfl⟩
      obtain ⟨pp, hpp⟩ : ∃ pp, pp = p.perm := ⟨_, rfl⟩
      obtain ⟨pb, hpb⟩ : ∃ pb, pb = p.bytes := ⟨_, rfl⟩
      have HNM := hide (And.intro hpn (And.intro hpp hpb))
      clear hstep hrg htk hpc hpo hgl hrl hbl hpk hpn hpp hpb
      go_upto_region 5 with (first
        | (refine wpList_load_mid rfl 87 _ rfl g (k * 258) (by rfl) (pageRow p.num p.perm p.bytes) _ (unhide HRG) Tryz.underlying87 rfl (by rw [apiSize, pageRow_length', (unhide HLN).1]) ?_)
        | (refine wpList_alloc_big rfl 87 rfl (pageRow 0 0 zero256).toArray alloc_api ?_)
        | (refine wpList_store_hold rfl 87 _ _ rfl wr.heap.size (pageRow p.num p.perm p.bytes) (by rfl) (by rfl) 87 (pageRow 0 0 zero256) (Holds.new wr 87 _) (by rw [apiSize, pageRow_length', (unhide HLN).1]) (by rw [pageRow_length', pageRow_length', (unhide HLN).1, zero256_length]) (pageRow_one _ _ _) ?_; intro w5 H5 G5))
      have hb5 : Below w.heap.size w w5 := by
        have h1 := (unhide HB).alloc (unhide HB).size (.cells (pageRow 0 0 zero256).toArray 87)
        have hs := (unhide HB).size
        exact h1.trans (below_grown G5 hs (Nat.le_trans hs (by simp)))
      have hs := (unhide HB).size
      have hw2 : w.heap.size + 1 < wr.heap.size := (unhide HR).lt
      have n5 := unhide H5
      rw [hnu] at n5
      have c0 : w5.cell? ⟨wr.heap.size, 0, none⟩ = some (.int .i64 nu) := n5.cell rfl
      have c1 : w5.cell? ⟨wr.heap.size, 1, none⟩ = some (.int .u8 p.perm) := n5.cell rfl
      have hbr : w5.rangeAt wr.heap.size 2 (bytesRow p.bytes) := fun j v hv => n5.cell (by rw [show 2 + j = j + 1 + 1 by omega]; exact hv)
      have r5 : Holds w5 (w.heap.size + 1) 176 (spaceRow (PS.take k)) := ((unhide HR).alloc _).grown G5 (by simp; omega)
      have z5 : Holds w5 w.heap.size 176 zeroSpace := ((unhide HZ).alloc _).grown G5 (by simp; omega)
      have HBR := hide hbr
      have HR5 := hide r5
      have HZ5 := hide z5
      have HB5 := hide hb5
      obtain ⟨X, hX⟩ : ∃ X, X = wr.heap.size := ⟨_, rfl⟩
      rw [← hX] at c0 c1 HBR ⊢
      have HX := hide hX
      clear n5 hbr r5 z5 hb5 hX G5 H5 hnu hs hw2
      have hpf := page_fold p (unhide HLN).1
      have hpl : (bytesRow p.bytes).length = 256 := by rw [bytesRow_length]; exact (unhide HLN).1
      go_upto_region 6 with (first
        | (refine wpList_load_mid rfl 85 _ rfl X 2 (by rfl) (bytesRow p.bytes) _ (unhide HBR) Tryz.underlying85 rfl (by rw [b256Size, bytesRow_length, (unhide HLN).1]) ?_)
        | (refine wpList_store_part rfl 173 (.tmp 20) (.tmp 18) rfl (w.heap.size + 1) (nu * 257) (pageCells p) (by rfl) (by rfl) 176 (spaceRow (PS.take k)) (unhide HR5) (by rw [mpageSize, pageCells_length (unhide HLN).1]) (by rw [pageCells_length (unhide HLN).1, (unhide HLN).2]; omega) (pageCells_one p) ?_; intro w6 H6 G6))
      have HF := hide (show Holds w6 (w.heap.size + 1) 176 (spaceRow (PS.take (k + 1))) ∧ Holds w6 w.heap.size 176 zeroSpace ∧ Below w.heap.size w w6 from
        ⟨by rw [← unhide HST]; exact unhide H6, (unhide HZ5).grown (unhide G6) (by simp), (unhide HB5).trans (below_grown (unhide G6) (by omega) (unhide HB5).size)⟩)
      clear H6 G6 c0 c1 HBR HR5 HZ5 HB5 HX HPB HST HRG
      go_wp2
      exact ⟨⟨k + 1, by omega, by simp, hide (unhide HF).1, hide (unhide HF).2.1, hide (unhide HF).2.2⟩, by simp only [intOf]; omega⟩
    · have hke : k = PS.length := by omega
      subst hke
      rw [List.take_length] at HR
      have HL := hide (show (spaceRow PS).length = 65792 from spaceRow_length (fun q hq => ((unhide HOK).each q hq).2.2.2.2))
      go_wp2_with (first
        | (refine wpList_load_mid rfl 176 _ rfl (w.heap.size + 1) 0 (by rfl) (spaceRow PS) _ (unhide HR).range Tryz.underlying176 rfl (by rw [spaceSize, unhide HL]) ?_)
        | (refine wpList_store_hold rfl 176 _ _ rfl w.heap.size (spaceRow PS) (by rfl) (by rfl) 176 zeroSpace (unhide HZ) (by rw [spaceSize, unhide HL]) (by rw [zeroSpace_length, unhide HL]) (spaceRow_one PS) ?_; intro w6 H6 G6))
      have HF := hide (show Below w.heap.size w w6 from (unhide HB).trans (below_grown G6 (Nat.le_refl _) (unhide HB).size))
      have h6 := unhide H6
      exact ⟨rfl, .agg (spaceRow PS).toArray, results_one (by rfl) (by rfl) (run_loadVar_mid w6 w.heap.size 0 176 (spaceRow PS) _ h6.range Tryz.underlying176 rfl (by rw [spaceSize, unhide HL])), rfl, unhide HF⟩
end Go.Proofs.YtkmbleboceedbaaGreatDoor

/- The program's process as cells; newProcess. -/
namespace Go.Proofs.YtkmbleboceedbaaGreatDoor
open Go Go.RowKit
set_option linter.unusedVariables false
set_option linter.unusedSimpArgs false

def cpuRow (E : Int) (R : List Int) (S : List Value) : List Value := (Value.int .u64 E :: R.map (Value.int .u64)) ++ S
def procRow (E : Int) (R : List Int) (S : List Value) (pid par st su wk : Int) (fds : List Value) : List Value :=
  cpuRow E R S ++ ([.int .i64 pid, .int .i64 par, .int .i64 st, .int .i64 su, .int .i64 wk] ++ fds)
set_option maxRecDepth 1000000 in
theorem proc_z1 : Tryz.zeroCells183.toList.take 17 = List.replicate 17 (.int .u64 0) := by kernel_rfl
set_option maxRecDepth 1000000 in
theorem proc_z2 : allZ ((Tryz.zeroCells183.toList.drop 17).take 65792) = true := by kernel_rfl
set_option maxRecDepth 1000000 in
theorem proc_z3 : (Tryz.zeroCells183.toList.drop 17).drop 65792 = [.int .i64 0, .int .i64 0, .int .i64 0, .int .i64 0, .int .i64 0] ++ List.replicate 8 .nilIface := by kernel_rfl
set_option maxRecDepth 1000000 in
theorem cpu_z1 : Tryz.zeroCells178.toList.take 17 = List.replicate 17 (.int .u64 0) := by kernel_rfl
def zero16 : List Int := List.replicate 16 0
def nil8 : List Value := List.replicate 8 .nilIface
theorem cpuRow_length {E : Int} {R : List Int} {S : List Value} (hR : R.length = 16) (hS : S.length = 65792) : (cpuRow E R S).length = 65809 := by unfold cpuRow; simp [hR, hS]
theorem proc_zero : Tryz.zeroCells183.toList = procRow 0 zero16 zeroSpace 0 0 0 0 0 nil8 := by
  have h2 := allZ_rep _ proc_z2
  have hl : Tryz.zeroCells183.toList.length = 65822 := by rw [Array.length_toList]; exact Tryz.zeroCells183_size
  have h1 := proc_z1
  have h3 := proc_z3
  generalize Tryz.zeroCells183.toList = Z at h1 h2 h3 hl
  have hm : ((Z.drop 17).take 65792).length = 65792 := by rw [List.length_take, List.length_drop, hl]; rfl
  rw [hm] at h2
  have e1 : Z = Z.take 17 ++ ((Z.drop 17).take 65792 ++ (Z.drop 17).drop 65792) := by rw [List.take_append_drop, List.take_append_drop]
  rw [e1, h1, h2, h3]
  unfold procRow cpuRow zeroSpace nil8
  rw [← List.append_assoc]
  rfl
theorem set_at {α : Type} {A B : List α} {n j : Nat} (h : A.length = n) (v : α) : (A ++ B).set (n + j) v = A ++ B.set j v := by
  rw [List.set_append_right _ _ (by omega), h, Nat.add_sub_cancel_left]
theorem proc_new (pid par : Int) : (Tryz.zeroCells183.setIfInBounds 65809 (.int .i64 pid)).setIfInBounds 65810 (.int .i64 par) = (procRow 0 zero16 zeroSpace pid par 0 0 0 nil8).toArray := by
  have h := proc_zero
  generalize Tryz.zeroCells183 = ZA at h
  obtain ⟨Z⟩ := ZA
  have h : Z = _ := h
  rw [h, List.setIfInBounds_toArray, List.setIfInBounds_toArray]
  refine congrArg List.toArray ?_
  have hc : (cpuRow 0 zero16 zeroSpace).length = 65809 := cpuRow_length (by unfold zero16; exact List.length_replicate) zeroSpace_length
  unfold procRow
  rw [show (65810 : Nat) = 65809 + 1 from rfl, show (cpuRow 0 zero16 zeroSpace ++ ([Value.int .i64 0, .int .i64 0, .int .i64 0, .int .i64 0, .int .i64 0] ++ nil8)).set 65809 (.int .i64 pid) = _ from set_at (j := 0) hc _, set_at hc]
  rfl
end Go.Proofs.YtkmbleboceedbaaGreatDoor

/- The program's newProcess. -/
namespace Go.Proofs.YtkmbleboceedbaaGreatDoor
open Go Go.RowKit
set_option linter.unusedVariables false
set_option linter.unusedSimpArgs false

def conFd (cb : Nat) : Value := .iface 114 (.pointer (some ⟨cb, 0, none⟩))
/-- Descriptors while they are set. -/
def kfdsTo (cb k : Nat) : List Value := List.replicate k (conFd cb) ++ List.replicate (8 - k) .nilIface
theorem kfdsTo_step (cb k : Nat) (h : k < 8) : (kfdsTo cb k).set k (conFd cb) = kfdsTo cb (k + 1) := by
  unfold kfdsTo
  have e := set_at (A := List.replicate k (conFd cb)) (B := List.replicate (8 - k) Value.nilIface) (n := k) (j := 0) List.length_replicate (conFd cb)
  rw [Nat.add_zero] at e
  rw [e, show 8 - k = (8 - (k + 1)) + 1 by omega, List.replicate_succ, List.set_cons_zero, List.replicate_succ', List.append_assoc]
  rfl
theorem proc_set {E : Int} {R : List Int} {S : List Value} {pid par st su wk : Int} {fds : List Value} (hR : R.length = 16) (hS : S.length = 65792) (k : Nat) (v : Value) : (procRow E R S pid par st su wk fds).set (65814 + k) v = procRow E R S pid par st su wk (fds.set k v) := by
  unfold procRow
  rw [show 65814 + k = 65809 + (5 + k) by omega, set_at (cpuRow_length hR hS)]
  congr 1
  exact set_at rfl v
theorem zero16_length : zero16.length = 16 := by unfold zero16; exact List.length_replicate

set_option maxRecDepth 100000 in
set_option maxHeartbeats 1000000 in
theorem newProcess_any (pid par : Int) (cb : Nat) (w : World) :
    Calls Tryz.prog 40 #[.int .i64 pid, .int .i64 par, .pointer (some ⟨cb, 0, none⟩)] w fun e w' => e = .returned (.pointer (some ⟨w.heap.size, 0, none⟩)) ∧ Below w.heap.size w w' ∧ Holds w' w.heap.size 183 (procRow 0 zero16 zeroSpace pid par 0 0 0 (kfdsTo cb 3)) := by
  have hpn := proc_new pid par
  obtain ⟨W1, hW1⟩ : ∃ W1, W1 = w.alloc (.cells (procRow 0 zero16 zeroSpace pid par 0 0 0 nil8).toArray 183) := ⟨_, rfl⟩
  have h1 : Holds W1 w.heap.size 183 (procRow 0 zero16 zeroSpace pid par 0 0 0 (kfdsTo cb 0)) := by rw [hW1]; exact Holds.new w 183 _
  have hb1 : Below w.heap.size w W1 := by rw [hW1]; exact (Below.refl _ _).alloc (Nat.le_refl _) _
  have HW1 := hide hW1
  have H1 := hide h1
  have HB1 := hide hb1
  clear hW1 h1 hb1
  go_enter Tryz.func40, Tryz.ntmps40
  go_upto_region 2 with fail
  rw [← unhide HW1]
  clear hpn
  go_wp2
  go_loopw [13] (fun i wr => ∃ k : Nat, k ≤ 3 ∧ i = .int .i64 k ∧ Hid (Holds wr w.heap.size 183 (procRow 0 zero16 zeroSpace pid par 0 0 0 (kfdsTo cb k))) ∧ Hid (Below w.heap.size w wr)) (fun i _ => 3 - (intOf i).toNat)
  case atStart => exact ⟨0, by omega, rfl, H1, HB1⟩
  case round =>
    obtain ⟨k, hk, rfl, HR, HB⟩ := hrel
    by_cases hlt : k < 3
    · have hk0 : (0 : Int) ≤ (k : Int) := by omega
      have hk1 : (k : Int) < 3 := by omega
      have hk8 : (k : Int) < 8 := by omega
      have hcl : (wr.cell? ⟨w.heap.size, 65814 + k, none⟩).isSome = true := by
        have hl : (procRow 0 zero16 zeroSpace pid par 0 0 0 (kfdsTo cb k)).length = 65822 := by
          unfold procRow
          rw [List.length_append, cpuRow_length zero16_length zeroSpace_length]
          unfold kfdsTo
          simp; omega
        rw [(unhide HR).cell (List.getElem?_eq_getElem (show 65814 + k < _ by rw [hl]; omega))]
        rfl
      obtain ⟨ov, hov⟩ := Option.isSome_iff_exists.1 hcl
      have hfz := (unhide HR).frozen (65814 + k)
      have HN := hide (show Holds (wr.setCell ⟨w.heap.size, 65814 + k, none⟩ (conFd cb)) w.heap.size 183 (procRow 0 zero16 zeroSpace pid par 0 0 0 (kfdsTo cb (k + 1))) ∧ Below w.heap.size w (wr.setCell ⟨w.heap.size, 65814 + k, none⟩ (conFd cb)) from by
        refine ⟨?_, (unhide HB).setCell (p := ⟨w.heap.size, 65814 + k, none⟩) (Nat.le_refl _) _⟩
        have := (unhide HR).set (65814 + k) (conFd cb)
        rw [proc_set zero16_length zeroSpace_length, kfdsTo_step cb k (by omega)] at this
        exact this)
      unfold conFd at HN
      clear hcl
      go_wp2
      exact ⟨⟨k + 1, by omega, by simp, hide (unhide HN).1, hide (unhide HN).2⟩, by simp only [intOf]; omega⟩
    · have hke : k = 3 := by omega
      subst hke
      go_wp2
      go_ret
      exact ⟨rfl, unhide HB, unhide HR⟩
end Go.Proofs.YtkmbleboceedbaaGreatDoor

/- The program's kernel as it lies behind Boot: process 1 alone; frames, freeFrames. -/
namespace Go.Proofs.YtkmbleboceedbaaGreatDoor
open Go Go.RowKit Go.Maps
set_option linter.unusedVariables false
set_option linter.unusedSimpArgs false

def procD (pb : Nat) : DataW Unit := .map [(.int .i64 1, .lit (.int .i64 pb))]
/-- A map that holds process 1 alone. -/
def OneProc (w : World) (pm pb : Nat) : Prop := w.ownsMap Tryz.prog 3 ptrElem pm 1 (procD pb)
theorem intKeyed : Keyed Tryz.prog 3 := int_keyed Tryz.underlying3
theorem OneProc.kept {w w' : World} {pm pb : Nat} (h : OneProc w pm pb) {row : Option Nat} (hg : w.grownBy w' row) (hne : some pm ≠ row) : OneProc w' pm pb := World.ownsMap.kept h hg hne
theorem procD_has {pb : Nat} {kl : Lit} (h : Maps.has (procD pb) kl = true) : kl = .int .i64 1 := by
  unfold procD at h
  rw [Maps.has_eq] at h
  simp at h
  exact (WideAt.sameKey_eq h).symm
theorem procD_at (pb : Nat) (zd : DataW Unit) : (procD pb).atKey (.int .i64 1) zd = .lit (.int .i64 pb) := rfl
theorem invInt (key : Value) (kl : Lit) (h : keyOf Tryz.prog 3 key = some kl) : ∃ x, key = Value.int .i64 x := by
  obtain ⟨x, rfl, _⟩ := Maps.keyOf_int_inv Tryz.underlying3 h
  exact ⟨x, rfl⟩
theorem invPtr (v : Value) (y : DataW Unit × List MemPlace) (h : ptrElem v = some y) : ∃ c, v = nodePtr c := by
  unfold ptrElem at h
  split at h
  · exact ⟨none, rfl⟩
  · rename_i b
    exact ⟨some b, rfl⟩
  · cases h
theorem one_key {x : Int} {kl : Lit} (h : keyOf Tryz.prog 3 (.int .i64 x) = some kl) (hk : kl = .int .i64 1) : x = 1 := by
  obtain ⟨y, e, h2, _⟩ := Maps.keyOf_int_inv Tryz.underlying3 h
  have hx : x = y := by simpa using e
  rw [hk] at h2
  have hy : 1 = y := by simpa using h2
  omega
theorem one_elem {pb : Nat} {c : Option Nat} {y : DataW Unit × List MemPlace} (h : ptrElem (nodePtr c) = some y) (hy : y.1 = .lit (.int .i64 pb)) : c = some pb := by
  cases c with
  | none =>
    have : y = (.nil, []) := (Option.some.inj h).symm
    rw [this] at hy; cases hy
  | some b =>
    have : y = (.lit (.int .i64 b), []) := (Option.some.inj h).symm
    rw [this] at hy
    injection hy with hy
    injection hy with _ hy
    have : b = pb := by omega
    rw [this]
def kernelRow (lp lf lo li lb : Int) (tb cb pm : Nat) : List Value := [.int .i64 lp, .int .i64 lf, .int .i64 lo, .int .i64 li, .int .i64 lb, .pointer (some ⟨tb, 0, none⟩), .pointer (some ⟨cb, 0, none⟩), .int .i64 0, .slice none 0 0, .map (some pm)]
/-- The pages of a process as its cells tell them. -/
def PermsAt (w : World) (pb : Nat) (PS : List Pg) : Prop := ∀ j : Nat, j < 256 → w.cell? ⟨pb, 17 + j * 257, none⟩ = some (.int .u8 (permAt PS j))
theorem PermsAt.below {w w' : World} {pb : Nat} {PS : List Pg} (h : PermsAt w pb PS) (hb : Below w.heap.size w w') (hl : pb < w.heap.size) : PermsAt w' pb PS := fun j hj => by rw [hb.cell (p := ⟨pb, 17 + j * 257, none⟩) hl]; exact h j hj

set_option maxRecDepth 100000 in
set_option maxHeartbeats 1000000 in
theorem frames_any (kb pm pb : Nat) (lp lf lo li lb : Int) (tb cb : Nat) (PS : List Pg) (w : World) (hk : Holds w kb 121 (kernelRow lp lf lo li lb tb cb pm)) (hm : OneProc w pm pb) (hpl : pb < w.heap.size) (hp : PermsAt w pb PS) (hok : PgsOk PS) (hn : PS.length ≤ 256) :
    Calls Tryz.prog 54 #[.pointer (some ⟨kb, 0, none⟩)] w fun e w' => e = .returned (.int .i64 (PS.length : Nat)) ∧ Below w.heap.size w w' := by
  have c9 : w.cell? ⟨kb, 9, none⟩ = some (.map (some pm)) := hk.cell rfl
  have HM := hide hm
  have HP := hide hp
  have HOK := hide hok
  have HPL := hide (And.intro hpl (show pm < w.heap.size from World.ownsMap.lt hm))
  have HN := hide hn
  clear hk hm hp hok hpl hn
  go_enter Tryz.func54, Tryz.ntmps54
  go_wp2_with (first | (at_range; refine wpList_range_own _ rfl _ 119 rfl 3 130 intKeyed Tryz.underlying119 ptrElem pm 1 (procD pb) rfl (unhide HM) ?_; intro w0 hrg0 hg0 hs0) | go_in)
  have HR0 := hide hrg0
  have HB0 := hide (show Below w.heap.size w w0 from ⟨hg0.os, hg0.tape, hg0.output, hg0.size, fun k hk => hg0.block k hk (by simp)⟩)
  clear hrg0 hg0 hs0 c9
  go_frame
  go_loopw [3] (fun c wr => ∃ (left : Lit → Bool) (cnt : Nat), Hid (wr.ranges Tryz.prog 3 ptrElem pm w.heap.size 1 (procD pb) left cnt) ∧ Hid (∀ kl, left kl = true → kl = .int .i64 1) ∧ Hid (cnt = 1 ∧ c = .int .i64 0 ∨ cnt = 0 ∧ c = .int .i64 (PS.length : Nat)) ∧ Hid (Below w.heap.size w wr)) (fun _ wr => wr.rangeLeft pm w.heap.size)
  case atStart => exact ⟨_, _, HR0, hide (fun kl h => procD_has h), hide (.inl ⟨rfl, rfl⟩), HB0⟩
  case round =>
    obtain ⟨left, cnt, HRG, HLF, HCN, HB⟩ := hrel
    go_wp2_with (first
      | (at_next; refine wpList_next_ranges _ rfl _ rfl 3 intKeyed ptrElem (Value.int .i64) nodePtr invInt invPtr pm w.heap.size 1 (procD pb) left cnt rfl (unhide HRG) ?_ ?_)
      | go_in)
    · intro hc0 hl0
      obtain rfl : u3 = .int .i64 (PS.length : Nat) := by
        rcases unhide HCN with ⟨q, _⟩ | ⟨_, q⟩
        · omega
        · exact q
      go_wp2
      go_ret
      exact ⟨rfl, unhide HB⟩
    · intro x c kl y1 y2 w1 cnt1 hkey hlk hv hat hrg1 hlt hg1 hs1 hen
      have hkl := unhide HLF kl hlk
      subst hkl
      obtain rfl := one_key hkey rfl
      obtain rfl := one_elem hv (show y1 = _ by rw [← hat .nil]; exact procD_at pb .nil)
      obtain ⟨rfl, rfl⟩ : cnt = 1 ∧ u3 = .int .i64 0 := by
        rcases unhide HCN with q | ⟨q, _⟩
        · exact q
        · omega
      have hb1 : Below w.heap.size w w1 := (unhide HB).trans ⟨hg1.os, hg1.tape, hg1.output, hg1.size, fun k hk => hg1.block k (by have := (unhide HB).size; omega) (by simp; omega)⟩
      have HCT := hide (count_any pb 17 PS w1 (unhide HOK) ((unhide HP).below hb1 (unhide HPL).1))
      have HRG1 := hide hrg1
      have HB1 := hide hb1
      have hn := unhide HN
      have hn0 : (PS.length : Int) ≤ 256 := by omega
      have hc1 : cnt1 = 0 := by omega
      clear hkey hlk hv hat hrg1 hlt hg1 hs1 hb1 hn
      unfold nodePtr at hen ⊢
      go_wp2_with fail
      refine (unhide HCT).mono ?_
      rintro e w2 ⟨rfl, rfl⟩
      clear hen HCT
      go_wp2
      subst hc1
      exact ⟨⟨_, _, HRG1, hide (fun kl h => by
        have := (Bool.and_eq_true _ _ ▸ h : left kl = true ∧ (!kl.sameKey (.int .i64 1)) = true)
        exact unhide HLF kl this.1), hide (.inr ⟨rfl, by simp⟩), HB1⟩, by rw [(unhide HRG1).left_eq, (unhide HRG).left_eq]; omega⟩
end Go.Proofs.YtkmbleboceedbaaGreatDoor
