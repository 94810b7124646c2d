import Derived.Test.YtkokiefclmbgaaaGreatDoorBootsProofG17
import Derived.Deep.DeepCutAuto
import Derived.RegionTactic
/- The program's NewSpace. -/
namespace Go.Proofs.YtkokiefclmbgaaaGreatDoor
open Go Go.RowKit
set_option linter.unusedVariables false
set_option linter.unusedSimpArgs false

theorem alloc_space (old : Value) (w : World) : (Instr.alloc 176 true old).run Tryz.prog w = .ok (.pointer (some ⟨w.heap.size, 0, none⟩)) (w.alloc (.cells zeroSpace.toArray 176)) := by
  have h := Tryz.zeroValue176 w
  rw [space_zero] at h
  generalize zeroSpace = Z at h
  simp [Instr.alloc, h, newVar, newRow, Value.cells]
set_option maxRecDepth 100000 in
theorem alloc_api (old : Value) (w : World) : (Instr.alloc 87 true old).run Tryz.prog w = .ok (.pointer (some ⟨w.heap.size, 0, none⟩)) (w.alloc (.cells (pageRow 0 0 zero256).toArray 87)) := by kernel_rfl
theorem apiSize : (Tryz.prog.info? 87).map (·.size) = some 258 := by kernel_rfl
theorem b256Size : (Tryz.prog.info? 85).map (·.size) = some 256 := by kernel_rfl
theorem mpageSize : (Tryz.prog.info? 173).map (·.size) = some 257 := by kernel_rfl
theorem spaceSize : (Tryz.prog.info? 176).map (·.size) = some 65792 := by
  have h := Tryz.sizeOf176 default
  cases hi : Tryz.prog.info? 176 with
  | none => simp [sizeOf, typeInfo, hi] at h
  | some i => simp [sizeOf, typeInfo, hi] at h; simp [h]
theorem pageRow_one (a b : Int) (L : List Int) : ∀ v ∈ pageRow a b L, v.oneCell' = true := by
  intro v hv
  simp only [pageRow, List.mem_cons] at hv
  rcases hv with rfl | rfl | hv
  · rfl
  · rfl
  · obtain ⟨x, _, rfl⟩ := List.mem_map.1 hv
    rfl
theorem pageRow_length' (a b : Int) (L : List Int) : (pageRow a b L).length = L.length + 2 := by simp [pageRow, bytesRow_length]
theorem pageCells_one (p : Pg) : ∀ v ∈ pageCells p, v.oneCell' = true := by
  intro v hv
  simp only [pageCells, List.mem_cons] at hv
  rcases hv with rfl | hv
  · rfl
  · obtain ⟨x, _, rfl⟩ := List.mem_map.1 hv
    rfl
theorem spacePage_one (PS : List Pg) (j : Nat) : ∀ v ∈ spacePage PS j, v.oneCell' = true := by
  intro v hv
  unfold spacePage at hv
  split at hv
  · exact pageCells_one _ v hv
  · rw [List.eq_of_mem_replicate hv]; rfl
theorem spaceRow_one (PS : List Pg) : ∀ v ∈ spaceRow PS, v.oneCell' = true := by
  intro v hv
  obtain ⟨j, _, hj⟩ := List.mem_flatMap.1 hv
  exact spacePage_one PS j v hj
theorem results_one {P : Program} {fn : Func} {tmps : Array Value} {a : Tmp} {t : TypeId} (h : fn.results = #[.cell a t]) {b : Nat} (ht : tmps.getD a undef = .pointer (some ⟨b, 0, none⟩)) {v : Value} {w : World} (hl : (loadVar t ⟨b, 0, none⟩).run P w = .ok v w) : (results fn tmps).run P w = .ok v w := by
  unfold results
  rw [h]
  have ht' : tmps[a]?.getD undef = .pointer (some ⟨b, 0, none⟩) := by simpa using ht
  simp [ht', asAddr, hl]
theorem zeroSpace_length : zeroSpace.length = 65792 := by rw [← space_nil]; exact spaceRow_length (fun p hp => by simp at hp)
theorem api_range {w : World} {g k : Nat} {PS : List Pg} {p : Pg} (h : ApiAt w g PS) (hp : PS[k]? = some p) : w.rangeAt g (k * 258) (pageRow p.num p.perm p.bytes) := by
  obtain ⟨h0, h1, h2⟩ := h k p hp
  intro j v hv
  unfold pageRow at hv
  cases j with
  | zero => obtain rfl := Option.some.inj hv; rw [Nat.add_zero]; exact h0
  | succ j =>
    cases j with
    | zero => obtain rfl := Option.some.inj hv; exact h1
    | succ j =>
      have := h2 j v hv
      rw [show k * 258 + (j + 1 + 1) = k * 258 + 2 + j by omega]
      exact this
theorem ApiAt.below {w w' : World} {g : Nat} {PS : List Pg} (h : ApiAt w g PS) (hb : Below w.heap.size w w') (hg : 0 < PS.length → g < w.heap.size) : ApiAt w' g PS := by
  intro i p hp
  have hl : 0 < PS.length := by have := (List.getElem?_eq_some_iff.1 hp).1; omega
  obtain ⟨h0, h1, h2⟩ := h i p hp
  refine ⟨by rw [hb.cell (p := ⟨g, i * 258, none⟩) (hg hl)]; exact h0, by rw [hb.cell (p := ⟨g, i * 258 + 1, none⟩) (hg hl)]; exact h1, fun j v hv => ?_⟩
  rw [hb.cell (p := ⟨g, i * 258 + 2 + j, none⟩) (hg hl)]
  exact h2 j v hv

set_option maxRecDepth 100000 in
set_option maxHeartbeats 2000000 in
theorem newSpace_any (a : Option Addr) (g cap : Nat) (PS : List Pg) (w : World) (hok : PgsOk PS) (ha : 0 < PS.length → a = some ⟨g, 0, none⟩ ∧ g < w.heap.size) (hp : ApiAt w g PS) (hn : PS.length ≤ 256) :
    Calls Tryz.prog 72 #[.slice a PS.length cap] w fun e w' => e = .returned (.agg (spaceRow PS).toArray) ∧ Below w.heap.size w w' := by
  have HP := hide hp
  have HOK := hide hok
  have HA := hide ha
  obtain ⟨W1, hW1⟩ : ∃ W1, W1 = w.alloc (.cells zeroSpace.toArray 176) := ⟨_, rfl⟩
  obtain ⟨W2, hW2⟩ : ∃ W2, W2 = W1.alloc (.cells zeroSpace.toArray 176) := ⟨_, rfl⟩
  have hs1 : W1.heap.size = w.heap.size + 1 := by rw [hW1]; simp
  have h1 : Holds W1 w.heap.size 176 zeroSpace := by rw [hW1]; exact Holds.new w 176 zeroSpace
  have h2 : Holds W2 (w.heap.size + 1) 176 (spaceRow (PS.take 0)) := by rw [List.take_zero, space_nil, ← hs1, hW2]; exact Holds.new W1 176 zeroSpace
  have h3 : Holds W2 w.heap.size 176 zeroSpace := by rw [hW2]; exact h1.alloc _
  have hb2 : Below w.heap.size w W2 := by rw [hW2, hW1]; exact ((Below.refl _ _).alloc (Nat.le_refl _) _).alloc (by simp) _
  have HW1 := hide hW1
  have HW2 := hide hW2
  have HS1 := hide hs1
  have H2 := hide h2
  have H3 := hide h3
  have HB2 := hide hb2
  clear hp hok ha hW1 hW2 hs1 h1 h2 h3 hb2
  go_enter Tryz.func72, Tryz.ntmps72
  go_upto_region 1 with (refine wpList_alloc_big rfl 176 rfl zeroSpace.toArray alloc_space ?_)
  rw [← unhide HW1]
  go_upto_region 2 with (refine wpList_alloc_big rfl 176 rfl zeroSpace.toArray alloc_space ?_)
  rw [← unhide HW2, unhide HS1]
  go_wp2
  go_loopw [8] (fun i wr => ∃ k : Nat, k ≤ PS.length ∧ i = .int .i64 k ∧ Hid (Holds wr (w.heap.size + 1) 176 (spaceRow (PS.take k))) ∧ Hid (Holds wr w.heap.size 176 zeroSpace) ∧ Hid (Below w.heap.size w wr)) (fun i _ => PS.length - (intOf i).toNat)
  case atStart => exact ⟨0, by omega, rfl, H2, H3, HB2⟩
  case round =>
    obtain ⟨k, hk, rfl, HR, HZ, HB⟩ := hrel
    by_cases hlt : k < PS.length
    · obtain ⟨p, hpk⟩ : ∃ p, PS[k]? = some p := ⟨_, List.getElem?_eq_getElem hlt⟩
      obtain ⟨rfl, hgl⟩ := unhide HA (by omega)
      have hrg := api_range ((unhide HP).below (unhide HB) (fun _ => hgl)) hpk
      have hpo := (unhide HOK).each p (List.mem_of_getElem? hpk)
      have hk0 : (0 : Int) ≤ (k : Int) := by omega
      have hk1 : (k : Int) < (PS.length : Int) := by omega
      obtain ⟨nu, hnu⟩ : ∃ nu : Nat, p.num = nu := ⟨p.num.toNat, by omega⟩
      have hbl := hpo.2.2.2.2
      have hnu1 : (nu : Int) < 256 := by omega
      have hnu0 : (0 : Int) ≤ (nu : Int) := by omega
      have hnun : nu < 256 := by omega
      have htk : PS.take (k + 1) = PS.take k ++ [p] := by rw [List.take_add_one, hpk]; rfl
      have hstep : splice (spaceRow (PS.take k)) (nu * 257) (pageCells p) = spaceRow (PS.take (k + 1)) := by
        rw [htk]
        refine space_step ?_ nu hnu
        rw [← htk]
        have : PS = PS.take (k + 1) ++ PS.drop (k + 1) := (List.take_append_drop _ _).symm
        have ho := unhide HOK
        rw [this] at ho
        exact ho.pre
      have hrl : (spaceRow (PS.take k)).length = 65792 := spaceRow_length (fun q hq => ((unhide HOK).each q (List.mem_of_mem_take hq)).2.2.2.2)
      have hpc : pageCells ⟨0, p.perm, p.bytes⟩ = pageCells p := rfl
      have HST := hide hstep
      have HRG := hide hrg
      have HPB := hide (show ∀ w, (Instr.build 173 #[(0, .int .u8 p.perm), (1, .agg (bytesRow p.bytes).toArray)]).run Tryz.prog w = .ok (.agg (pageCells p).toArray) w from page_built p.perm p.bytes hbl)
      have HLN := hide (And.intro hbl hrl)
      have HPM := hide hpo
      have HGL := hide hgl
      obtain ⟨pn, hpn⟩ : ∃ pn, pn = p.num := ⟨_, rfl⟩
      obtain ⟨pp, hpp⟩ : ∃ pp, pp = p.perm := ⟨_, rfl⟩
      obtain ⟨pb, hpb⟩ : ∃ pb, pb = p.bytes := ⟨_, rfl⟩
      have HNM := hide (And.intro hpn (And.intro hpp hpb))
      clear hstep hrg htk hpc hpo hgl hrl hbl hpk hpn hpp hpb
      go_upto_region 5 with (first
        | (refine wpList_load_mid rfl 87 _ rfl g (k * 258) (by rfl) (pageRow p.num p.perm p.bytes) _ (unhide HRG) Tryz.underlying87 rfl (by rw [apiSize, pageRow_length', (unhide HLN).1]) ?_)
        | (refine wpList_alloc_big rfl 87 rfl (pageRow 0 0 zero256).toArray alloc_api ?_)
        | (refine wpList_store_hold rfl 87 _ _ rfl wr.heap.size (pageRow p.num p.perm p.bytes) (by rfl) (by rfl) 87 (pageRow 0 0 zero256) (Holds.new wr 87 _) (by rw [apiSize, pageRow_length', (unhide HLN).1]) (by rw [pageRow_length', pageRow_length', (unhide HLN).1, zero256_length]) (pageRow_one _ _ _) ?_; intro w5 H5 G5))
      have hb5 : Below w.heap.size w w5 := by
        have h1 := (unhide HB).alloc (unhide HB).size (.cells (pageRow 0 0 zero256).toArray 87)
        have hs := (unhide HB).size
        exact h1.trans (below_grown G5 hs (Nat.le_trans hs (by simp)))
      have hs := (unhide HB).size
      have hw2 : w.heap.size + 1 < wr.heap.size := (unhide HR).lt
      have n5 := unhide H5
      rw [hnu] at n5
      have c0 : w5.cell? ⟨wr.heap.size, 0, none⟩ = some (.int .i64 nu) := n5.cell rfl
      have c1 : w5.cell? ⟨wr.heap.size, 1, none⟩ = some (.int .u8 p.perm) := n5.cell rfl
      have hbr : w5.rangeAt wr.heap.size 2 (bytesRow p.bytes) := fun j v hv => n5.cell (by rw [show 2 + j = j + 1 + 1 by omega]; exact hv)
      have r5 : Holds w5 (w.heap.size + 1) 176 (spaceRow (PS.take k)) := ((unhide HR).alloc _).grown G5 (by simp; omega)
      have z5 : Holds w5 w.heap.size 176 zeroSpace := ((unhide HZ).alloc _).grown G5 (by simp; omega)
      have HBR := hide hbr
      have HR5 := hide r5
      have HZ5 := hide z5
      have HB5 := hide hb5
      obtain ⟨X, hX⟩ : ∃ X, X = wr.heap.size := ⟨_, rfl⟩
      rw [← hX] at c0 c1 HBR ⊢
      have HX := hide hX
      clear n5 hbr r5 z5 hb5 hX G5 H5 hnu hs hw2
      have hpf := page_fold p (unhide HLN).1
      have hpl : (bytesRow p.bytes).length = 256 := by rw [bytesRow_length]; exact (unhide HLN).1
      go_upto_region 6 with (first
        | (refine wpList_load_mid rfl 85 _ rfl X 2 (by rfl) (bytesRow p.bytes) _ (unhide HBR) Tryz.underlying85 rfl (by rw [b256Size, bytesRow_length, (unhide HLN).1]) ?_)
        | (refine wpList_store_part rfl 173 (.tmp 20) (.tmp 18) rfl (w.heap.size + 1) (nu * 257) (pageCells p) (by rfl) (by rfl) 176 (spaceRow (PS.take k)) (unhide HR5) (by rw [mpageSize, pageCells_length (unhide HLN).1]) (by rw [pageCells_length (unhide HLN).1, (unhide HLN).2]; omega) (pageCells_one p) ?_; intro w6 H6 G6))
      have HF := hide (show Holds w6 (w.heap.size + 1) 176 (spaceRow (PS.take (k + 1))) ∧ Holds w6 w.heap.size 176 zeroSpace ∧ Below w.heap.size w w6 from
        ⟨by rw [← unhide HST]; exact unhide H6, (unhide HZ5).grown (unhide G6) (by simp), (unhide HB5).trans (below_grown (unhide G6) (by omega) (unhide HB5).size)⟩)
      clear H6 G6 c0 c1 HBR HR5 HZ5 HB5 HX HPB HST HRG
      go_wp2
      exact ⟨⟨k + 1, by omega, by simp, hide (unhide HF).1, hide (unhide HF).2.1, hide (unhide HF).2.2⟩, by simp only [intOf]; omega⟩
    · have hke : k = PS.length := by omega
      subst hke
      rw [List.take_length] at HR
      have HL := hide (show (spaceRow PS).length = 65792 from spaceRow_length (fun q hq => ((unhide HOK).each q hq).2.2.2.2))
      go_wp2_with (first
        | (refine wpList_load_mid rfl 176 _ rfl (w.heap.size + 1) 0 (by rfl) (spaceRow PS) _ (unhide HR).range Tryz.underlying176 rfl (by rw [spaceSize, unhide HL]) ?_)
        | (refine wpList_store_hold rfl 176 _ _ rfl w.heap.size (spaceRow PS) (by rfl) (by rfl) 176 zeroSpace (unhide HZ) (by rw [spaceSize, unhide HL]) (by rw [zeroSpace_length, unhide HL]) (spaceRow_one PS) ?_; intro w6 H6 G6))
      have HF := hide (show Below w.heap.size w w6 from (unhide HB).trans (below_grown G6 (Nat.le_refl _) (unhide HB).size))
      have h6 := unhide H6
      exact ⟨rfl, .agg (spaceRow PS).toArray, results_one (by rfl) (by rfl) (run_loadVar_mid w6 w.heap.size 0 176 (spaceRow PS) _ h6.range Tryz.underlying176 rfl (by rw [spaceSize, unhide HL])), rfl, unhide HF⟩
end Go.Proofs.YtkokiefclmbgaaaGreatDoor
