import Derived.Test.YtjkpeelijbeekaaGreatDoorBootsProofG31
import Derived.Test.YtjkpeelijbeekaaGreatDoorBootsProofG38
import Derived.Test.YtjkpeelijbeekaaGreatDoorBootsProofG03
import Derived.Test.YtjkpeelijbeekaaGreatDoorBootsProofG33
/- A store of a great row in a drawn region, as one term. -/
namespace Go.Proofs.YtjkpeelijbeekaaGreatDoor
open Go Go.RowKit
set_option linter.unusedVariables false

theorem ready_store_part {P : Program} {md : Region.Mode} {ops : Array Oper} {Q : Exit → Act → World → Prop} {S : World → Prop} {fuel : Nat} {listed : Array Bool} {a : Act} {w : World} {i : Nat} {o : Oper} {rs : List Nat} (hi : ops[i]? = some o) (hgd : o.guard = none) (ty : TypeId) (x y : Operand) (ho : o.op = .store ty x y)
    (g off : Nat) (cs : List Value) (hx : a.eval x = .pointer (some ⟨g, off, none⟩)) (hy : a.eval y = .agg cs.toArray)
    (t : TypeId) (old : List Value) (hg : Holds w g t old) (hsz : (P.info? ty).map (·.size) = some cs.length) (hfit : off + cs.length ≤ old.length) (h1 : ∀ v ∈ cs, v.oneCell' = true) (hd : o.dst = none)
    (h : ∀ w', Hid (Holds w' g t (splice old off cs)) → Hid (w.grownBy w' (some g)) → S w' ∧ (S w' → wpAnyH P md ops Q S fuel (listed.setIfInBounds i true) a w')) (hs : AllReadyH P md ops Q S fuel listed a w rs) :
    AllReadyH P md ops Q S fuel listed a w (i :: rs) :=
  AllReadyH.cons hi (fun K hK => step_store_part hgd ty x y ho g off cs hx hy t old hg hsz hfit h1 hd (fun w' a1 a2 => hK.out _ _ (h w' a1 a2).1 (h w' a1 a2).2)) hs
end Go.Proofs.YtjkpeelijbeekaaGreatDoor

/- Laws for the walk of execute: a CPU that is built, stores of great rows in drawn regions, calls. -/
namespace Go.Proofs.YtjkpeelijbeekaaGreatDoor
open Go Go.RowKit Go.Maps
set_option linter.unusedVariables false
set_option linter.unusedSimpArgs false

theorem cpu_fields (w : World) : ((#[{ name := "PC", type := 74, offset := 0, embedded := false, tag := "", pkgPath := "", byteOffset := 0 }, { name := "Regs", type := 75, offset := 1, embedded := false, tag := "", pkgPath := "", byteOffset := 8 }, { name := "Space", type := 176, offset := 17, embedded := false, tag := "", pkgPath := "", byteOffset := 136 }] : Array Field).mapM fun f => (do pure (f.offset, ← sizeOf f.type) : Sem (Nat × Nat))).run Tryz.prog w = .ok #[(0, 1), (1, 16), (17, 65792)] w := by
  simp [Tryz.sizeOf74, Tryz.sizeOf75, Tryz.sizeOf176]
theorem cpu_built (E : Int) (S : List Value) (hS : S.length = 65792) (w : World) : (Instr.build 178 #[(0, .int .u64 E), (2, .agg S.toArray)]).run Tryz.prog w = .ok (.agg (cpuRow E zero16 S).toArray) w := by
  have hzv := Tryz.zeroValue178 w
  have hl : Tryz.zeroCells178.toList.length = 65809 := by rw [Array.length_toList]; exact Tryz.zeroCells178_size
  have hz1 := cpu_z1
  generalize Tryz.zeroCells178 = ZA at hzv hl hz1
  obtain ⟨Z⟩ := ZA
  have hl : Z.length = 65809 := hl
  have hz1 : Z.take 17 = List.replicate 17 (.int .u64 0) := hz1
  have hff : Instr.fill (fun i => (#[(0, 1), (1, 16), (17, 65792)] : Array (Nat × Nat))[i]?) (Value.agg Z.toArray).cells [(0, Value.int .u64 E), (2, Value.agg S.toArray)] = some (cpuRow E zero16 S).toArray := by
    show Instr.fill _ Z.toArray _ = _
    rw [fill_part _ _ 0 0 1 _ _ rfl rfl (by rw [hl]; omega), fill_part _ _ 2 17 65792 _ _ rfl (by simp [Value.cells, hS]) (by rw [splice_length _ _ _ (by simp [Value.cells, hl])]; omega)]
    refine congrArg some (congrArg List.toArray ?_)
    have e0 : Z = List.replicate 17 (.int .u64 0) ++ Z.drop 17 := by rw [← hz1, List.take_append_drop]
    have hd : (Z.drop 17).length = 65792 := by rw [List.length_drop, hl]
    generalize Z.drop 17 = D at e0 hd
    subst e0
    unfold splice cpuRow zero16
    simp [Value.cells, hd, hS, List.replicate_succ]
  unfold Instr.build
  simp only [Sem.run_bind, hzv, Result.andThen_ok, run_underlying Tryz.underlying178, cpu_fields, hff]
  rfl
theorem cpuSize : (Tryz.prog.info? 178).map (·.size) = some 65809 := by
  have h := Tryz.sizeOf178 default
  cases hi : Tryz.prog.info? 178 with
  | none => simp [sizeOf, typeInfo, hi] at h
  | some i => simp [sizeOf, typeInfo, hi] at h; simp [h]
theorem cpuRow_one (E : Int) (R : List Int) {S : List Value} (hS : ∀ v ∈ S, v.oneCell' = true) : ∀ v ∈ cpuRow E R S, v.oneCell' = true := by
  intro v hv
  unfold cpuRow at hv
  rcases List.mem_append.1 hv with h | h
  · rcases List.mem_cons.1 h with rfl | h
    · rfl
    · obtain ⟨x, _, rfl⟩ := List.mem_map.1 h; rfl
  · exact hS v h
theorem proc_splice {E E' : Int} {R R' : List Int} {S S' : List Value} {pid par st su wk : Int} {fds : List Value} (h1 : (cpuRow E R S).length = 65809) (h2 : (cpuRow E' R' S').length = 65809) : splice (procRow E R S pid par st su wk fds) 0 (cpuRow E' R' S') = procRow E' R' S' pid par st su wk fds := by
  unfold splice procRow
  rw [Nat.zero_add, List.take_zero, List.nil_append, h2, List.drop_left' h1]
theorem proc_reg {E : Int} {R : List Int} {S : List Value} {pid par st su wk : Int} {fds : List Value} (hR : R.length = 16) (x : Int) : (procRow E R S pid par st su wk fds).set 16 (.int .u64 x) = procRow E (R.set 15 x) S pid par st su wk fds := by
  unfold procRow cpuRow
  have e : ((Value.int .u64 E :: R.map (Value.int .u64)) ++ S).set 16 (.int .u64 x) = (Value.int .u64 E :: (R.set 15 x).map (Value.int .u64)) ++ S := by
    rw [List.set_append_left _ _ (by simp [hR]), List.set_cons_succ, List.map_set]
  rw [List.set_append_left _ _ (by simp [hR]; omega), e]
theorem refPgs_sorted {B : List Int} {ss : List Seg} : ∀ (n : Nat), (∀ p, p < n → ss.countP (fun s => cov s p) ≤ 1) → (refPgs B ss n).Pairwise (fun p q => p.num < q.num) ∧ ∀ q ∈ refPgs B ss n, 0 ≤ q.num ∧ q.num < (n : Int)
  | 0, _ => by simp [refPgs]
  | n + 1, h => by
    obtain ⟨h1, h2⟩ := refPgs_sorted (B := B) n (fun p hp => h p (by omega))
    rw [refPgs_succ]
    have hc := h n (by omega)
    rw [List.countP_eq_length_filter] at hc
    generalize hF : ss.filter (fun s => cov s n) = F at hc
    refine ⟨List.pairwise_append.2 ⟨h1, ?_, fun a ha b hb => ?_⟩, fun q hq => ?_⟩
    · cases F with
      | nil => simp
      | cons x r =>
        have : r = [] := by cases r with
          | nil => rfl
          | cons y t => simp at hc
        subst this
        simp
    · obtain ⟨x, _, rfl⟩ := List.mem_map.1 hb
      exact (h2 a ha).2
    · rcases List.mem_append.1 hq with h3 | h3
      · have := h2 q h3; omega
      · obtain ⟨x, _, rfl⟩ := List.mem_map.1 h3
        show 0 ≤ (n : Int) ∧ (n : Int) < ((n + 1 : Nat) : Int)
        omega
theorem outPgs_pok {B : List Int} (h : Good B) : PgsOk (outPgs B) ∧ ∀ p ∈ outPgs B, p.num < 254 := by
  have hs := refPgs_sorted (B := B) (ss := fileSegs B) 256 (fun p hp => h.2.2.1 p hp)
  have hm : ∀ p ∈ outPgs B, ∃ (n : Nat) (s : Seg), p.num = n ∧ p.perm = s.perm ∧ s ∈ fileSegs B ∧ cov s n = true := by
    intro p hp
    obtain ⟨n, _, hq⟩ := List.mem_flatMap.1 hp
    obtain ⟨s, hs, rfl⟩ := List.mem_map.1 hq
    obtain ⟨h1, h2⟩ := List.mem_filter.1 hs
    exact ⟨n, s, rfl, rfl, h1, h2⟩
  have hsg : ∀ s ∈ fileSegs B, ∃ i, SegOk B (64 + 56 * i) ∧ s = segAt B (64 + 56 * i) := by
    intro s hs
    unfold fileSegs segsUpTo at hs
    obtain ⟨i, hi, rfl⟩ := List.mem_map.1 hs
    exact ⟨i, h.2.1 i (List.mem_range.1 hi), rfl⟩
  have hlt : ∀ p ∈ outPgs B, p.num < 254 := by
    intro p hp
    obtain ⟨n, s, h1, _, h3, h4⟩ := hm p hp
    obtain ⟨i, hi, rfl⟩ := hsg s h3
    have hl := (cov_true.1 h4).2
    have := hi.2.2.2.2.2.2
    have := hi.2.2.1
    unfold Seg.last at hl
    omega
  refine ⟨⟨hs.1, fun p hp => ?_⟩, hlt⟩
  obtain ⟨n, s, h1, h2, h3, h4⟩ := hm p hp
  obtain ⟨i, hi, rfl⟩ := hsg s h3
  have hpm := hi.2.1
  obtain ⟨a, b, c⟩ := outPgs_ok h p hp
  have := hlt p hp
  refine ⟨by omega, by omega, ?_, b, c⟩
  rw [h2]; exact hpm.1
theorem all_pok {B : List Int} (h : Good B) (R : List Int) (hR : R.length = 512) : PgsOk (outPgs B ++ twoPgs R) := by
  obtain ⟨h1, h2⟩ := outPgs_pok h
  refine ⟨List.pairwise_append.2 ⟨h1.sorted, by simp [twoPgs], fun a ha b hb => ?_⟩, fun p hp => ?_⟩
  · have := h2 a ha
    simp only [twoPgs, List.mem_cons, List.mem_nil_iff, or_false] at hb
    rcases hb with rfl | rfl
    · show a.num < 254; omega
    · show a.num < 255; omega
  · rcases List.mem_append.1 hp with hp | hp
    · exact h1.each p hp
    · have hb := (twoPgs_ok R hR p hp).2.2
      simp only [twoPgs, List.mem_cons, List.mem_nil_iff, or_false] at hp
      rcases hp with rfl | rfl
      · exact ⟨show (0 : Int) ≤ 254 by decide, show (254 : Int) < 256 by decide, show (1 : Int) ≤ 6 by decide, show (6 : Int) ≤ 255 by decide, hb⟩
      · exact ⟨show (0 : Int) ≤ 255 by decide, show (255 : Int) < 256 by decide, show (1 : Int) ≤ 6 by decide, show (6 : Int) ≤ 255 by decide, hb⟩
end Go.Proofs.YtjkpeelijbeekaaGreatDoor

/- The program's processes by their numbers, where there is one: all. -/
namespace Go.Proofs.YtjkpeelijbeekaaGreatDoor
open Go Go.RowKit Go.Maps Go.Sort Go.Shelf
set_option linter.unusedVariables false
set_option linter.unusedSimpArgs false

theorem sortsInt (m : Nat) : AnyZI.SortsIn Tryz.prog sortedL_ren Fence.wide m :=
  ⟨fun blk off cap ss W hH hblk hsz => callsIn_wide.2 (AnyM.slices_Sort_int sortIntL blk off cap ss W hH hblk hsz),
   fun p cap W => callsIn_wide.2 (AnyM.slices_Sort_int_none sortIntL p cap W)⟩
theorem keys_call (pm : Nat) (w : World) : Calls Tryz.prog 83 #[.map (some pm)] w fun e w' => e = .returned (.func (.func 111) #[] #[.pointer (some ⟨w.heap.size, 0, none⟩)]) ∧ w' = w.alloc (.cells #[.map (some pm)] 119) :=
  callsIn_wide.1 (AnyZI.keys_in keysL Fence.wide 5 trivial rfl (some pm) w)
theorem sorted_call {H : Type} (b nn : Nat) (D0 : DataW H) (R : Value → Option (DataW H × List MemPlace)) (w : World) (hown : w.ownsMap Tryz.prog 3 R b nn D0) (hmax : Maps.size D0 ≤ maxLen) (hbytes : Maps.size D0 * 8 ≤ 140737488355328) :
    Calls Tryz.prog 82 #[.func (.func 111) #[] #[.pointer (some ⟨w.heap.size, 0, none⟩)]] (w.alloc (.cells #[.map (some b)] 119)) fun e w' => ∃ (v : Value) (ss : List Int), e = .returned v ∧ ss.Perm (intKeys D0) ∧
      w'.ownsRow w.heap.size 3 1 v ss.length ((ss.mergeSort (fun x y => decide (x ≤ y))).map encZ) ∧ Below w.heap.size w w' := by
  have hbl := hown.lt
  have hseq : SeqGives Fence.wide 2 Tryz.prog 111 #[.pointer (some ⟨w.heap.size, 0, none⟩)] encZ (fun ss => ss.Perm (intKeys D0)) (Maps.size D0) (w.alloc (.cells #[.map (some b)] 119)) :=
    AnyZI.keys_gives (ρ := keysL_ren) { keysL with } Fence.wide _ trivial rfl (by omega) w.heap.size b nn D0 _ (by simp) (by simp) (by
      obtain ⟨es, clock, hb, Ft, hs, hD⟩ := hown
      exact ⟨es, clock, (Below.heap_alloc _ _ b hbl).trans hb, Ft, hs, hD⟩)
  have cS := AnyZI.sorted_in sortedL Fence.wide 5 trivial trivial trivial trivial rfl (by omega) (sortsInt _) (enters_of Tryz.func110 (by kernel_rfl) rfl) 111 #[.pointer (some ⟨w.heap.size, 0, none⟩)] trivial (enters_of Tryz.func111 (by kernel_rfl) rfl) _ _ hmax hbytes _ hseq
  refine (callsIn_wide.1 cS).mono ?_
  rintro e w' ⟨v, ss, rfl, hS, hrow, _, hb⟩
  exact ⟨v, ss, rfl, hS, ownsRow_base_a hrow (by simp), ((Below.refl _ w).alloc (Nat.le_refl _) _).trans (hb.mono (by simp))⟩
theorem one_len {w : World} {pm pb : Nat} (h : OneProc w pm pb) (ty : TypeId) : (Builtin.len_ #[119] ty #[.map (some pm)]).run Tryz.prog w = .ok (.int .i64 1) w := World.ownsMap.len h Tryz.underlying119 ty
theorem procZero (w : World) : (zeroValue 130).run Tryz.prog w = .ok (.pointer none) w := by kernel_rfl
theorem one_look {w : World} {pm pb : Nat} (h : OneProc w pm pb) : (Instr.lookup 119 (.map (some pm)) (.int .i64 1) false).run Tryz.prog w = .ok (.pointer (some ⟨pb, 0, none⟩)) w := by
  obtain ⟨v, ps, hrun, hv⟩ := World.ownsMap.lookup h intKeyed Tryz.underlying119 (procZero w) (show ptrElem (.pointer none) = some (.nil, []) from rfl) (Go.Maps.keyOf_int_mk Tryz.underlying3 (a := 1) (by decide))
  have hv : ptrElem v = some (nodeDatum (some pb), ps) := hv
  rw [ptrElem_inv hv] at hrun
  exact hrun
theorem procPtrInfo : (Tryz.prog.info? 130).map (fun i => (i.zero, i.size, i.bytes)) = some (some (.pointer none), 1, 8) := by kernel_rfl
theorem makePtr (w : World) : ∃ cur : Array Value, cur.size = 1 * 1 ∧ (Instr.makeSlice 115 (.int .i64 0) (.int .i64 1)).run Tryz.prog w = .ok (.slice (some ⟨w.heap.size, 0, none⟩) 0 1) (w.alloc (.cells cur 130)) := by
  obtain ⟨i, hi, hz, hs, hb⟩ := info_parts procPtrInfo
  have hr := run_make (P := Tryz.prog) w 115 130 i _ Tryz.underlying115 hi hz .i64 .i64 0 1 (by omega) (by omega) (by rw [hb]; omega) (by omega)
  rw [hs] at hr
  exact ⟨_, by simp [madeCells], hr⟩
theorem perm_one {ss : List Int} (h : ss.Perm [1]) : ss = [1] := List.perm_singleton.1 h
set_option maxRecDepth 100000 in
set_option maxHeartbeats 2000000 in
theorem all_one (kb pm pb : Nat) (w : World) (hk : w.cell? ⟨kb, 9, none⟩ = some (.map (some pm))) (hkl : kb < w.heap.size) (hm : OneProc w pm pb) :
    Calls Tryz.prog 51 #[.pointer (some ⟨kb, 0, none⟩)] w fun e w' => ∃ v, e = .returned v ∧ w'.ownsRow w.heap.size 130 1 v 1 [.pointer (some ⟨pb, 0, none⟩)] ∧ Below w.heap.size w w' := by
  obtain ⟨cur, hcur, hmk⟩ := makePtr w
  have hln := one_len hm
  obtain ⟨W1, hW1⟩ : ∃ W1, W1 = w.alloc (.cells cur 130) := ⟨_, rfl⟩
  have hb1 : Below w.heap.size w W1 := by rw [hW1]; exact (Below.refl _ _).alloc (Nat.le_refl _) _
  have ho1 : W1.ownsRow w.heap.size 130 1 (.slice (some ⟨w.heap.size, 0, none⟩) 0 1) 0 [] := by rw [hW1]; exact World.ownsRow_made w cur 1 (Nat.le_refl _) (by unfold maxLen; omega) hcur
  have k1 : W1.cell? ⟨kb, 9, none⟩ = some (.map (some pm)) := by rw [hb1.cell (p := ⟨kb, 9, none⟩) hkl]; exact hk
  have hm1 : OneProc W1 pm pb := hm.kept (grown_below hb1) (by simp)
  have HKY := hide (keys_call pm W1)
  have HST := hide (sorted_call pm 1 (procD pb) ptrElem W1 hm1 (by show 1 ≤ maxLen; unfold maxLen; omega) (by show 1 * 8 ≤ _; omega))
  have HM := hide hm
  have HB1 := hide hb1
  have HO1 := hide ho1
  have HW1 := hide hW1
  obtain ⟨ip, hip, hpz0, hpz1, hpz2⟩ := info_parts procPtrInfo
  have HIP := hide (And.intro hip (And.intro hpz0 (And.intro hpz1 hpz2)))
  clear hm hb1 ho1 hW1 hcur hip hpz0 hpz1 hpz2 hm1
  go_enter Tryz.func51, Tryz.ntmps51
  go_upto_region 2 with fail
  rw [← unhide HW1]
  clear hmk hln
  go_wp2_with fail
  refine (unhide HKY).mono ?_
  rintro e w2 ⟨rfl, rfl⟩
  clear HKY k1
  go_wp2_with fail
  refine (unhide HST).mono ?_
  rintro e w3 ⟨v, ss, rfl, hss, hrow, hb3⟩
  obtain rfl := perm_one (show ss.Perm [1] from hss)
  obtain ⟨gs, cs, rfl, hgs, hgl⟩ := hrow.form (show 0 < [(1 : Int)].length by decide)
  have hrow : w3.ownsRow W1.heap.size 3 1 (.slice (some ⟨gs, 0, none⟩) 1 cs) 1 [.int .i64 1] := by
    have h := hrow
    rw [List.mergeSort_singleton] at h
    exact h
  have s0 : w3.cell? ⟨gs, 0, none⟩ = some (.int .i64 1) := hrow.cellAt 0 (by omega)
  have hb3w := (unhide HB1).trans (hb3.mono (unhide HB1).size)
  have ho3 := own_below (unhide HO1) (hide hb3)
  have HB3 := hide hb3w
  have HO3 := hide ho3
  have hm3 : OneProc w3 pm pb := (unhide HM).kept (grown_below hb3w) (by simp)
  have hlk := one_look hm3
  have k3 : w3.cell? ⟨kb, 9, none⟩ = some (.map (some pm)) := by rw [hb3w.cell (p := ⟨kb, 9, none⟩) hkl]; exact hk
  have HL := hide (show w.heap.size ≤ w3.heap.size from hb3w.size)
  clear hss hrow hgs hgl hb3 hb3w ho3 hm3 HST hk
  go_wp2
  go_loopw [3, 19] (fun v i wr => ∃ k : Nat, k ≤ 1 ∧ i = .int .i64 k ∧ (k = 0 → v = .slice (some ⟨w.heap.size, 0, none⟩) 0 1 ∧ wr = w3) ∧ (k = 1 → Hid (wr.ownsRow w.heap.size 130 1 v 1 [.pointer (some ⟨pb, 0, none⟩)] ∧ Below w.heap.size w wr))) (fun _ i _ => 1 - (intOf i).toNat)
  case atStart => exact ⟨0, by omega, rfl, fun _ => ⟨rfl, rfl⟩, fun h => by omega⟩
  case round =>
    obtain ⟨k, hk, rfl, h0, h1⟩ := hrel
    have h2 : k = 0 ∨ k = 1 := by omega
    rcases h2 with rfl | rfl
    · obtain ⟨rfl, rfl⟩ := h0 rfl
      have hb4 : Below wr.heap.size wr (wr.alloc (Obj.cells #[.pointer (some ⟨pb, 0, none⟩)] 130)) := (Below.refl _ _).alloc (Nat.le_refl _) _
      have HA := hide (own_below (unhide HO3) (hide hb4))
      have HB4 := hide ((unhide HB3).trans (hb4.mono (unhide HB3).size))
      have hl := unhide HL
      clear h0 h1 hb4
      go_wp2_with (at_builtin; refine wpList_append_lies _ (by rfl) _ _ 115 (by rfl) w.heap.size 130 ip _ 1 8 Tryz.underlying115 (unhide HIP).1 (unhide HIP).2.1 (unhide HIP).2.2.1 (unhide HIP).2.2.2 rfl (by decide) _ 0 [] (by rfl) (unhide HA) ⟨wr.heap.size, 0, none⟩ 1 1 [.pointer (some ⟨pb, 0, none⟩)] (by rfl) (by rfl) (news1 wr _ _) (by intro u hu; simp only [List.mem_cons, List.not_mem_nil, or_false] at hu; subst hu; rfl) (by omega) (by unfold maxLen; omega) (by omega) (by simp; omega) (wr.heap.size + 1) (by simp) ?_; intro g8 c8 w8 hown8 hgrow8 hat8 hlt8)
      refine ⟨⟨1, by omega, by simp, fun h => by omega, fun _ => hide ⟨hown8, (unhide HB4).trans ⟨hgrow8.os, hgrow8.tape, hgrow8.output, hgrow8.size, fun q hq => hgrow8.block q (by simp; omega) (fun e => ?_)⟩⟩⟩, by simp [intOf]⟩
      have := (unhide HA).lt q e.symm
      omega
    · have HF := h1 rfl
      clear h0 h1
      go_wp2
      go_ret
      exact ⟨_, rfl, (unhide HF).1, (unhide HF).2⟩
end Go.Proofs.YtjkpeelijbeekaaGreatDoor
