import Derived.Test.YtjkpeelijbeekaaGreatDoorBootsProofG45
import Derived.Test.YtjkpeelijbeekaaGreatDoorBootsProofG39
import Derived.Test.YtjkpeelijbeekaaGreatDoorBootsProofG27
import Derived.Test.YtjkpeelijbeekaaGreatDoorBootsProofG44
/- The program's Used, where there is process 1 alone. -/
namespace Go.Proofs.YtjkpeelijbeekaaGreatDoor
open Go Go.RowKit
set_option linter.unusedVariables false
set_option linter.unusedSimpArgs false

theorem step_len {P : Program} {ops : Array Oper} {o : Oper} {a : Act} {w : World} {K : Act → World → Prop} {Q : Exit → Act → World → Prop} {E : Prop} (hgd : o.guard = none) (t : Nat) (ts : Array TypeId) (ho : o.op = .call { callee := .builtin .len, args := #[.tmp t], argTypes := ts }) (v : Value) (hx : a.eval (.tmp t) = v) (r : Value) (hrun : (Builtin.len_ ts o.type #[v]).run P w = .ok r w) (d : Option Tmp) (hd : o.dst = d) (h : K (a.put d r) w) :
    if Region.wanted o (yielded ops a.tmps) = true then Oper.wp P o a w K Q else E := by
  have hw : Region.wanted o (yielded ops a.tmps) = true := by simp [Region.wanted, hgd]
  have hx' : a.tmps[t]?.getD undef = v := by rw [← hx]; simp [go_sem]
  rw [if_pos hw]
  subst hd
  unfold Oper.wp
  simp [execOp, ho, hx', invoke, resolve, go_sem, hrun, Result.andThen]
  simpa [go_sem] using h
theorem objectsEnter : ∀ args w, (callFunc 55 args).run Tryz.prog w = .ok (.enter 55 args) w := enters_of Tryz.func55 (by kernel_rfl) rfl
theorem inodesEnter : ∀ args w, (callFunc 56 args).run Tryz.prog w = .ok (.enter 56 args) w := enters_of Tryz.func56 (by kernel_rfl) rfl
theorem fbytesEnter : ∀ args w, (callFunc 57 args).run Tryz.prog w = .ok (.enter 57 args) w := enters_of Tryz.func57 (by kernel_rfl) rfl
theorem limSize : (Tryz.prog.info? 23).map (·.size) = some 5 := by kernel_rfl
theorem lim_built (a b c d e : Int) (w : World) : (Instr.build 23 #[(0, .int .i64 a), (1, .int .i64 b), (2, .int .i64 c), (3, .int .i64 d), (4, .int .i64 e)]).run Tryz.prog w = .ok (.agg (limRow a b c d e).toArray) w := by kernel_rfl
theorem limRow_one (a b c d e : Int) : ∀ v ∈ limRow a b c d e, v.oneCell' = true := by
  intro v hv
  simp only [limRow, List.mem_cons, List.not_mem_nil, or_false] at hv
  rcases hv with rfl | rfl | rfl | rfl | rfl <;> rfl
theorem noMap_len {w : World} {m : Nat} (h : NoMap w m) (ty : TypeId) : (Builtin.len_ #[156] ty #[.map (some m)]).run Tryz.prog w = .ok (.int .i64 0) w := by
  obtain ⟨c, hc⟩ := h
  exact run_len_map w 156 ty m #[] c (by kernel_rfl) hc

set_option maxRecDepth 100000 in
set_option maxHeartbeats 4000000 in
theorem kUsed_one (kb pm pb cb tb ab : Nat) (lp lf lo li lb n used : Int) (PS : List Pg) (w : World) (hk : Holds w kb 121 (kernelRow lp lf lo li lb tb cb pm)) (hm : OneProc w pm pb) (hpl : pb < w.heap.size) (hp : PermsAt w pb PS) (hok : PgsOk PS) (hf : w.rangeAt pb 65814 (kfdsTo cb 3)) (ht : Holds w tb 163 [.pointer (some ⟨ab, 0, none⟩), .int .i64 n, .int .i64 li, .int .i64 used, .int .i64 lb]) :
    Calls Tryz.prog 35 #[.pointer (some ⟨kb, 0, none⟩)] w fun e w' => e = .returned (.agg (limRow 1 (PS.length : Nat) 0 n used).toArray) ∧ Below w.heap.size w w' := by
  obtain ⟨KROW, hKROW⟩ : ∃ KROW, KROW = kernelRow lp lf lo li lb tb cb pm := ⟨_, rfl⟩
  have y9 : KROW[9]? = some (.map (some pm)) := by rw [hKROW]; rfl
  have y5 : KROW[5]? = some (.pointer (some ⟨tb, 0, none⟩)) := by rw [hKROW]; rfl
  have y6 : KROW[6]? = some (.pointer (some ⟨cb, 0, none⟩)) := by rw [hKROW]; rfl
  have HFR := hide (show ∀ ww, Below w.heap.size w ww → Calls Tryz.prog 54 #[.pointer (some ⟨kb, 0, none⟩)] ww fun e w' => e = .returned (.int .i64 (PS.length : Nat)) ∧ Below ww.heap.size ww w' from fun ww h => frames_any kb pm pb lp lf lo li lb tb cb PS ww (hk.below h hk.lt) (hm.kept (grown_below h) (by simp)) (by have := h.size; omega) (hp.below h hpl) hok (pgs_len hok))
  rw [← hKROW] at hk
  have HOB := hide (show ∀ ww, Below w.heap.size w ww → Calls Tryz.prog 55 #[.pointer (some ⟨kb, 0, none⟩)] ww fun e w' => e = .returned (.map (some ww.heap.size)) ∧ NoMap w' ww.heap.size ∧ Below ww.heap.size ww w' from fun ww h => objects_none kb pm pb cb ww ((hk.below h hk.lt).cell y9) ((hk.below h hk.lt).cell y6) (by have := h.size; have := hk.lt; omega) (hm.kept (grown_below h) (by simp)) (by have := h.size; omega) (fun j v hv => by rw [h.cell (p := ⟨pb, 65814 + j, none⟩) hpl]; exact hf j v hv))
  have HIN := hide (show ∀ ww, Below w.heap.size w ww → Calls Tryz.prog 56 #[.pointer (some ⟨tb, 0, none⟩)] ww fun e w' => e = .returned (.int .i64 n) ∧ w' = ww from fun ww h => fsInodes_any tb ab n li used lb ww (ht.below h ht.lt))
  have HBY := hide (show ∀ ww, Below w.heap.size w ww → Calls Tryz.prog 57 #[.pointer (some ⟨tb, 0, none⟩)] ww fun e w' => e = .returned (.int .i64 used) ∧ w' = ww from fun ww h => fsBytes_any tb ab n li used lb ww (ht.below h ht.lt))
  have HSB := hide (show ∀ ww, Below w.heap.size w ww → Holds ww kb 121 KROW ∧ OneProc ww pm pb from fun ww h => ⟨hk.below h hk.lt, hm.kept (grown_below h) (by simp)⟩)
  have R1 := hide (show ∀ w' : World, (Holds w' kb 121 KROW ∧ OneProc w' pm pb) → (Instr.loadAt 119 (.pointer (some ⟨kb, 9, none⟩))).run Tryz.prog w' = .ok (.map (some pm)) w' from fun w' h => by
    have d := h.1.cell y9
    clear h hk hm hp hf ht y9 y5 y6 hKROW hok
    go_simp)
  have R2 := hide (show ∀ w' : World, (Holds w' kb 121 KROW ∧ OneProc w' pm pb) → (Instr.loadAt 113 (.pointer (some ⟨kb, 5, none⟩))).run Tryz.prog w' = .ok (.pointer (some ⟨tb, 0, none⟩)) w' from fun w' h => by
    have d := h.1.cell y5
    clear h hk hm hp hf ht y9 y5 y6 hKROW hok
    go_simp)
  obtain ⟨NP, hNP⟩ : ∃ NP, NP = PS.length := ⟨_, rfl⟩
  rw [← hNP] at HFR ⊢
  obtain ⟨W0, hW0⟩ : ∃ W0, W0 = w.alloc (.cells (limRow 0 0 0 0 0).toArray 23) := ⟨_, rfl⟩
  have hb0 : Below w.heap.size w W0 := by rw [hW0]; exact (Below.refl _ _).alloc (Nat.le_refl _) _
  have hn0 : Holds W0 w.heap.size 23 (limRow 0 0 0 0 0) := by rw [hW0]; exact Holds.new w 23 _
  have hs0 : w.heap.size < W0.heap.size := hn0.lt
  have hbd : Below W0.heap.size W0 W0.drew := ⟨rfl, rfl, rfl, Nat.le_refl _, fun _ _ => rfl⟩
  have HW0 := hide hW0
  have HB0 := hide hb0
  have HN0 := hide hn0
  have HBD := hide (hb0.trans (hbd.mono hb0.size))
  have hkl : kb < w.heap.size := hk.lt
  clear hk hm hp hf ht y9 y5 y6 hKROW hok hNP hW0 hb0 hn0 hbd
  go_enter Tryz.func35, Tryz.ntmps35
  go_upto_region 1 with fail
  have HW0' := hide (show w.alloc (Obj.cells #[.int .i64 0, .int .i64 0, .int .i64 0, .int .i64 0, .int .i64 0] 23) = W0 from (unhide HW0).symm)
  rw [unhide HW0']
  obtain ⟨H, hH⟩ : ∃ H, H = w.heap.size := ⟨_, rfl⟩
  rw [← hH]
  refine act_gen ?_
  intro A hA
  have e0 : A.eval (.tmp 0) = .pointer (some ⟨kb, 0, none⟩) := by rw [hA]; rfl
  have e2 : A.eval (.tmp 2) = .pointer (some ⟨H, 0, none⟩) := by rw [hA]; rfl
  have esz : A.tmps.size = 24 := by rw [hA]; rfl
  have HA := hide hA
  clear hA
  refine wp_region_held_drew (S := fun w' => Holds w' kb 121 KROW ∧ OneProc w' pm pb) (by kernel_rfl) (unhide HSB _ (unhide HBD)) (fun hS => ?_)
  refine takeH (i := 0) (some 3) rfl rfl (by kernel_rfl) (by kernel_rfl) (by kernel_rfl) (fun _ _ _ h => h) (yields_move rfl _ rfl (.pointer (some ⟨kb, 0, none⟩)) (by simp [put_eval, put_size, esz, e0, e2])) hS ?_
  refine takeH (i := 1) (some 4) rfl rfl (by kernel_rfl) (by kernel_rfl) (by kernel_rfl) (fun _ _ _ h => h) (yields_nil rfl _ rfl ⟨kb, 0, none⟩ (by simp [put_eval, put_size, esz, e0, e2])) hS ?_
  refine takeH (i := 2) (some 5) rfl rfl (by kernel_rfl) (by kernel_rfl) (by kernel_rfl) (fun _ _ _ h => h) (yields_field rfl _ _ _ rfl (.pointer (some ⟨kb, 0, none⟩)) (by simp [put_eval, put_size, esz, e0, e2]) (.pointer (some ⟨kb, 9, none⟩)) (fun w' => by go_simp)) hS ?_
  refine takeH (i := 3) (some 6) rfl rfl (by kernel_rfl) (by kernel_rfl) (by kernel_rfl) (fun _ _ _ h => h) (yields_load1 rfl _ _ rfl ⟨kb, 9, none⟩ (by simp [put_eval, put_size, esz, e0, e2]) (.map (some pm)) (unhide R1)) hS ?_
  refine takeH (i := 4) (some 7) rfl rfl (by kernel_rfl) (by kernel_rfl) (by kernel_rfl) (fun _ _ _ h => h) (yields_len rfl _ _ rfl (.map (some pm)) (by simp [put_eval, put_size, esz, e0, e2]) (.int .i64 1) (fun w' h => one_len h.2 _)) hS ?_
  refine takeH (i := 5) (some 8) rfl rfl (by kernel_rfl) (by kernel_rfl) (by kernel_rfl) (fun _ _ _ h => h) (yields_move rfl _ rfl (.pointer (some ⟨kb, 0, none⟩)) (by simp [put_eval, put_size, esz, e0, e2])) hS ?_
  refine takeH (i := 7) (some 10) rfl rfl (by kernel_rfl) (by kernel_rfl) (by kernel_rfl) (fun _ _ _ h => h) (yields_move rfl _ rfl (.pointer (some ⟨kb, 0, none⟩)) (by simp [put_eval, put_size, esz, e0, e2])) hS ?_
  refine takeH (i := 10) (some 13) rfl rfl (by kernel_rfl) (by kernel_rfl) (by kernel_rfl) (fun _ _ _ h => h) (yields_move rfl _ rfl (.pointer (some ⟨kb, 0, none⟩)) (by simp [put_eval, put_size, esz, e0, e2])) hS ?_
  refine takeH (i := 11) (some 14) rfl rfl (by kernel_rfl) (by kernel_rfl) (by kernel_rfl) (fun _ _ _ h => h) (yields_nil rfl _ rfl ⟨kb, 0, none⟩ (by simp [put_eval, put_size, esz, e0, e2])) hS ?_
  refine takeH (i := 12) (some 15) rfl rfl (by kernel_rfl) (by kernel_rfl) (by kernel_rfl) (fun _ _ _ h => h) (yields_field rfl _ _ _ rfl (.pointer (some ⟨kb, 0, none⟩)) (by simp [put_eval, put_size, esz, e0, e2]) (.pointer (some ⟨kb, 5, none⟩)) (fun w' => by go_simp)) hS ?_
  refine takeH (i := 13) (some 16) rfl rfl (by kernel_rfl) (by kernel_rfl) (by kernel_rfl) (fun _ _ _ h => h) (yields_load1 rfl _ _ rfl ⟨kb, 5, none⟩ (by simp [put_eval, put_size, esz, e0, e2]) (.pointer (some ⟨tb, 0, none⟩)) (unhide R2)) hS ?_
  refine takeH (i := 15) (some 18) rfl rfl (by kernel_rfl) (by kernel_rfl) (by kernel_rfl) (fun _ _ _ h => h) (yields_move rfl _ rfl (.pointer (some ⟨kb, 0, none⟩)) (by simp [put_eval, put_size, esz, e0, e2])) hS ?_
  refine takeH (i := 16) (some 19) rfl rfl (by kernel_rfl) (by kernel_rfl) (by kernel_rfl) (fun _ _ _ h => h) (yields_nil rfl _ rfl ⟨kb, 0, none⟩ (by simp [put_eval, put_size, esz, e0, e2])) hS ?_
  refine takeH (i := 17) (some 20) rfl rfl (by kernel_rfl) (by kernel_rfl) (by kernel_rfl) (fun _ _ _ h => h) (yields_field rfl _ _ _ rfl (.pointer (some ⟨kb, 0, none⟩)) (by simp [put_eval, put_size, esz, e0, e2]) (.pointer (some ⟨kb, 5, none⟩)) (fun w' => by go_simp)) hS ?_
  refine takeH (i := 18) (some 21) rfl rfl (by kernel_rfl) (by kernel_rfl) (by kernel_rfl) (fun _ _ _ h => h) (yields_load1 rfl _ _ rfl ⟨kb, 5, none⟩ (by simp [put_eval, put_size, esz, e0, e2]) (.pointer (some ⟨tb, 0, none⟩)) (unhide R2)) hS ?_
  refine wpAnyH_ready (rs := [6]) (by kernel_rfl) (by simp) (AllReadyH.cons rfl (fun K hK => ?_) AllReadyH.nil)
  refine step_call1' rfl 54 8 _ rfl (.pointer (some ⟨kb, 0, none⟩)) (by simp [put_eval, put_size, esz, e0]) framesEnter _ (.int .i64 (NP : Nat)) (fun e w' h => h.1) (unhide HFR _ (unhide HBD)) (some 9) rfl ?_
  rintro w1 ⟨_, hb1⟩
  have hb1w : Below w.heap.size w w1 := (unhide HB0).trans ((show Below W0.heap.size W0 w1 from ⟨hb1.os, hb1.tape, hb1.output, hb1.size, hb1.block⟩).mono (by omega))
  have hb01 : Below W0.heap.size W0 w1 := ⟨hb1.os, hb1.tape, hb1.output, hb1.size, hb1.block⟩
  refine hK.out _ _ (unhide HSB _ hb1w) (fun hS1 => ?_)
  clear hK K
  refine wpAnyH_ready (rs := [8]) (by kernel_rfl) (by simp) (AllReadyH.cons rfl (fun K hK => ?_) AllReadyH.nil)
  refine step_call1' rfl 55 10 _ rfl (.pointer (some ⟨kb, 0, none⟩)) (by simp [put_eval, put_size, esz, e0]) objectsEnter _ (.map (some w1.heap.size)) (fun e w' h => h.1) (unhide HOB _ hb1w) (some 11) rfl ?_
  rintro w2 ⟨_, hn2, hb2⟩
  have hb2w : Below w.heap.size w w2 := hb1w.trans (hb2.mono hb1w.size)
  have hb02 : Below W0.heap.size W0 w2 := hb01.trans (hb2.mono hb01.size)
  refine hK.out _ _ (unhide HSB _ hb2w) (fun hS2 => ?_)
  clear hK K
  refine wpAnyH_ready (rs := [9]) (by kernel_rfl) (by simp) (AllReadyH.cons rfl (fun K hK => ?_) AllReadyH.nil)
  refine step_len rfl 11 _ rfl (.map (some w1.heap.size)) (by simp [put_eval, put_size, esz]) (.int .i64 0) (noMap_len hn2 _) (some 12) rfl ?_
  refine hK.out _ _ hS2 (fun hS3 => ?_)
  clear hK K
  refine wpAnyH_ready (rs := [14]) (by kernel_rfl) (by simp) (AllReadyH.cons rfl (fun K hK => ?_) AllReadyH.nil)
  refine step_call1' rfl 56 16 _ rfl (.pointer (some ⟨tb, 0, none⟩)) (by simp [put_eval, put_size, esz]) inodesEnter _ (.int .i64 n) (fun e w' h => h.1) (unhide HIN _ hb2w) (some 17) rfl ?_
  rintro w3 ⟨_, hw3⟩
  subst hw3
  refine hK.out _ _ hS2 (fun hS4 => ?_)
  clear hK K
  refine wpAnyH_ready (rs := [19]) (by kernel_rfl) (by simp) (AllReadyH.cons rfl (fun K hK => ?_) AllReadyH.nil)
  refine step_call1' rfl 57 21 _ rfl (.pointer (some ⟨tb, 0, none⟩)) (by simp [put_eval, put_size, esz]) fbytesEnter _ (.int .i64 used) (fun e w' h => h.1) (unhide HBY _ hb2w) (some 22) rfl ?_
  rintro w4 ⟨_, hw4⟩
  subst hw4
  refine hK.out _ _ hS2 (fun hS5 => ?_)
  clear hK K
  obtain ⟨LR, hLR⟩ : ∃ LR, LR = limRow 1 (NP : Nat) 0 n used := ⟨_, rfl⟩
  have hLl : LR.length = 5 := by rw [hLR]; rfl
  have hL1 : ∀ v ∈ LR, v.oneCell' = true := by rw [hLR]; exact limRow_one _ _ _ _ _
  refine takeH (i := 20) (some 23) rfl rfl (by kernel_rfl) (by kernel_rfl) (by kernel_rfl) (fun _ _ _ h => h) (yields_build rfl _ _ rfl #[(0, .int .i64 1), (1, .int .i64 (NP : Nat)), (2, .int .i64 0), (3, .int .i64 n), (4, .int .i64 used)] (by simp [put_eval, put_size, esz]) (.agg LR.toArray) (fun w' => by rw [hLR]; exact lim_built _ _ _ _ _ w')) hS2 ?_
  have hn4 : Holds w4 H 23 (limRow 0 0 0 0 0) := by rw [hH]; exact (unhide HN0).below hb02 hs0
  have hl0 : (limRow 0 0 0 0 0).length = 5 := rfl
  refine wpAnyH_ready (rs := [21]) (by kernel_rfl) (by simp) (ready_store_part rfl rfl 23 (.tmp 2) (.tmp 23) rfl H 0 LR (by simp [put_eval, put_size, esz, e2]) (by simp [put_eval, put_size, esz]) 23 (limRow 0 0 0 0 0) hn4 (by rw [limSize, hLl]) (by rw [hLl, hl0]; omega) hL1 rfl (fun w5 H5 G5 => ⟨⟨hS2.1.grown (unhide G5) (by simp; omega), hS2.2.kept (unhide G5) (by have := World.ownsMap.lt (unhide HSB w (Below.refl _ _)).2; simp; omega)⟩, fun hS6 => ?_⟩) AllReadyH.nil)
  refine wpAnyH_done (by kernel_rfl) ?_ _
  rw [unhide HA]
  simp only [Act.put, List.setIfInBounds_toArray, List.set_cons_zero, List.set_cons_succ]
  have h5 := unhide H5
  rw [show splice (limRow 0 0 0 0 0) 0 LR = LR by unfold splice; rw [Nat.zero_add, List.take_zero, List.nil_append, hLl, List.drop_eq_nil_of_le (by rw [hl0]; omega), List.append_nil]] at h5
  have HFN := hide (show Below w.heap.size w w5 from hb2w.trans (below_grown (unhide G5) (by omega) hb2w.size))
  have HL := hide h5
  have HLR := hide (And.intro hLR hLl)
  clear hS hS1 hS2 hS3 hS4 hS5 hS6 h5 H5 G5 hb1 hb2 hb1w hb01 hb2w hb02 hn2 hn4 hL1 hLR hLl HA e0 e2 esz
  subst hH
  go_wp2
  exact ⟨rfl, .agg LR.toArray, results_one (by rfl) (by rfl) (run_loadVar_mid w5 w.heap.size 0 23 LR _ (unhide HL).range Tryz.underlying23 rfl (by rw [limSize, (unhide HLR).2])), by rw [(unhide HLR).1], unhide HFN⟩
end Go.Proofs.YtjkpeelijbeekaaGreatDoor
