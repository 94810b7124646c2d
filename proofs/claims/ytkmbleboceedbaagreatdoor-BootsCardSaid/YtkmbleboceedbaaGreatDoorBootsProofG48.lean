import Derived.Test.YtkmbleboceedbaaGreatDoorBootsProofG47
import Derived.Test.YtkmbleboceedbaaGreatDoorBootsProofG38
import Derived.Test.YtkmbleboceedbaaGreatDoorBootsProofG46
import Derived.Test.YtkmbleboceedbaaGreatDoorBootsProofG26
import Derived.Test.YtkmbleboceedbaaGreatDoorBootsProofG45
import Derived.Test.YtkmbleboceedbaaGreatDoorBootsProofG43
/- The program's Used, where there is process 1 alone. -/
namespace Go.Proofs.YtkmbleboceedbaaGreatDoor
open Go Go.RowKit
set_option linter.unusedVariables false
set_option linter.unusedSimpArgs false

theorem step_len {P : Program} {ops : Array Oper} {o : Oper} {a : Act} {w : World} {K : Act → World → Prop} {Q : Exit → Act → World → Prop} {E : Prop} (hgd : o.guard = none) (t : Nat) (ts : Array TypeId) (ho : o.op = .call { callee := .builtin .len, args := #[.tmp t], argTypes := ts }) (v : Value) (hx : a.eval (.tmp t) = v) (r : Value) (hrun : (Builtin.len_ ts o.type #[v]).run P w = .ok r w) (d : Option Tmp) (hd : o.dst = d) (h : K (a.put d r) w) :
    if Region.wanted o (yielded ops a.tmps) = true then Oper.wp P o a w K Q else E := by
  have hw : Region.wanted o (yielded ops a.tmps) = true := by simp [Region.wanted, hgd]
  have hx' : a.tmps[t]?.getD undef = v := by rw [← hx]; simp [go_sem]
  rw [if_pos hw]
  subst hd
  unfold Oper.wp
  simp [execOp, ho, hx', invoke, resolve, go_sem, hrun, Result.andThen]
  simpa [go_sem] using h
theorem objectsEnter : ∀ args w, (callFunc 55 args).run Tryz.prog w = .ok (.enter 55 args) w := enters_of Tryz.func55 (by kernel_rfl) rfl
theorem inodesEnter : ∀ args w, (callFunc 56 args).run Tryz.prog w = .ok (.enter 56 args) w := enters_of Tryz.func56 (by kernel_rfl) rfl
theorem fbytesEnter : ∀ args w, (callFunc 57 args).run Tryz.prog w = .ok (.enter 57 args) w := enters_of Tryz.func57 (by kernel_rfl) rfl
theorem limSize : (Tryz.prog.info? 23).map (·.size) = some 5 := by kernel_rfl
theorem lim_built (a b c d e : Int) (w : World) : (Instr.build 23 #[(0, .int .i64 a), (1, .int .i64 b), (2, .int .i64 c), (3, .int .i64 d), (4, .int .i64 e)]).run Tryz.prog w = .ok (.agg (limRow a b c d e).toArray) w := by kernel_rfl
theorem limRow_one (a b c d e : Int) : ∀ v ∈ limRow a b c d e, v.oneCell' = true := by
  intro v hv
  simp only [limRow, List.mem_cons, List.not_mem_nil, or_false] at hv
  rcases hv with rfl | rfl | rfl | rfl | rfl <;> rfl
theorem noMap_len {w : World} {m : Nat} (h : NoMap w m) (ty : TypeId) : (Builtin.len_ #[156] ty #[.map (some m)]).run Tryz.prog w = .ok (.int .i64 0) w := by
  obtain ⟨c, hc⟩ := h
  exact run_len_map w 156 ty m #[] c (by kernel_rfl) hc

set_option maxRecDepth 100000 in
set_option maxHeartbeats 4000000 in
theorem kUsed_one (kb pm pb cb tb ab : Nat) (lp lf lo li lb n used : Int) (PS : List Pg) (w : World) (hk : Holds w kb 121 (kernelRow lp lf lo li lb tb cb pm)) (hm : OneProc w pm pb) (hpl : pb < w.heap.size) (hp : PermsAt w pb PS) (hok : PgsOk PS) (hf : w.rangeAt pb 65814 (kfdsTo cb 3)) (ht : Holds w tb 163 [.pointer (some ⟨ab, 0, none⟩), .int .i64 n, .int .i64 li, .int .i64 used, .int .i64 lb]) :
    Calls Tryz.prog 35 #[.pointer (some ⟨kb, 0, none⟩)] w fun e w' => e = .returned (.agg (limRow 1 (PS.length : Nat) 0 n used).toArray) ∧ Below w.heap.size w w' := by
  obtain ⟨KROW, hKROW⟩ : ∃ KROW, KROW = kernelRow lp lf lo li lb tb cb pm := ⟨_, rfl⟩
  have y9 : KROW[9]? = some (.map (some pm)) := by rw [hKROW]; rfl
  have y5 : KROW[5]? = some (.pointer (some ⟨tb, 0, none⟩)) := by rw [hKROW]; rfl
  have y6 : KROW[6]? = some (.pointer (some ⟨cb, 0, none⟩)) := by rw [hKROW]; rfl
  have HFR := hide (show ∀ ww, Below w.heap.size w ww → Calls Tryz.prog 54 #[.pointer (some ⟨kb, 0, none⟩)] ww fun e w' => e = .returned (.int .i64 (PS.length : Nat)) ∧ Below ww.heap.size ww w' from fun ww h => frames_any kb pm pb lp lf lo li lb tb cb PS ww (hk.below h hk.lt) (hm.kept (grown_below h) (by simp)) (by have := h.size; omega) (hp.below h hpl) hok (pgs_len hok))
  rw [← hKROW] at hk
  have HOB := hide (show ∀ ww, Below w.heap.size w ww → Calls Tryz.prog 55 #[.pointer (some ⟨kb, 0, none⟩)] ww fun e w' => e = .returned (.map (some ww.heap.size)) ∧ NoMap w' ww.heap.size ∧ Below ww.heap.size ww w' from fun ww h => objects_none kb pm pb cb ww ((hk.below h hk.lt).cell y9) ((hk.below h hk.lt).cell y6) (by have := h.size; have := hk.lt; omega) (hm.kept (grown_below h) (by simp)) (by have := h.size; omega) (fun j v hv => by rw [h.cell (p := ⟨pb, 65814 + j, none⟩) hpl]; exact hf j v hv))
  have HIN := hide (show ∀ ww, Below w.heap.size w ww → Calls Tryz.prog 56 #[.pointer (some ⟨tb, 0, none⟩)] ww fun e w' => e = .returned (.int .i64 n) ∧ w' = ww from fun ww h => fsInodes_any tb ab n li used lb ww (ht.below h ht.lt))
  have HBY := hide (show ∀ ww, Below w.heap.size w ww → Calls Tryz.prog 57 #[.pointer (some ⟨tb, 0, none⟩)] ww fun e w' => e = .returned (.int .i64 used) ∧ w' = ww from fun ww h => fsBytes_any tb ab n li used lb ww (ht.below h ht.lt))
  have HSB := hide (show ∀ ww, Below w.heap.size w ww → Holds ww kb 121 KROW ∧ OneProc ww pm pb from fun ww h => ⟨hk.below h hk.lt, hm.kept (grown_below h) (by simp)⟩)
  have R1 := hide (show ∀ w' : World, (Holds w' kb 121 KROW ∧ OneProc w' pm pb) → (Instr.loadAt 119 (.pointer (some ⟨kb, 9, none⟩))).run Tryz.prog w' = .ok (.map (some pm)) w' from fun w' h => by
    have d := h.1.cell y9
    clear h hk hm hp hf ht y9 y5 y6 hKROW hok
    go_simp)
  have R2 := hide (show ∀ w' : World, (Holds w' kb 121 KROW ∧ OneProc w' pm pb) → (Instr.loadAt 113 (.pointer (some ⟨kb, 5, none⟩))).run Tryz.prog w' = .ok (.pointer (some ⟨tb, 0, none⟩)) w' from fun w' h => by
    have d := h.1.cell y5
    clear h hk hm hp hf ht y9 y5 y6 hKROW hok
    go_simp)
  obtain ⟨NP, hNP⟩ : ∃ NP, NP = PS.length := ⟨_, rfl⟩
  rw [← hNP] at HFR ⊢
  obtain ⟨W0, hW0⟩ : ∃ W0, W0 = w.alloc (.cells (limRow 0 0 0 0 0).toArray 23) := ⟨_, rfl⟩
  have hb0 : Below w.heap.size w W0 := by rw [hW0]; exact (Below.refl _ _).alloc (Nat.le_refl _) _
  have hn0 : Holds W0 w.heap.size 23 (limRow 0 0 0 0 0) := by rw [hW0]; exact Holds.new w 23 _
  have hs0 : w.heap.size < W0.heap.size := hn0.lt
  have hbd : Below W0.heap.size W0 W0.drew := ⟨rfl, rfl, rfl, Nat.le_refl _, fun _ _ => rfl⟩
  have HW0 := hide hW0
  have HB0 := hide hb0
  have HN0 := hide hn0
  have HBD := hide (hb0.trans (hbd.mono hb0.size))
  have hkl : kb < w.heap.size := hk.lt
  clear hk hm hp hf ht y9 y5 y6 hKROW hok hNP hW0 hb0 hn0 hbd
  go_enter Tryz.func35, Tryz.ntmps35
  go_upto_region 1 with fail
  have HW0' := hide (show w.alloc (Obj.cells #[.int .i64 0, .int .i64 0, .int .i64 0, .int .i64 0, .int .i64 0] 23) = W0 from (unhide HW0).symm)
  rw [unhide HW0']
  obtain ⟨H, hH⟩ : ∃ H, H = w.heap.size := ⟨_, rfl⟩
  rw [← hH]
  refine act_gen ?_
  intro A hA
  have e0 : A.eval (.tmp 0) = .pointer (some ⟨kb, 0, none⟩) := by rw [hA]; rfl
  have e2 : A.eval (.tmp 2) = .pointer (some ⟨H, 0, none⟩) := by rw [hA]; rfl
  have esz : A.tmps.size = 24 := by rw [hA]; rfl
  have HA := hide hA
  clear hA
  refine wp_region_held_drew (S := fun w' => Holds w' kb 121 KROW ∧ OneProc w' pm pb) (by kernel_rfl) (unhide HSB _ (unhide HBD)) (fun hS => ?_)
  refine takeH (i := 0) (some 3) rfl rfl (by kernel_rfl) (by kernel_rfl) (by kernel_rfl) (fun _ _ _ h => h) (yields_move rfl _ rfl (.pointer (some ⟨kb, 0, none⟩)) (by simp [put_eval, put_size, esz, e0, e2])) hS ?_
  refine takeH (i := 1) (some 4) rfl rfl (by kernel_rfl) (by kernel_rfl) (by kernel_rfl) (fun _ _ _ h => h) (yields_nil rfl _ rfl ⟨kb, 0, none⟩ (by simp [put_eval, put_size, esz, e0, e2])) hS ?_
  refine takeH (i := 2) (some 5) rfl rfl (by kernel_rfl) (by kernel_rfl) (by kernel_rfl) (fun _ _ _ h => h) (yields_field rfl _ _ _ rfl (.pointer (some ⟨kb, 0, none⟩)) (by simp [put_eval, put_size, esz, e0, e2]) (.pointer (some ⟨kb, 9, none⟩)) (fun w' => by go_simp)) hS ?_
  refine takeH (i := 3) (some 6) rfl rfl (by kernel_rfl) (by kernel_rfl) (by kernel_rfl) (fun _ _ _ h => h) (yields_load1 rfl _ _ rfl ⟨kb, 9, none⟩ (by simp [put_eval, put_size, esz, e0, e2]) (.map (some pm)) (unhide R1)) hS ?_
  refine takeH (i := 4) (some 7) rfl rfl (by kernel_rfl) (by kernel_rfl) (by kernel_rfl) (fun _ _ _ h => h) (yields_len rfl _ _ rfl (.map (some pm)) (by simp [put_eval, put_size, esz, e0, e2]) (.int .i64 1) (fun w' h => one_len h.2 _)) hS ?_
  refine takeH (i := 5) (some 8) rfl rfl (by kernel_rfl) (by kernel_rfl) (by kernel_rfl) (fun _ _ _ h => h) (yields_move rfl _ rfl (.pointer (some ⟨kb, 0, none⟩)) (by simp [put_eval, put_size, esz, e0, e2])) hS ?_
  refine takeH (i := 7) (some 10) rfl rfl (by kernel_rfl) (by kernel_rfl) (by kernel_rfl) (fun _ _ _ h => h) (yields_move rfl _ rfl (.pointer (some ⟨kb, 0, none⟩)) (by simp [put_eval, put_size, esz, e0, e2])) hS ?_
  refine takeH (i := 10) (some 13) rfl rfl (by kernel_rfl) (by kernel_rfl) (by kernel_rfl) (fun _ _ _ h => h) (yields_move rfl _ rfl (.pointer (some ⟨kb, 0, none⟩)) (by simp [put_eval, put_size, esz, e0, e2])) hS ?_
  refine takeH (i := 11) (some 14) rfl rfl (by kernel_rfl) (by kernel_rfl) (by kernel_rfl) (fun _ _ _ h => h) (yields_nil rfl _ rfl ⟨kb, 0, none⟩ (by simp [put_eval, put_size, esz, e0, e2])) hS ?_
  refine takeH (i := 12) (some 15) rfl rfl (by kernel_rfl) (by kernel_rfl) (by kernel_rfl) (fun _ _ _ h => h) (yields_field rfl _ _ _ rfl (.pointer (some ⟨kb, 0, none⟩)) (by simp [put_eval, put_size, esz, e0, e2]) (.pointer (some ⟨kb, 5, none⟩)) (fun w' => by go_simp)) hS ?_
  refine takeH (i := 13) (some 16) rfl rfl (by kernel_rfl) (by kernel_rfl) (by kernel_rfl) (fun _ _ _ h => h) (yields_load1 rfl _ _ rfl ⟨kb, 5, none⟩ (by simp [put_eval, put_size, esz, e0, e2]) (.pointer (some ⟨tb, 0, none⟩)) (unhide R2)) hS ?_
  refine takeH (i := 15) (some 18) rfl rfl (by kernel_rfl) (by kernel_rfl) (by kernel_rfl) (fun _ _ _ h => h) (yields_move rfl _ rfl (.pointer (some ⟨kb, 0, none⟩)) (by simp [put_eval, put_size, esz, e0, e2])) hS ?_
  refine takeH (i := 16) (some 19) rfl rfl (by kernel_rfl) (by kernel_rfl) (by kernel_rfl) (fun _ _ _ h => h) (yields_nil rfl _ rfl ⟨kb, 0, none⟩ (by simp [put_eval, put_size, esz, e0, e2])) hS ?_
  refine takeH (i := 17) (some 20) rfl rfl (by kernel_rfl) (by kernel_rfl) (by kernel_rfl) (fun _ _ _ h => h) (yields_field rfl _ _ _ rfl (.pointer (some ⟨kb, 0, none⟩)) (by simp [put_eval, put_size, esz, e0, e2]) (.pointer (some ⟨kb, 5, none⟩)) (fun w' => by go_simp)) hS ?_
  refine takeH (i := 18) (some 21) rfl rfl (by kernel_rfl) (by kernel_rfl) (by kernel_rfl) (fun _ _ _ h => h) (yields_load1 rfl _ _ rfl ⟨kb, 5, none⟩ (by simp [put_eval, put_size, esz, e0, e2]) (.pointer (some ⟨tb, 0, none⟩)) (unhide R2)) hS ?_
  refine wpAnyH_ready (rs := [6]) (by kernel_rfl) (by simp) (AllReadyH.cons rfl (fun K hK => ?_) AllReadyH.nil)
  refine step_call1' rfl 54 8 _ rfl (.pointer (some ⟨kb, 0, none⟩)) (by simp [put_eval, put_size, esz, e0]) framesEnter _ (.int .i64 (NP : Nat)) (fun e w' h => h.1) (unhide HFR _ (unhide HBD)) (some 9) rfl ?_
  rintro w1 ⟨_, hb1⟩
  have hb1w : Below w.heap.size w w1 := (unhide HB0).trans ((show Below W0.heap.size W0 w1 from ⟨hb1.os, hb1.tape, hb1.output, hb1.size, hb1.block⟩).mono (by omega))
  have hb01 : Below W0.heap.size W0 w1 := ⟨hb1.os, hb1.tape, hb1.output, hb1.size, hb1.block⟩
  refine hK.out _ _ (unhide HSB _ hb1w) (fun hS1 => ?_)
  clear hK K
  refine wpAnyH_ready (rs := [8]) (by kernel_rfl) (by simp) (AllReadyH.cons rfl (fun K hK => ?_) AllReadyH.nil)
  refine step_call1' rfl 55 10 _ rfl (.pointer (some ⟨kb, 0, none⟩)) (by simp [put_eval, put_size, esz, e0]) objectsEnter _ (.map (some w1.heap.size)) (fun e w' h => h.1) (unhide HOB _ hb1w) (some 11) rfl ?_
  rintro w2 ⟨_, hn2, hb2⟩
  have hb2w : Below w.heap.size w w2 := hb1w.trans (hb2.mono hb1w.size)
  have hb02 : Below W0.heap.size W0 w2 := hb01.trans (hb2.mono hb01.size)
  refine hK.out _ _ (unhide HSB _ hb2w) (fun hS2 => ?_)
  clear hK K
  refine wpAnyH_ready (rs := [9]) (by kernel_rfl) (by simp) (AllReadyH.cons rfl (fun K hK => ?_) AllReadyH.nil)
  refine step_len rfl 11 _ rfl (.map (some w1.heap.size)) (by simp [put_eval, put_size, esz]) (.int .i64 0) (noMap_len hn2 _) (some 12) rfl ?_
  refine hK.out _ _ hS2 (fun hS3 => ?_)
  clear hK K
  refine wpAnyH_ready (rs := [14]) (by kernel_rfl) (by simp) (AllReadyH.cons rfl (fun K hK => ?_) AllReadyH.nil)
  refine step_call1' rfl 56 16 _ rfl (.pointer (some ⟨tb, 0, none⟩)) (by simp [put_eval, put_size, esz]) inodesEnter _ (.int .i64 n) (fun e w' h => h.1) (unhide HIN _ hb2w) (some 17) rfl ?_
  rintro w3 ⟨_, hw3⟩
  subst hw3
  refine hK.out _ _ hS2 (fun hS4 => ?_)
  clear hK K
  refine wpAnyH_ready (rs := [19]) (by kernel_rfl) (by simp) (AllReadyH.cons rfl (fun K hK => ?_) AllReadyH.nil)
  refine step_call1' rfl 57 21 _ rfl (.pointer (some ⟨tb, 0, none⟩)) (by simp [put_eval, put_size, esz]) fbytesEnter _ (.int .i64 used) (fun e w' h => h.1) (unhide HBY _ hb2w) (some 22) rfl ?_
  rintro w4 ⟨_, hw4⟩
  subst hw4
  refine hK.out _ _ hS2 (fun hS5 => ?_)
  clear hK K
  obtain ⟨LR, hLR⟩ : ∃ LR, LR = limRow 1 (NP : Nat) 0 n used := ⟨_, rfl⟩
  have hLl : LR.length = 5 := by rw [hLR]; rfl
  have hL1 : ∀ v ∈ LR, v.oneCell' = true := by rw [hLR]; exact limRow_one _ _ _ _ _
  refine takeH (i := 20) (some 23) rfl rfl (by kernel_rfl) (by kernel_rfl) (by kernel_rfl) (fun _ _ _ h => h) (yields_build rfl _ _ rfl #[(0, .int .i64 1), (1, .int .i64 (NP : Nat)), (2, .int .i64 0), (3, .int .i64 n), (4, .int .i64 used)] (by simp [put_eval, put_size, esz]) (.agg LR.toArray) (fun w' => by rw [hLR]; exact lim_built _ _ _ _ _ w')) hS2 ?_
  have hn4 : Holds w4 H 23 (limRow 0 0 0 0 0) := by rw [hH]; exact (unhide HN0).below hb02 hs0
  have hl0 : (limRow 0 0 0 0 0).length = 5 := rfl
  refine wpAnyH_ready (rs := [21]) (by kernel_rfl) (by simp) (ready_store_part rfl rfl 23 (.tmp 2) (.tmp 23) rfl H 0 LR (by simp [put_eval, put_size, esz, e2]) (by simp [put_eval, put_size, esz]) 23 (limRow 0 0 0 0 0) hn4 (by rw [limSize, hLl]) (by rw [hLl, hl0]; omega) hL1 rfl (fun w5 H5 G5 => ⟨⟨hS2.1.grown (unhide G5) (by simp; omega), hS2.2.kept (unhide G5) (by have := World.ownsMap.lt (unhide HSB w (Below.refl _ _)).2; simp; omega)⟩, fun hS6 => ?_⟩) AllReadyH.nil)
  refine wpAnyH_done (by kernel_rfl) ?_ _
  rw [unhide HA]
  simp only [Act.put, List.setIfInBounds_toArray, List.set_cons_zero, List.set_cons_succ]
  have h5 := unhide H5
  rw [show splice (limRow 0 0 0 0 0) 0 LR = LR by unfold splice; rw [Nat.zero_add, List.take_zero, List.nil_append, hLl, List.drop_eq_nil_of_le (by rw [hl0]; omega), List.append_nil]] at h5
  have HFN := hide (show Below w.heap.size w w5 from hb2w.trans (below_grown (unhide G5) (by omega) hb2w.size))
  have HL := hide h5
  have HLR := hide (And.intro hLR hLl)
  clear hS hS1 hS2 hS3 hS4 hS5 hS6 h5 H5 G5 hb1 hb2 hb1w hb01 hb2w hb02 hn2 hn4 hL1 hLR hLl HA e0 e2 esz
  subst hH
  go_wp2
  exact ⟨rfl, .agg LR.toArray, results_one (by rfl) (by rfl) (run_loadVar_mid w5 w.heap.size 0 23 LR _ (unhide HL).range Tryz.underlying23 rfl (by rw [limSize, (unhide HLR).2])), by rw [(unhide HLR).1], unhide HFN⟩
end Go.Proofs.YtkmbleboceedbaaGreatDoor

/- The program's kernel as Boot gives it; what lies apart from it. -/
namespace Go.Proofs.YtkmbleboceedbaaGreatDoor
open Go Go.RowKit Go.Maps
set_option linter.unusedVariables false
set_option linter.unusedSimpArgs false

theorem OneProc.block {w w' : World} {pm pb : Nat} (h : OneProc w pm pb) (hh : w'.heap[pm]? = w.heap[pm]?) : OneProc w' pm pb := by
  obtain ⟨es, clock, hb, F, hs, hD⟩ := h
  exact ⟨es, clock, by rw [hh]; exact hb, F, hs, hD⟩
structure KRep (w : World) (B kb : Nat) (p : PK) (tb ab am cb pm pb : Nat) (NB MB : List Nat) (V : List Value) : Prop where
  tree : BootRep w B tb ab am p NB MB V
  ker : Holds w kb 121 (kernelRow p.lp p.lf p.lo p.li p.lb tb cb pm)
  procs : OneProc w pm pb
  con : Holds w cb 129 conRow
  proc : Holds w pb 183 (procRow (initProc p).pc (initProc p).R (spaceRow (initProc p).PS) 1 0 0 0 0 (kfdsTo cb 3))
  low : B ≤ kb ∧ B ≤ cb ∧ B ≤ pm ∧ B ≤ pb
  inv : PInv p
  size : p.xs.length ≤ 101 ∧ usedOf p.cs ≤ 200000 ∧ AllBytes p.cs
theorem KRep.stable {w w' : World} {B kb : Nat} {p : PK} {tb ab am cb pm pb : Nat} {NB MB : List Nat} {V : List Value} (h : KRep w B kb p tb ab am cb pm pb NB MB V) (hs : w.heap.size ≤ w'.heap.size) (hk : ∀ k, B ≤ k → k < w.heap.size → w'.heap[k]? = w.heap[k]?) : KRep w' B kb p tb ab am cb pm pb NB MB V :=
  ⟨h.tree.stable hs hk, holds_block h.ker (hk _ h.low.1 h.ker.lt), h.procs.block (hk _ h.low.2.2.1 (World.ownsMap.lt h.procs)), holds_block h.con (hk _ h.low.2.1 h.con.lt), holds_block h.proc (hk _ h.low.2.2.2 h.proc.lt), h.low, h.inv, h.size⟩
/-- A kernel that the program's Boot gave. -/
def KR (w : World) (B : Nat) (kp : Addr) (p : PK) : Prop := ∃ tk kb tb ab am cb pm pb NB MB V, kp = ⟨tk, 0, none⟩ ∧ B ≤ tk ∧ Holds w tk 96 [.pointer (some ⟨kb, 0, none⟩)] ∧ KRep w B kb p tb ab am cb pm pb NB MB V
theorem kr_stable : Stable KR := fun w w' B kp p h hs hk => by
  obtain ⟨tk, kb, tb, ab, am, cb, pm, pb, NB, MB, V, h1, h2, h3, h4⟩ := h
  exact ⟨tk, kb, tb, ab, am, cb, pm, pb, NB, MB, V, h1, h2, holds_block h3 (hk _ h2 h3.lt), h4.stable hs hk⟩
theorem init_pok {p : PK} (h : p.ExecOk [0] 0 initPath [initArg]) : PgsOk (initProc p).PS := all_pok h.2.2.2.1 _ (stackRoom_length h.2.2.2.2.1)
theorem init_regs (p : PK) : (initProc p).R.length = 16 := by simp [initProc]
theorem kr_procs (w : World) (B : Nat) (kp : Addr) (p : PK) (h : KR w B kp p) (hex : p.ExecOk [0] 0 initPath [initArg]) : Calls Tryz.prog 18 #[.pointer (some kp)] w (ProcsPost w [] [initProc p]) := by
  obtain ⟨tk, kb, tb, ab, am, cb, pm, pb, NB, MB, V, rfl, h2, h3, h4⟩ := h
  exact procs_top tk kb pm pb cb p w (h3.cell rfl) (h4.ker.cell rfl) h4.ker.lt h4.procs h4.proc hex
theorem kr_console (w : World) (B : Nat) (kp : Addr) (p : PK) (h : KR w B kp p) : Calls Tryz.prog 9 #[.pointer (some kp)] w fun e w2 => (∃ a c, e = .returned (.slice a 0 c)) ∧ Below w.heap.size w w2 := by
  obtain ⟨tk, kb, tb, ab, am, cb, pm, pb, NB, MB, V, rfl, h2, h3, h4⟩ := h
  exact (console_nil tk kb cb w (h3.cell rfl) (h4.ker.cell rfl) h4.con).mono fun e w' h => ⟨⟨none, 0, h.1⟩, h.2⟩
set_option maxRecDepth 100000 in
set_option maxHeartbeats 1000000 in
theorem used_top (tk kb pm pb cb tb ab : Nat) (lp lf lo li lb n used : Int) (PS : List Pg) (w : World) (hT : w.cell? ⟨tk, 0, none⟩ = some (.pointer (some ⟨kb, 0, none⟩))) (htl : tk < w.heap.size) (hk : Holds w kb 121 (kernelRow lp lf lo li lb tb cb pm)) (hm : OneProc w pm pb) (hpl : pb < w.heap.size) (hp : PermsAt w pb PS) (hok : PgsOk PS) (hf : w.rangeAt pb 65814 (kfdsTo cb 3)) (ht : Holds w tb 163 [.pointer (some ⟨ab, 0, none⟩), .int .i64 n, .int .i64 li, .int .i64 used, .int .i64 lb]) :
    Calls Tryz.prog 23 #[.pointer (some ⟨tk, 0, none⟩)] w fun e w' => e = .returned (.agg (limRow 1 (PS.length : Nat) 0 n used).toArray) ∧ Below w.heap.size w w' := by
  obtain ⟨W0, hW0⟩ : ∃ W0, W0 = w.alloc (Obj.cells #[.int .i64 0, .int .i64 0, .int .i64 0, .int .i64 0, .int .i64 0] 23) := ⟨_, rfl⟩
  have hb0 : Below w.heap.size w W0 := by rw [hW0]; exact (Below.refl _ _).alloc (Nat.le_refl _) _
  have hn0 : Holds W0 w.heap.size 23 [.int .i64 0, .int .i64 0, .int .i64 0, .int .i64 0, .int .i64 0] := by rw [hW0]; exact Holds.new w 23 _
  have hT0 : W0.cell? ⟨tk, 0, none⟩ = some (.pointer (some ⟨kb, 0, none⟩)) := by rw [hb0.cell (p := ⟨tk, 0, none⟩) htl]; exact hT
  have HU := hide (kUsed_one kb pm pb cb tb ab lp lf lo li lb n used PS W0 (hk.below hb0 hk.lt) (hm.kept (grown_below hb0) (by simp)) (by have := hb0.size; omega) (hp.below hb0 hpl) hok (fun j v hv => by rw [hb0.cell (p := ⟨pb, 65814 + j, none⟩) hpl]; exact hf j v hv) (ht.below hb0 ht.lt))
  have HW0 := hide hW0
  have HB0 := hide hb0
  have HN0 := hide hn0
  have hs0 : w.heap.size < W0.heap.size := hn0.lt
  clear hk hm hp hf ht hok hW0 hb0 hn0 hT
  go_enter Tryz.func23, Tryz.ntmps23
  go_upto_region 1 with fail
  rw [← unhide HW0]
  go_wp2_with fail
  refine (unhide HU).mono ?_
  rintro e w1 ⟨rfl, hb1⟩
  have hn1 := (unhide HN0).below hb1 hs0
  have HB1 := hide ((unhide HB0).trans (hb1.mono (unhide HB0).size))
  unfold limRow
  obtain ⟨NP, hNP⟩ : ∃ NP : Int, NP = ((PS.length : Nat) : Int) := ⟨_, rfl⟩
  rw [← hNP]
  have HNP := hide hNP
  have k0 : w1.cell? ⟨w.heap.size, 0, none⟩ = some (.int .i64 0) := hn1.cell rfl
  have k1 : w1.cell? ⟨w.heap.size, 1, none⟩ = some (.int .i64 0) := hn1.cell rfl
  have k2 : w1.cell? ⟨w.heap.size, 2, none⟩ = some (.int .i64 0) := hn1.cell rfl
  have k3 : w1.cell? ⟨w.heap.size, 3, none⟩ = some (.int .i64 0) := hn1.cell rfl
  have k4 : w1.cell? ⟨w.heap.size, 4, none⟩ = some (.int .i64 0) := hn1.cell rfl
  have f0 := hn1.frozen 0
  have f1 := hn1.frozen 1
  have f2 := hn1.frozen 2
  have f3 := hn1.frozen 3
  have f4 := hn1.frozen 4
  clear hb1 hT0 HU hNP
  go_upto_region 99 with (refine wpList_store_hold rfl 23 _ _ rfl w.heap.size [.int .i64 1, .int .i64 NP, .int .i64 0, .int .i64 n, .int .i64 used] (by rfl) (by rfl) 23 _ hn1 (by rw [limSize]; rfl) (by rfl) (limRow_one 1 NP 0 n used) ?_; intro w6 H6 G6)
  have h6 := unhide H6
  exact ⟨rfl, .agg #[.int .i64 1, .int .i64 NP, .int .i64 0, .int .i64 n, .int .i64 used], results_one (by rfl) (by rfl) (run_loadVar_mid w6 w.heap.size 0 23 [.int .i64 1, .int .i64 NP, .int .i64 0, .int .i64 n, .int .i64 used] _ h6.range Tryz.underlying23 rfl (by rw [limSize]; rfl)), by rw [unhide HNP]; rfl, (unhide HB1).trans (below_grown G6 (Nat.le_refl _) (unhide HB1).size)⟩
theorem kr_used (w : World) (B : Nat) (kp : Addr) (p : PK) (h : KR w B kp p) (hex : p.ExecOk [0] 0 initPath [initArg]) : Calls Tryz.prog 23 #[.pointer (some kp)] w fun e w2 => e = .returned (.agg (limRow (pagesOf p).length (pagesOf p).sum 0 p.xs.length (usedOf p.cs)).toArray) ∧ Below w.heap.size w w2 := by
  obtain ⟨tk, kb, tb, ab, am, cb, pm, pb, NB, MB, V, rfl, h2, h3, h4⟩ := h
  have hok := init_pok hex
  have hSl : (spaceRow (initProc p).PS).length = 65792 := spaceRow_length (fun q hq => (hok.each q hq).2.2.2.2)
  have hsp : w.rangeAt pb 17 (spaceRow (initProc p).PS) := fun j v hv => h4.proc.cell (row_space (init_regs p) hSl j v hv)
  refine (used_top tk kb pm pb cb tb ab p.lp p.lf p.lo p.li p.lb p.xs.length (usedOf p.cs) (initProc p).PS w (h3.cell rfl) h3.lt h4.ker h4.procs h4.proc.lt (fun j hj => (space_page hok hsp hj).1) hok (fun j v hv => h4.proc.cell ?_) h4.tree.tree.tree).mono ?_
  · rw [show 65814 + j = 65809 + (5 + j) by omega]
    refine row_at (init_regs p) hSl _ _ ?_
    rw [List.getElem?_append_right (by simp)]
    simpa using hv
  · rintro e w' ⟨rfl, hb⟩
    refine ⟨?_, hb⟩
    have e1 : (pagesOf p).length = 1 := rfl
    have e2 : (initProc p).PS.length = (pagesOf p).sum := by simp [initProc, pagesOf, twoPgs]
    rw [e1, ← e2]
    rfl
end Go.Proofs.YtkmbleboceedbaaGreatDoor

/- The program's Files. -/
-- import Derived.Shelf.SlSortCmp.NoneTotal
namespace Go.Proofs.YtkmbleboceedbaaGreatDoor
open Go Go.RowKit Go.Maps
set_option linter.unusedVariables false
set_option linter.unusedSimpArgs false

instance : Inhabited FLoc := ⟨⟨none, 0, 0, 0⟩⟩
def cfE (p : PK) (e f : Nat × FLoc) : Int := Lib.compareBytes (pathB p e.1) (pathB p f.1)
theorem ltE (p : PK) (e f : Nat × FLoc) : ltOf (cfE p) e f = Op.bytesLess (pathB p e.1) (pathB p f.1) := by
  unfold ltOf cfE
  rw [show decide (Lib.compareBytes (pathB p e.1) (pathB p f.1) < 0) = decide (Op.bytesLess (pathB p e.1) (pathB p f.1) = true) from decide_eq_decide.2 (cmp_less _ _)]
  simp
theorem swoE (p : PK) : Go.Sort.SWO (ltOf (cfE p)) where
  irrefl x := by rw [ltE]; exact less_irrefl _
  trans x y z h1 h2 := by rw [ltE] at *; exact less_trans _ _ _ h1 h2
  ntrans x y z h1 h2 := by rw [ltE] at *; exact less_ntrans _ _ _ h1 h2
set_option maxRecDepth 100000 in
set_option maxHeartbeats 1000000 in
theorem closure_file (p : PK) (e f : Nat × FLoc) (W : World) : Calls Tryz.prog 89 #[.agg (elemRow p e).toArray, .agg (elemRow p f).toArray] W fun r w' => r = .returned (.int .i64 (cfE p e f)) ∧ ∃ q os', w' = Go.Sort.grow (W.drewN q) os' := by
  have H := hide (show ∀ w, Calls Tryz.prog 90 #[.string (fileAt p e.1).path, .string (fileAt p f.1).path] w fun r w' => r = .returned (.int .i64 (cfE p e f)) ∧ w' = w from fun w => Any.strings_Compare compareSL _ _ w)
  generalize cfE p e f = r at H ⊢
  unfold elemRow elemVal
  generalize (fileAt p e.1).path = s1 at H ⊢
  generalize (fileAt p f.1).path = s2 at H ⊢
  go_enter Tryz.func89, Tryz.ntmps89
  go_wp2_with (go_at_call 90; refine (unhide H _).mono ?_; rintro e w' ⟨rfl, rfl⟩)
  go_ret
  exact ⟨rfl, 0, _, by rw [Go.Sort.alloc_eq_grow, Go.Sort.alloc_eq_grow, Go.Sort.grow_grow]; rfl⟩
theorem elemRows_get (p : PK) : ∀ (EL : List (Nat × FLoc)) (i j : Nat) (e : Nat × FLoc), j < 3 → EL[i]? = some e → (elemRows p EL)[i * 3 + j]? = (elemRow p e)[j]?
  | [], i, j, s, _, h => by simp at h
  | x :: r, 0, j, s, hj, h => by
    obtain rfl : x = s := by simpa using h
    rw [elemRows, List.flatMap_cons, Nat.zero_mul, Nat.zero_add, List.getElem?_append_left (show j < (elemRow p x).length from hj)]
  | x :: r, i + 1, j, s, hj, h => by
    have ih := elemRows_get p r i j s hj (by simpa using h)
    rw [elemRows, List.flatMap_cons, List.getElem?_append_right (show (elemRow p x).length ≤ (i + 1) * 3 + j from by show 3 ≤ _; omega)]
    rw [show (i + 1) * 3 + j - (elemRow p x).length = i * 3 + j from by show (i + 1) * 3 + j - 3 = _; omega]
    exact ih
theorem flat_elems (p : PK) (EL : List (Nat × FLoc)) : Go.Sort.flatK (elemRow p) 3 EL.toArray = (elemRows p EL).toArray := by
  apply Go.Sort.ext_get!
  · simp [elemRows_length]
  · intro t ht
    have ht' : t < EL.length * 3 := by simpa using ht
    rw [Go.Sort.get_flatK _ _ _ _ (by simpa using ht')]
    have hi : t / 3 < EL.length := by omega
    have h := elemRows_get p EL (t / 3) (t % 3) EL[t / 3] (Nat.mod_lt _ (by omega)) (List.getElem?_eq_getElem hi)
    rw [show t / 3 * 3 + t % 3 = t from by omega] at h
    have e : EL.toArray[t / 3]! = EL[t / 3] := by simp [getElem!_pos, hi]
    rw [e]
    simp only [List.getElem!_toArray, List.getElem!_eq_getElem?_getD, h]
theorem holdsE {w : World} {B g c : Nat} {p : PK} {EL : List (Nat × FLoc)} (h : w.ownsRow B 44 3 (.slice (some ⟨g, 0, none⟩) EL.length c) EL.length (elemRows p EL)) : Go.Sort.HoldsK (elemRow p) 3 w g 0 EL.toArray := by
  unfold Go.Sort.HoldsK
  rw [flat_elems]
  intro j hj
  rw [Nat.zero_add]
  have hj' : j < (elemRows p EL).length := by simpa using hj
  have hj3 : j < EL.length * 3 := by rw [elemRows_length] at hj'; exact hj'
  obtain ⟨v, _, hf⟩ := row_there h j hj3
  refine ⟨?_, hf⟩
  rw [h.cellAt j hj3, List.getElem?_eq_getElem hj']
  simp [getElem!_pos, hj']
theorem sort_grown {α : Type} (enc : α → List Value) (k : Nat) (w : World) (g n : Nat) (d : Array α) (os : Array Obj) [Inhabited α] : w.grownBy (sortWorldK enc k w g 0 n d os) (some g) := by
  unfold sortWorldK Go.Sort.grow Go.Sort.putRowK Go.Sort.putRow Go.Sort.mapBlock Go.Sort.ahead
  refine ⟨rfl, rfl, rfl, by simp, fun k hk hne => ?_⟩
  simp only
  rw [Array.getElem?_append_left (by simpa using hk), Array.getElem?_modify, if_neg (fun e => hne (by rw [e]))]
theorem sortFiles_any (p : PK) (B g c : Nat) (EL : List (Nat × FLoc)) (w : World) (h : w.ownsRow B 44 3 (.slice (some ⟨g, 0, none⟩) EL.length c) EL.length (elemRows p EL)) (hl : EL.length ≤ 100000) :
    Calls Tryz.prog 88 #[.slice (some ⟨g, 0, none⟩) EL.length c, .func (.func 89) #[] #[]] w fun e w' =>
      e = .returned (.tuple #[]) ∧ ∃ EL' : List (Nat × FLoc), EL'.Perm EL ∧ (EL'.map Prod.fst).Pairwise (fun i j => lePath p i j = true) ∧ Go.Sort.HoldsK (elemRow p) 3 w' g 0 EL'.toArray ∧ w.grownBy w' (some g) := by
  have eg : ∀ args w, (callFunc 89 args).run Tryz.prog w = .ok (.enter 89 args) w := enters_of Tryz.func89 (by kernel_rfl) rfl
  have hgl := (h.lt g rfl).2
  have hcon := AnyQ.slices_SortFunc sortFileL 3 Tryz.isAgg44 Tryz.sizeOf44 (elemRow p) (fun _ => rfl) (elemRow_one p) (cfE p) (swoE p) 89 #[] g 0 c EL.toArray w eg (fun _ _ _ _ x y => closure_file p x y _) (holdsE h) hgl (by simp; omega)
  change Calls Tryz.prog 88 #[.slice (some ⟨g, 0, none⟩) EL.length c, .func (.func 89) #[] #[]] w _ at hcon
  refine hcon.mono ?_
  rintro e w' ⟨he, d', n, os, hp, hs, rfl⟩
  have hsz := hp.1
  simp only [List.size_toArray] at hsz
  refine ⟨he, d'.toList, ?_, ?_, ?_, sort_grown _ _ _ _ _ _ _⟩
  · have := hp.2.2
    simp only [List.size_toArray] at this
    rw [show d'.extract 0 EL.length = d' from by rw [← hsz]; simp] at this
    simpa using this
  · rw [List.pairwise_map, List.pairwise_iff_getElem]
    intro i j hi hj hij
    have := hs i j (Nat.zero_le _) hij (by simp only [List.size_toArray]; simpa [hsz] using hj)
    rw [ltE] at this
    have hj' : j < d'.size := by simpa using hj
    have hi' : i < d'.size := by simpa using hi
    rw [getElem!_pos d' j hj', getElem!_pos d' i hi'] at this
    unfold lePath
    simp only [Array.getElem_toList, this, Bool.not_false]
  · have := holdsK_sortWorldK_c (enc := elemRow p) (k := 3) (w := w) (blk := g) (off := 0) EL.toArray d' n os (holdsE h) hgl (by simpa using hsz)
    simpa using this
end Go.Proofs.YtkmbleboceedbaaGreatDoor
