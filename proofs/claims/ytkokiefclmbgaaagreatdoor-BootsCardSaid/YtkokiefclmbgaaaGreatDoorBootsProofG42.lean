import Derived.Test.YtkokiefclmbgaaaGreatDoorBootsProofG37
import Derived.Test.YtkokiefclmbgaaaGreatDoorBootsProofG41
import Derived.Test.YtkokiefclmbgaaaGreatDoorBootsProofG39
/- The program's tell of a process that neither sleeps nor is a zombie, with the console alone. -/
namespace Go.Proofs.YtkokiefclmbgaaaGreatDoor
open Go Go.RowKit
set_option linter.unusedVariables false
set_option linter.unusedSimpArgs false

set_option maxRecDepth 100000 in
set_option maxHeartbeats 1000000 in
theorem left_none (kb pb : Nat) (st : Int) (w : World) (h : w.cell? ⟨pb, 65811, none⟩ = some (.int .i64 st)) (hst : st ≠ 1) :
    Calls Tryz.prog 84 #[.pointer (some ⟨kb, 7, none⟩), .pointer (some ⟨pb, 0, none⟩)] w fun e w' => e = .returned (.int .i64 0) ∧ w' = w := by
  have hq : (st == 1) = false := by simpa using hst
  go_enter Tryz.func84, Tryz.ntmps84
  go_wp2
  go_ret
  exact ⟨rfl, rfl⟩
theorem leftEnter : ∀ args w, (callFunc 84 args).run Tryz.prog w = .ok (.enter 84 args) w := enters_of Tryz.func84 (by kernel_rfl) rfl
theorem spagesEnter : ∀ args w, (callFunc 85 args).run Tryz.prog w = .ok (.enter 85 args) w := enters_of Tryz.func85 (by kernel_rfl) rfl
theorem tellFdsEnter : ∀ args w, (callFunc 86 args).run Tryz.prog w = .ok (.enter 86 args) w := enters_of Tryz.func86 (by kernel_rfl) rfl
theorem step_call1x {P : Program} {ops : Array Oper} {o : Oper} {a : Act} {w : World} {K : Act → World → Prop} {Q : Exit → Act → World → Prop} {E : Prop} (hgd : o.guard = none) (f n1 : Nat) (t1 : TypeId)
    (ho : o.op = .call { callee := .value (.func f), args := #[.tmp n1], argTypes := #[t1] }) (v1 : Value) (h1 : a.eval (.tmp n1) = v1)
    (he : ∀ args w, (callFunc f args).run P w = .ok (.enter f args) w) (post : Ending → World → Prop) (hp : ∀ e w', post e w' → ∃ r, e = .returned r) (hc : Calls P f #[v1] w post) (d : Option Tmp) (hd : o.dst = d)
    (h : ∀ r w', post (.returned r) w' → K (a.put d r) w') :
    if Region.wanted o (yielded ops a.tmps) = true then Oper.wp P o a w K Q else E := by
  have hw : Region.wanted o (yielded ops a.tmps) = true := by simp [Region.wanted, hgd]
  have h1' : a.tmps[n1]?.getD undef = v1 := by rw [← h1]; simp [go_sem]
  rw [if_pos hw]
  subst hd
  unfold Oper.wp
  simp [execOp, ho, resolve, invoke, h1', Result.andThen, go_sem, he]
  refine hc.mono ?_
  intro e w' hpe
  obtain ⟨r, rfl⟩ := hp e w' hpe
  have := h r w' hpe
  simpa [go_sem] using this
theorem proc_built (pid par st su le pc r0 r1 r2 r3 r4 r5 r6 r7 r8 r9 r10 r11 r12 r13 r14 r15 : Int) (pa fa : Option Addr) (pn pk fn fk : Nat) (w : World) : (Instr.build 79 #[(0, .int .i64 pid), (1, .int .i64 par), (2, .int .i64 st), (3, .int .i64 su), (4, .int .i64 le), (5, .int .u64 pc), (6, .agg (regsRow [r0, r1, r2, r3, r4, r5, r6, r7, r8, r9, r10, r11, r12, r13, r14, r15]).toArray), (7, .slice pa pn pk), (8, .slice fa fn fk)]).run Tryz.prog w = .ok (.agg (apiProc pid par st su le pc [r0, r1, r2, r3, r4, r5, r6, r7, r8, r9, r10, r11, r12, r13, r14, r15] (.slice pa pn pk) (.slice fa fn fk)).toArray) w := by kernel_rfl
theorem proc_built' (pid par st su le pc : Int) (R : List Int) (hR : R.length = 16) (pa fa : Option Addr) (pn pk fn fk : Nat) (w : World) : (Instr.build 79 #[(0, .int .i64 pid), (1, .int .i64 par), (2, .int .i64 st), (3, .int .i64 su), (4, .int .i64 le), (5, .int .u64 pc), (6, .agg (regsRow R).toArray), (7, .slice pa pn pk), (8, .slice fa fn fk)]).run Tryz.prog w = .ok (.agg (apiProc pid par st su le pc R (.slice pa pn pk) (.slice fa fn fk)).toArray) w := by
  rw [list16 hR]
  exact proc_built _ _ _ _ _ _ _ _ _ _ _ _ _ _ _ _ _ _ _ _ _ _ _ _ _ _ _ _ w
theorem row_at {E : Int} {R : List Int} {SP : List Value} {pid par st su wk : Int} {fds : List Value} (hR : R.length = 16) (hS : SP.length = 65792) (j : Nat) (v : Value) (h : ([.int .i64 pid, .int .i64 par, .int .i64 st, .int .i64 su, .int .i64 wk] ++ fds)[j]? = some v) : (procRow E R SP pid par st su wk fds)[65809 + j]? = some v := by
  have hc := cpuRow_length (E := E) hR hS
  unfold procRow
  rw [List.getElem?_append_right (by omega), hc, Nat.add_sub_cancel_left]
  exact h
theorem row_regs {E : Int} {R : List Int} {SP : List Value} {pid par st su wk : Int} {fds : List Value} (hR : R.length = 16) (hS : SP.length = 65792) (j : Nat) (v : Value) (h : (regsRow R)[j]? = some v) : (procRow E R SP pid par st su wk fds)[1 + j]? = some v := by
  have hj := (List.getElem?_eq_some_iff.1 h).1
  have hj : j < 16 := by simpa [regsRow, hR] using hj
  have hc := cpuRow_length (E := E) hR hS
  unfold procRow
  rw [List.getElem?_append_left (by omega)]
  unfold cpuRow
  rw [List.getElem?_append_left (by simp [hR]; omega), Nat.add_comm, List.getElem?_cons_succ]
  exact h
theorem row_space {E : Int} {R : List Int} {SP : List Value} {pid par st su wk : Int} {fds : List Value} (hR : R.length = 16) (hS : SP.length = 65792) (j : Nat) (v : Value) (h : SP[j]? = some v) : (procRow E R SP pid par st su wk fds)[17 + j]? = some v := by
  have hj := (List.getElem?_eq_some_iff.1 h).1
  have hc := cpuRow_length (E := E) hR hS
  unfold procRow
  rw [List.getElem?_append_left (by omega)]
  unfold cpuRow
  have h1 : (Value.int .u64 E :: R.map (Value.int .u64)).length = 17 := by simp [hR]
  rw [List.getElem?_append_right (by omega), h1, Nat.add_sub_cancel_left]
  exact h
/-- What tell answers of such a process. -/
def TellPost (pid par st su E : Int) (R : List Int) (PS : List Pg) (w : World) (e : Ending) (w' : World) : Prop :=
  ∃ ga ca fg fc, e = .returned (.agg (apiProc pid par st su 0 E R (.slice (some ⟨ga, 0, none⟩) PS.length ca) (.slice (some ⟨fg, 0, none⟩) 3 fc)).toArray) ∧ Below w.heap.size w w' ∧
    w'.ownsRow w.heap.size 87 258 (.slice (some ⟨ga, 0, none⟩) PS.length ca) PS.length (apiRow PS) ∧ w'.ownsRow w.heap.size 109 3 (.slice (some ⟨fg, 0, none⟩) 3 fc) 3 (fdsUpTo 3) ∧ ga ≠ fg
theorem regs16Size : (Tryz.prog.info? 75).map (·.size) = some 16 := by kernel_rfl
theorem apiProc_one (pid par st su le pc : Int) (R : List Int) (pa fa : Option Addr) (pn pk fn fk : Nat) : ∀ v ∈ apiProc pid par st su le pc R (.slice pa pn pk) (.slice fa fn fk), v.oneCell' = true := by
  intro v hv
  simp only [apiProc, List.mem_cons, List.not_mem_nil, or_false] at hv
  rcases hv with rfl | rfl | rfl | rfl | rfl | rfl | rfl | rfl | rfl | rfl | rfl | rfl | rfl | rfl | rfl | rfl | rfl | rfl | rfl | rfl | rfl | rfl | rfl | rfl <;> rfl
def noProc : List Value := apiProc 0 0 0 0 0 0 [] (.slice none 0 0) (.slice none 0 0)

set_option maxRecDepth 100000 in
set_option maxHeartbeats 4000000 in
theorem tell_one (kb pb cb : Nat) (E : Int) (R : List Int) (PS : List Pg) (pid par st su wk : Int) (w : World) (hp : Holds w pb 183 (procRow E R (spaceRow PS) pid par st su wk (kfdsTo cb 3))) (hR : R.length = 16) (hok : PgsOk PS) (h0 : 0 < PS.length) (hst : st ≠ 1) :
    Calls Tryz.prog 52 #[.pointer (some ⟨kb, 0, none⟩), .pointer (some ⟨pb, 0, none⟩)] w (TellPost pid par st su E R PS w) := by
  have hSl : (spaceRow PS).length = 65792 := spaceRow_length (fun q hq => (hok.each q hq).2.2.2.2)
  obtain ⟨ROW, hROW⟩ : ∃ ROW, ROW = procRow E R (spaceRow PS) pid par st su wk (kfdsTo cb 3) := ⟨_, rfl⟩
  have x1 : ROW[65809]? = some (.int .i64 pid) := by rw [hROW]; exact row_at hR hSl 0 _ rfl
  have x2 : ROW[65810]? = some (.int .i64 par) := by rw [hROW]; exact row_at hR hSl 1 _ rfl
  have x3 : ROW[65811]? = some (.int .i64 st) := by rw [hROW]; exact row_at hR hSl 2 _ rfl
  have x4 : ROW[65812]? = some (.int .i64 su) := by rw [hROW]; exact row_at hR hSl 3 _ rfl
  have x5 : ROW[0]? = some (.int .u64 E) := by rw [hROW]; rfl
  have x6 : ∀ (w' : World), Holds w' pb 183 ROW → w'.rangeAt pb 1 (regsRow R) := fun w' h j v hv => h.cell (by rw [hROW]; exact row_regs hR hSl j v hv)
  have x7 : ∀ (w' : World), Holds w' pb 183 ROW → w'.rangeAt pb 17 (spaceRow PS) := fun w' h j v hv => h.cell (by rw [hROW]; exact row_space hR hSl j v hv)
  have x8 : ∀ (w' : World), Holds w' pb 183 ROW → w'.rangeAt pb 65814 (kfdsTo cb 3) := fun w' h j v hv => h.cell (by rw [hROW, show 65814 + j = 65809 + (5 + j) by omega]; refine row_at hR hSl _ _ ?_; rw [List.getElem?_append_right (by simp)]; simpa using hv)
  rw [← hROW] at hp
  obtain ⟨RR, hRR⟩ : ∃ RR, RR = regsRow R := ⟨_, rfl⟩
  have hRl : RR.length = 16 := by rw [hRR]; simp [regsRow, hR]
  have R1 := hide (show ∀ w' : World, Holds w' pb 183 ROW → (Instr.loadAt 3 (.pointer (some ⟨pb, 65809, none⟩))).run Tryz.prog w' = .ok (.int .i64 pid) w' from fun w' h => by
    have d := h.cell x1
    clear h hp x1 x2 x3 x4 x5 x6 x7 x8 hROW hSl
    go_simp)
  have R2 := hide (show ∀ w' : World, Holds w' pb 183 ROW → (Instr.loadAt 3 (.pointer (some ⟨pb, 65810, none⟩))).run Tryz.prog w' = .ok (.int .i64 par) w' from fun w' h => by
    have d := h.cell x2
    clear h hp x1 x2 x3 x4 x5 x6 x7 x8 hROW hSl
    go_simp)
  have R3 := hide (show ∀ w' : World, Holds w' pb 183 ROW → (Instr.loadAt 73 (.pointer (some ⟨pb, 65811, none⟩))).run Tryz.prog w' = .ok (.int .i64 st) w' from fun w' h => by
    have d := h.cell x3
    clear h hp x1 x2 x3 x4 x5 x6 x7 x8 hROW hSl
    go_simp)
  have R4 := hide (show ∀ w' : World, Holds w' pb 183 ROW → (Instr.loadAt 3 (.pointer (some ⟨pb, 65812, none⟩))).run Tryz.prog w' = .ok (.int .i64 su) w' from fun w' h => by
    have d := h.cell x4
    clear h hp x1 x2 x3 x4 x5 x6 x7 x8 hROW hSl
    go_simp)
  have R5 := hide (show ∀ w' : World, Holds w' pb 183 ROW → (Instr.loadAt 74 (.pointer (some ⟨pb, 0, none⟩))).run Tryz.prog w' = .ok (.int .u64 E) w' from fun w' h => by
    have d := h.cell x5
    clear h hp x1 x2 x3 x4 x5 x6 x7 x8 hROW hSl
    go_simp)
  have R6 := hide (show ∀ w' : World, Holds w' pb 183 ROW → w'.rangeAt pb 1 RR from fun w' h => by rw [hRR]; exact x6 w' h)
  have R7 := hide (show (Tryz.prog.info? 75).map (·.size) = some RR.length from by rw [regs16Size, hRl])
  have HLF := hide (show ∀ w' : World, Holds w' pb 183 ROW → Calls Tryz.prog 84 #[.pointer (some ⟨kb, 7, none⟩), .pointer (some ⟨pb, 0, none⟩)] w' fun e w2 => e = .returned (.int .i64 0) ∧ w2 = w' from fun w' h => left_none kb pb st w' (h.cell x3) hst)
  have HPG := hide (show ∀ w' : World, Holds w' pb 183 ROW → Calls Tryz.prog 85 #[.pointer (some ⟨pb, 17, none⟩)] w' fun e w2 => ∃ v, e = .returned v ∧ w2.ownsRow w'.heap.size 87 258 v PS.length (apiRow PS) ∧ Below w'.heap.size w' w2 from fun w' h => spacePages_any pb 17 PS w' hok (x7 w' h) h.lt)
  have HFD := hide (show ∀ w' : World, Holds w' pb 183 ROW → Calls Tryz.prog 86 #[.pointer (some ⟨pb, 0, none⟩)] w' fun e w2 => ∃ v, e = .returned v ∧ w2.ownsRow w'.heap.size 109 3 v 3 (fdsUpTo 3) ∧ Below w'.heap.size w' w2 from fun w' h => tellFds_con pb cb w' (x8 w' h))
  have RB := hide (show ∀ (pa fa : Option Addr) (pn pk fn fk : Nat) (w' : World), (Instr.build 79 #[(0, .int .i64 pid), (1, .int .i64 par), (2, .int .i64 st), (3, .int .i64 su), (4, .int .i64 0), (5, .int .u64 E), (6, .agg RR.toArray), (7, .slice pa pn pk), (8, .slice fa fn fk)]).run Tryz.prog w' = .ok (.agg (apiProc pid par st su 0 E R (.slice pa pn pk) (.slice fa fn fk)).toArray) w' from fun pa fa pn pk fn fk w' => by rw [hRR]; exact proc_built' pid par st su 0 E R hR pa fa pn pk fn fk w')
  obtain ⟨W0, hW0⟩ : ∃ W0, W0 = w.alloc (.cells noProc.toArray 79) := ⟨_, rfl⟩
  have hb0 : Below w.heap.size w W0 := by rw [hW0]; exact (Below.refl _ _).alloc (Nat.le_refl _) _
  have hn0 : Holds W0 w.heap.size 79 noProc := by rw [hW0]; exact Holds.new w 79 _
  have hp0 := hp.below hb0 hp.lt
  have hpl : pb < w.heap.size := hp.lt
  have HW0 := hide hW0
  have HB0 := hide hb0
  have HN0 := hide hn0
  have HP0 := hide hp0
  have hs0 : w.heap.size < W0.heap.size := hn0.lt
  clear hp hp0 x1 x2 x3 x4 x5 x6 x7 x8 hROW hSl hRR hRl hok hW0 hb0 hn0 hR hst
  go_enter Tryz.func52, Tryz.ntmps52
  go_upto_region 1 with fail
  have HW0' := hide (show w.alloc (Obj.cells #[.int .i64 0, .int .i64 0, .int .i64 0, .int .i64 0, .int .i64 0, .int .u64 0, .int .u64 0, .int .u64 0, .int .u64 0, .int .u64 0, .int .u64 0, .int .u64 0, .int .u64 0, .int .u64 0, .int .u64 0, .int .u64 0, .int .u64 0, .int .u64 0, .int .u64 0, .int .u64 0, .int .u64 0, .int .u64 0, .slice none 0 0, .slice none 0 0] 79) = W0 from (unhide HW0).symm)
  rw [unhide HW0']
  obtain ⟨H, hH⟩ : ∃ H, H = w.heap.size := ⟨_, rfl⟩
  rw [← hH]
  refine act_gen ?_
  intro A hA
  have e0 : A.eval (.tmp 0) = .pointer (some ⟨kb, 0, none⟩) := by rw [hA]; rfl
  have e1 : A.eval (.tmp 1) = .pointer (some ⟨pb, 0, none⟩) := by rw [hA]; rfl
  have e4 : A.eval (.tmp 4) = .pointer (some ⟨H, 0, none⟩) := by rw [hA]; rfl
  have esz : A.tmps.size = 44 := by rw [hA]; rfl
  have HA := hide hA
  clear hA
  refine wp_region_held_drew (S := fun w' => Holds w' pb 183 ROW) (by kernel_rfl) ((unhide HP0).heap rfl) (fun hS => ?_)
  refine takeH (i := 0) (some 5) rfl rfl (by kernel_rfl) (by kernel_rfl) (by kernel_rfl) (fun _ _ _ h => h) (yields_move rfl _ rfl (.pointer (some ⟨pb, 0, none⟩)) (by simp [put_eval, put_size, esz, e0, e1])) hS ?_
  refine takeH (i := 1) (some 6) rfl rfl (by kernel_rfl) (by kernel_rfl) (by kernel_rfl) (fun _ _ _ h => h) (yields_nil rfl _ rfl ⟨pb, 0, none⟩ (by simp [put_eval, put_size, esz, e0, e1])) hS ?_
  refine takeH (i := 2) (some 7) rfl rfl (by kernel_rfl) (by kernel_rfl) (by kernel_rfl) (fun _ _ _ h => h) (yields_field rfl _ _ _ rfl (.pointer (some ⟨pb, 0, none⟩)) (by simp [put_eval, put_size, esz, e0, e1]) (.pointer (some ⟨pb, 65809, none⟩)) (fun w' => by go_simp)) hS ?_
  refine takeH (i := 3) (some 8) rfl rfl (by kernel_rfl) (by kernel_rfl) (by kernel_rfl) (fun _ _ _ h => h) (yields_load1 rfl _ _ rfl ⟨pb, 65809, none⟩ (by simp [put_eval, put_size, esz, e0, e1]) (.int .i64 pid) (unhide R1)) hS ?_
  refine takeH (i := 4) (some 9) rfl rfl (by kernel_rfl) (by kernel_rfl) (by kernel_rfl) (fun _ _ _ h => h) (yields_move rfl _ rfl (.pointer (some ⟨pb, 0, none⟩)) (by simp [put_eval, put_size, esz, e0, e1])) hS ?_
  refine takeH (i := 5) (some 10) rfl rfl (by kernel_rfl) (by kernel_rfl) (by kernel_rfl) (fun _ _ _ h => h) (yields_nil rfl _ rfl ⟨pb, 0, none⟩ (by simp [put_eval, put_size, esz, e0, e1])) hS ?_
  refine takeH (i := 6) (some 11) rfl rfl (by kernel_rfl) (by kernel_rfl) (by kernel_rfl) (fun _ _ _ h => h) (yields_field rfl _ _ _ rfl (.pointer (some ⟨pb, 0, none⟩)) (by simp [put_eval, put_size, esz, e0, e1]) (.pointer (some ⟨pb, 65810, none⟩)) (fun w' => by go_simp)) hS ?_
  refine takeH (i := 7) (some 12) rfl rfl (by kernel_rfl) (by kernel_rfl) (by kernel_rfl) (fun _ _ _ h => h) (yields_load1 rfl _ _ rfl ⟨pb, 65810, none⟩ (by simp [put_eval, put_size, esz, e0, e1]) (.int .i64 par) (unhide R2)) hS ?_
  refine takeH (i := 8) (some 13) rfl rfl (by kernel_rfl) (by kernel_rfl) (by kernel_rfl) (fun _ _ _ h => h) (yields_move rfl _ rfl (.pointer (some ⟨pb, 0, none⟩)) (by simp [put_eval, put_size, esz, e0, e1])) hS ?_
  refine takeH (i := 9) (some 14) rfl rfl (by kernel_rfl) (by kernel_rfl) (by kernel_rfl) (fun _ _ _ h => h) (yields_nil rfl _ rfl ⟨pb, 0, none⟩ (by simp [put_eval, put_size, esz, e0, e1])) hS ?_
  refine takeH (i := 10) (some 15) rfl rfl (by kernel_rfl) (by kernel_rfl) (by kernel_rfl) (fun _ _ _ h => h) (yields_field rfl _ _ _ rfl (.pointer (some ⟨pb, 0, none⟩)) (by simp [put_eval, put_size, esz, e0, e1]) (.pointer (some ⟨pb, 65811, none⟩)) (fun w' => by go_simp)) hS ?_
  refine takeH (i := 11) (some 16) rfl rfl (by kernel_rfl) (by kernel_rfl) (by kernel_rfl) (fun _ _ _ h => h) (yields_load1 rfl _ _ rfl ⟨pb, 65811, none⟩ (by simp [put_eval, put_size, esz, e0, e1]) (.int .i64 st) (unhide R3)) hS ?_
  refine takeH (i := 12) (some 17) rfl rfl (by kernel_rfl) (by kernel_rfl) (by kernel_rfl) (fun _ _ _ h => h) (yields_move rfl _ rfl (.pointer (some ⟨pb, 0, none⟩)) (by simp [put_eval, put_size, esz, e0, e1])) hS ?_
  refine takeH (i := 13) (some 18) rfl rfl (by kernel_rfl) (by kernel_rfl) (by kernel_rfl) (fun _ _ _ h => h) (yields_nil rfl _ rfl ⟨pb, 0, none⟩ (by simp [put_eval, put_size, esz, e0, e1])) hS ?_
  refine takeH (i := 14) (some 19) rfl rfl (by kernel_rfl) (by kernel_rfl) (by kernel_rfl) (fun _ _ _ h => h) (yields_field rfl _ _ _ rfl (.pointer (some ⟨pb, 0, none⟩)) (by simp [put_eval, put_size, esz, e0, e1]) (.pointer (some ⟨pb, 65812, none⟩)) (fun w' => by go_simp)) hS ?_
  refine takeH (i := 15) (some 20) rfl rfl (by kernel_rfl) (by kernel_rfl) (by kernel_rfl) (fun _ _ _ h => h) (yields_load1 rfl _ _ rfl ⟨pb, 65812, none⟩ (by simp [put_eval, put_size, esz, e0, e1]) (.int .i64 su) (unhide R4)) hS ?_
  refine takeH (i := 16) (some 21) rfl rfl (by kernel_rfl) (by kernel_rfl) (by kernel_rfl) (fun _ _ _ h => h) (yields_move rfl _ rfl (.pointer (some ⟨kb, 0, none⟩)) (by simp [put_eval, put_size, esz, e0, e1])) hS ?_
  refine takeH (i := 17) (some 22) rfl rfl (by kernel_rfl) (by kernel_rfl) (by kernel_rfl) (fun _ _ _ h => h) (yields_nil rfl _ rfl ⟨kb, 0, none⟩ (by simp [put_eval, put_size, esz, e0, e1])) hS ?_
  refine takeH (i := 18) (some 23) rfl rfl (by kernel_rfl) (by kernel_rfl) (by kernel_rfl) (fun _ _ _ h => h) (yields_field rfl _ _ _ rfl (.pointer (some ⟨kb, 0, none⟩)) (by simp [put_eval, put_size, esz, e0, e1]) (.pointer (some ⟨kb, 7, none⟩)) (fun w' => by go_simp)) hS ?_
  refine takeH (i := 19) (some 24) rfl rfl (by kernel_rfl) (by kernel_rfl) (by kernel_rfl) (fun _ _ _ h => h) (yields_move rfl _ rfl (.pointer (some ⟨pb, 0, none⟩)) (by simp [put_eval, put_size, esz, e0, e1])) hS ?_
  refine takeH (i := 21) (some 26) rfl rfl (by kernel_rfl) (by kernel_rfl) (by kernel_rfl) (fun _ _ _ h => h) (yields_move rfl _ rfl (.pointer (some ⟨pb, 0, none⟩)) (by simp [put_eval, put_size, esz, e0, e1])) hS ?_
  refine takeH (i := 22) (some 27) rfl rfl (by kernel_rfl) (by kernel_rfl) (by kernel_rfl) (fun _ _ _ h => h) (yields_nil rfl _ rfl ⟨pb, 0, none⟩ (by simp [put_eval, put_size, esz, e0, e1])) hS ?_
  refine takeH (i := 23) (some 28) rfl rfl (by kernel_rfl) (by kernel_rfl) (by kernel_rfl) (fun _ _ _ h => h) (yields_field rfl _ _ _ rfl (.pointer (some ⟨pb, 0, none⟩)) (by simp [put_eval, put_size, esz, e0, e1]) (.pointer (some ⟨pb, 0, none⟩)) (fun w' => by go_simp)) hS ?_
  refine takeH (i := 24) (some 29) rfl rfl (by kernel_rfl) (by kernel_rfl) (by kernel_rfl) (fun _ _ _ h => h) (yields_field rfl _ _ _ rfl (.pointer (some ⟨pb, 0, none⟩)) (by simp [put_eval, put_size, esz, e0, e1]) (.pointer (some ⟨pb, 0, none⟩)) (fun w' => by go_simp)) hS ?_
  refine takeH (i := 25) (some 30) rfl rfl (by kernel_rfl) (by kernel_rfl) (by kernel_rfl) (fun _ _ _ h => h) (yields_load1 rfl _ _ rfl ⟨pb, 0, none⟩ (by simp [put_eval, put_size, esz, e0, e1]) (.int .u64 E) (unhide R5)) hS ?_
  refine takeH (i := 26) (some 31) rfl rfl (by kernel_rfl) (by kernel_rfl) (by kernel_rfl) (fun _ _ _ h => h) (yields_move rfl _ rfl (.pointer (some ⟨pb, 0, none⟩)) (by simp [put_eval, put_size, esz, e0, e1])) hS ?_
  refine takeH (i := 27) (some 32) rfl rfl (by kernel_rfl) (by kernel_rfl) (by kernel_rfl) (fun _ _ _ h => h) (yields_nil rfl _ rfl ⟨pb, 0, none⟩ (by simp [put_eval, put_size, esz, e0, e1])) hS ?_
  refine takeH (i := 28) (some 33) rfl rfl (by kernel_rfl) (by kernel_rfl) (by kernel_rfl) (fun _ _ _ h => h) (yields_field rfl _ _ _ rfl (.pointer (some ⟨pb, 0, none⟩)) (by simp [put_eval, put_size, esz, e0, e1]) (.pointer (some ⟨pb, 0, none⟩)) (fun w' => by go_simp)) hS ?_
  refine takeH (i := 29) (some 34) rfl rfl (by kernel_rfl) (by kernel_rfl) (by kernel_rfl) (fun _ _ _ h => h) (yields_field rfl _ _ _ rfl (.pointer (some ⟨pb, 0, none⟩)) (by simp [put_eval, put_size, esz, e0, e1]) (.pointer (some ⟨pb, 1, none⟩)) (fun w' => by go_simp)) hS ?_
  refine takeH (i := 30) (some 35) rfl rfl (by kernel_rfl) (by kernel_rfl) (by kernel_rfl) (fun _ _ _ h => h) (yieldsIf_load_mid (by simp [Region.wanted]) 75 _ rfl pb 1 (by simp [put_eval, put_size, esz, e0, e1]) RR _ (unhide R6) Tryz.underlying75 rfl (unhide R7)) hS ?_
  refine takeH (i := 31) (some 36) rfl rfl (by kernel_rfl) (by kernel_rfl) (by kernel_rfl) (fun _ _ _ h => h) (yields_move rfl _ rfl (.pointer (some ⟨pb, 0, none⟩)) (by simp [put_eval, put_size, esz, e0, e1])) hS ?_
  refine takeH (i := 32) (some 37) rfl rfl (by kernel_rfl) (by kernel_rfl) (by kernel_rfl) (fun _ _ _ h => h) (yields_nil rfl _ rfl ⟨pb, 0, none⟩ (by simp [put_eval, put_size, esz, e0, e1])) hS ?_
  refine takeH (i := 33) (some 38) rfl rfl (by kernel_rfl) (by kernel_rfl) (by kernel_rfl) (fun _ _ _ h => h) (yields_field rfl _ _ _ rfl (.pointer (some ⟨pb, 0, none⟩)) (by simp [put_eval, put_size, esz, e0, e1]) (.pointer (some ⟨pb, 0, none⟩)) (fun w' => by go_simp)) hS ?_
  refine takeH (i := 34) (some 39) rfl rfl (by kernel_rfl) (by kernel_rfl) (by kernel_rfl) (fun _ _ _ h => h) (yields_field rfl _ _ _ rfl (.pointer (some ⟨pb, 0, none⟩)) (by simp [put_eval, put_size, esz, e0, e1]) (.pointer (some ⟨pb, 17, none⟩)) (fun w' => by go_simp)) hS ?_
  refine takeH (i := 36) (some 41) rfl rfl (by kernel_rfl) (by kernel_rfl) (by kernel_rfl) (fun _ _ _ h => h) (yields_move rfl _ rfl (.pointer (some ⟨pb, 0, none⟩)) (by simp [put_eval, put_size, esz, e0, e1])) hS ?_
  refine wpAnyH_ready (rs := [20]) (by kernel_rfl) (by simp) (AllReadyH.cons rfl (fun K hK => ?_) AllReadyH.nil)
  refine step_call2 rfl 84 23 24 _ _ rfl (.pointer (some ⟨kb, 7, none⟩)) (.pointer (some ⟨pb, 0, none⟩)) (by simp [put_eval, put_size, esz, e0, e1]) (by simp [put_eval, put_size, esz, e0, e1]) leftEnter _ (.int .i64 0) (fun e w' h => h.1) (unhide HLF _ hS) (some 25) rfl ?_
  rintro w1 ⟨_, hw1⟩
  subst hw1
  refine hK.out _ _ hS (fun hS1 => ?_)
  clear hK K
  refine wpAnyH_ready (rs := [35]) (by kernel_rfl) (by simp) (AllReadyH.cons rfl (fun K hK => ?_) AllReadyH.nil)
  refine step_call1x rfl 85 39 _ rfl (.pointer (some ⟨pb, 17, none⟩)) (by simp [put_eval, put_size, esz, e0, e1]) spagesEnter _ (fun e w' ⟨v, h, _⟩ => ⟨v, h⟩) (unhide HPG _ hS) (some 40) rfl ?_
  rintro r2 w2 ⟨v2, hv2, ho2, hb2⟩
  have hv2 : r2 = v2 := by injection hv2
  subst hv2
  obtain ⟨ga, ca, hv2, hga, hgl⟩ := ho2.form h0
  subst hv2
  have hb2 : Below W0.heap.size W0 w2 := ⟨hb2.os, hb2.tape, hb2.output, hb2.size, hb2.block⟩
  have ho2 : w2.ownsRow W0.heap.size 87 258 (.slice (some ⟨ga, 0, none⟩) PS.length ca) PS.length (apiRow PS) := ho2
  have hga : W0.heap.size ≤ ga := hga
  have hS2 : Holds w2 pb 183 ROW := (unhide HP0).below hb2 (by omega)
  refine hK.out _ _ hS2 (fun hS2' => ?_)
  clear hK K
  refine wpAnyH_ready (rs := [37]) (by kernel_rfl) (by simp) (AllReadyH.cons rfl (fun K hK => ?_) AllReadyH.nil)
  refine step_call1x rfl 86 41 _ rfl (.pointer (some ⟨pb, 0, none⟩)) (by simp [put_eval, put_size, esz, e0, e1]) tellFdsEnter _ (fun e w' ⟨v, h, _⟩ => ⟨v, h⟩) (unhide HFD _ hS2) (some 42) rfl ?_
  rintro r3 w3 ⟨v3, hv3, ho3, hb3⟩
  have hv3 : r3 = v3 := by injection hv3
  subst hv3
  obtain ⟨fg, fc, hv3, hfg, hfl⟩ := ho3.form (by omega)
  subst hv3
  have hs2 := hb2.size
  have hb03 : Below W0.heap.size W0 w3 := hb2.trans (hb3.mono hs2)
  have hS3 : Holds w3 pb 183 ROW := (unhide HP0).below hb03 (by omega)
  refine hK.out _ _ hS3 (fun hS3' => ?_)
  clear hK K
  obtain ⟨AR, hAR⟩ : ∃ AR, AR = apiProc pid par st su 0 E R (.slice (some ⟨ga, 0, none⟩) PS.length ca) (.slice (some ⟨fg, 0, none⟩) 3 fc) := ⟨_, rfl⟩
  have hARl : AR.length = 24 := by rw [hAR]; rfl
  have hAR1 : ∀ v ∈ AR, v.oneCell' = true := by rw [hAR]; exact apiProc_one _ _ _ _ _ _ _ _ _ _ _ _ _
  refine takeH (i := 38) (some 43) rfl rfl (by kernel_rfl) (by kernel_rfl) (by kernel_rfl) (fun _ _ _ h => h) (yields_build rfl _ _ rfl #[(0, .int .i64 pid), (1, .int .i64 par), (2, .int .i64 st), (3, .int .i64 su), (4, .int .i64 0), (5, .int .u64 E), (6, .agg RR.toArray), (7, .slice (some ⟨ga, 0, none⟩) PS.length ca), (8, .slice (some ⟨fg, 0, none⟩) 3 fc)] (by simp [put_eval, put_size, esz]) (.agg AR.toArray) (fun w' => by rw [hAR]; exact unhide RB _ _ _ _ _ _ w')) hS3 ?_
  have hn3 : Holds w3 H 79 noProc := by rw [hH]; exact (unhide HN0).below hb03 hs0
  have hnl : noProc.length = 24 := rfl
  refine wpAnyH_ready (rs := [39]) (by kernel_rfl) (by simp) (ready_store_part rfl rfl 79 (.tmp 4) (.tmp 43) rfl H 0 AR (by simp [put_eval, put_size, esz, e4]) (by simp [put_eval, put_size, esz]) 79 noProc hn3 (by rw [apiProcSize, hARl]) (by rw [hARl, hnl]; omega) hAR1 rfl (fun w4 H4 G4 => ⟨hS3.grown (unhide G4) (by simp; omega), fun hS4 => ?_⟩) AllReadyH.nil)
  refine wpAnyH_done (by kernel_rfl) ?_ _
  rw [unhide HA]
  simp only [Act.put, List.setIfInBounds_toArray, List.set_cons_zero, List.set_cons_succ]
  have h4 := unhide H4
  rw [show splice noProc 0 AR = AR by unfold splice; rw [Nat.zero_add, List.take_zero, List.nil_append, hARl, List.drop_eq_nil_of_le (by rw [hnl]; omega), List.append_nil]] at h4
  have g4 := unhide G4
  have HFN := hide (show TellPost pid par st su E R PS w (.returned (.agg AR.toArray)) w4 from by
    refine ⟨ga, ca, fg, fc, by rw [hAR], ?_, ?_, ?_, by omega⟩
    · have h1 := (unhide HB0).trans (hb03.mono (by omega))
      exact h1.trans (below_grown g4 (by omega) h1.size)
    · exact own_base ((own_below ho2 (hide hb3)).kept g4 (.inr (by show some ga ≠ some H; simp; omega))) (by omega)
    · exact own_base (ho3.kept g4 (.inr (by show some fg ≠ some H; simp; omega))) (by omega))
  have HL := hide h4
  have HARL := hide hARl
  clear hS hS1 hS2 hS2' hS3 hS3' hS4 h4 g4 H4 G4 hb2 hb3 hb03 ho2 ho3 hn3 hAR1 hAR hARl HA e0 e1 e4 esz
  subst hH
  go_wp2
  exact ⟨rfl, .agg AR.toArray, results_one (by rfl) (by rfl) (run_loadVar_mid w4 w.heap.size 0 79 AR _ (unhide HL).range Tryz.underlying79 rfl (by rw [apiProcSize, unhide HARL])), unhide HFN⟩
end Go.Proofs.YtkokiefclmbgaaaGreatDoor
