import Derived.Test.YtkmbleboceedbaaGreatDoorBootsProofG23
import Derived.Test.YtkmbleboceedbaaGreatDoorBootsProofG20
/- The program's put. -/
namespace Go.Proofs.YtkmbleboceedbaaGreatDoor
open Go Go.RowKit Go.Maps
set_option linter.unusedVariables false
set_option linter.unusedSimpArgs false

set_option maxHeartbeats 1000000 in
theorem fsClone_any (s : ByteArray) (w : World) (hs : s.size ≤ 100000) : Calls Tryz.prog 114 #[.string s] w fun e w' => e = .returned (.string s) ∧ Below w.heap.size w w' := by
  have H := hide (show Calls Tryz.prog 137 #[.string s] w fun e w' => e = .returned (.string s) ∧ Below w.heap.size w w' from Go.Proofs.Any.stringslite_Clone sclone s w (by omega))
  go_enter Tryz.func114, Tryz.ntmps114
  go_wp2_with fail
  refine (unhide H).mono ?_
  rintro e w1 ⟨rfl, hb1⟩
  have HB := hide hb1
  clear hb1 H
  go_wp2
  go_ret
  exact ⟨rfl, unhide HB⟩
theorem step_call1' {P : Program} {ops : Array Oper} {o : Oper} {a : Act} {w : World} {K : Act → World → Prop} {Q : Exit → Act → World → Prop} {E : Prop} (hgd : o.guard = none) (f n1 : Nat) (t1 : TypeId)
    (ho : o.op = .call { callee := .value (.func f), args := #[.tmp n1], argTypes := #[t1] }) (v1 : Value) (h1 : a.eval (.tmp n1) = v1)
    (he : ∀ args w, (callFunc f args).run P w = .ok (.enter f args) w) (post : Ending → World → Prop) (r : Value) (hp : ∀ e w', post e w' → e = .returned r) (hc : Calls P f #[v1] w post) (d : Option Tmp) (hd : o.dst = d)
    (h : ∀ w', post (.returned r) w' → K (a.put d r) w') :
    if Region.wanted o (yielded ops a.tmps) = true then Oper.wp P o a w K Q else E := by
  have hw : Region.wanted o (yielded ops a.tmps) = true := by simp [Region.wanted, hgd]
  have h1' : a.tmps[n1]?.getD undef = v1 := by rw [← h1]; simp [go_sem]
  rw [if_pos hw]
  subst hd
  unfold Oper.wp
  simp [execOp, ho, resolve, invoke, h1', Result.andThen, go_sem, he]
  refine hc.mono ?_
  intro e w' hpe
  obtain rfl := hp e w' hpe
  have := h w' hpe
  simpa [go_sem] using this
theorem cloneEnter : ∀ args w, (callFunc 114 args).run Tryz.prog w = .ok (.enter 114 args) w := enters_of Tryz.func114 (by kernel_rfl) rfl
theorem step_update {P : Program} {ops : Array Oper} {o : Oper} {a : Act} {w w' : World} {K : Act → World → Prop} {Q : Exit → Act → World → Prop} {E : Prop} (hgd : o.guard = none) (t : TypeId) (m x v : Operand) (ho : o.op = .mapUpdate t m x v) (vm vx vv : Value) (hm : a.eval m = vm) (hx : a.eval x = vx) (hv : a.eval v = vv) (hrun : (Instr.mapUpdate t vm vx vv).run P w = .ok () w') (hd : o.dst = none) (h : K a w') :
    if Region.wanted o (yielded ops a.tmps) = true then Oper.wp P o a w K Q else E := by
  have hw : Region.wanted o (yielded ops a.tmps) = true := by simp [Region.wanted, hgd]
  rw [if_pos hw]
  unfold Oper.wp execOp
  simp only [ho, hm, hx, hv, Sem.run_bind, hrun, Result.andThen_ok, Sem.run_pure]
  rw [Oper.upon_skip, hd]
  exact h
theorem ready_update {P : Program} {md : Region.Mode} {ops : Array Oper} {Q : Exit → Act → World → Prop} {S : World → Prop} {fuel : Nat} {listed : Array Bool} {a : Act} {w w' : World} {i : Nat} {o : Oper} {rs : List Nat} (hi : ops[i]? = some o) (hgd : o.guard = none) (t : TypeId) (m x v : Operand) (ho : o.op = .mapUpdate t m x v) (vm vx vv : Value) (hm : a.eval m = vm) (hx : a.eval x = vx) (hv : a.eval v = vv) (hrun : (Instr.mapUpdate t vm vx vv).run P w = .ok () w') (hd : o.dst = none) (hS : S w') (h : wpAnyH P md ops Q S fuel (listed.setIfInBounds i true) a w') (hs : AllReadyH P md ops Q S fuel listed a w rs) :
    AllReadyH P md ops Q S fuel listed a w (i :: rs) :=
  AllReadyH.cons hi (fun K hK => step_update hgd t m x v ho vm vx vv hm hx hv hrun hd (hK.out _ _ hS (fun _ => h))) hs
theorem str_lit {s t : ByteArray} (h : s.data.toList ≠ t.data.toList) : (Lit.string s.data.toList) ≠ (Lit.string t.data.toList) := fun e => h (by injection e)
theorem DictAt.put {w : World} {m n : Nat} {f : ByteArray → Option Nat} (h : DictAt w m n f) (hn : n < maxLen) (name : ByteArray) (hs : name.size ≤ maxLen) (b : Nat) :
    ∃ w', (Instr.mapUpdate 226 (.map (some m)) (.string name) (.pointer (some ⟨b, 0, none⟩))).run Tryz.prog w = .ok () w' ∧ DictAt w' m (n + 1) (fun s => if s.data.toList = name.data.toList then some b else f s) ∧ w.grownBy w' (some m) := by
  obtain ⟨D, hD, hf, hkeys⟩ := h
  have hkey := Go.WideMaps.keyOf_string_mk (P := Tryz.prog) Tryz.underlying9 hs
  obtain ⟨w', hrun, hD', hg⟩ := hD.update strKeyed Tryz.underlying226 hn hkey (show ptrElem (.pointer (some ⟨b, 0, none⟩)) = some (.lit (.int .i64 b), []) from rfl)
  refine ⟨w', hrun, ⟨_, hD', fun s => ?_, fun kl hkl => ?_⟩, hg⟩
  rotate_left
  · by_cases e : kl = .string name.data.toList
    · exact ⟨name, b, e, if_pos rfl⟩
    · rw [Maps.has_put_other e] at hkl
      obtain ⟨s, c, h1, h2⟩ := hkeys kl hkl
      refine ⟨s, c, h1, ?_⟩
      show (if s.data.toList = name.data.toList then some b else f s) = some c
      rw [if_neg (fun q => e (by rw [h1, q])), h2]
  show _ = nodeDatum (if s.data.toList = name.data.toList then some b else f s)
  by_cases e : s.data.toList = name.data.toList
  · rw [if_pos e, e, Maps.atKey_put_same hD.isMap (strKeyed.key hkey)]
    rfl
  · rw [if_neg e, Maps.atKey_put_other (str_lit e)]
    exact hf s
theorem dict_block {w : World} {m n b : Nat} {f : ByteArray → Option Nat} {t : TypeId} {vs : List Value} (h : DictAt w m n f) (hh : Holds w b t vs) : b ≠ m := by
  intro e
  subst e
  obtain ⟨D, ⟨es, clock, hb, _⟩, _⟩ := h
  unfold Holds at hh
  rw [hb] at hh
  cases hh
/-- All but two blocks are as they were. -/
def PutPost (tb m k ab : Nat) (n li used lb : Int) (f : ByteArray → Option Nat) (name : ByteArray) (b : Nat) (w w' : World) : Prop :=
  Holds w' tb 163 [.pointer (some ⟨ab, 0, none⟩), .int .i64 (n + 1), .int .i64 li, .int .i64 used, .int .i64 lb] ∧ DictAt w' m (k + 1) (fun s => if s.data.toList = name.data.toList then some b else f s) ∧ FrameK w w' tb m

set_option maxRecDepth 100000 in
set_option maxHeartbeats 1000000 in
theorem fsPut_any (tb ab d m k b : Nat) (n li used lb : Int) (f : ByteArray → Option Nat) (name : ByteArray) (w : World) (ht : Holds w tb 163 [.pointer (some ⟨ab, 0, none⟩), .int .i64 n, .int .i64 li, .int .i64 used, .int .i64 lb]) (hn : 0 ≤ n ∧ n ≤ 1000000) (hd : DictAt w m k f) (hk : k ≤ 1000000) (tn : TypeId) (dvs : List Value) (hdn : Holds w d tn dvs) (hd2 : dvs[2]? = some (.map (some m))) (hdt : d ≠ tb) (hs : name.size ≤ 100000) :
    Calls Tryz.prog 93 #[.pointer (some ⟨tb, 0, none⟩), .agg #[.pointer (some ⟨d, 0, none⟩), .string name], .pointer (some ⟨b, 0, none⟩)] w fun e w' => e = .returned (.tuple #[]) ∧ PutPost tb m k ab n li used lb f name b w w' := by
  have htl := ht.lt
  have hdl := hdn.lt
  obtain ⟨W0, hW0⟩ : ∃ W0, W0 = w.alloc (Obj.cells #[.pointer (some ⟨d, 0, none⟩), .string name] 166) := ⟨_, rfl⟩
  have hp0 : Holds W0 w.heap.size 166 [.pointer (some ⟨d, 0, none⟩), .string name] := by rw [hW0]; exact Holds.new w 166 _
  have ht0 : Holds W0 tb 163 [.pointer (some ⟨ab, 0, none⟩), .int .i64 n, .int .i64 li, .int .i64 used, .int .i64 lb] := by rw [hW0]; exact ht.alloc _
  obtain ⟨W1, hW1⟩ : ∃ W1, W1 = W0.setCell ⟨tb, 1, none⟩ (.int .i64 (n + 1)) := ⟨_, rfl⟩
  have c1 : W0.cell? ⟨tb, 1, none⟩ = some (.int .i64 n) := ht0.cell rfl
  have f1 := ht0.frozen 1
  have hdm : DictAt W1 m k f := by
    rw [hW1, hW0]
    have h1 : DictAt (w.alloc (Obj.cells #[.pointer (some ⟨d, 0, none⟩), .string name] 166)) m k f := hd.kept (row := none) (World.grownBy_alloc _ _ _) (by simp)
    exact h1.kept (grown_set (World.grownBy.refl _ (some tb)) 1 _) (by simp; exact fun e => dict_block hd ht e.symm)
  have hp1 : Holds W1 w.heap.size 166 [.pointer (some ⟨d, 0, none⟩), .string name] := by rw [hW1]; exact hp0.set_other (by omega) 1 _
  have ht1 : Holds W1 tb 163 [.pointer (some ⟨ab, 0, none⟩), .int .i64 (n + 1), .int .i64 li, .int .i64 used, .int .i64 lb] := by rw [hW1]; exact ht0.set 1 _
  have hdn1 : Holds W1 d tn dvs := by rw [hW1, hW0]; exact (hdn.alloc _).set_other hdt 1 _
  have hfr : FrameK w W1 tb m := by
    rw [hW1, hW0]
    have hg := grown_set (w := w) (wr := w.alloc (Obj.cells #[.pointer (some ⟨d, 0, none⟩), .string name] 166)) (World.grownBy_alloc _ _ (some tb)) 1 (.int .i64 (n + 1))
    exact (FrameK.refl w tb m).grownL hg
  have hnm : w.heap.size ≠ m := dict_block hdm hp1
  have htm : tb ≠ m := dict_block hdm ht1
  have hdm2 : d ≠ m := dict_block hdm hdn1
  have hS1 : W1.cell? ⟨w.heap.size, 0, none⟩ = some (.pointer (some ⟨d, 0, none⟩)) ∧ W1.cell? ⟨w.heap.size, 1, none⟩ = some (.string name) ∧ W1.cell? ⟨d, 2, none⟩ = some (.map (some m)) := ⟨hp1.cell rfl, hp1.cell rfl, hdn1.cell hd2⟩
  have R0 := hide (show ∀ w' : World, (w'.cell? ⟨w.heap.size, 0, none⟩ = some (.pointer (some ⟨d, 0, none⟩)) ∧ w'.cell? ⟨w.heap.size, 1, none⟩ = some (.string name) ∧ w'.cell? ⟨d, 2, none⟩ = some (.map (some m))) → (Instr.loadAt 160 (.pointer (some ⟨w.heap.size, 0, none⟩))).run Tryz.prog w' = .ok (.pointer (some ⟨d, 0, none⟩)) w' from fun w' h => by
    have c := h.1
    clear hS1
    go_simp)
  have R1 := hide (show ∀ w' : World, (w'.cell? ⟨w.heap.size, 0, none⟩ = some (.pointer (some ⟨d, 0, none⟩)) ∧ w'.cell? ⟨w.heap.size, 1, none⟩ = some (.string name) ∧ w'.cell? ⟨d, 2, none⟩ = some (.map (some m))) → (Instr.loadAt 9 (.pointer (some ⟨w.heap.size, 1, none⟩))).run Tryz.prog w' = .ok (.string name) w' from fun w' h => by
    have c := h.2.1
    clear hS1
    go_simp)
  have R2 := hide (show ∀ w' : World, (w'.cell? ⟨w.heap.size, 0, none⟩ = some (.pointer (some ⟨d, 0, none⟩)) ∧ w'.cell? ⟨w.heap.size, 1, none⟩ = some (.string name) ∧ w'.cell? ⟨d, 2, none⟩ = some (.map (some m))) → (Instr.loadAt 226 (.pointer (some ⟨d, 2, none⟩))).run Tryz.prog w' = .ok (.map (some m)) w' from fun w' h => by
    have c := h.2.2
    clear hS1
    go_simp)
  have HCL := hide (fsClone_any name W1.drew hs)
  have HW0 := hide hW0
  have HW1 := hide hW1
  have HDM := hide hdm
  have HT1 := hide ht1
  have HFR := hide hfr
  have HS1 := hide hS1
  have hn1 : n + 1 ≤ 1000001 := by omega
  have hl1 : w.heap.size < W1.heap.size := hp1.lt
  have hl2 : d < W1.heap.size := hdn1.lt
  have hl3 : tb < W1.heap.size := ht1.lt
  have hl4 : m < W1.heap.size := by obtain ⟨D, hD, _⟩ := hdm; exact hD.lt
  clear hW0 hW1 hp0 ht0 hdm hp1 ht1 hdn1 hfr hd ht hdn hd2 hS1
  go_enter Tryz.func93, Tryz.ntmps93
  go_upto_region 1 with fail
  rw [← unhide HW0]
  go_upto_region 2 with fail
  rw [← unhide HW1]
  clear c1 f1
  refine act_gen ?_
  intro A hA
  have e2 : A.eval (.tmp 2) = .pointer (some ⟨b, 0, none⟩) := by rw [hA]; rfl
  have e4 : A.eval (.tmp 4) = .pointer (some ⟨w.heap.size, 0, none⟩) := by rw [hA]; rfl
  have esz : A.tmps.size = 22 := by rw [hA]; rfl
  have HA := hide hA
  clear hA
  refine wp_region_held_drew (S := fun w' => w'.cell? ⟨w.heap.size, 0, none⟩ = some (.pointer (some ⟨d, 0, none⟩)) ∧ w'.cell? ⟨w.heap.size, 1, none⟩ = some (.string name) ∧ w'.cell? ⟨d, 2, none⟩ = some (.map (some m))) (by kernel_rfl) (unhide HS1) (fun hS => ?_)
  refine takeH (i := 0) (some 13) rfl rfl (by kernel_rfl) (by kernel_rfl) (by kernel_rfl) (fun _ _ _ h => h) (yields_field rfl _ _ _ rfl (.pointer (some ⟨w.heap.size, 0, none⟩)) (by simp [put_eval, put_size, esz, e2, e4]) (.pointer (some ⟨w.heap.size, 0, none⟩)) (fun w' => by go_simp)) hS ?_
  refine takeH (i := 1) (some 14) rfl rfl (by kernel_rfl) (by kernel_rfl) (by kernel_rfl) (fun _ _ _ h => h) (yields_load1 rfl _ _ rfl ⟨w.heap.size, 0, none⟩ (by simp [put_eval, put_size, esz, e2, e4]) (.pointer (some ⟨d, 0, none⟩)) (unhide R0)) hS ?_
  refine takeH (i := 2) (some 15) rfl rfl (by kernel_rfl) (by kernel_rfl) (by kernel_rfl) (fun _ _ _ h => h) (yields_nil rfl _ rfl ⟨d, 0, none⟩ (by simp [put_eval, put_size, esz, e2, e4])) hS ?_
  refine takeH (i := 3) (some 16) rfl rfl (by kernel_rfl) (by kernel_rfl) (by kernel_rfl) (fun _ _ _ h => h) (yields_field rfl _ _ _ rfl (.pointer (some ⟨d, 0, none⟩)) (by simp [put_eval, put_size, esz, e2, e4]) (.pointer (some ⟨d, 2, none⟩)) (fun w' => by go_simp)) hS ?_
  refine takeH (i := 4) (some 17) rfl rfl (by kernel_rfl) (by kernel_rfl) (by kernel_rfl) (fun _ _ _ h => h) (yields_load1 rfl _ _ rfl ⟨d, 2, none⟩ (by simp [put_eval, put_size, esz, e2, e4]) (.map (some m)) (unhide R2)) hS ?_
  refine takeH (i := 5) (some 18) rfl rfl (by kernel_rfl) (by kernel_rfl) (by kernel_rfl) (fun _ _ _ h => h) (yields_field rfl _ _ _ rfl (.pointer (some ⟨w.heap.size, 0, none⟩)) (by simp [put_eval, put_size, esz, e2, e4]) (.pointer (some ⟨w.heap.size, 1, none⟩)) (fun w' => by go_simp)) hS ?_
  refine takeH (i := 6) (some 19) rfl rfl (by kernel_rfl) (by kernel_rfl) (by kernel_rfl) (fun _ _ _ h => h) (yields_load1 rfl _ _ rfl ⟨w.heap.size, 1, none⟩ (by simp [put_eval, put_size, esz, e2, e4]) (.string name) (unhide R1)) hS ?_
  refine takeH (i := 8) (some 21) rfl rfl (by kernel_rfl) (by kernel_rfl) (by kernel_rfl) (fun _ _ _ h => h) (yields_move rfl _ rfl (.pointer (some ⟨b, 0, none⟩)) (by simp [put_eval, put_size, esz, e2, e4])) hS ?_
  refine wpAnyH_ready (rs := [7]) (by kernel_rfl) (by simp) (AllReadyH.cons rfl (fun K hK => ?_) AllReadyH.nil)
  refine step_call1' rfl 114 19 _ rfl (.string name) (by simp [put_eval, put_size, esz, e2, e4]) cloneEnter _ (.string name) (fun e w' h => h.1) (unhide HCL) (some 20) rfl ?_
  rintro w2 ⟨_, hb2⟩
  have hb2' : Below W1.heap.size W1 w2 := ⟨hb2.os, hb2.tape, hb2.output, hb2.size, hb2.block⟩
  have hS2 : w2.cell? ⟨w.heap.size, 0, none⟩ = some (.pointer (some ⟨d, 0, none⟩)) ∧ w2.cell? ⟨w.heap.size, 1, none⟩ = some (.string name) ∧ w2.cell? ⟨d, 2, none⟩ = some (.map (some m)) := ⟨by rw [hb2'.cell (p := ⟨w.heap.size, 0, none⟩) hl1]; exact (unhide HS1).1, by rw [hb2'.cell (p := ⟨w.heap.size, 1, none⟩) hl1]; exact (unhide HS1).2.1, by rw [hb2'.cell (p := ⟨d, 2, none⟩) hl2]; exact (unhide HS1).2.2⟩
  refine hK.out _ _ hS2 (fun _ => ?_)
  clear hK K
  have hg2 : W1.grownBy w2 none := ⟨hb2'.os, hb2'.tape, hb2'.output, hb2'.size, fun q hq _ => hb2'.block q hq⟩
  obtain ⟨w3, hrun, hd3, hg3⟩ := ((unhide HDM).kept hg2 (by simp)).put (by unfold maxLen; omega) name (by unfold maxLen; omega) b
  have g17 : ((((((((((A.put (some 13) (.pointer (some ⟨w.heap.size, 0, none⟩))).put (some 14) (.pointer (some ⟨d, 0, none⟩))).put (some 15) (.pointer (some ⟨d, 0, none⟩))).put (some 16) (.pointer (some ⟨d, 2, none⟩))).put (some 17) (.map (some m))).put (some 18) (.pointer (some ⟨w.heap.size, 1, none⟩))).put (some 19) (.string name)).put (some 21) (.pointer (some ⟨b, 0, none⟩))).put (some 20) (.string name))).eval (.tmp 17) = .map (some m) := by simp [put_eval, put_size, esz, e2, e4]
  have g20 : ((((((((((A.put (some 13) (.pointer (some ⟨w.heap.size, 0, none⟩))).put (some 14) (.pointer (some ⟨d, 0, none⟩))).put (some 15) (.pointer (some ⟨d, 0, none⟩))).put (some 16) (.pointer (some ⟨d, 2, none⟩))).put (some 17) (.map (some m))).put (some 18) (.pointer (some ⟨w.heap.size, 1, none⟩))).put (some 19) (.string name)).put (some 21) (.pointer (some ⟨b, 0, none⟩))).put (some 20) (.string name))).eval (.tmp 20) = .string name := by simp [put_eval, put_size, esz, e2, e4]
  have g21 : ((((((((((A.put (some 13) (.pointer (some ⟨w.heap.size, 0, none⟩))).put (some 14) (.pointer (some ⟨d, 0, none⟩))).put (some 15) (.pointer (some ⟨d, 0, none⟩))).put (some 16) (.pointer (some ⟨d, 2, none⟩))).put (some 17) (.map (some m))).put (some 18) (.pointer (some ⟨w.heap.size, 1, none⟩))).put (some 19) (.string name)).put (some 21) (.pointer (some ⟨b, 0, none⟩))).put (some 20) (.string name))).eval (.tmp 21) = .pointer (some ⟨b, 0, none⟩) := by simp [put_eval, put_size, esz, e2, e4]
  refine wpAnyH_ready (rs := [9]) (by kernel_rfl) (by simp) ?_
  refine ready_update (w' := w3) rfl rfl 226 (.tmp 17) (.tmp 20) (.tmp 21) rfl (.map (some m)) (.string name) (.pointer (some ⟨b, 0, none⟩)) g17 g20 g21 hrun rfl ⟨hg3.cell hS2.1 (by simpa using hnm), hg3.cell hS2.2.1 (by simpa using hnm), hg3.cell hS2.2.2 (by simpa using hdm2)⟩ ?_ AllReadyH.nil
  refine wpAnyH_done (by kernel_rfl) ?_ _
  have HP := hide (show PutPost tb m k ab n li used lb f name b w w3 from ⟨((unhide HT1).grown hg2 (by simp)).grown hg3 (by simpa using htm), hd3, (((unhide HFR).step hb2').grownR hg3)⟩)
  rw [unhide HA]
  simp only [Act.put, List.setIfInBounds_toArray, List.set_cons_zero, List.set_cons_succ]
  clear hg2 hd3 hg3 hrun hS2 hb2 hb2' HA e2 e4 esz hS R0 R1 R2 HCL
  go_wp2
  go_end0
  exact ⟨rfl, unhide HP⟩
end Go.Proofs.YtkmbleboceedbaaGreatDoor

/- The program's tree with one more node. -/
namespace Go.Proofs.YtkmbleboceedbaaGreatDoor
open Go Go.RowKit Go.Maps
set_option linter.unusedVariables false
set_option linter.unusedSimpArgs false

theorem DictAt.block {w w' : World} {m n : Nat} {f : ByteArray → Option Nat} (h : DictAt w m n f) (hh : w'.heap[m]? = w.heap[m]?) : DictAt w' m n f := by
  obtain ⟨D, ⟨es, clock, hb, F, hs, hD⟩, hf⟩ := h
  exact ⟨D, ⟨es, clock, by rw [hh]; exact hb, F, hs, hD⟩, hf⟩
theorem DictAt.lt {w : World} {m n : Nat} {f : ByteArray → Option Nat} (h : DictAt w m n f) : m < w.heap.size := by obtain ⟨D, hD, _⟩ := h; exact hD.lt
theorem DictAt.mono {w : World} {m n n' : Nat} {f : ByteArray → Option Nat} (h : DictAt w m n f) (hn : n ≤ n') : DictAt w m n' f := by obtain ⟨D, hD, hf⟩ := h; exact ⟨D, hD.mono hn, hf⟩
theorem DictAt.same {w : World} {m n : Nat} {f g : ByteArray → Option Nat} (h : DictAt w m n f) (hg : ∀ s, g s = f s) : DictAt w m n g := by
  have : g = f := funext hg
  rw [this]; exact h
theorem holds_block {w w' : World} {b : Nat} {t : TypeId} {vs : List Value} (h : Holds w b t vs) (hh : w'.heap[b]? = w.heap[b]?) : Holds w' b t vs := by
  unfold Holds at h ⊢
  rw [hh]; exact h
theorem holds_apart {w : World} {a b : Nat} {s t : TypeId} {us vs : List Value} (h : Holds w a s us) (h' : Holds w b t vs) (hne : s ≠ t) : a ≠ b := by
  intro e
  subst e
  unfold Holds at h h'
  rw [h] at h'
  injection h' with h'
  injection h' with _ h'
  exact hne h'
theorem kid_added {xs : List Ino} {NB : List Nat} {nx : Ino} {nb : Nat} (hl : NB.length = xs.length) (d : Int) (name : ByteArray) : kidOf (xs ++ [nx]) (NB ++ [nb]) d name = match kidOf xs NB d name with | some b => some b | none => if isChild d name nx = true then some nb else none := by
  unfold kidOf
  rw [List.findIdx?_append]
  cases hf : xs.findIdx? (isChild d name) with
  | some i =>
    obtain ⟨hi, _, _⟩ := List.findIdx?_eq_some_iff_getElem.1 hf
    have hib : i < NB.length := by omega
    simp only [Option.some_or]
    rw [List.getElem?_append_left hib, List.getElem?_eq_getElem hib]
  | none =>
    simp only [Option.none_or]
    by_cases hc : isChild d name nx = true
    · rw [if_pos hc, List.findIdx?_cons, hc]
      simp [← hl]
    · rw [if_neg hc, List.findIdx?_cons]
      simp [hc]
theorem child_new (d id : Int) (s name : ByteArray) (is : Bool) : isChild d s (newIno id d name is) = decide (s.data.toList = name.data.toList) := by
  unfold isChild newIno
  show (d == d && name.toList == s.toList) = _
  rw [beq_self_eq_true, Bool.true_and, ByteArray.toList_eq, ByteArray.toList_eq]
  by_cases e : s.data.toList = name.data.toList
  · rw [decide_eq_true e, e]; simp
  · rw [decide_eq_false e]; simp; exact fun h => e (by rw [h])
theorem child_else {d e id : Int} {s name : ByteArray} {is : Bool} (h : e ≠ d) : isChild d s (newIno id e name is) = false := by
  unfold isChild newIno
  show (e == d && _) = false
  rw [show (e == d) = false from by simpa using h, Bool.false_and]
theorem bytes_eq {s t : ByteArray} (h : s.data.toList = t.data.toList) : s = t := by
  cases s with | mk a => cases t with | mk b =>
  congr 1
  exact Array.toList_inj.1 h

theorem TreeRep.added {w w' : World} {B tb ab am : Nat} {li lb used : Int} {xs : List Ino} {NB MB : List Nat} {V : List Value} (h : TreeRep w B tb ab am li lb used xs NB MB V) {pi pm nb nm : Nat} {px : Ino} {name : ByteArray} {dir : Bool} {v mv : Value} {id : Int}
    (hp : xs[pi]? = some px) (hpd : px.dir = true) (hpm : MB[pi]? = some pm) (hinc : xs.Pairwise (fun x y => x.id < y.id)) (hc : kidOf xs NB px.id name = none)
    (ht : Holds w' tb 163 [.pointer (some ⟨ab, 0, none⟩), .int .i64 ((xs.length : Int) + 1), .int .i64 li, .int .i64 used, .int .i64 lb])
    (hd : DictAt w' pm (xs.length + 1) (fun s => if s.data.toList = name.data.toList then some nb else kidOf xs NB px.id s))
    (hn : Holds w' nb 228 [.bool dir, v, mv, .bool false, .int .i64 0])
    (hnd : dir = true → mv = .map (some nm) ∧ DictAt w' nm 0 (fun _ => none)) (hnf : dir = false → mv = .map none)
    (hnb : w.heap.size ≤ nb) (hnm : w.heap.size ≤ nm) (hnl : nm < w'.heap.size) (hf : FrameK w w' tb pm) (hpar : ∀ x ∈ xs, x.parent ≠ id) (hpid : px.id ≠ id) (hB : B ≤ w.heap.size) :
    TreeRep w' B tb ab am li lb used (xs ++ [newIno id px.id name dir]) (NB ++ [nb]) (MB ++ [nm]) (V ++ [v]) := by
  obtain ⟨hpl, hpx⟩ := List.getElem?_eq_some_iff.1 hp
  have hl1 := h.len.1
  have hl2 := h.len.2
  have hl3 := h.vlen
  have hpmm : pm ∈ MB := List.mem_of_getElem? hpm
  have hnode0 : ∀ (i : Nat) (x : Ino) (b m : Nat), xs[i]? = some x → NB[i]? = some b → MB[i]? = some m → ∃ v mv, Holds w' b 228 [.bool x.dir, v, mv, .bool false, .int .i64 0] ∧ (x.dir = true → mv = .map (some m) ∧ (i ≠ pi → DictAt w' m xs.length (kidOf xs NB x.id))) ∧ V[i]? = some v ∧ (x.dir = false → mv = .map none) := by
    intro i x b m hx hb hm
    obtain ⟨v1, mv1, h1, h2, h3⟩ := h.node i x b m hx hb hm
    obtain ⟨pb, hpb⟩ : ∃ pb, NB[pi]? = some pb := ⟨_, List.getElem?_eq_getElem (by omega)⟩
    obtain ⟨v2, mv2, _, h5, _⟩ := h.node pi px pb pm hp hpb hpm
    have hdp := (h5 hpd).2
    refine ⟨v1, mv1, holds_block h1 (hf.block b h1.lt (holds_apart h1 h.tree (by decide)) (dict_block hdp h1)), fun hxd => ⟨(h2 hxd).1, fun hne => (h2 hxd).2.block (hf.block m (h2 hxd).2.lt (fun e => dict_block (h2 hxd).2 h.tree e.symm) (fun e => ?_))⟩, h3⟩
    subst e
    obtain ⟨hi1, hi2⟩ := List.getElem?_eq_some_iff.1 hm
    obtain ⟨hj1, hj2⟩ := List.getElem?_eq_some_iff.1 hpm
    exact hne ((List.getElem_inj h.apart.1).1 (hi2.trans hj2.symm))
  have hdp0 : DictAt w pm xs.length (kidOf xs NB px.id) := by
    obtain ⟨pb, hpb⟩ : ∃ pb, NB[pi]? = some pb := ⟨_, List.getElem?_eq_getElem (by omega)⟩
    obtain ⟨v2, mv2, _, h5, _⟩ := h.node pi px pb pm hp hpb hpm
    exact (h5 hpd).2
  have hne : xs ≠ [] := by intro e; rw [e] at hpl; simp at hpl
  refine ⟨?_, ?_, ?_, ?_, ?_, ?_, ?_, ?_, ?_⟩
  · rw [List.length_append]; simpa using ht
  · exact holds_block h.above (hf.block ab h.above.lt (holds_apart h.above h.tree (by decide)) (dict_block hdp0 h.above))
  · refine (h.amap.block (hf.block am h.amap.lt (fun e => dict_block h.amap h.tree e.symm) (fun e => h.apart.2.1 (e ▸ hpmm)))).same fun s => ?_
    rw [List.getElem?_append_left (by omega)]
  · simp [hl1, hl2]
  · intro i x b m hx hb hm
    by_cases hi : i < xs.length
    · rw [List.getElem?_append_left hi] at hx
      rw [List.getElem?_append_left (by omega)] at hb hm
      obtain ⟨v1, mv1, h1, h2, h3⟩ := hnode0 i x b m hx hb hm
      refine ⟨v1, mv1, h1, fun hxd => ⟨(h2 hxd).1, ?_⟩, by rw [List.getElem?_append_left (by omega)]; exact h3.1, h3.2⟩
      rw [List.length_append]
      by_cases hip : i = pi
      · subst hip
        rw [hp] at hx
        obtain rfl := Option.some.inj hx
        rw [hpm] at hm
        obtain rfl := Option.some.inj hm
        refine hd.same fun s => ?_
        rw [kid_added hl1, child_new]
        by_cases e : s.data.toList = name.data.toList
        · obtain rfl := bytes_eq e
          rw [hc]; simp
        · rw [if_neg e]
          cases hk : kidOf xs NB px.id s with
          | some b => rfl
          | none => simp [e]
      · refine (((h2 hxd).2 hip).mono (by omega)).same fun s => ?_
        have hid : px.id ≠ x.id := by
          intro e
          obtain ⟨hi1, hi2⟩ := List.getElem?_eq_some_iff.1 hx
          have hpw := List.pairwise_iff_getElem.1 hinc
          rcases Nat.lt_trichotomy i pi with q | q | q
          · have := hpw i pi hi1 hpl q; rw [hi2, hpx] at this; omega
          · exact hip q
          · have := hpw pi i hpl hi1 q; rw [hi2, hpx] at this; omega
        rw [kid_added hl1, child_else hid]
        cases kidOf xs NB x.id s with
        | some b => rfl
        | none => rfl
    · have hi2 := (List.getElem?_eq_some_iff.1 hx).1
      rw [List.length_append] at hi2
      have hie : i = xs.length := by simp at hi2; omega
      subst hie
      rw [List.getElem?_append_right (by omega)] at hx hb hm
      simp [hl1] at hb
      simp [hl2] at hm
      simp at hx
      subst hx hb hm
      refine ⟨v, mv, hn, fun hxd => ⟨(hnd hxd).1, ((hnd hxd).2.mono (by omega)).same fun s => ?_⟩, by rw [List.getElem?_append_right (by omega)]; simp [hl3], fun q => hnf q⟩
      show kidOf _ _ id s = none
      rw [kid_added hl1, child_else hpid]
      have : xs.findIdx? (isChild id s) = none := by
        rw [List.findIdx?_eq_none_iff]
        intro x hx
        unfold isChild
        rw [show (x.parent == id) = false from by simpa using hpar x hx, Bool.false_and]
      unfold kidOf
      rw [this]
      rfl
  · intro _
    obtain ⟨x, hx, h1, h2⟩ := h.root hne
    exact ⟨x, by rw [List.getElem?_append_left (by omega)]; exact hx, h1, h2⟩
  · simp [hl3]
  · have hlow := h.low
    refine ⟨?_, ?_, ?_, ?_⟩
    · rw [List.nodup_append]
      exact ⟨h.apart.1, by simp, fun a ha b hb => by simp at hb; have := (hlow.2.2.2.2 a ha).2; omega⟩
    · rw [List.mem_append]
      rintro (q | q)
      · exact h.apart.2.1 q
      · simp at q; have := h.amap.lt; omega
    · rw [List.nodup_append]
      refine ⟨h.apart.2.2.1, by simp, fun a ha b hb => ?_⟩
      simp at hb
      obtain ⟨j, hj, hja⟩ := List.mem_iff_getElem.1 ha
      obtain ⟨_, _, q, _⟩ := h.node j xs[j] NB[j] MB[j] (List.getElem?_eq_getElem (by omega)) (List.getElem?_eq_getElem hj) (List.getElem?_eq_getElem (by omega))
      have := q.lt
      omega
    · rw [List.mem_append]
      rintro (q | q)
      · exact h.apart.2.2.2 q
      · simp at q; have := h.above.lt; omega
  · have hlow := h.low
    have hsz := hf.size
    refine ⟨hlow.1, hlow.2.1, hlow.2.2.1, fun b hb => ?_, fun m hm => ?_⟩
    · rcases List.mem_append.1 hb with q | q
      · exact hlow.2.2.2.1 b q
      · simp at q; omega
    · rcases List.mem_append.1 hm with q | q
      · exact ⟨(hlow.2.2.2.2 m q).1, by have := (hlow.2.2.2.2 m q).2; omega⟩
      · simp at q; subst q; exact ⟨by omega, hnl⟩
end Go.Proofs.YtkmbleboceedbaaGreatDoor
