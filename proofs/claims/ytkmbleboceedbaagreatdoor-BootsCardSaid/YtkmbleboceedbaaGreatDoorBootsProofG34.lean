import Derived.Test.YtkmbleboceedbaaGreatDoorBootsProofG31
import Derived.Test.YtkmbleboceedbaaGreatDoorBootsProofG33
import Derived.Test.YtkmbleboceedbaaGreatDoorBootsProofG29
/- The program's freeFrames. -/
namespace Go.Proofs.YtkmbleboceedbaaGreatDoor
open Go Go.RowKit Go.Maps
set_option linter.unusedVariables false
set_option linter.unusedSimpArgs false

theorem yields_bin {P : Program} {ops : Array Oper} {S : World → Prop} {o : Oper} {A : Act} (hg : o.guard = none) (op : BinOp) (t t2 : TypeId) (x y : Operand) (ho : o.op = .binOp op t x y t2) (vx vy : Value) (hx : A.eval x = vx) (hy : A.eval y = vy) (v : Value) (hrun : ∀ w', ((do eqGuard op t x y vx vy; binOp op t vx vy : Sem Value)).run P w' = .ok v w') : YieldsIf P ops S o v A :=
  yields_run hg fun w' hS => by
    have := hrun w'
    simp only [execOp, ho, hx, hy]
    simp only [Sem.run_bind] at this ⊢
    rw [this]
    rfl
theorem yields_len {P : Program} {ops : Array Oper} {S : World → Prop} {o : Oper} {A : Act} (hg : o.guard = none) (t : Nat) (ts : Array TypeId) (ho : o.op = .call { callee := .builtin .len, args := #[.tmp t], argTypes := ts }) (v : Value) (hx : A.eval (.tmp t) = v) (r : Value) (hrun : ∀ w', S w' → (Builtin.len_ ts o.type #[v]).run P w' = .ok r w') : YieldsIf P ops S o r A :=
  yields_run hg fun w' hS => by
    have hx' : A.tmps[t]?.getD undef = v := by rw [← hx]; simp [go_sem]
    have := hrun w' hS
    simp [execOp, ho, hx', invoke, resolve, go_sem, this]
theorem yields_build {P : Program} {ops : Array Oper} {S : World → Prop} {o : Oper} {A : Act} (hg : o.guard = none) (ty : TypeId) (parts : Array (Nat × Operand)) (ho : o.op = .build ty parts) (vals : Array (Nat × Value)) (hv : (parts.map fun (i, x) => (i, A.eval x)) = vals) (v : Value) (hrun : ∀ w, (Instr.build ty vals).run P w = .ok v w) : YieldsIf P ops S o v A :=
  yields_run hg fun w' hS => by
    simp only [execOp, ho]
    rw [hv]
    simp [hrun]
theorem step_store_part {P : Program} {ops : Array Oper} {o : Oper} {a : Act} {w : World} {K : Act → World → Prop} {Q : Exit → Act → World → Prop} {E : Prop} (hgd : o.guard = none) (ty : TypeId) (x y : Operand) (ho : o.op = .store ty x y)
    (g off : Nat) (cs : List Value) (hx : a.eval x = .pointer (some ⟨g, off, none⟩)) (hy : a.eval y = .agg cs.toArray)
    (t : TypeId) (old : List Value) (hg : Holds w g t old) (hi : (P.info? ty).map (·.size) = some cs.length) (hfit : off + cs.length ≤ old.length) (h1 : ∀ v ∈ cs, v.oneCell' = true) (hd : o.dst = none)
    (h : ∀ w', Hid (Holds w' g t (splice old off cs)) → Hid (w.grownBy w' (some g)) → K a w') :
    if Region.wanted o (yielded ops a.tmps) = true then Oper.wp P o a w K Q else E := by
  have hw : Region.wanted o (yielded ops a.tmps) = true := by simp [Region.wanted, hgd]
  rw [if_pos hw]
  refine wp_store_mid ty x y ho g off cs.toArray hx hy (holds_there hg _ _ (by simpa using hfit)) (by simpa using hi) (all_oneCell_toArray h1) ?_
  rw [hd]
  exact h _ (hide (holds_setCells cs off _ _ hg hfit)) (hide (grown_setCells cs off w ⟨rfl, rfl, rfl, Nat.le_refl _, fun _ _ _ => rfl⟩))
theorem step_call3c {P : Program} {ops : Array Oper} {o : Oper} {a : Act} {w : World} {K : Act → World → Prop} {Q : Exit → Act → World → Prop} {E : Prop} (hgd : o.guard = none) (f n1 n2 : Nat) (v3 : Value) (ts : Array TypeId)
    (ho : o.op = .call { callee := .value (.func f), args := #[.tmp n1, .tmp n2, .const v3], argTypes := ts }) (v1 v2 : Value) (h1 : a.eval (.tmp n1) = v1) (h2 : a.eval (.tmp n2) = v2)
    (he : ∀ args w, (callFunc f args).run P w = .ok (.enter f args) w) (post : Ending → World → Prop) (hp : ∀ e w', post e w' → ∃ r, e = .returned r) (hc : Calls P f #[v1, v2, v3] w post) (d : Option Tmp) (hd : o.dst = d)
    (h : ∀ r w', post (.returned r) w' → K (a.put d r) w') :
    if Region.wanted o (yielded ops a.tmps) = true then Oper.wp P o a w K Q else E := by
  have hw : Region.wanted o (yielded ops a.tmps) = true := by simp [Region.wanted, hgd]
  have h1' : a.tmps[n1]?.getD undef = v1 := by rw [← h1]; simp [go_sem]
  have h2' : a.tmps[n2]?.getD undef = v2 := by rw [← h2]; simp [go_sem]
  rw [if_pos hw]
  subst hd
  unfold Oper.wp
  simp [execOp, ho, resolve, invoke, h1', h2', Result.andThen, go_sem, he]
  refine hc.mono ?_
  intro e w' hpe
  obtain ⟨r, rfl⟩ := hp e w' hpe
  have := h r w' hpe
  simpa [go_sem] using this
theorem framesEnter : ∀ args w, (callFunc 54 args).run Tryz.prog w = .ok (.enter 54 args) w := enters_of Tryz.func54 (by kernel_rfl) rfl

set_option maxRecDepth 100000 in
set_option maxHeartbeats 1000000 in
theorem freeFrames_any (kb pm pb : Nat) (lp lf lo li lb : Int) (tb cb : Nat) (PS : List Pg) (w : World) (hk : Holds w kb 121 (kernelRow lp lf lo li lb tb cb pm)) (hm : OneProc w pm pb) (hpl : pb < w.heap.size) (hp : PermsAt w pb PS) (hok : PgsOk PS) (hn : PS.length ≤ 256) (hlf : 0 ≤ lf ∧ lf ≤ 1000000) :
    Calls Tryz.prog 70 #[.pointer (some ⟨kb, 0, none⟩)] w fun e w' => e = .returned (.int .i64 (lf - (PS.length : Int))) ∧ Below w.heap.size w w' := by
  have hbd : Below w.heap.size w w.drew := ⟨rfl, rfl, rfl, Nat.le_refl _, fun _ _ => rfl⟩
  have HFR := hide (frames_any kb pm pb lp lf lo li lb tb cb PS w.drew (hk.heap rfl) (hm.kept (grown_below hbd) (by simp)) hpl (hp.below hbd hpl) hok hn)
  have hS0 : w.cell? ⟨kb, 1, none⟩ = some (.int .i64 lf) := hk.cell rfl
  have hkl := hk.lt
  have R1 := hide (show ∀ w' : World, w'.cell? ⟨kb, 1, none⟩ = some (.int .i64 lf) → (Instr.loadAt 3 (.pointer (some ⟨kb, 1, none⟩))).run Tryz.prog w' = .ok (.int .i64 lf) w' from fun w' h => by
    clear hS0 hk hm hp
    go_simp)
  have HS0 := hide hS0
  have hw1 : -9223372036854775808 ≤ lf - (PS.length : Int) := by omega
  have hw2 : lf - (PS.length : Int) ≤ 9223372036854775807 := by omega
  have R2 := hide (show ∀ w' : World, ((do eqGuard .sub 3 (.tmp 7) (.tmp 9) (.int .i64 lf) (.int .i64 (PS.length : Nat)); binOp .sub 3 (.int .i64 lf) (.int .i64 (PS.length : Nat)) : Sem Value)).run Tryz.prog w' = .ok (.int .i64 (lf - (PS.length : Int))) w' from fun w' => by
    clear hS0 hk hm hp
    go_simp
    rw [IntKind.wrap_i64]
    omega)
  clear hk hm hp hok hS0 hbd hn hlf
  go_enter Tryz.func70, Tryz.ntmps70
  go_upto_region 1 with fail
  refine act_gen ?_
  intro A hA
  have e0 : A.eval (.tmp 0) = .pointer (some ⟨kb, 0, none⟩) := by rw [hA]; rfl
  have esz : A.tmps.size = 11 := by rw [hA]; rfl
  have HA := hide hA
  clear hA
  refine wp_region_held_drew (S := fun w' => w'.cell? ⟨kb, 1, none⟩ = some (.int .i64 lf)) (by kernel_rfl) (unhide HS0) (fun hS => ?_)
  refine takeH (i := 0) (some 3) rfl rfl (by kernel_rfl) (by kernel_rfl) (by kernel_rfl) (fun _ _ _ h => h) (yields_move rfl _ rfl (.pointer (some ⟨kb, 0, none⟩)) (by simp [put_eval, put_size, esz, e0])) hS ?_
  refine takeH (i := 1) (some 4) rfl rfl (by kernel_rfl) (by kernel_rfl) (by kernel_rfl) (fun _ _ _ h => h) (yields_nil rfl _ rfl ⟨kb, 0, none⟩ (by simp [put_eval, put_size, esz, e0])) hS ?_
  refine takeH (i := 2) (some 5) rfl rfl (by kernel_rfl) (by kernel_rfl) (by kernel_rfl) (fun _ _ _ h => h) (yields_field rfl _ _ _ rfl (.pointer (some ⟨kb, 0, none⟩)) (by simp [put_eval, put_size, esz, e0]) (.pointer (some ⟨kb, 0, none⟩)) (fun w' => by go_simp)) hS ?_
  refine takeH (i := 3) (some 6) rfl rfl (by kernel_rfl) (by kernel_rfl) (by kernel_rfl) (fun _ _ _ h => h) (yields_field rfl _ _ _ rfl (.pointer (some ⟨kb, 0, none⟩)) (by simp [put_eval, put_size, esz, e0]) (.pointer (some ⟨kb, 1, none⟩)) (fun w' => by go_simp)) hS ?_
  refine takeH (i := 4) (some 7) rfl rfl (by kernel_rfl) (by kernel_rfl) (by kernel_rfl) (fun _ _ _ h => h) (yields_load1 rfl _ _ rfl ⟨kb, 1, none⟩ (by simp [put_eval, put_size, esz, e0]) (.int .i64 lf) (unhide R1)) hS ?_
  refine takeH (i := 5) (some 8) rfl rfl (by kernel_rfl) (by kernel_rfl) (by kernel_rfl) (fun _ _ _ h => h) (yields_move rfl _ rfl (.pointer (some ⟨kb, 0, none⟩)) (by simp [put_eval, put_size, esz, e0])) hS ?_
  refine wpAnyH_ready (rs := [6]) (by kernel_rfl) (by simp) (AllReadyH.cons rfl (fun K hK => ?_) AllReadyH.nil)
  refine step_call1' rfl 54 8 _ rfl (.pointer (some ⟨kb, 0, none⟩)) (by simp [put_eval, put_size, esz, e0]) framesEnter _ (.int .i64 (PS.length : Nat)) (fun e w' h => h.1) (unhide HFR) (some 9) rfl ?_
  rintro w2 ⟨_, hb2⟩
  have hb2' : Below w.heap.size w w2 := ⟨hb2.os, hb2.tape, hb2.output, hb2.size, hb2.block⟩
  refine hK.out _ _ (by rw [hb2'.cell (p := ⟨kb, 1, none⟩) hkl]; exact unhide HS0) (fun hS2 => ?_)
  clear hK K
  refine takeH (i := 7) (some 10) rfl rfl (by kernel_rfl) (by kernel_rfl) (by kernel_rfl) (fun _ _ _ h => h) (yields_bin rfl .sub 3 _ (.tmp 7) (.tmp 9) rfl (.int .i64 lf) (.int .i64 (PS.length : Nat)) (by simp [put_eval, put_size, esz, e0]) (by simp [put_eval, put_size, esz, e0]) (.int .i64 (lf - (PS.length : Int))) (unhide R2)) hS2 ?_
  refine takeH (i := 8) (some 2) rfl rfl (by kernel_rfl) (by kernel_rfl) (by kernel_rfl) (fun _ _ _ h => h) (yields_assign rfl _ rfl (.int .i64 (lf - (PS.length : Int))) (by simp [put_eval, put_size, esz])) hS2 ?_
  refine wpAnyH_done (by kernel_rfl) ?_ _
  have HB2 := hide hb2'
  rw [unhide HA]
  simp only [Act.put, List.setIfInBounds_toArray, List.set_cons_zero, List.set_cons_succ]
  clear hb2 hb2' hS hS2 HA e0 esz R1 R2 HFR
  go_wp2
  go_ret
  exact ⟨rfl, unhide HB2⟩
end Go.Proofs.YtkmbleboceedbaaGreatDoor

/- tinyoslaw: boot: what it has made behind some of the files. -/
namespace Go.Proofs.YtkmbleboceedbaaGreatDoor
open Go.RowKit
set_option linter.unusedVariables false
set_option linter.unusedSimpArgs false

/-- The files of a setting as they lie, and where their bytes lie. -/
structure FilesInL (w : World) (fb foff : Nat) (FS : List PFile) (LS : List FLoc) : Prop where
  len : LS.length = FS.length
  at_ : ∀ (i : Nat) (f : PFile) (l : FLoc), FS[i]? = some f → LS[i]? = some l → w.cell? ⟨fb, foff + i * 3, none⟩ = some (.string f.path) ∧ w.cell? ⟨fb, foff + i * 3 + 1, none⟩ = some (.bool f.dir) ∧ w.cell? ⟨fb, foff + i * 3 + 2, none⟩ = some (.slice l.a f.bytes.length l.c) ∧ (0 < f.bytes.length → l.a = some ⟨l.q, l.o, none⟩ ∧ l.q < w.heap.size) ∧ BView w l.q l.o f.bytes
theorem FilesInL.in {w : World} {fb foff : Nat} {FS : List PFile} {LS : List FLoc} (h : FilesInL w fb foff FS LS) : FilesIn w fb foff FS := by
  have hl : ∀ (i : Nat) (f : PFile), FS[i]? = some f → ∃ l, LS[i]? = some l := fun i f hf => ⟨_, List.getElem?_eq_getElem (by rw [h.len]; exact (List.getElem?_eq_some_iff.1 hf).1)⟩
  refine ⟨fun i f hf => ?_, fun i f hf => ?_, fun i f hf => ?_⟩
  · obtain ⟨l, hl⟩ := hl i f hf; exact (h.at_ i f l hf hl).1
  · obtain ⟨l, hl⟩ := hl i f hf; exact (h.at_ i f l hf hl).2.1
  · obtain ⟨l, hl⟩ := hl i f hf
    obtain ⟨_, _, a, b, c⟩ := h.at_ i f l hf hl
    exact ⟨l.a, l.q, l.o, l.c, a, b, c⟩
def pathsTo (FS : List PFile) (n : Nat) : List Value := (FS.take n).map (fun f => .string f.path)
def dirsTo (FS : List PFile) (n : Nat) : List Value := (FS.take n).map (fun f => .bool f.dir)
def bytesTo (FS : List PFile) (LS : List FLoc) (n : Nat) : List Value := ((FS.zip LS).take n).map (fun x => .slice x.2.a x.1.bytes.length x.2.c)
def fileRow (f : PFile) (r : Nat) : List Value := [.string f.path, .bool f.dir, .slice (some ⟨r, 0, none⟩) f.bytes.length (f.bytes.length + 2)]
def filesTo (FS : List PFile) (RS : List Nat) (n : Nat) : List Value := ((FS.zip RS).take n).flatMap (fun x => fileRow x.1 x.2)
theorem pathsTo_succ {FS : List PFile} {n : Nat} {f : PFile} (h : FS[n]? = some f) : pathsTo FS (n + 1) = pathsTo FS n ++ [.string f.path] := by
  unfold pathsTo; rw [List.take_add_one, h]; simp
theorem dirsTo_succ {FS : List PFile} {n : Nat} {f : PFile} (h : FS[n]? = some f) : dirsTo FS (n + 1) = dirsTo FS n ++ [.bool f.dir] := by
  unfold dirsTo; rw [List.take_add_one, h]; simp
theorem zip_get {α β : Type} {xs : List α} {ys : List β} {n : Nat} {x : α} {y : β} (h : xs[n]? = some x) (k : ys[n]? = some y) : (xs.zip ys)[n]? = some (x, y) := by
  rw [List.getElem?_zip_eq_some]; exact ⟨h, k⟩
theorem bytesTo_succ {FS : List PFile} {LS : List FLoc} {n : Nat} {f : PFile} {l : FLoc} (h : FS[n]? = some f) (k : LS[n]? = some l) : bytesTo FS LS (n + 1) = bytesTo FS LS n ++ [.slice l.a f.bytes.length l.c] := by
  unfold bytesTo; rw [List.take_add_one, zip_get h k]; simp
theorem filesTo_succ {FS : List PFile} {RS : List Nat} {n : Nat} {f : PFile} {r : Nat} (h : FS[n]? = some f) (k : RS[n]? = some r) : filesTo FS RS (n + 1) = filesTo FS RS n ++ fileRow f r := by
  unfold filesTo; rw [List.take_add_one, zip_get h k]; simp [List.flatMap_append]
theorem filesTo_snoc {FS : List PFile} {RS : List Nat} {n : Nat} (r : Nat) (hn : n ≤ RS.length) : filesTo FS (RS ++ [r]) n = filesTo FS RS n := by
  unfold filesTo
  congr 1
  show List.take n (List.zipWith Prod.mk FS (RS ++ [r])) = List.take n (List.zipWith Prod.mk FS RS)
  rw [List.take_zipWith, List.take_zipWith, List.take_append_of_le_length hn]
/-- The row that is written into is of this type. -/
def RowType (w : World) (row : Option Nat) (e : TypeId) : Prop := row = none ∨ ∃ g cur fr, row = some g ∧ w.heap[g]? = some (.cells cur e fr)
theorem own_rowType {w : World} {base : Nat} {e : TypeId} {size n : Nat} {v : Value} {xs : List Value} (h : w.ownsRow base e size v n xs) : RowType w v.ownBlock e := by
  rcases h.2 with ⟨rfl, _⟩ | ⟨g, cap, cur, rfl, _, hg, _⟩
  · exact .inl rfl
  · exact .inr ⟨g, cur, (0, 0), rfl, hg⟩
theorem own_type {w : World} {base : Nat} {e e' : TypeId} {size n : Nat} {v : Value} {xs : List Value} {row : Option Nat} (h : w.ownsRow base e size v n xs) (hr : RowType w row e') (hne : e ≠ e') : v.ownBlock = none ∨ v.ownBlock ≠ row := by
  rcases h.2 with ⟨rfl, _⟩ | ⟨g, cap, cur, rfl, _, hg, _⟩
  · exact .inl rfl
  · refine .inr (fun he => ?_)
    rcases hr with rfl | ⟨g', cur', fr, rfl, hg'⟩
    · simp [Value.ownBlock] at he
    · simp [Value.ownBlock] at he
      subst he
      rw [hg] at hg'
      simp at hg'
      exact hne hg'.2.1
theorem holds_type {w : World} {b : Nat} {e e' : TypeId} {vs : List Value} {row : Option Nat} (h : Holds w b e vs) (hr : RowType w row e') (hne : e ≠ e') : some b ≠ row := by
  intro he
  rcases hr with rfl | ⟨g', cur', fr, rfl, hg'⟩
  · simp at he
  · simp at he
    subst he
    unfold Holds at h
    rw [h] at hg'
    simp at hg'
    exact hne hg'.2.1
structure BState (w wr : World) (sv : List Value) (FS : List PFile) (LS : List FLoc) (RS : List Nat) (a b c d : Nat) (v5 v6 v7 v8 : Value) : Prop where
  s : Holds wr w.heap.size 26 sv
  p : wr.ownsRow (w.heap.size + 1) 9 1 v5 a (pathsTo FS a)
  di : wr.ownsRow (w.heap.size + 1) 4 1 v6 b (dirsTo FS b)
  by_ : wr.ownsRow (w.heap.size + 1) 32 1 v7 c (bytesTo FS LS c)
  fi : wr.ownsRow (w.heap.size + 1) 44 3 v8 d (filesTo FS RS d)
  rs : ∀ (i r : Nat) (f : PFile), RS[i]? = some r → FS[i]? = some f → w.heap.size < r ∧ r < wr.heap.size ∧ Holds wr r 5 (bytesRow (f.bytes ++ [71, 72]))
  inc : ∀ (i j r q : Nat), i < j → RS[i]? = some r → RS[j]? = some q → r < q
  bl : Below w.heap.size w wr
theorem BState.move {w wr w' : World} {sv : List Value} {FS : List PFile} {LS : List FLoc} {RS : List Nat} {a b c d : Nat} {v5 v6 v7 v8 : Value} (h : BState w wr sv FS LS RS a b c d v5 v6 v7 v8) (hb : Below wr.heap.size wr w') : BState w w' sv FS LS RS a b c d v5 v6 v7 v8 := by
  have hg : wr.grownBy w' none := ⟨hb.os, hb.tape, hb.output, hb.size, fun k hk _ => hb.block k hk⟩
  have hn : ∀ v : Value, v.ownBlock = none ∨ v.ownBlock ≠ none := fun v => by cases v.ownBlock <;> simp
  refine ⟨h.s.grown hg (by simp), h.p.kept hg (hn _), h.di.kept hg (hn _), h.by_.kept hg (hn _), h.fi.kept hg (hn _), fun i r f hr hf => ?_, h.inc, h.bl.trans (hb.mono h.bl.size)⟩
  obtain ⟨x, y, z⟩ := h.rs i r f hr hf
  exact ⟨x, by have := hb.size; omega, z.grown hg (by simp)⟩
theorem bl_grown {w wr w' : World} {row : Option Nat} (h : Below w.heap.size w wr) (hg : wr.grownBy w' row) (hr : ∀ g, row = some g → w.heap.size + 1 ≤ g) : Below w.heap.size w w' :=
  h.trans ⟨hg.os, hg.tape, hg.output, hg.size, fun k hk => hg.block k (by have := h.size; omega) (fun e => by have := hr k e.symm; omega)⟩
theorem BState.app5 {w wr w' : World} {sv : List Value} {FS : List PFile} {LS : List FLoc} {RS : List Nat} {a b c d : Nat} {v5 v6 v7 v8 v : Value} (h : BState w wr sv FS LS RS a b c d v5 v6 v7 v8) (hg : wr.grownBy w' v5.ownBlock) (ho : w'.ownsRow (w.heap.size + 1) 9 1 v (a + 1) (pathsTo FS (a + 1))) : BState w w' sv FS LS RS (a + 1) b c d v v6 v7 v8 := by
  have ht := own_rowType h.p
  refine ⟨h.s.grown hg (holds_type h.s ht (by decide)), ho, h.di.kept hg (own_type h.di ht (by decide)), h.by_.kept hg (own_type h.by_ ht (by decide)), h.fi.kept hg (own_type h.fi ht (by decide)), fun i r f hr hf => ?_, h.inc, bl_grown h.bl hg (fun g he => (h.p.lt g he).1)⟩
  obtain ⟨x, y, z⟩ := h.rs i r f hr hf
  exact ⟨x, by have := hg.size; omega, z.grown hg (holds_type z ht (by decide))⟩
theorem BState.app6 {w wr w' : World} {sv : List Value} {FS : List PFile} {LS : List FLoc} {RS : List Nat} {a b c d : Nat} {v5 v6 v7 v8 v : Value} (h : BState w wr sv FS LS RS a b c d v5 v6 v7 v8) (hg : wr.grownBy w' v6.ownBlock) (ho : w'.ownsRow (w.heap.size + 1) 4 1 v (b + 1) (dirsTo FS (b + 1))) : BState w w' sv FS LS RS a (b + 1) c d v5 v v7 v8 := by
  have ht := own_rowType h.di
  refine ⟨h.s.grown hg (holds_type h.s ht (by decide)), h.p.kept hg (own_type h.p ht (by decide)), ho, h.by_.kept hg (own_type h.by_ ht (by decide)), h.fi.kept hg (own_type h.fi ht (by decide)), fun i r f hr hf => ?_, h.inc, bl_grown h.bl hg (fun g he => (h.di.lt g he).1)⟩
  obtain ⟨x, y, z⟩ := h.rs i r f hr hf
  exact ⟨x, by have := hg.size; omega, z.grown hg (holds_type z ht (by decide))⟩
theorem BState.app7 {w wr w' : World} {sv : List Value} {FS : List PFile} {LS : List FLoc} {RS : List Nat} {a b c d : Nat} {v5 v6 v7 v8 v : Value} (h : BState w wr sv FS LS RS a b c d v5 v6 v7 v8) (hg : wr.grownBy w' v7.ownBlock) (ho : w'.ownsRow (w.heap.size + 1) 32 1 v (c + 1) (bytesTo FS LS (c + 1))) : BState w w' sv FS LS RS a b (c + 1) d v5 v6 v v8 := by
  have ht := own_rowType h.by_
  refine ⟨h.s.grown hg (holds_type h.s ht (by decide)), h.p.kept hg (own_type h.p ht (by decide)), h.di.kept hg (own_type h.di ht (by decide)), ho, h.fi.kept hg (own_type h.fi ht (by decide)), fun i r f hr hf => ?_, h.inc, bl_grown h.bl hg (fun g he => (h.by_.lt g he).1)⟩
  obtain ⟨x, y, z⟩ := h.rs i r f hr hf
  exact ⟨x, by have := hg.size; omega, z.grown hg (holds_type z ht (by decide))⟩
theorem BState.app8 {w wr w' : World} {sv : List Value} {FS : List PFile} {LS : List FLoc} {RS : List Nat} {a b c d : Nat} {v5 v6 v7 v8 v : Value} (h : BState w wr sv FS LS RS a b c d v5 v6 v7 v8) (hg : wr.grownBy w' v8.ownBlock) (ho : w'.ownsRow (w.heap.size + 1) 44 3 v (d + 1) (filesTo FS RS (d + 1))) : BState w w' sv FS LS RS a b c (d + 1) v5 v6 v7 v := by
  have ht := own_rowType h.fi
  refine ⟨h.s.grown hg (holds_type h.s ht (by decide)), h.p.kept hg (own_type h.p ht (by decide)), h.di.kept hg (own_type h.di ht (by decide)), h.by_.kept hg (own_type h.by_ ht (by decide)), ho, fun i r f hr hf => ?_, h.inc, bl_grown h.bl hg (fun g he => (h.fi.lt g he).1)⟩
  obtain ⟨x, y, z⟩ := h.rs i r f hr hf
  exact ⟨x, by have := hg.size; omega, z.grown hg (holds_type z ht (by decide))⟩
/-- One more roomy copy. -/
theorem BState.room {w wr w' : World} {sv : List Value} {FS : List PFile} {LS : List FLoc} {RS : List Nat} {a b c d : Nat} {v5 v6 v7 v8 : Value} (h : BState w wr sv FS LS RS a b c d v5 v6 v7 v8) (hb : Below wr.heap.size wr w') (hd : d = RS.length) {f : PFile} (hf : FS[RS.length]? = some f) (hh : Holds w' wr.heap.size 5 (bytesRow (f.bytes ++ [71, 72]))) : BState w w' sv FS LS (RS ++ [wr.heap.size]) a b c d v5 v6 v7 v8 := by
  have m := h.move hb
  refine ⟨m.s, m.p, m.di, m.by_, by rw [filesTo_snoc _ (by omega)]; exact m.fi, fun i r g hr hg => ?_, fun i j r q hij hr hq => ?_, m.bl⟩
  · rw [List.getElem?_append] at hr
    split at hr
    · exact m.rs i r g hr hg
    · rename_i hi
      have hi2 : i - RS.length = 0 := by
        have := (List.getElem?_eq_some_iff.1 hr).1
        simp at this; omega
      have : i = RS.length := by omega
      subst this
      have e : wr.heap.size = r := by simpa using hr
      subst e
      rw [hf] at hg
      obtain rfl := Option.some.inj hg
      exact ⟨by have := h.s.lt; omega, hh.lt, hh⟩
  · rw [List.getElem?_append] at hr hq
    split at hr
    · split at hq
      · exact h.inc i j r q hij hr hq
      · rename_i hi hj
        have hj2 : j - RS.length = 0 := by
          have := (List.getElem?_eq_some_iff.1 hq).1
          simp at this; omega
        rw [hj2] at hq
        have e : wr.heap.size = q := by simpa using hq
        subst e
        obtain ⟨g, hg⟩ : ∃ g, FS[i]? = some g := ⟨_, List.getElem?_eq_getElem (by have := (List.getElem?_eq_some_iff.1 hf).1; omega)⟩
        exact (h.rs i r g hr hg).2.1
    · rename_i hi
      split at hq
      · omega
      · have h1 := (List.getElem?_eq_some_iff.1 hr).1
        have h2 := (List.getElem?_eq_some_iff.1 hq).1
        simp at h1 h2; omega
end Go.Proofs.YtkmbleboceedbaaGreatDoor

/- tinyoslaw: boot: what is behind the first loop. -/
namespace Go.Proofs.YtkmbleboceedbaaGreatDoor
open Go.RowKit
set_option linter.unusedVariables false
set_option linter.unusedSimpArgs false

theorem own_slice {w : World} {base : Nat} {e : TypeId} {size n : Nat} {v : Value} {xs : List Value} (h : w.ownsRow base e size v n xs) : ∃ a b c, v = .slice a n c ∧ (0 < n → a = some ⟨b, 0, none⟩ ∧ base ≤ b ∧ b < w.heap.size ∧ ∀ j u, xs[j]? = some u → w.cell? ⟨b, j, none⟩ = some u) := by
  rcases h.2 with ⟨hv, h0⟩ | ⟨g, cap, cur, hv, hb, hg, _⟩
  · subst h0
    exact ⟨none, 0, 0, hv, fun h => by omega⟩
  · refine ⟨some ⟨g, 0, none⟩, g, cap, hv, fun h0 => ⟨rfl, hb, (Array.getElem?_eq_some_iff.1 hg).1, fun j u hu => ?_⟩⟩
    have := h.cells (g := g) (by rw [hv]; rfl) j u hu
    rwa [addr_add, Nat.zero_add] at this
theorem filesTo_get : ∀ (FS : List PFile) (RS : List Nat) (n i c r : Nat) (f : PFile) (v : Value), i < n → FS[i]? = some f → RS[i]? = some r → c < 3 → (fileRow f r)[c]? = some v → (filesTo FS RS n)[i * 3 + c]? = some v
  | FS, RS, 0, i, c, r, f, v, h, _, _, _, _ => by omega
  | [], RS, n + 1, i, c, r, f, v, _, h, _, _, _ => by simp at h
  | a :: FS, [], n + 1, i, c, r, f, v, _, _, h, _, _ => by simp at h
  | a :: FS, b :: RS, n + 1, 0, c, r, f, v, _, hf, hr, hc, hv => by
    have e1 : a = f := by simpa using hf
    have e2 : b = r := by simpa using hr
    subst e1 e2
    show (fileRow a b ++ filesTo FS RS n)[0 * 3 + c]? = _
    rw [List.getElem?_append_left (by show 0 * 3 + c < 3; omega)]
    simpa using hv
  | a :: FS, b :: RS, n + 1, i + 1, c, r, f, v, h, hf, hr, hc, hv => by
    show (fileRow a b ++ filesTo FS RS n)[(i + 1) * 3 + c]? = _
    rw [List.getElem?_append_right (by show 3 ≤ (i + 1) * 3 + c; omega), show (i + 1) * 3 + c - (fileRow a b).length = i * 3 + c from by show (i + 1) * 3 + c - 3 = _; omega]
    exact filesTo_get FS RS n i c r f v (by omega) (by simpa using hf) (by simpa using hr) hc hv
theorem pathsTo_get {FS : List PFile} {i : Nat} {f : PFile} (h : FS[i]? = some f) : (pathsTo FS FS.length)[i]? = some (.string f.path) := by
  unfold pathsTo; rw [List.take_length, List.getElem?_map, h]; rfl
theorem dirsTo_get {FS : List PFile} {i : Nat} {f : PFile} (h : FS[i]? = some f) : (dirsTo FS FS.length)[i]? = some (.bool f.dir) := by
  unfold dirsTo; rw [List.take_length, List.getElem?_map, h]; rfl
theorem bytesTo_get {FS : List PFile} {LS : List FLoc} {i : Nat} {f : PFile} {l : FLoc} (h : FS[i]? = some f) (k : LS[i]? = some l) : (bytesTo FS LS FS.length)[i]? = some (.slice l.a f.bytes.length l.c) := by
  unfold bytesTo
  rw [List.getElem?_map, List.getElem?_take, if_pos (List.getElem?_eq_some_iff.1 h).1, zip_get h k]; rfl
theorem room_view {w : World} {g : Nat} {B : List Int} (h : Holds w g 5 (bytesRow (B ++ [71, 72]))) : BView w g 0 B := fun j hj => by
  rw [Nat.zero_add]
  refine h.cell ?_
  rw [bytesRow_get _ _ (by simp; omega)]
  simp [List.getD, List.getElem?_append_left hj]
def roomLocs (FS : List PFile) (RS : List Nat) : List FLoc := (FS.zip RS).map (fun x => ⟨some ⟨x.2, 0, none⟩, x.2, 0, x.1.bytes.length + 2⟩)
theorem roomLocs_get {FS : List PFile} {RS : List Nat} {i : Nat} {f : PFile} {l : FLoc} (h : FS[i]? = some f) (k : (roomLocs FS RS)[i]? = some l) : ∃ r, RS[i]? = some r ∧ l = ⟨some ⟨r, 0, none⟩, r, 0, f.bytes.length + 2⟩ := by
  unfold roomLocs at k
  rw [List.getElem?_map] at k
  cases hz : (FS.zip RS)[i]? with
  | none => rw [hz] at k; cases k
  | some x =>
    rw [hz] at k
    obtain ⟨h1, h2⟩ := List.getElem?_zip_eq_some.1 hz
    rw [h] at h1
    obtain rfl := Option.some.inj h1
    exact ⟨x.2, h2, (Option.some.inj k).symm⟩
/-- The files as they are handed to the program's Boot. -/
theorem BState.handed {w wr : World} {sv : List Value} {FS : List PFile} {LS : List FLoc} {RS : List Nat} {v5 v6 v7 : Value} {a : Option Addr} {b c : Nat} (h : BState w wr sv FS LS RS FS.length FS.length FS.length FS.length v5 v6 v7 (.slice a FS.length c)) (hr : RS.length = FS.length)
    (hb : 0 < FS.length → a = some ⟨b, 0, none⟩ ∧ ∀ j u, (filesTo FS RS FS.length)[j]? = some u → wr.cell? ⟨b, j, none⟩ = some u) : FilesInL wr b 0 FS (roomLocs FS RS) := by
  refine ⟨by simp [roomLocs, List.length_zip, hr], fun i f l hf hl => ?_⟩
  have hi := (List.getElem?_eq_some_iff.1 hf).1
  obtain ⟨r, hri, rfl⟩ := roomLocs_get hf hl
  have hc : ∀ c v, c < 3 → (fileRow f r)[c]? = some v → wr.cell? ⟨b, 0 + i * 3 + c, none⟩ = some v := fun c v hc hv => by
    rw [Nat.zero_add]; exact (hb (by omega)).2 _ _ (filesTo_get FS RS FS.length i c r f v hi hf hri hc hv)
  obtain ⟨x, y, z⟩ := h.rs i r f hri hf
  exact ⟨hc 0 _ (by omega) rfl, hc 1 _ (by omega) rfl, hc 2 _ (by omega) rfl, fun _ => ⟨rfl, y⟩, room_view z⟩
/-- The files as they are handed to the document's Boot. -/
theorem filesAt_of {w wr : World} {FS : List PFile} {LS : List FLoc} {fb foff pb db bb : Nat} (hf : FilesInL w fb foff FS LS) (hbl : Below w.heap.size w wr)
    (h5 : ∀ (i : Nat) (f : PFile), FS[i]? = some f → wr.cell? ⟨pb, i, none⟩ = some (.string f.path)) (h6 : ∀ (i : Nat) (f : PFile), FS[i]? = some f → wr.cell? ⟨db, i, none⟩ = some (.bool f.dir))
    (h7 : ∀ (i : Nat) (f : PFile) (l : FLoc), FS[i]? = some f → LS[i]? = some l → wr.cell? ⟨bb, i, none⟩ = some (.slice l.a f.bytes.length l.c)) : FilesAt wr pb 0 db 0 bb 0 FS := by
  refine ⟨fun i f h => by rw [Nat.zero_add]; exact h5 i f h, fun i f h => by rw [Nat.zero_add]; exact h6 i f h, fun i f h => ?_⟩
  obtain ⟨l, hl⟩ : ∃ l, LS[i]? = some l := ⟨_, List.getElem?_eq_getElem (by rw [hf.len]; exact (List.getElem?_eq_some_iff.1 h).1)⟩
  obtain ⟨_, _, _, hq, hv⟩ := hf.at_ i f l h hl
  refine ⟨l.a, l.q, l.o, l.c, by rw [Nat.zero_add]; exact h7 i f l h hl, fun h0 => ⟨(hq h0).1, by have := (hq h0).2; have := hbl.size; omega⟩, fun j hj => ?_⟩
  rw [hbl.cell (p := ⟨l.q, l.o + j, none⟩) (hq (by omega)).2]
  exact hv j hj
/-- Only the first j roomy copies may have turned. -/
structure OnlyRoom (w w' : World) (RS : List Nat) (j : Nat) : Prop where
  os : w'.os = w.os
  tape : w'.tape = w.tape
  output : w'.output = w.output
  size : w.heap.size ≤ w'.heap.size
  block : ∀ k, k < w.heap.size → (∀ (i r : Nat), i < j → RS[i]? = some r → k ≠ r) → w'.heap[k]? = w.heap[k]?
theorem OnlyRoom.step {w w' w'' : World} {RS : List Nat} {j r : Nat} (h : OnlyRoom w w' RS j) (hr : RS[j]? = some r) (hg : w'.grownBy w'' (some r)) : OnlyRoom w w'' RS (j + 1) :=
  ⟨hg.os.trans h.os, hg.tape.trans h.tape, hg.output.trans h.output, Nat.le_trans h.size hg.size, fun k hk hne => (hg.block k (by have := h.size; omega) (by simp; exact hne j r (by omega) hr)).trans (h.block k hk (fun i q hi hq => hne i q (by omega) hq))⟩
theorem OnlyRoom.holds {w w' : World} {RS : List Nat} {j b : Nat} {t : TypeId} {vs : List Value} (h : OnlyRoom w w' RS j) (hh : Holds w b t vs) (hne : ∀ (i r : Nat), i < j → RS[i]? = some r → b ≠ r) : Holds w' b t vs := by
  have hl := hh.lt
  unfold Holds at hh ⊢
  rw [h.block b hl hne]; exact hh
theorem OnlyRoom.below {w w' : World} {RS : List Nat} {j B : Nat} (h : OnlyRoom w w' RS j) (hB : B ≤ w.heap.size) (hr : ∀ (i r : Nat), RS[i]? = some r → B ≤ r) : Below B w w' :=
  ⟨h.os, h.tape, h.output, h.size, fun k hk => h.block k (by omega) (fun i r _ hi e => by have := hr i r hi; omega)⟩
theorem OnlyRoom.cell {w w' : World} {RS : List Nat} {j : Nat} {b o : Nat} {v : Value} (h : OnlyRoom w w' RS j) (hc : w.cell? ⟨b, o, none⟩ = some v) (hne : ∀ (i r : Nat), i < j → RS[i]? = some r → b ≠ r) : w'.cell? ⟨b, o, none⟩ = some v := by
  have hl := World.block_lt_of_cell? w _ hc
  rw [World.cell?_of_block (a := ⟨b, o, none⟩) (h.block b hl hne)]; exact hc
end Go.Proofs.YtkmbleboceedbaaGreatDoor
