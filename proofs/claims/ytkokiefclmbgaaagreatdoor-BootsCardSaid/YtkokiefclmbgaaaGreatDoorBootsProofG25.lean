import Derived.Test.YtkokiefclmbgaaaGreatDoorBootsProofG24
/- The program's Mkdir, behind what Follow answers. -/
namespace Go.Proofs.YtkokiefclmbgaaaGreatDoor
open Go Go.RowKit Go.Maps
set_option linter.unusedVariables false
set_option linter.unusedSimpArgs false

def errnoRet (c : Int) : Ending := .returned (.iface 45 (.int .i64 c))
def MkdirEnd (tb ab m k : Nat) (n li used lb : Int) (f : ByteArray → Option Nat) (name : ByteArray) (w : World) (e : Ending) (w' : World) : Prop :=
  (∃ c, f name = some c) ∧ e = errnoRet 10 ∧ Below w.heap.size w w' ∨ f name = none ∧ li ≤ n ∧ e = errnoRet 12 ∧ Below w.heap.size w w' ∨
    f name = none ∧ n < li ∧ e = .returned .nilIface ∧ ∃ nb nm, w.heap.size ≤ nb ∧ w.heap.size ≤ nm ∧ nm < w'.heap.size ∧ (∃ q, Holds w' nb 230 [.string q, .bool true, .slice none 0 0, .map (some nm), .int .i64 0]) ∧ DictAt w' nm 0 (fun _ => none) ∧ PutPost tb m k ab n li used lb f name nb w w'
theorem step_call0 {P : Program} {ops : Array Oper} {o : Oper} {a : Act} {w : World} {K : Act → World → Prop} {Q : Exit → Act → World → Prop} {E : Prop} (hgd : o.guard = none) (f : Nat)
    (ho : o.op = .call { callee := .value (.func f), args := #[], argTypes := #[] })
    (he : ∀ args w, (callFunc f args).run P w = .ok (.enter f args) w) (post : Ending → World → Prop) (r : Value) (hp : ∀ e w', post e w' → e = .returned r) (hc : Calls P f #[] w post) (d : Option Tmp) (hd : o.dst = d)
    (h : ∀ w', post (.returned r) w' → K (a.put d r) w') :
    if Region.wanted o (yielded ops a.tmps) = true then Oper.wp P o a w K Q else E := by
  have hw : Region.wanted o (yielded ops a.tmps) = true := by simp [Region.wanted, hgd]
  rw [if_pos hw]
  subst hd
  unfold Oper.wp
  simp [execOp, ho, resolve, invoke, Result.andThen, go_sem, he]
  refine hc.mono ?_
  intro e w' hpe
  obtain rfl := hp e w' hpe
  have := h w' hpe
  simpa [go_sem] using this
theorem newDirEnter : ∀ args w, (callFunc 60 args).run Tryz.prog w = .ok (.enter 60 args) w := enters_of Tryz.func60 (by kernel_rfl) rfl
theorem putEnter : ∀ args w, (callFunc 94 args).run Tryz.prog w = .ok (.enter 94 args) w := enters_of Tryz.func94 (by kernel_rfl) rfl

set_option maxRecDepth 100000 in
set_option maxHeartbeats 1000000 in
theorem fsMkdir_at (tb ab b m k : Nat) (n li used lb : Int) (f : ByteArray → Option Nat) (name s : ByteArray) (dvs : List Value) (w : World) (ht : Holds w tb 163 [.pointer (some ⟨ab, 0, none⟩), .int .i64 n, .int .i64 li, .int .i64 used, .int .i64 lb]) (hn : 0 ≤ n ∧ n ≤ 1000000) (hli : 0 ≤ li ∧ li ≤ 1000000) (hu : 0 ≤ used ∧ used ≤ lb) (hlb : lb ≤ 1000000) (hps : s.size ≤ 100000) (hdn : Holds w b 230 dvs) (hd2 : dvs[3]? = some (.map (some m))) (hd : DictAt w m k f) (hk : k ≤ 1000000) (hs : name.size ≤ 100000)
    (HF : Calls Tryz.prog 62 #[.pointer (some ⟨tb, 0, none⟩), .string s] w fun e w1 => e = placeAt b name s ∧ Below w.heap.size w w1) :
    Calls Tryz.prog 61 #[.pointer (some ⟨tb, 0, none⟩), .string s] w (MkdirEnd tb ab m k n li used lb f name w) := by
  have HFW := hide HF
  have HT := hide ht
  have HDN := hide hdn
  have HD := hide hd
  have HD2 := hide hd2
  clear HF ht hdn hd hd2
  go_enter Tryz.func61, Tryz.ntmps61
  go_wp2_with fail
  refine (unhide HFW).mono ?_
  rintro e w1 ⟨rfl, hb1⟩
  obtain ⟨W2, hW2⟩ : ∃ W2, W2 = w1.alloc (Obj.cells #[.pointer (some ⟨b, 0, none⟩), .string name, .string s] 166) := ⟨_, rfl⟩
  have hb2 : Below w.heap.size w W2 := by rw [hW2]; exact hb1.alloc hb1.size _
  have hp2 : Holds W2 w1.heap.size 166 [.pointer (some ⟨b, 0, none⟩), .string name, .string s] := by rw [hW2]; exact Holds.new w1 166 _
  have HW2 := hide hW2
  have HB2 := hide hb2
  have HP2 := hide hp2
  have hl1 := hb1.size
  obtain ⟨PB, hPB⟩ : ∃ PB, PB = w1.heap.size := ⟨_, rfl⟩
  clear hW2 hb1 HFW hb2 hp2
  unfold placeAt
  go_upto_region 2 with fail
  rw [← unhide HW2]
  rw [← hPB] at HP2 hl1 ⊢
  clear HW2 hPB
  have c0 : W2.cell? ⟨PB, 0, none⟩ = some (.pointer (some ⟨b, 0, none⟩)) := (unhide HP2).cell rfl
  have c1 : W2.cell? ⟨PB, 1, none⟩ = some (.string name) := (unhide HP2).cell rfl
  have c2 : W2.cell? ⟨PB, 2, none⟩ = some (.string s) := (unhide HP2).cell rfl
  have hdn2 : Holds W2 b 230 dvs := (unhide HDN).below (unhide HB2) (unhide HDN).lt
  have hd2 : DictAt W2 m k f := (unhide HD).kept (row := none) ⟨(unhide HB2).os, (unhide HB2).tape, (unhide HB2).output, (unhide HB2).size, fun k hk _ => (unhide HB2).block k hk⟩ (by simp)
  have HND := hide (fsNode_any b m k name s f W2 (by unfold maxLen; omega) (hdn2.cell (unhide HD2)) hd2)
  clear hdn2 hd2
  go_wp2_with fail
  refine (unhide HND).mono ?_
  rintro e w3 ⟨rfl, hb3⟩
  have HB3 := hide ((unhide HB2).trans (hb3.mono (unhide HB2).size))
  have HP3 := hide ((unhide HP2).below hb3 (unhide HP2).lt)
  clear hb3 HND c0 c1 c2
  cases hfn : f name with
  | some c =>
    unfold nodePtr
    have HFN := hide hfn
    clear hfn
    go_wp2
    go_ret
    exact .inl ⟨⟨c, unhide HFN⟩, rfl, unhide HB3⟩
  | none =>
    unfold nodePtr
    have HFN := hide hfn
    clear hfn
    have HFL := hide (fsIsFull_any tb ab n li used lb w3 ((unhide HT).below (unhide HB3) (unhide HT).lt) hn hli hu hlb)
    go_wp2_with fail
    refine (unhide HFL).mono ?_
    rintro e w4 ⟨rfl, _, hb4⟩
    have HB4 := hide ((unhide HB3).trans (hb4.mono (unhide HB3).size))
    have HP4 := hide ((unhide HP3).below hb4 (unhide HP3).lt)
    clear hb4 HFL
    by_cases hfull : li ≤ n
    · have HFU := hide hfull
      rw [decide_eq_true hfull]
      clear hfull
      go_wp2
      go_ret
      exact .inr (.inl ⟨unhide HFN, unhide HFU, rfl, unhide HB4⟩)
    · have HFU := hide (show n < li by omega)
      rw [decide_eq_false hfull]
      clear hfull
      go_upto_region 8 with fail
      have hS4 : w4.cell? ⟨PB, 0, none⟩ = some (.pointer (some ⟨b, 0, none⟩)) ∧ w4.cell? ⟨PB, 1, none⟩ = some (.string name) ∧ w4.cell? ⟨PB, 2, none⟩ = some (.string s) := ⟨(unhide HP4).cell rfl, (unhide HP4).cell rfl, (unhide HP4).cell rfl⟩
      have R := hide (show ∀ w' : World, (w'.cell? ⟨PB, 0, none⟩ = some (.pointer (some ⟨b, 0, none⟩)) ∧ w'.cell? ⟨PB, 1, none⟩ = some (.string name) ∧ w'.cell? ⟨PB, 2, none⟩ = some (.string s)) → (Instr.loadAt 166 (.pointer (some ⟨PB, 0, none⟩))).run Tryz.prog w' = .ok (.agg #[.pointer (some ⟨b, 0, none⟩), .string name, .string s]) w' from fun w' h => by
        have c := h.1
        have d := h.2.1
        have d' := h.2.2
        clear h hS4
        go_simp)
      have HND := hide (show Calls Tryz.prog 60 #[] w4.drew fun e w' => e = .returned (.pointer (some ⟨w4.heap.size + 1, 0, none⟩)) ∧ Holds w' (w4.heap.size + 1) 230 [.string ⟨#[]⟩, .bool true, .slice none 0 0, .map (some w4.heap.size), .int .i64 0] ∧ DictAt w' w4.heap.size 0 (fun _ => none) ∧ Below w4.heap.size w4 w' from (fsNewDir_any w4.drew).mono (fun e w' h => ⟨h.1, h.2.1, h.2.2.1, ⟨h.2.2.2.os, h.2.2.2.tape, h.2.2.2.output, h.2.2.2.size, h.2.2.2.block⟩⟩))
      have HS4 := hide hS4
      have hl4 : PB < w4.heap.size := (unhide HP4).lt
      clear hS4
      refine act_gen ?_
      intro A hA
      have e0 : A.eval (.tmp 0) = .pointer (some ⟨tb, 0, none⟩) := by rw [hA]; rfl
      have e5 : A.eval (.tmp 5) = .pointer (some ⟨PB, 0, none⟩) := by rw [hA]; rfl
      have esz : A.tmps.size = 27 := by rw [hA]; rfl
      have HA := hide hA
      clear hA
      refine wp_region_held_drew (S := fun w' => w'.cell? ⟨PB, 0, none⟩ = some (.pointer (some ⟨b, 0, none⟩)) ∧ w'.cell? ⟨PB, 1, none⟩ = some (.string name) ∧ w'.cell? ⟨PB, 2, none⟩ = some (.string s)) (by kernel_rfl) (unhide HS4) (fun hS => ?_)
      refine takeH (i := 0) (some 23) rfl rfl (by kernel_rfl) (by kernel_rfl) (by kernel_rfl) (fun _ _ _ h => h) (yields_move rfl _ rfl (.pointer (some ⟨tb, 0, none⟩)) (by simp [put_eval, put_size, esz, e0, e5])) hS ?_
      refine takeH (i := 1) (some 24) rfl rfl (by kernel_rfl) (by kernel_rfl) (by kernel_rfl) (fun _ _ _ h => h) (yields_load1 rfl _ _ rfl ⟨PB, 0, none⟩ (by simp [put_eval, put_size, esz, e0, e5]) (.agg #[.pointer (some ⟨b, 0, none⟩), .string name, .string s]) (unhide R)) hS ?_
      refine wpAnyH_ready (rs := [2]) (by kernel_rfl) (by simp) (AllReadyH.cons rfl (fun K hK => ?_) AllReadyH.nil)
      refine step_call0 rfl 60 rfl newDirEnter _ (.pointer (some ⟨w4.heap.size + 1, 0, none⟩)) (fun e w' h => h.1) (unhide HND) (some 25) rfl ?_
      rintro w5 ⟨_, hn5, hm5, hb5⟩
      have hB5 := (unhide HB4).trans (hb5.mono (unhide HB4).size)
      refine hK.out _ _ ⟨by rw [hb5.cell (p := ⟨PB, 0, none⟩) hl4]; exact (unhide HS4).1, by rw [hb5.cell (p := ⟨PB, 1, none⟩) hl4]; exact (unhide HS4).2.1, by rw [hb5.cell (p := ⟨PB, 2, none⟩) hl4]; exact (unhide HS4).2.2⟩ (fun _ => ?_)
      clear hK K
      have hd5 : DictAt w5 m k f := (unhide HD).kept (row := none) ⟨hB5.os, hB5.tape, hB5.output, hB5.size, fun k hk _ => hB5.block k hk⟩ (by simp)
      have hdn5 : Holds w5 b 230 dvs := (unhide HDN).below hB5 (unhide HDN).lt
      have ht5 := (unhide HT).below hB5 (unhide HT).lt
      have HPU := hide (fsPut_any tb ab b m k (w4.heap.size + 1) n li used lb f name s _ _ w5 ht5 hn hd5 hk 230 dvs hdn5 (unhide HD2) (holds_apart hdn5 ht5 (by decide)) hn5 (by have := (unhide HDN).lt; have := (unhide HB4).size; omega) hs hps)
      have g23 : (((A.put (some 23) (.pointer (some ⟨tb, 0, none⟩))).put (some 24) (.agg #[.pointer (some ⟨b, 0, none⟩), .string name, .string s])).put (some 25) (.pointer (some ⟨w4.heap.size + 1, 0, none⟩))).eval (.tmp 23) = .pointer (some ⟨tb, 0, none⟩) := by simp [put_eval, put_size, esz, e0, e5]
      have g24 : (((A.put (some 23) (.pointer (some ⟨tb, 0, none⟩))).put (some 24) (.agg #[.pointer (some ⟨b, 0, none⟩), .string name, .string s])).put (some 25) (.pointer (some ⟨w4.heap.size + 1, 0, none⟩))).eval (.tmp 24) = .agg #[.pointer (some ⟨b, 0, none⟩), .string name, .string s] := by simp [put_eval, put_size, esz, e0, e5]
      have g25 : (((A.put (some 23) (.pointer (some ⟨tb, 0, none⟩))).put (some 24) (.agg #[.pointer (some ⟨b, 0, none⟩), .string name, .string s])).put (some 25) (.pointer (some ⟨w4.heap.size + 1, 0, none⟩))).eval (.tmp 25) = .pointer (some ⟨w4.heap.size + 1, 0, none⟩) := by simp [put_eval, put_size, esz, e0, e5]
      refine wpAnyH_ready (rs := [3]) (by kernel_rfl) (by simp) (AllReadyH.cons rfl (fun K hK => ?_) AllReadyH.nil)
      refine step_call3 rfl 94 23 24 25 _ _ _ rfl (.pointer (some ⟨tb, 0, none⟩)) (.agg #[.pointer (some ⟨b, 0, none⟩), .string name, .string s]) (.pointer (some ⟨w4.heap.size + 1, 0, none⟩)) g23 g24 g25 putEnter _ (.tuple #[]) (fun e w' h => h.1) (unhide HPU) (some 26) rfl ?_
      rintro w6 ⟨_, hp6⟩
      have hml : m < w.heap.size := (unhide HD).lt
      have htl : tb < w.heap.size := (unhide HT).lt
      have hsz4 := (unhide HB4).size
      have hP5 : Holds w5 PB 166 [.pointer (some ⟨b, 0, none⟩), .string name, .string s] := (unhide HP4).below hb5 hl4
      have hP6 : Holds w6 PB 166 [.pointer (some ⟨b, 0, none⟩), .string name, .string s] := holds_block hP5 (hp6.2.2.2.block PB hP5.lt (by simp; omega))
      refine hK.out _ _ ⟨hP6.cell rfl, hP6.cell rfl, hP6.cell rfl⟩ (fun _ => ?_)
      clear hK K
      have HP := hide (show MkdirEnd tb ab m k n li used lb f name w (.returned .nilIface) w6 from .inr (.inr ⟨unhide HFN, unhide HFU, rfl, w4.heap.size + 1, w4.heap.size, by omega, by omega, by have := hm5.lt; have := hp6.2.2.2.size; omega, ⟨_, hp6.2.2.1⟩, hm5.block (hp6.2.2.2.block _ hm5.lt (by simp; omega)), hp6.1, hp6.2.1, FrameS.toK hB5 hp6.2.2.2 (by omega)⟩))
      refine wpAnyH_done (by kernel_rfl) ?_ _
      rw [unhide HA]
      simp only [Act.put, List.setIfInBounds_toArray, List.set_cons_zero, List.set_cons_succ]
      clear hP6 hP5 hp6 g23 g24 g25 HPU ht5 hdn5 hd5 hB5 hb5 hm5 hn5 HA e0 e5 esz hS HND R
      go_wp2
      go_ret
      exact unhide HP
end Go.Proofs.YtkokiefclmbgaaaGreatDoor

/- The program's Mkdir: its contract. -/
namespace Go.Proofs.YtkokiefclmbgaaaGreatDoor
open Go Go.RowKit Go.Maps
set_option linter.unusedVariables false
set_option linter.unusedSimpArgs false

theorem names_size {s : ByteArray} {l : List ByteArray} (h : namesOf s = some l) : s.size ≤ 60 := by
  unfold namesOf at h
  split at h
  · cases h
  · omega
theorem walk_size {xs : List Ino} {s : ByteArray} (h : (walkOf xs s).e = 0) : s.size ≤ 60 := by
  cases hnm : namesOf s with
  | none => unfold walkOf at h; rw [hnm] at h; cases h
  | some l => exact names_size hnm
theorem names_all {s : ByteArray} {a : ByteArray} {r : List ByteArray} (heq : namesOf s = some (a :: r)) : ∀ m ∈ a :: r, nameOk m = true := by
  unfold namesOf at heq
  split at heq
  · cases heq
  · split at heq
    · cases heq
    · split at heq
      · rename_i ha
        rw [← Option.some.inj heq]
        exact List.all_eq_true.1 ha
      · cases heq
theorem walk_some {xs : List Ino} {s a : ByteArray} {r : List ByteArray} (heq : namesOf s = some (a :: r)) (h0 : (walkOf xs s).e = 0) : nameOk (walkOf xs s).name = true ∧ (walkOf xs s).n = childOf xs (walkOf xs s).dir (walkOf xs s).name ∧ ((walkOf xs s).dir = 1 ∨ ∃ y ∈ xs, y.id = (walkOf xs s).dir ∧ y.dir = true) := by
  unfold walkOf at h0 ⊢
  rw [heq] at h0 ⊢
  obtain ⟨x1, x2, x3⟩ := follow_new (a :: r) 1 (by simp) h0
  exact ⟨names_all heq _ x1, x2, x3⟩
theorem nameOk_size {s : ByteArray} (h : nameOk s = true) : s.size ≤ 14 := by
  unfold nameOk at h
  simp only [Bool.and_eq_true, decide_eq_true_eq] at h
  exact h.1.1.1.2
def IsMap (w : World) (m : Nat) : Prop := ∃ es clock, w.heap[m]? = some (.map es clock)
theorem DictAt.isMap {w : World} {m n : Nat} {f : ByteArray → Option Nat} (h : DictAt w m n f) : IsMap w m := by
  obtain ⟨D, ⟨es, clock, hb, _⟩, _⟩ := h
  exact ⟨es, clock, hb⟩
def MkdirPost (p : PK) (s : ByteArray) (B tb ab am : Nat) (used : Int) (NB MB : List Nat) (V : List Value) (w : World) (e : Ending) (w' : World) : Prop :=
  (p.mkdir s).1 ≠ 0 ∧ e = errnoRet (p.mkdir s).1 ∧ Below w.heap.size w w' ∨ (p.mkdir s).1 = 0 ∧ e = .returned .nilIface ∧ ∃ m nb nm, TreeRep w' B tb ab am p.li p.lb used (p.mkdir s).2.xs (NB ++ [nb]) (MB ++ [nm]) (V ++ [.slice none 0 0]) ∧ FrameK w w' tb m ∧ B ≤ m ∧ IsMap w m

set_option maxRecDepth 100000 in
set_option maxHeartbeats 1000000 in
theorem fsMkdir_err (tb : Nat) (s : ByteArray) (c : Int) (w : World) (HF : Calls Tryz.prog 62 #[.pointer (some ⟨tb, 0, none⟩), .string s] w fun e w1 => e = placeErr c ∧ Below w.heap.size w w1) :
    Calls Tryz.prog 61 #[.pointer (some ⟨tb, 0, none⟩), .string s] w fun e w' => e = errnoRet c ∧ Below w.heap.size w w' := by
  have HFW := hide HF
  clear HF
  go_enter Tryz.func61, Tryz.ntmps61
  go_wp2_with fail
  refine (unhide HFW).mono ?_
  rintro e w1 ⟨rfl, hb1⟩
  have HB := hide (show Below w.heap.size w (w1.alloc (Obj.cells #[.pointer none, .string ByteArray.empty, .string ByteArray.empty] 166)) from hb1.alloc hb1.size _)
  clear hb1 HFW
  unfold placeErr
  go_wp2
  go_ret
  exact ⟨rfl, unhide HB⟩

theorem fsMkdir_any (p : PK) (B tb ab am : Nat) (used : Int) (NB MB : List Nat) (V : List Value) (s : ByteArray) (mm : Int) (w : World) (hr : TreeRep w B tb ab am p.li p.lb used p.xs NB MB V) (hi : PInv p) (hlen : p.xs.length ≤ 900000) (hli : 0 ≤ p.li ∧ p.li ≤ 1000000) (hu : 0 ≤ used ∧ used ≤ p.lb) (hlb : p.lb ≤ 1000000) (hs : s.size ≤ maxLen) (hm : w.cell? ⟨2, 0, none⟩ = some (.int .i64 mm)) (hml : 2 < w.heap.size) (hB : B ≤ w.heap.size) :
    Calls Tryz.prog 61 #[.pointer (some ⟨tb, 0, none⟩), .string s] w (MkdirPost p s B tb ab am used NB MB V w) := by
  have hne : p.xs ≠ [] := by obtain ⟨x, hx, _⟩ := hi.root; intro e; rw [e] at hx; cases hx
  have hid : ∀ x ∈ p.xs, 1 ≤ x.id := fun x hx => (hi.ids x hx).1
  have hF := fsFollow_any B tb ab am p.li p.lb used p.xs NB MB V s mm w hr (fun _ => hne) hid hi.incr hs hm hml
  by_cases he : (walkOf p.xs s).e = 0
  · have hroot := hr.root hne
    obtain ⟨x0, hx0, hx01, hx0d⟩ := hroot
    have hx0l := (List.getElem?_eq_some_iff.1 hx0).1
    obtain ⟨b0, hb0⟩ : ∃ b0, NB[0]? = some b0 := ⟨_, List.getElem?_eq_getElem (by rw [hr.len.1]; exact hx0l)⟩
    cases hnm : namesOf s with
    | none => unfold walkOf at he; rw [hnm] at he; cases he
    | some l =>
      cases l with
      | nil =>
        have hw : walkOf p.xs s = ⟨0, ByteArray.empty, 1, 0⟩ := by unfold walkOf; rw [hnm]
        have hmk : (p.mkdir s).1 = 10 := by unfold PK.mkdir; rw [hw]; rfl
        refine (fsMkdir_at tb ab ab am 1 p.xs.length p.li used p.lb _ ByteArray.empty s _ w hr.tree ⟨by omega, by omega⟩ hli hu hlb (by have := names_size hnm; omega) hr.above rfl hr.amap (by decide) (by decide) (hF.mono fun e w1 h => ?_)).mono fun e w' h => ?_
        · obtain ⟨h1, h2⟩ := h
          refine ⟨?_, h1⟩
          rcases h2 with ⟨q, _⟩ | ⟨_, b, name, hpl, rfl⟩
          · exact absurd he q
          · rcases hpl with ⟨_, rfl, rfl⟩ | ⟨⟨a, r, q⟩, _⟩
            · rfl
            · rw [hnm] at q; cases q
        · rcases h with ⟨_, h2, h3⟩ | ⟨h1, _⟩ | ⟨h1, _⟩
          · exact .inl ⟨by rw [hmk]; decide, by rw [hmk]; exact h2, h3⟩
          · exact absurd h1 (by show ¬ (NB[0]? = none); rw [hb0]; simp)
          · exact absurd h1 (by show ¬ (NB[0]? = none); rw [hb0]; simp)
      | cons a r =>
        obtain ⟨hok, hn, hdir⟩ := walk_some (xs := p.xs) hnm he
        obtain ⟨i, x, hx, hxi, hxd⟩ : ∃ (i : Nat) (x : Ino), p.xs[i]? = some x ∧ x.id = (walkOf p.xs s).dir ∧ x.dir = true := by
          rcases hdir with q | ⟨y, hy, q1, q2⟩
          · exact ⟨0, x0, hx0, by rw [q]; exact hx01, hx0d⟩
          · obtain ⟨j, hj, hjy⟩ := List.mem_iff_getElem.1 hy
            exact ⟨j, y, by rw [List.getElem?_eq_getElem hj, hjy], q1, q2⟩
        obtain ⟨hil, hxe⟩ := List.getElem?_eq_some_iff.1 hx
        obtain ⟨b, hb⟩ : ∃ b, NB[i]? = some b := ⟨_, List.getElem?_eq_getElem (by rw [hr.len.1]; exact hil)⟩
        obtain ⟨m, hmm⟩ : ∃ m, MB[i]? = some m := ⟨_, List.getElem?_eq_getElem (by rw [hr.len.2]; exact hil)⟩
        obtain ⟨qn, v, mv, hnode, hkids, _⟩ := hr.node i x b m hx hb hmm
        obtain ⟨hmv, hdict⟩ := hkids hxd
        subst hmv
        obtain ⟨NA, hNA⟩ : ∃ NA, NA = (walkOf p.xs s).name := ⟨_, rfl⟩
        have hsz := nameOk_size hok
        rw [← hNA] at hok hn hsz
        rw [← hxi] at hn
        refine (fsMkdir_at tb ab b m p.xs.length p.xs.length p.li used p.lb _ NA s _ w hr.tree ⟨by omega, by omega⟩ hli hu hlb (by have := names_size hnm; omega) hnode rfl hdict (by omega) (by omega) (hF.mono fun e w1 h => ?_)).mono fun e w' h => ?_
        · obtain ⟨h1, h2⟩ := h
          refine ⟨?_, h1⟩
          rcases h2 with ⟨q, _⟩ | ⟨_, b', name', hpl, rfl⟩
          · exact absurd he q
          · rcases hpl with ⟨q, _⟩ | ⟨_, ⟨j, y, hy, hyi, hyb⟩, _, rfl⟩
            · rw [hnm] at q; cases q
            · have hij : i = j := by
                obtain ⟨hjl, hye⟩ := List.getElem?_eq_some_iff.1 hy
                have hpw := List.pairwise_iff_getElem.1 hi.incr
                rcases Nat.lt_trichotomy i j with q | q | q
                · have := hpw i j hil hjl q; rw [hxe, hye] at this; omega
                · exact q
                · have := hpw j i hjl hil q; rw [hxe, hye] at this; omega
              subst hij
              rw [hb] at hyb
              obtain rfl := Option.some.inj hyb
              rw [hNA]
        · rcases h with ⟨⟨c, h1⟩, h2, h3⟩ | ⟨h1, h2, h3, h4⟩ | ⟨h1, h2, h3, nb, nm, y1, y2, y3, y4, y5, y6, y7, y8⟩
          · have hn0 : (walkOf p.xs s).n ≠ 0 := by
              rw [hn]; intro q
              rw [kid_none hid q] at h1; cases h1
            have hmk : (p.mkdir s).1 = 10 := by unfold PK.mkdir; rw [if_neg (by simpa using he), if_pos hn0]
            exact .inl ⟨by rw [hmk]; decide, by rw [hmk]; exact h2, h3⟩
          · have hn0 : (walkOf p.xs s).n = 0 := by
              rw [hn]
              by_cases q : childOf p.xs x.id NA = 0
              · exact q
              · obtain ⟨_, _, b2, _, _, _, q2⟩ := kid_some (NB := NB) hr.len.1 q
                rw [h1] at q2; cases q2
            have hmk : (p.mkdir s).1 = 12 := by unfold PK.mkdir; rw [if_neg (by simpa using he), if_neg (by simpa using hn0), if_pos h2]
            exact .inl ⟨by rw [hmk]; decide, by rw [hmk]; exact h3, h4⟩
          · have hn0 : (walkOf p.xs s).n = 0 := by
              rw [hn]
              by_cases q : childOf p.xs x.id NA = 0
              · exact q
              · obtain ⟨_, _, b2, _, _, _, q2⟩ := kid_some (NB := NB) hr.len.1 q
                rw [h1] at q2; cases q2
            have hmk : p.mkdir s = (0, p.add x.id NA true) := by unfold PK.mkdir; rw [if_neg (by simpa using he), if_neg (by simpa using hn0), if_neg (by omega), hxi, hNA]
            refine .inr ⟨by rw [hmk], h3, m, nb, nm, ?_, y8, (hr.low.2.2.2.2 m (List.mem_of_getElem? hmm)).1, hdict.isMap⟩
            rw [hmk]
            refine hr.added hx hxd hmm hi.incr h1 y6 y7 y4 (fun _ => ⟨rfl, y5⟩) (fun q => by cases q) y1 y2 y3 y8 (fun z hz => ?_) ?_ hB
            · have := (hi.down z hz).2; have := (hi.ids z hz).2; omega
            · have := (hi.ids x (List.mem_of_getElem? hx)).2; omega
  · have hmk : (p.mkdir s).1 = (walkOf p.xs s).e := by unfold PK.mkdir; rw [if_pos he]
    refine (fsMkdir_err tb s (walkOf p.xs s).e w (hF.mono fun e w1 h => ?_)).mono fun e w' h => .inl ⟨by rw [hmk]; exact he, by rw [hmk]; exact h.1, h.2⟩
    obtain ⟨h1, h2⟩ := h
    rcases h2 with ⟨_, q⟩ | ⟨q, _⟩
    · exact ⟨q, h1⟩
    · exact absurd q he
end Go.Proofs.YtkokiefclmbgaaaGreatDoor

/- The program's MayOpen, File. -/
namespace Go.Proofs.YtkokiefclmbgaaaGreatDoor
open Go Go.RowKit Go.Maps
set_option linter.unusedVariables false
set_option linter.unusedSimpArgs false

theorem grown_below {w w' : World} (h : Below w.heap.size w w') : w.grownBy w' none := ⟨h.os, h.tape, h.output, h.size, fun k hk _ => h.block k hk⟩
/-- What MayOpen answers: 0 is none. -/
def mayOf (found create full dir : Bool) : Int := if found = true then (if dir = true then 11 else 0) else if create = false then 9 else if full = true then 12 else 0
def errRet (c : Int) : Ending := if c = 0 then .returned .nilIface else errnoRet c

set_option maxRecDepth 100000 in
set_option maxHeartbeats 1000000 in
theorem fsMayOpen_any (tb ab b m k : Nat) (n li used lb : Int) (f : ByteArray → Option Nat) (name pth : ByteArray) (create dir : Bool) (dvs : List Value) (w : World) (ht : Holds w tb 163 [.pointer (some ⟨ab, 0, none⟩), .int .i64 n, .int .i64 li, .int .i64 used, .int .i64 lb]) (hn : 0 ≤ n ∧ n ≤ 1000000) (hli : 0 ≤ li ∧ li ≤ 1000000) (hu : 0 ≤ used ∧ used ≤ lb) (hlb : lb ≤ 1000000) (hdn : Holds w b 230 dvs) (hd2 : dvs[3]? = some (.map (some m))) (hd : DictAt w m k f) (hs : name.size ≤ 100000)
    (hc : ∀ c, f name = some c → ∃ v0 vs, Holds w c 230 (v0 :: .bool dir :: vs)) :
    Calls Tryz.prog 63 #[.pointer (some ⟨tb, 0, none⟩), .agg #[.pointer (some ⟨b, 0, none⟩), .string name, .string pth], .bool create] w fun e w' => e = errRet (mayOf (f name).isSome create (decide (li ≤ n)) dir) ∧ Below w.heap.size w w' := by
  obtain ⟨W0, hW0⟩ : ∃ W0, W0 = w.alloc (Obj.cells #[.pointer (some ⟨b, 0, none⟩), .string name, .string pth] 166) := ⟨_, rfl⟩
  have hb0 : Below w.heap.size w W0 := by rw [hW0]; exact (Below.refl _ _).alloc (Nat.le_refl _) _
  have hp0 : Holds W0 w.heap.size 166 [.pointer (some ⟨b, 0, none⟩), .string name, .string pth] := by rw [hW0]; exact Holds.new w 166 _
  have c0 : W0.cell? ⟨w.heap.size, 0, none⟩ = some (.pointer (some ⟨b, 0, none⟩)) := hp0.cell rfl
  have c1 : W0.cell? ⟨w.heap.size, 1, none⟩ = some (.string name) := hp0.cell rfl
  have c2 : W0.cell? ⟨w.heap.size, 2, none⟩ = some (.string pth) := hp0.cell rfl
  have HND := hide (fsNode_any b m k name pth f W0 (by unfold maxLen; omega) ((hdn.below hb0 hdn.lt).cell hd2) (hd.kept (grown_below hb0) (by simp)))
  have HW0 := hide hW0
  have HB0 := hide hb0
  have HT := hide ht
  have HC := hide hc
  clear hW0 hb0 hp0 ht hdn hd2 hd hc
  go_enter Tryz.func63, Tryz.ntmps63
  go_upto_region 1 with fail
  rw [← unhide HW0]
  go_wp2_with fail
  refine (unhide HND).mono ?_
  rintro e w3 ⟨rfl, hb3⟩
  have HB3 := hide ((unhide HB0).trans (hb3.mono (unhide HB0).size))
  clear hb3 HND c0 c1 c2
  cases hfn : f name with
  | some c =>
    obtain ⟨v0, vs, hv⟩ := (unhide HC) c hfn
    have d0 : w3.cell? ⟨c, 1, none⟩ = some (.bool dir) := (hv.below (unhide HB3) hv.lt).cell rfl
    have HFN := hide hfn
    clear hfn hv HC
    unfold nodePtr
    cases dir with
    | true =>
      go_wp2
      go_ret
      exact ⟨by rw [unhide HFN]; rfl, unhide HB3⟩
    | false =>
      go_wp2
      go_ret
      exact ⟨by rw [unhide HFN]; rfl, unhide HB3⟩
  | none =>
    have HFN := hide hfn
    clear hfn HC
    unfold nodePtr
    cases create with
    | false =>
      go_wp2
      go_ret
      exact ⟨by rw [unhide HFN]; rfl, unhide HB3⟩
    | true =>
      have HFL := hide (fsIsFull_any tb ab n li used lb w3 ((unhide HT).below (unhide HB3) (unhide HT).lt) hn hli hu hlb)
      go_wp2_with fail
      refine (unhide HFL).mono ?_
      rintro e w4 ⟨rfl, _, hb4⟩
      have HB4 := hide ((unhide HB3).trans (hb4.mono (unhide HB3).size))
      clear hb4 HFL
      obtain ⟨q, hq⟩ : ∃ q, q = decide (li ≤ n) := ⟨_, rfl⟩
      rw [← hq]
      have HQ := hide hq
      clear hq
      cases q with
      | true =>
        go_wp2
        go_ret
        exact ⟨by rw [unhide HFN, ← unhide HQ]; rfl, unhide HB4⟩
      | false =>
        go_wp2
        go_ret
        exact ⟨by rw [unhide HFN, ← unhide HQ]; rfl, unhide HB4⟩

def FileEnd (tb ab m k : Nat) (n li used lb : Int) (f : ByteArray → Option Nat) (name : ByteArray) (w : World) (e : Ending) (w' : World) : Prop :=
  (∃ c, f name = some c ∧ e = .returned (.pointer (some ⟨c, 0, none⟩)) ∧ Below w.heap.size w w') ∨
    f name = none ∧ ∃ nb, e = .returned (.pointer (some ⟨nb, 0, none⟩)) ∧ w.heap.size ≤ nb ∧ nb < w'.heap.size ∧ (∃ q, Holds w' nb 230 [.string q, .bool false, .slice none 0 0, .map none, .int .i64 0]) ∧ PutPost tb m k ab n li used lb f name nb w w'
set_option maxRecDepth 100000 in
set_option maxHeartbeats 1000000 in
theorem fsFile_any (tb ab b m k : Nat) (n li used lb : Int) (f : ByteArray → Option Nat) (name pth : ByteArray) (dvs : List Value) (w : World) (ht : Holds w tb 163 [.pointer (some ⟨ab, 0, none⟩), .int .i64 n, .int .i64 li, .int .i64 used, .int .i64 lb]) (hn : 0 ≤ n ∧ n ≤ 1000000) (hps : pth.size ≤ 100000) (hdn : Holds w b 230 dvs) (hd2 : dvs[3]? = some (.map (some m))) (hd : DictAt w m k f) (hk : k ≤ 1000000) (hs : name.size ≤ 100000) :
    Calls Tryz.prog 65 #[.pointer (some ⟨tb, 0, none⟩), .agg #[.pointer (some ⟨b, 0, none⟩), .string name, .string pth]] w (FileEnd tb ab m k n li used lb f name w) := by
  obtain ⟨W0, hW0⟩ : ∃ W0, W0 = w.alloc (Obj.cells #[.pointer (some ⟨b, 0, none⟩), .string name, .string pth] 166) := ⟨_, rfl⟩
  have hb0 : Below w.heap.size w W0 := by rw [hW0]; exact (Below.refl _ _).alloc (Nat.le_refl _) _
  have hp0 : Holds W0 w.heap.size 166 [.pointer (some ⟨b, 0, none⟩), .string name, .string pth] := by rw [hW0]; exact Holds.new w 166 _
  have c0 : W0.cell? ⟨w.heap.size, 0, none⟩ = some (.pointer (some ⟨b, 0, none⟩)) := hp0.cell rfl
  have c1 : W0.cell? ⟨w.heap.size, 1, none⟩ = some (.string name) := hp0.cell rfl
  have c2 : W0.cell? ⟨w.heap.size, 2, none⟩ = some (.string pth) := hp0.cell rfl
  have HND := hide (fsNode_any b m k name pth f W0 (by unfold maxLen; omega) ((hdn.below hb0 hdn.lt).cell hd2) (hd.kept (grown_below hb0) (by simp)))
  have HW0 := hide hW0
  have HB0 := hide hb0
  have HP0 := hide hp0
  have HT := hide ht
  have HDN := hide hdn
  have HD := hide hd
  have HD2 := hide hd2
  clear hW0 hb0 hp0 ht hdn hd2 hd
  go_enter Tryz.func65, Tryz.ntmps65
  go_upto_region 1 with fail
  rw [← unhide HW0]
  go_wp2_with fail
  refine (unhide HND).mono ?_
  rintro e w3 ⟨rfl, hb3⟩
  have HB3 := hide ((unhide HB0).trans (hb3.mono (unhide HB0).size))
  have HP3 := hide ((unhide HP0).below hb3 (unhide HP0).lt)
  clear hb3 HND c0 c1 c2
  cases hfn : f name with
  | some c =>
    unfold nodePtr
    have HFN := hide hfn
    clear hfn
    go_wp2
    go_ret
    exact .inl ⟨c, unhide HFN, rfl, unhide HB3⟩
  | none =>
    unfold nodePtr
    have HFN := hide hfn
    clear hfn
    have c0 : w3.cell? ⟨w.heap.size, 0, none⟩ = some (.pointer (some ⟨b, 0, none⟩)) := (unhide HP3).cell rfl
    have c1 : w3.cell? ⟨w.heap.size, 1, none⟩ = some (.string name) := (unhide HP3).cell rfl
    have c2 : w3.cell? ⟨w.heap.size, 2, none⟩ = some (.string pth) := (unhide HP3).cell rfl
    go_upto_region 5 with fail
    obtain ⟨W4, hW4⟩ : ∃ W4, W4 = w3.alloc (Obj.cells #[.string ⟨#[]⟩, .bool false, .slice none 0 0, .map none, .int .i64 0] 230) := ⟨_, rfl⟩
    have hn4 : Holds W4 w3.heap.size 230 [.string ⟨#[]⟩, .bool false, .slice none 0 0, .map none, .int .i64 0] := by rw [hW4]; exact Holds.new w3 230 _
    have hb4 : Below w3.heap.size w3 W4 := by rw [hW4]; exact (Below.refl _ _).alloc (Nat.le_refl _) _
    rw [← hW4]
    have hB4 := (unhide HB3).trans (hb4.mono (unhide HB3).size)
    have hp4 := (unhide HP3).below hb4 (unhide HP3).lt
    have hl3 := (unhide HB3).size
    have hml : m < w.heap.size := (unhide HD).lt
    have htl : tb < w.heap.size := (unhide HT).lt
    obtain ⟨nb, hnb⟩ : ∃ nb, nb = w3.heap.size := ⟨_, rfl⟩
    rw [← hnb] at hn4 hl3 ⊢
    have hd4 : DictAt W4 m k f := (unhide HD).kept (grown_below hB4) (by simp)
    have hdn4 : Holds W4 b 230 dvs := (unhide HDN).below hB4 (unhide HDN).lt
    have ht4 := (unhide HT).below hB4 (unhide HT).lt
    have HPU := hide (fsPut_any tb ab b m k nb n li used lb f name pth _ _ W4 ht4 hn hd4 hk 230 dvs hdn4 (unhide HD2) (holds_apart hdn4 ht4 (by decide)) hn4 (by have := (unhide HDN).lt; omega) hs hps)
    have HN4 := hide hn4
    have HB4 := hide hB4
    have HL := hide (show w.heap.size ≤ nb ∧ m < w.heap.size ∧ tb < w.heap.size from ⟨hl3, hml, htl⟩)
    clear c0 c1 c2
    have c0 : W4.cell? ⟨w.heap.size, 0, none⟩ = some (.pointer (some ⟨b, 0, none⟩)) := hp4.cell rfl
    have c1 : W4.cell? ⟨w.heap.size, 1, none⟩ = some (.string name) := hp4.cell rfl
    have c2 : W4.cell? ⟨w.heap.size, 2, none⟩ = some (.string pth) := hp4.cell rfl
    clear hW4 hn4 hb4 hB4 hp4 hl3 hml htl hnb hd4 hdn4 ht4
    go_wp2_with fail
    refine (unhide HPU).mono ?_
    rintro e w6 ⟨rfl, hp6⟩
    have hl := unhide HL
    have HP := hide (show FileEnd tb ab m k n li used lb f name w (.returned (.pointer (some ⟨nb, 0, none⟩))) w6 from .inr ⟨unhide HFN, nb, rfl, hl.1, by have := (unhide HN4).lt; have := hp6.2.2.2.size; omega, ⟨_, hp6.2.2.1⟩, hp6.1, hp6.2.1, FrameS.toK (unhide HB4) hp6.2.2.2 hl.1⟩)
    clear hp6 HPU c0 c1 c2 hl
    go_wp2
    go_ret
    exact unhide HP
end Go.Proofs.YtkokiefclmbgaaaGreatDoor

/- The program's New. -/
namespace Go.Proofs.YtkokiefclmbgaaaGreatDoor
open Go Go.RowKit Go.Maps
set_option linter.unusedVariables false
set_option linter.unusedSimpArgs false

theorem TreeRep.empty {w : World} {B tb ab am : Nat} {li lb : Int} (ht : Holds w tb 163 [.pointer (some ⟨ab, 0, none⟩), .int .i64 0, .int .i64 li, .int .i64 0, .int .i64 lb]) (ha : Holds w ab 230 [.string ⟨#[]⟩, .bool true, .slice none 0 0, .map (some am), .int .i64 0]) (hd : DictAt w am 0 (fun _ => none)) (h1 : B ≤ tb) (h2 : B ≤ ab) (h3 : B ≤ am) : TreeRep w B tb ab am li lb 0 [] [] [] [] := by
  refine ⟨by simpa using ht, ha, (hd.mono (by omega)).same fun s => ?_, by simp, fun i x b m hx => by simp at hx, fun h => absurd rfl h, rfl, by simp, h1, h2, h3, by simp, by simp⟩
  split <;> rfl
theorem TreeRep.rooted {w : World} {B tb ab am nb nm : Nat} {li lb : Int} (ht : Holds w tb 163 [.pointer (some ⟨ab, 0, none⟩), .int .i64 1, .int .i64 li, .int .i64 0, .int .i64 lb]) (ha : Holds w ab 230 [.string ⟨#[]⟩, .bool true, .slice none 0 0, .map (some am), .int .i64 0])
    (hd : DictAt w am 1 (fun s => if s.data.toList = [] then some nb else none)) (hn : ∃ q, Holds w nb 230 [.string q, .bool true, .slice none 0 0, .map (some nm), .int .i64 0]) (hk : DictAt w nm 0 (fun _ => none)) (h1 : B ≤ tb) (h2 : B ≤ ab) (h3 : B ≤ am) (h4 : B ≤ nb) (h5 : B ≤ nm) (h6 : am ≠ nm) (h7 : ab ≠ nb) : TreeRep w B tb ab am li lb 0 [newIno 1 0 ByteArray.empty true] [nb] [nm] [.slice none 0 0] := by
  refine ⟨by simpa using ht, ha, hd, by simp, fun i x b m hx hb hm => ?_, fun _ => ⟨_, rfl, rfl, rfl⟩, rfl, by simp [h6, h7], h1, h2, h3, by simpa using h4, by simpa using ⟨h5, hk.lt⟩⟩
  cases i with
  | succ i => simp at hx
  | zero =>
    simp at hx hb hm
    subst hx hb hm
    obtain ⟨qn, hn⟩ := hn
    exact ⟨qn, _, _, hn, fun _ => ⟨rfl, (hk.mono (by simp)).same fun s => rfl⟩, rfl, fun q => by cases q⟩
theorem slash_names : namesOf ⟨#[47]⟩ = some [] := by decide

set_option maxRecDepth 100000 in
set_option maxHeartbeats 1000000 in
theorem fsNew_any (li lb mm : Int) (w : World) (hm : w.cell? ⟨2, 0, none⟩ = some (.int .i64 mm)) (hml : 2 < w.heap.size) (hli : 0 ≤ li ∧ li ≤ 1000000) (hlb : 0 ≤ lb ∧ lb ≤ 1000000) :
    Calls Tryz.prog 38 #[.int .i64 li, .int .i64 lb] w fun e w' => Below w.heap.size w w' ∧ (li ≤ 0 ∧ e = .returned (.tuple #[.pointer none, .iface 45 (.int .i64 12)]) ∨ 0 < li ∧ ∃ tb ab am nb nm, e = .returned (.tuple #[.pointer (some ⟨tb, 0, none⟩), .nilIface]) ∧ TreeRep w' w.heap.size tb ab am li lb 0 [newIno 1 0 ByteArray.empty true] [nb] [nm] [.slice none 0 0]) := by
  have HND := hide (fsNewDir_any w)
  have HM := hide hm
  clear hm
  go_enter Tryz.func38, Tryz.ntmps38
  go_wp2_with fail
  refine (unhide HND).mono ?_
  rintro e w1 ⟨rfl, hn1, hd1, hb1⟩
  obtain ⟨W2, hW2⟩ : ∃ W2, W2 = w1.alloc (Obj.cells #[.pointer (some ⟨w.heap.size + 1, 0, none⟩), .int .i64 0, .int .i64 li, .int .i64 0, .int .i64 lb] 163) := ⟨_, rfl⟩
  have ht2 : Holds W2 w1.heap.size 163 [.pointer (some ⟨w.heap.size + 1, 0, none⟩), .int .i64 0, .int .i64 li, .int .i64 0, .int .i64 lb] := by rw [hW2]; exact Holds.new w1 163 _
  have hb2 : Below w1.heap.size w1 W2 := by rw [hW2]; exact (Below.refl _ _).alloc (Nat.le_refl _) _
  have hB2 := hb1.trans (hb2.mono hb1.size)
  have hn2 := hn1.below hb2 hn1.lt
  have hd2 := hd1.kept (grown_below hb2) (by simp)
  have hl1 := hb1.size
  have hnl := hn1.lt
  obtain ⟨tb, htb⟩ : ∃ tb, tb = w1.heap.size := ⟨_, rfl⟩
  rw [← htb] at ht2 hl1 hnl
  have HMK := hide (fsMkdir_at tb (w.heap.size + 1) (w.heap.size + 1) w.heap.size 0 0 li 0 lb (fun _ => none) ByteArray.empty ⟨#[47]⟩ _ W2 ht2 ⟨by omega, by omega⟩ hli ⟨by omega, hlb.1⟩ hlb.2 (by decide) hn2 rfl hd2 (by omega) (by decide) ((fsFollow_any w.heap.size tb (w.heap.size + 1) w.heap.size li lb 0 [] [] [] [] ⟨#[47]⟩ mm W2 (TreeRep.empty ht2 hn2 hd2 (by omega) (by omega) (by omega)) (fun h => absurd slash_names h) (by simp) (by simp) (by decide) (by rw [hB2.cell (p := ⟨2, 0, none⟩) hml]; exact unhide HM) (by have := hB2.size; omega)).mono fun e w3 h => ⟨by
    rcases h.2 with ⟨q, _⟩ | ⟨_, b, name, hpl, rfl⟩
    · exact absurd (show (walkOf [] ⟨#[47]⟩).e = 0 by unfold walkOf; rw [slash_names]) q
    · rcases hpl with ⟨_, rfl, rfl⟩ | ⟨⟨a, r, q⟩, _⟩
      · rfl
      · rw [slash_names] at q; exact absurd q (by simp), h.1⟩))
  have HB2 := hide hB2
  have HN2 := hide hn2
  have HT2 := hide ht2
  have HD2 := hide hd2
  have HL := hide (show w.heap.size ≤ tb ∧ w.heap.size + 1 < tb from ⟨hl1, hnl⟩)
  have HW2 := hide hW2
  clear hn1 hd1 hb1 hW2 ht2 hb2 hB2 hn2 hd2 hl1 hnl HND
  go_upto_region 2 with fail
  rw [← unhide HW2, ← htb]
  clear HW2 htb
  go_wp2_with fail
  refine (unhide HMK).mono ?_
  rintro e w4 (⟨⟨c, h1⟩, _⟩ | ⟨_, h2, rfl, h4⟩ | ⟨_, h2, rfl, nb, nm, y1, y2, y3, y4, y5, y6, y7, y8⟩)
  · cases h1
  · have HQ := hide (show Below w.heap.size w w4 ∧ li ≤ 0 from ⟨(unhide HB2).trans (h4.mono (unhide HB2).size), h2⟩)
    clear h2 h4 HMK
    unfold errnoRet
    go_wp2
    go_ret2
    exact ⟨(unhide HQ).1, .inl ⟨(unhide HQ).2, rfl⟩⟩
  · have hl := unhide HL
    have hsz := (unhide HB2).size
    have htl := (unhide HT2).lt
    have hB4 : Below w.heap.size w w4 := (unhide HB2).trans (y8.below (by omega) (by omega) hsz)
    have HR := hide (show 0 < li ∧ Below w.heap.size w w4 ∧ TreeRep w4 w.heap.size tb (w.heap.size + 1) w.heap.size li lb 0 [newIno 1 0 ByteArray.empty true] [nb] [nm] [.slice none 0 0] from ⟨h2, hB4, TreeRep.rooted y6 (holds_block (unhide HN2) (y8.block _ (unhide HN2).lt (by omega) (by omega))) y7 y4 y5 (by omega) (by omega) (by omega) (by omega) (by omega) (by omega) (by omega)⟩)
    clear h2 y1 y2 y3 y4 y5 y6 y7 y8 hl hsz htl hB4 HMK
    go_wp2
    go_ret2
    exact ⟨(unhide HR).2.1, .inr ⟨(unhide HR).1, tb, _, _, nb, nm, rfl, (unhide HR).2.2⟩⟩
end Go.Proofs.YtkokiefclmbgaaaGreatDoor

/- The program's small functions: isWithin, areLimits; Inodes, Bytes of a tree; Bytes of a node. -/
namespace Go.Proofs.YtkokiefclmbgaaaGreatDoor
open Go Go.RowKit Go.Maps
set_option linter.unusedVariables false
set_option linter.unusedSimpArgs false

set_option maxHeartbeats 1000000 in
theorem isWithin_any (n a b : Int) (w : World) : Calls Tryz.prog 59 #[.int .i64 n, .int .i64 a, .int .i64 b] w fun e w' => e = .returned (.bool (decide (a ≤ n) && decide (n ≤ b))) ∧ w' = w := by
  by_cases h1 : a ≤ n
  · by_cases h2 : n ≤ b
    · rw [decide_eq_true h1, decide_eq_true h2]
      go_enter Tryz.func59, Tryz.ntmps59
      go_wp2
      go_ret
      exact ⟨rfl, rfl⟩
    · rw [decide_eq_true h1, decide_eq_false h2]
      go_enter Tryz.func59, Tryz.ntmps59
      go_wp2
      go_ret
      exact ⟨rfl, rfl⟩
  · rw [decide_eq_false h1]
    go_enter Tryz.func59, Tryz.ntmps59
    go_wp2
    go_ret
    exact ⟨rfl, rfl⟩
theorem isWithin_is (n a b : Int) (q : Bool) (hq : q = (decide (a ≤ n) && decide (n ≤ b))) (w : World) : Calls Tryz.prog 59 #[.int .i64 n, .int .i64 a, .int .i64 b] w fun e w' => e = .returned (.bool q) ∧ w' = w := by
  rw [hq]; exact isWithin_any n a b w

set_option maxRecDepth 100000 in
set_option maxHeartbeats 1000000 in
theorem areLimits_any (lp lf lo li lb : Int) (w : World) : Calls Tryz.prog 37 #[.agg #[.int .i64 lp, .int .i64 lf, .int .i64 lo, .int .i64 li, .int .i64 lb]] w fun e w' => (e = .returned (.bool true) ∧ limsOk lp lf lo li lb ∨ e = .returned (.bool false) ∧ ¬ limsOk lp lf lo li lb) ∧ Below w.heap.size w w' := by
  obtain ⟨W0, hW0⟩ : ∃ W0, W0 = w.alloc (Obj.cells #[.int .i64 lp, .int .i64 lf, .int .i64 lo, .int .i64 li, .int .i64 lb] 23) := ⟨_, rfl⟩
  have hb0 : Below w.heap.size w W0 := by rw [hW0]; exact (Below.refl _ _).alloc (Nat.le_refl _) _
  have hp0 : Holds W0 w.heap.size 23 [.int .i64 lp, .int .i64 lf, .int .i64 lo, .int .i64 li, .int .i64 lb] := by rw [hW0]; exact Holds.new w 23 _
  have c0 : W0.cell? ⟨w.heap.size, 0, none⟩ = some (.int .i64 lp) := hp0.cell rfl
  have c1 : W0.cell? ⟨w.heap.size, 1, none⟩ = some (.int .i64 lf) := hp0.cell rfl
  have c2 : W0.cell? ⟨w.heap.size, 2, none⟩ = some (.int .i64 lo) := hp0.cell rfl
  have c3 : W0.cell? ⟨w.heap.size, 3, none⟩ = some (.int .i64 li) := hp0.cell rfl
  have c4 : W0.cell? ⟨w.heap.size, 4, none⟩ = some (.int .i64 lb) := hp0.cell rfl
  obtain ⟨q0, h0⟩ : ∃ q, q = (decide (1 ≤ lp) && decide (lp ≤ 16)) := ⟨_, rfl⟩
  obtain ⟨q1, h1⟩ : ∃ q, q = (decide (1 ≤ lf) && decide (lf ≤ 1000)) := ⟨_, rfl⟩
  obtain ⟨q2, h2⟩ : ∃ q, q = (decide (0 ≤ lo) && decide (lo ≤ 100000)) := ⟨_, rfl⟩
  obtain ⟨q3, h3⟩ : ∃ q, q = (decide (0 ≤ li) && decide (li ≤ 100000)) := ⟨_, rfl⟩
  obtain ⟨q4, h4⟩ : ∃ q, q = (decide (0 ≤ lb) && decide (lb ≤ 100000)) := ⟨_, rfl⟩
  have H0 := hide (isWithin_is lp 1 16 q0 h0 W0)
  have H1 := hide (isWithin_is lf 1 1000 q1 h1 W0)
  have H2 := hide (isWithin_is lo 0 100000 q2 h2 W0)
  have H3 := hide (isWithin_is li 0 100000 q3 h3 W0)
  have H4 := hide (isWithin_is lb 0 100000 q4 h4 W0)
  have HE := hide (show limsOk lp lf lo li lb ↔ (q0 && q1 && q2 && q3 && q4) = true by
    rw [h0, h1, h2, h3, h4]; unfold limsOk; simp only [Bool.and_eq_true, decide_eq_true_eq]; omega)
  have HB0 := hide hb0
  have HW0 := hide hW0
  clear h0 h1 h2 h3 h4 hb0 hW0 hp0
  go_enter Tryz.func37, Tryz.ntmps37
  go_upto_region 1 with fail
  rw [← unhide HW0]
  go_wp2_with fail
  refine (unhide H0).mono ?_
  rintro e _ ⟨rfl, rfl⟩
  cases q0 with
  | false =>
    go_wp2
    go_ret
    exact ⟨.inr ⟨rfl, fun h => by have := (unhide HE).1 h; simp at this⟩, unhide HB0⟩
  | true =>
  go_wp2_with fail
  refine (unhide H1).mono ?_
  rintro e _ ⟨rfl, rfl⟩
  cases q1 with
  | false =>
    go_wp2
    go_ret
    exact ⟨.inr ⟨rfl, fun h => by have := (unhide HE).1 h; simp at this⟩, unhide HB0⟩
  | true =>
  go_wp2_with fail
  refine (unhide H2).mono ?_
  rintro e _ ⟨rfl, rfl⟩
  cases q2 with
  | false =>
    go_wp2
    go_ret
    exact ⟨.inr ⟨rfl, fun h => by have := (unhide HE).1 h; simp at this⟩, unhide HB0⟩
  | true =>
  go_wp2_with fail
  refine (unhide H3).mono ?_
  rintro e _ ⟨rfl, rfl⟩
  cases q3 with
  | false =>
    go_wp2
    go_ret
    exact ⟨.inr ⟨rfl, fun h => by have := (unhide HE).1 h; simp at this⟩, unhide HB0⟩
  | true =>
  go_wp2_with fail
  refine (unhide H4).mono ?_
  rintro e _ ⟨rfl, rfl⟩
  cases q4 with
  | false =>
    go_wp2
    go_ret
    exact ⟨.inr ⟨rfl, fun h => by have := (unhide HE).1 h; simp at this⟩, unhide HB0⟩
  | true =>
    go_wp2
    go_ret
    exact ⟨.inl ⟨rfl, (unhide HE).2 rfl⟩, unhide HB0⟩
set_option maxHeartbeats 1000000 in
theorem fsInodes_any (tb ab : Nat) (n li used lb : Int) (w : World) (h : Holds w tb 163 [.pointer (some ⟨ab, 0, none⟩), .int .i64 n, .int .i64 li, .int .i64 used, .int .i64 lb]) :
    Calls Tryz.prog 56 #[.pointer (some ⟨tb, 0, none⟩)] w fun e w' => e = .returned (.int .i64 n) ∧ w' = w := by
  have c1 : w.cell? ⟨tb, 1, none⟩ = some (.int .i64 n) := h.cell rfl
  clear h
  go_enter Tryz.func56, Tryz.ntmps56
  go_wp2
  go_ret
  exact ⟨rfl, rfl⟩
set_option maxHeartbeats 1000000 in
theorem fsBytes_any (tb ab : Nat) (n li used lb : Int) (w : World) (h : Holds w tb 163 [.pointer (some ⟨ab, 0, none⟩), .int .i64 n, .int .i64 li, .int .i64 used, .int .i64 lb]) :
    Calls Tryz.prog 57 #[.pointer (some ⟨tb, 0, none⟩)] w fun e w' => e = .returned (.int .i64 used) ∧ w' = w := by
  have c1 : w.cell? ⟨tb, 3, none⟩ = some (.int .i64 used) := h.cell rfl
  clear h
  go_enter Tryz.func57, Tryz.ntmps57
  go_wp2
  go_ret
  exact ⟨rfl, rfl⟩
set_option maxHeartbeats 1000000 in
theorem nodeBytes_any (b : Nat) (a : Option Addr) (n c : Nat) (w : World) (h : w.cell? ⟨b, 2, none⟩ = some (.slice a n c)) :
    Calls Tryz.prog 68 #[.pointer (some ⟨b, 0, none⟩)] w fun e w' => e = .returned (.slice a n c) ∧ w' = w := by
  go_enter Tryz.func68, Tryz.ntmps68
  go_wp2
  go_ret
  exact ⟨rfl, rfl⟩
end Go.Proofs.YtkokiefclmbgaaaGreatDoor
