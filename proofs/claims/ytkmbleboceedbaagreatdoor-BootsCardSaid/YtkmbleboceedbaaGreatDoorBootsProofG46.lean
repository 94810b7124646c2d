import Derived.Test.YtkmbleboceedbaaGreatDoorBootsProofG34
import Derived.Test.YtkmbleboceedbaaGreatDoorBootsProofG28
import Derived.Test.YtkmbleboceedbaaGreatDoorBootsProofG45
import Derived.Test.YtkmbleboceedbaaGreatDoorBootsProofG37
/- The program's Console, where nothing was written. -/
namespace Go.Proofs.YtkmbleboceedbaaGreatDoor
open Go Go.RowKit
set_option linter.unusedVariables false
set_option linter.unusedSimpArgs false

set_option maxRecDepth 100000 in
theorem clone_nil (w : World) : Calls Tryz.prog 91 #[.slice none 0 0] w fun e w' => e = .returned (.slice none 0 0) ∧ w' = w := by
  exact AnyE.slices_Clone_nil cloneBL 0 0 w
/-- A cell that is set to what it holds. -/
theorem set_same {w : World} {b j : Nat} {t : TypeId} {vs : List Value} {v : Value} (h : Holds w b t vs) (hj : vs[j]? = some v) : Below w.heap.size w (w.setCell ⟨b, j, none⟩ v) := by
  have h1 := h.set j v
  have hl := (List.getElem?_eq_some_iff.1 hj).1
  have e : vs.set j v = vs := by
    apply List.ext_getElem?
    intro i
    rw [List.getElem?_set]
    split
    · rename_i hi
      subst hi
      rw [hj]
    · rfl
  rw [e] at h1
  have hb := (Below.refl b w).setCell (p := ⟨b, j, none⟩) (Nat.le_refl _) v
  refine ⟨hb.os, hb.tape, hb.output, hb.size, fun k hk => ?_⟩
  by_cases hkb : k = b
  · subst hkb
    unfold Holds at h h1
    rw [h, h1]
  · show (w.heap.modify b _)[k]? = w.heap[k]?
    rw [Array.getElem?_modify, if_neg (fun e => hkb e.symm)]
set_option maxRecDepth 100000 in
set_option maxHeartbeats 1000000 in
theorem take_nil (cb j : Nat) (t : TypeId) (vs : List Value) (w : World) (h : Holds w cb t vs) (hj : vs[j]? = some (.slice none 0 0)) :
    Calls Tryz.prog 58 #[.pointer (some ⟨cb, j, none⟩), .int .i64 0] w fun e w' => e = .returned (.slice none 0 0) ∧ Below w.heap.size w w' := by
  have c0 : w.cell? ⟨cb, j, none⟩ = some (.slice none 0 0) := h.cell hj
  have f0 := h.frozen j
  have HB := hide (set_same h hj)
  have HC := hide (clone_nil w)
  clear h hj
  go_enter Tryz.func58, Tryz.ntmps58
  go_wp2_with fail
  refine (unhide HC).mono ?_
  rintro e w1 ⟨rfl, hw⟩
  subst hw
  go_wp2
  go_ret
  exact ⟨rfl, unhide HB⟩
theorem takeEnter : ∀ args w, (callFunc 58 args).run Tryz.prog w = .ok (.enter 58 args) w := enters_of Tryz.func58 (by kernel_rfl) rfl
def conRow : List Value := [.slice none 0 0, .slice none 0 0]
set_option maxRecDepth 100000 in
set_option maxHeartbeats 1000000 in
theorem conTell_nil (cb : Nat) (w : World) (h : Holds w cb 129 conRow) :
    Calls Tryz.prog 36 #[.pointer (some ⟨cb, 0, none⟩)] w fun e w' => e = .returned (.slice none 0 0) ∧ Below w.heap.size w w' := by
  have hS0 : w.cell? ⟨cb, 1, none⟩ = some (.slice none 0 0) := h.cell rfl
  have HT := hide (take_nil cb 1 129 conRow w.drew (h.heap rfl) rfl)
  have R1 := hide (show ∀ w' : World, w'.cell? ⟨cb, 1, none⟩ = some (.slice none 0 0) → (Instr.loadAt 32 (.pointer (some ⟨cb, 1, none⟩))).run Tryz.prog w' = .ok (.slice none 0 0) w' from fun w' h' => by
    clear hS0 h
    go_simp)
  have hcl := h.lt
  have HS0 := hide hS0
  clear h hS0
  go_enter Tryz.func36, Tryz.ntmps36
  go_upto_region 1 with fail
  refine act_gen ?_
  intro A hA
  have e0 : A.eval (.tmp 0) = .pointer (some ⟨cb, 0, none⟩) := by rw [hA]; rfl
  have esz : A.tmps.size = 13 := by rw [hA]; rfl
  have HA := hide hA
  clear hA
  refine wp_region_held_drew (S := fun w' => w'.cell? ⟨cb, 1, none⟩ = some (.slice none 0 0)) (by kernel_rfl) (unhide HS0) (fun hS => ?_)
  refine takeH (i := 0) (some 3) rfl rfl (by kernel_rfl) (by kernel_rfl) (by kernel_rfl) (fun _ _ _ h => h) (yields_move rfl _ rfl (.pointer (some ⟨cb, 0, none⟩)) (by simp [put_eval, put_size, esz, e0])) hS ?_
  refine takeH (i := 1) (some 4) rfl rfl (by kernel_rfl) (by kernel_rfl) (by kernel_rfl) (fun _ _ _ h => h) (yields_nil rfl _ rfl ⟨cb, 0, none⟩ (by simp [put_eval, put_size, esz, e0])) hS ?_
  refine takeH (i := 2) (some 5) rfl rfl (by kernel_rfl) (by kernel_rfl) (by kernel_rfl) (fun _ _ _ h => h) (yields_field rfl _ _ _ rfl (.pointer (some ⟨cb, 0, none⟩)) (by simp [put_eval, put_size, esz, e0]) (.pointer (some ⟨cb, 1, none⟩)) (fun w' => by go_simp)) hS ?_
  refine takeH (i := 3) (some 6) rfl rfl (by kernel_rfl) (by kernel_rfl) (by kernel_rfl) (fun _ _ _ h => h) (yields_move rfl _ rfl (.pointer (some ⟨cb, 0, none⟩)) (by simp [put_eval, put_size, esz, e0])) hS ?_
  refine takeH (i := 4) (some 7) rfl rfl (by kernel_rfl) (by kernel_rfl) (by kernel_rfl) (fun _ _ _ h => h) (yields_nil rfl _ rfl ⟨cb, 0, none⟩ (by simp [put_eval, put_size, esz, e0])) hS ?_
  refine takeH (i := 5) (some 8) rfl rfl (by kernel_rfl) (by kernel_rfl) (by kernel_rfl) (fun _ _ _ h => h) (yields_field rfl _ _ _ rfl (.pointer (some ⟨cb, 0, none⟩)) (by simp [put_eval, put_size, esz, e0]) (.pointer (some ⟨cb, 1, none⟩)) (fun w' => by go_simp)) hS ?_
  refine takeH (i := 6) (some 9) rfl rfl (by kernel_rfl) (by kernel_rfl) (by kernel_rfl) (fun _ _ _ h => h) (yields_field rfl _ _ _ rfl (.pointer (some ⟨cb, 1, none⟩)) (by simp [put_eval, put_size, esz, e0]) (.pointer (some ⟨cb, 1, none⟩)) (fun w' => by go_simp)) hS ?_
  refine takeH (i := 7) (some 10) rfl rfl (by kernel_rfl) (by kernel_rfl) (by kernel_rfl) (fun _ _ _ h => h) (yields_load1 rfl _ _ rfl ⟨cb, 1, none⟩ (by simp [put_eval, put_size, esz, e0]) (.slice none 0 0) (unhide R1)) hS ?_
  refine takeH (i := 8) (some 11) rfl rfl (by kernel_rfl) (by kernel_rfl) (by kernel_rfl) (fun _ _ _ h => h) (yields_len rfl _ _ rfl (.slice none 0 0) (by simp [put_eval, put_size, esz, e0]) (.int .i64 0) (fun w' _ => by go_simp)) hS ?_
  refine wpAnyH_ready (rs := [9]) (by kernel_rfl) (by simp) (AllReadyH.cons rfl (fun K hK => ?_) AllReadyH.nil)
  refine step_call2x rfl 58 5 11 _ _ rfl (.pointer (some ⟨cb, 1, none⟩)) (.int .i64 0) (by simp [put_eval, put_size, esz, e0]) (by simp [put_eval, put_size, esz, e0]) takeEnter _ (fun e w' h => ⟨_, h.1⟩) (unhide HT) (some 12) rfl ?_
  rintro r2 w2 ⟨hr2, hb2⟩
  have hr2 : r2 = .slice none 0 0 := by injection hr2
  subst hr2
  have hb2 : Below w.heap.size w w2 := ⟨hb2.os, hb2.tape, hb2.output, hb2.size, hb2.block⟩
  refine hK.out _ _ (by rw [hb2.cell (p := ⟨cb, 1, none⟩) hcl]; exact unhide HS0) (fun hS2 => ?_)
  clear hK K
  refine takeH (i := 10) (some 2) rfl rfl (by kernel_rfl) (by kernel_rfl) (by kernel_rfl) (fun _ _ _ h => h) (yields_assign rfl _ rfl (.slice none 0 0) (by simp [put_eval, put_size, esz])) hS2 ?_
  refine wpAnyH_done (by kernel_rfl) ?_ _
  have HB2 := hide hb2
  rw [unhide HA]
  simp only [Act.put, List.setIfInBounds_toArray, List.set_cons_zero, List.set_cons_succ]
  clear hb2 hS hS2 HA e0 esz R1 HT
  go_wp2
  go_ret
  exact ⟨rfl, unhide HB2⟩
set_option maxRecDepth 100000 in
set_option maxHeartbeats 1000000 in
theorem kConsole_nil (kb cb : Nat) (w : World) (hk : w.cell? ⟨kb, 6, none⟩ = some (.pointer (some ⟨cb, 0, none⟩))) (h : Holds w cb 129 conRow) :
    Calls Tryz.prog 25 #[.pointer (some ⟨kb, 0, none⟩)] w fun e w' => e = .returned (.slice none 0 0) ∧ Below w.heap.size w w' := by
  have HT := hide (conTell_nil cb w h)
  clear h
  go_enter Tryz.func25, Tryz.ntmps25
  go_wp2_with fail
  refine (unhide HT).mono ?_
  rintro e w1 ⟨rfl, hb⟩
  have HB := hide hb
  clear hb hk HT
  go_wp2
  go_ret
  exact ⟨rfl, unhide HB⟩
set_option maxRecDepth 100000 in
set_option maxHeartbeats 1000000 in
theorem console_nil (tk kb cb : Nat) (w : World) (ht : w.cell? ⟨tk, 0, none⟩ = some (.pointer (some ⟨kb, 0, none⟩))) (hk : w.cell? ⟨kb, 6, none⟩ = some (.pointer (some ⟨cb, 0, none⟩))) (h : Holds w cb 129 conRow) :
    Calls Tryz.prog 9 #[.pointer (some ⟨tk, 0, none⟩)] w fun e w' => e = .returned (.slice none 0 0) ∧ Below w.heap.size w w' := by
  have HT := hide (kConsole_nil kb cb w hk h)
  clear h hk
  go_enter Tryz.func9, Tryz.ntmps9
  go_wp2_with fail
  refine (unhide HT).mono ?_
  rintro e w1 ⟨rfl, hb⟩
  have HB := hide hb
  clear hb ht HT
  go_wp2
  go_ret
  exact ⟨rfl, unhide HB⟩
end Go.Proofs.YtkmbleboceedbaaGreatDoor

/- What Boot's files leave, in numbers; a tree that has just been made. -/
namespace Go.Proofs.YtkmbleboceedbaaGreatDoor
open Go Go.RowKit Go.Maps
set_option linter.unusedVariables false
set_option linter.unusedSimpArgs false

/-- Sizes and limits of what Boot's first files left. -/
structure PSize (lp lf lo li lb : Int) (j S : Nat) (p : PK) : Prop where
  len : p.xs.length ≤ j + 1
  used : usedOf p.cs ≤ S
  bytes : AllBytes p.cs
  lims : p.lp = lp ∧ p.lf = lf ∧ p.lo = lo ∧ p.li = li ∧ p.lb = lb
theorem popened_len (p : PK) (s : ByteArray) : (p.opened s).1.xs.length ≤ p.xs.length + 1 ∧ usedOf (p.opened s).1.cs = usedOf p.cs ∧ (AllBytes p.cs → AllBytes (p.opened s).1.cs) ∧ (p.opened s).1.lp = p.lp ∧ (p.opened s).1.lf = p.lf ∧ (p.opened s).1.lo = p.lo ∧ (p.opened s).1.li = p.li ∧ (p.opened s).1.lb = p.lb := by
  unfold PK.opened
  split
  · refine ⟨by simp [PK.add], used_snoc _, fun h => h.snoc, rfl, rfl, rfl, rfl, rfl⟩
  · exact ⟨by simp, rfl, fun h => h, rfl, rfl, rfl, rfl, rfl⟩
theorem over_bytes {c B : List Int} (hc : IsBytes c) (hB : IsBytes B) : IsBytes (over c B) := by
  rw [isBytes_mem] at hc hB ⊢
  intro x hx
  unfold over at hx
  rcases List.mem_append.1 hx with h | h
  · exact hB x h
  · exact hc x (List.mem_of_mem_drop h)
theorem PSize.put {lp lf lo li lb : Int} {j S : Nat} {p : PK} (h : PSize lp lf lo li lb j S p) (f : PFile) (hb : IsBytes f.bytes) : PSize lp lf lo li lb (j + 1) (S + f.bytes.length) (p.put f).2 := by
  unfold PK.put
  split
  · unfold PK.mkdir
    have h0 : PSize lp lf lo li lb (j + 1) (S + f.bytes.length) p := ⟨by have := h.len; omega, by have := h.used; omega, h.bytes, h.lims⟩
    split
    · exact h0
    split
    · exact h0
    split
    · exact h0
    · exact ⟨by have := h.len; simp [PK.add]; omega, by have := h.used; show usedOf (p.cs ++ [[]]) ≤ _; rw [used_snoc]; omega, h.bytes.snoc, h.lims⟩
  · obtain ⟨o1, o2, o3, o4, o5, o6, o7, o8⟩ := popened_len p f.path
    have hl := h.lims
    unfold PK.fileOut
    split
    · exact ⟨by have := h.len; show (p.opened f.path).1.xs.length ≤ _; omega, by have := h.used; show usedOf (p.opened f.path).1.cs ≤ _; omega, o3 h.bytes, o4.trans hl.1, o5.trans hl.2.1, o6.trans hl.2.2.1, o7.trans hl.2.2.2.1, o8.trans hl.2.2.2.2⟩
    · refine ⟨by have := h.len; show (p.opened f.path).1.xs.length ≤ _; omega, ?_, ?_, o4.trans hl.1, o5.trans hl.2.1, o6.trans hl.2.2.1, o7.trans hl.2.2.2.1, o8.trans hl.2.2.2.2⟩
      · have hs := used_set (p.opened f.path).1.cs (placeOf (p.opened f.path).1.xs (p.opened f.path).2).toNat (over ((p.opened f.path).1.old (p.opened f.path).2) f.bytes)
        rw [over_len (M := max f.bytes.length ((p.opened f.path).1.old (p.opened f.path).2).length) rfl] at hs
        have e : (p.opened f.path).1.old (p.opened f.path).2 = (p.opened f.path).1.cs.getD (placeOf (p.opened f.path).1.xs (p.opened f.path).2).toNat [] := rfl
        rw [← e] at hs
        have := h.used
        show usedOf ((p.opened f.path).1.cs.set _ _) ≤ _
        omega
      · intro c hc
        rcases List.mem_or_eq_of_mem_set hc with h1 | h1
        · exact o3 h.bytes c h1
        · rw [h1]
          refine over_bytes ?_ hb
          show IsBytes ((p.opened f.path).1.cs.getD _ [])
          rw [List.getD_eq_getElem?_getD]
          cases hg : (p.opened f.path).1.cs[(placeOf (p.opened f.path).1.xs (p.opened f.path).2).toNat]? with
          | none => exact isBytes_mem.2 (fun x hx => by cases hx)
          | some d => exact o3 h.bytes d (List.mem_of_getElem? hg)
theorem boot0_size (lp lf lo li lb : Int) : PSize lp lf lo li lb 0 0 (boot0 lp lf lo li lb) := ⟨by simp [boot0], by simp [boot0, usedOf], isBytes_nils, rfl, rfl, rfl, rfl, rfl⟩
theorem TreeRep.base {w : World} {B B' tb ab am : Nat} {li lb used : Int} {xs : List Ino} {NB MB : List Nat} {V : List Value} (h : TreeRep w B tb ab am li lb used xs NB MB V) (hB : B' ≤ B) : TreeRep w B' tb ab am li lb used xs NB MB V :=
  ⟨h.tree, h.above, h.amap, h.len, h.node, h.root, h.vlen, h.apart, Nat.le_trans hB h.low.1, Nat.le_trans hB h.low.2.1, Nat.le_trans hB h.low.2.2.1, fun b hb => Nat.le_trans hB (h.low.2.2.2.1 b hb), fun m hm => ⟨Nat.le_trans hB (h.low.2.2.2.2 m hm).1, (h.low.2.2.2.2 m hm).2⟩⟩
theorem boot0_rep {w : World} {B B' tb ab am nb nm : Nat} {lp lf lo li lb : Int} (h : TreeRep w B tb ab am li lb 0 [newIno 1 0 ByteArray.empty true] [nb] [nm] [.slice none 0 0]) (hB : B' ≤ B) : BootRep w B' tb ab am (boot0 lp lf lo li lb) [nb] [nm] [.slice none 0 0] := by
  refine ⟨h.base hB, fun i v c hv hc => ?_, fun i j v u R hv hu h1 h2 => ?_⟩
  · have hi := (List.getElem?_eq_some_iff.1 hv).1
    have hi0 : i = 0 := by simp at hi; omega
    subst hi0
    have e1 : Value.slice none 0 0 = v := by simpa using hv
    have e2 : [] = c := by simpa [boot0] using hc
    exact .inl ⟨e1.symm, e2.symm⟩
  · have hi := (List.getElem?_eq_some_iff.1 hv).1
    have hj := (List.getElem?_eq_some_iff.1 hu).1
    simp at hi hj
    omega
/-- Blocks that are a kernel's own are as they were: its tree is. -/
theorem BootRep.stable {w w' : World} {B tb ab am : Nat} {p : PK} {NB MB : List Nat} {V : List Value} (h : BootRep w B tb ab am p NB MB V) (hs : w.heap.size ≤ w'.heap.size) (hk : ∀ k, B ≤ k → k < w.heap.size → w'.heap[k]? = w.heap[k]?) : BootRep w' B tb ab am p NB MB V := by
  have hl := h.tree.low
  refine ⟨⟨holds_block h.tree.tree (hk _ hl.1 h.tree.tree.lt), holds_block h.tree.above (hk _ hl.2.1 h.tree.above.lt), h.tree.amap.block (hk _ hl.2.2.1 h.tree.amap.lt), h.tree.len, fun i x b m hx hb hm => ?_, h.tree.root, h.tree.vlen, h.tree.apart, hl.1, hl.2.1, hl.2.2.1, hl.2.2.2.1, fun m hm => ⟨(hl.2.2.2.2 m hm).1, by have := (hl.2.2.2.2 m hm).2; omega⟩⟩, fun i v c hv hc => ?_, h.own⟩
  · obtain ⟨v, mv, h1, h2, h3⟩ := h.tree.node i x b m hx hb hm
    refine ⟨v, mv, holds_block h1 (hk _ (hl.2.2.2.1 b (List.mem_of_getElem? hb)) h1.lt), fun hd => ⟨(h2 hd).1, (h2 hd).2.block (hk _ (hl.2.2.2.2 m (List.mem_of_getElem? hm)).1 (h2 hd).2.lt)⟩, h3⟩
  · rcases h.cont i v c hv hc with q | ⟨R, cp, T, q1, q2, q3, q4, q5⟩
    · exact .inl q
    · exact .inr ⟨R, cp, T, q1, holds_block q2 (hk R q5 q2.lt), q3, q4, q5⟩
/-- Process 1 into a map that is new. -/
theorem one_put (w : World) (pb : Nat) : ∃ w', (Instr.mapUpdate 119 (.map (some w.heap.size)) (.int .i64 1) (.pointer (some ⟨pb, 0, none⟩))).run Tryz.prog (w.alloc (.map #[] 0)) = .ok () w' ∧ OneProc w' w.heap.size pb ∧ (w.alloc (.map #[] 0)).grownBy w' (some w.heap.size) := by
  have hD : (w.alloc (.map #[] 0)).ownsMap Tryz.prog 3 ptrElem w.heap.size 0 (.map []) := World.ownsMap_made w _ _ _
  have hkey := Go.Maps.keyOf_int_mk (P := Tryz.prog) Tryz.underlying3 (a := 1) (by decide)
  obtain ⟨w', hrun, hD', hg⟩ := hD.update intKeyed Tryz.underlying119 (by unfold maxLen; omega) hkey (show ptrElem (.pointer (some ⟨pb, 0, none⟩)) = some (.lit (.int .i64 pb), []) from rfl)
  exact ⟨w', hrun, hD', hg⟩
end Go.Proofs.YtkmbleboceedbaaGreatDoor

/- The program's processes by their numbers, where there is one: all. -/
namespace Go.Proofs.YtkmbleboceedbaaGreatDoor
open Go Go.RowKit Go.Maps Go.Sort Go.Shelf
set_option linter.unusedVariables false
set_option linter.unusedSimpArgs false

theorem sortsInt (m : Nat) : AnyZI.SortsIn Tryz.prog sortedL_ren Fence.wide m :=
  ⟨fun blk off cap ss W hH hblk hsz => callsIn_wide.2 (AnyM.slices_Sort_int sortIntL blk off cap ss W hH hblk hsz),
   fun p cap W => callsIn_wide.2 (AnyM.slices_Sort_int_none sortIntL p cap W)⟩
theorem keys_call (pm : Nat) (w : World) : Calls Tryz.prog 83 #[.map (some pm)] w fun e w' => e = .returned (.func (.func 109) #[] #[.pointer (some ⟨w.heap.size, 0, none⟩)]) ∧ w' = w.alloc (.cells #[.map (some pm)] 119) :=
  callsIn_wide.1 (AnyZI.keys_in keysL Fence.wide 5 trivial rfl (some pm) w)
theorem sorted_call {H : Type} (b nn : Nat) (D0 : DataW H) (R : Value → Option (DataW H × List MemPlace)) (w : World) (hown : w.ownsMap Tryz.prog 3 R b nn D0) (hmax : Maps.size D0 ≤ maxLen) (hbytes : Maps.size D0 * 8 ≤ 140737488355328) :
    Calls Tryz.prog 82 #[.func (.func 109) #[] #[.pointer (some ⟨w.heap.size, 0, none⟩)]] (w.alloc (.cells #[.map (some b)] 119)) fun e w' => ∃ (v : Value) (ss : List Int), e = .returned v ∧ ss.Perm (intKeys D0) ∧
      w'.ownsRow w.heap.size 3 1 v ss.length ((ss.mergeSort (fun x y => decide (x ≤ y))).map encZ) ∧ Below w.heap.size w w' := by
  have hbl := hown.lt
  have hseq : SeqGives Fence.wide 2 Tryz.prog 109 #[.pointer (some ⟨w.heap.size, 0, none⟩)] encZ (fun ss => ss.Perm (intKeys D0)) (Maps.size D0) (w.alloc (.cells #[.map (some b)] 119)) :=
    AnyZI.keys_gives (ρ := keysL_ren) { keysL with } Fence.wide _ trivial rfl (by omega) w.heap.size b nn D0 _ (by simp) (by simp) (by
      obtain ⟨es, clock, hb, Ft, hs, hD⟩ := hown
      exact ⟨es, clock, (Below.heap_alloc _ _ b hbl).trans hb, Ft, hs, hD⟩)
  have cS := AnyZI.sorted_in sortedL Fence.wide 5 trivial trivial trivial trivial rfl (by omega) (sortsInt _) (enters_of Tryz.func108 (by kernel_rfl) rfl) 109 #[.pointer (some ⟨w.heap.size, 0, none⟩)] trivial (enters_of Tryz.func109 (by kernel_rfl) rfl) _ _ hmax hbytes _ hseq
  refine (callsIn_wide.1 cS).mono ?_
  rintro e w' ⟨v, ss, rfl, hS, hrow, _, hb⟩
  exact ⟨v, ss, rfl, hS, ownsRow_base_a hrow (by simp), ((Below.refl _ w).alloc (Nat.le_refl _) _).trans (hb.mono (by simp))⟩
theorem one_len {w : World} {pm pb : Nat} (h : OneProc w pm pb) (ty : TypeId) : (Builtin.len_ #[119] ty #[.map (some pm)]).run Tryz.prog w = .ok (.int .i64 1) w := World.ownsMap.len h Tryz.underlying119 ty
theorem procZero (w : World) : (zeroValue 130).run Tryz.prog w = .ok (.pointer none) w := by kernel_rfl
theorem one_look {w : World} {pm pb : Nat} (h : OneProc w pm pb) : (Instr.lookup 119 (.map (some pm)) (.int .i64 1) false).run Tryz.prog w = .ok (.pointer (some ⟨pb, 0, none⟩)) w := by
  obtain ⟨v, ps, hrun, hv⟩ := World.ownsMap.lookup h intKeyed Tryz.underlying119 (procZero w) (show ptrElem (.pointer none) = some (.nil, []) from rfl) (Go.Maps.keyOf_int_mk Tryz.underlying3 (a := 1) (by decide))
  have hv : ptrElem v = some (nodeDatum (some pb), ps) := hv
  rw [ptrElem_inv hv] at hrun
  exact hrun
theorem procPtrInfo : (Tryz.prog.info? 130).map (fun i => (i.zero, i.size, i.bytes)) = some (some (.pointer none), 1, 8) := by kernel_rfl
theorem makePtr (w : World) : ∃ cur : Array Value, cur.size = 1 * 1 ∧ (Instr.makeSlice 115 (.int .i64 0) (.int .i64 1)).run Tryz.prog w = .ok (.slice (some ⟨w.heap.size, 0, none⟩) 0 1) (w.alloc (.cells cur 130)) := by
  obtain ⟨i, hi, hz, hs, hb⟩ := info_parts procPtrInfo
  have hr := run_make (P := Tryz.prog) w 115 130 i _ Tryz.underlying115 hi hz .i64 .i64 0 1 (by omega) (by omega) (by rw [hb]; omega) (by omega)
  rw [hs] at hr
  exact ⟨_, by simp [madeCells], hr⟩
theorem perm_one {ss : List Int} (h : ss.Perm [1]) : ss = [1] := List.perm_singleton.1 h
set_option maxRecDepth 100000 in
set_option maxHeartbeats 2000000 in
theorem all_one (kb pm pb : Nat) (w : World) (hk : w.cell? ⟨kb, 9, none⟩ = some (.map (some pm))) (hkl : kb < w.heap.size) (hm : OneProc w pm pb) :
    Calls Tryz.prog 51 #[.pointer (some ⟨kb, 0, none⟩)] w fun e w' => ∃ v, e = .returned v ∧ w'.ownsRow w.heap.size 130 1 v 1 [.pointer (some ⟨pb, 0, none⟩)] ∧ Below w.heap.size w w' := by
  obtain ⟨cur, hcur, hmk⟩ := makePtr w
  have hln := one_len hm
  obtain ⟨W1, hW1⟩ : ∃ W1, W1 = w.alloc (.cells cur 130) := ⟨_, rfl⟩
  have hb1 : Below w.heap.size w W1 := by rw [hW1]; exact (Below.refl _ _).alloc (Nat.le_refl _) _
  have ho1 : W1.ownsRow w.heap.size 130 1 (.slice (some ⟨w.heap.size, 0, none⟩) 0 1) 0 [] := by rw [hW1]; exact World.ownsRow_made w cur 1 (Nat.le_refl _) (by unfold maxLen; omega) hcur
  have k1 : W1.cell? ⟨kb, 9, none⟩ = some (.map (some pm)) := by rw [hb1.cell (p := ⟨kb, 9, none⟩) hkl]; exact hk
  have hm1 : OneProc W1 pm pb := hm.kept (grown_below hb1) (by simp)
  have HKY := hide (keys_call pm W1)
  have HST := hide (sorted_call pm 1 (procD pb) ptrElem W1 hm1 (by show 1 ≤ maxLen; unfold maxLen; omega) (by show 1 * 8 ≤ _; omega))
  have HM := hide hm
  have HB1 := hide hb1
  have HO1 := hide ho1
  have HW1 := hide hW1
  obtain ⟨ip, hip, hpz0, hpz1, hpz2⟩ := info_parts procPtrInfo
  have HIP := hide (And.intro hip (And.intro hpz0 (And.intro hpz1 hpz2)))
  clear hm hb1 ho1 hW1 hcur hip hpz0 hpz1 hpz2 hm1
  go_enter Tryz.func51, Tryz.ntmps51
  go_upto_region 2 with fail
  rw [← unhide HW1]
  clear hmk hln
  go_wp2_with fail
  refine (unhide HKY).mono ?_
  rintro e w2 ⟨rfl, rfl⟩
  clear HKY k1
  go_wp2_with fail
  refine (unhide HST).mono ?_
  rintro e w3 ⟨v, ss, rfl, hss, hrow, hb3⟩
  obtain rfl := perm_one (show ss.Perm [1] from hss)
  obtain ⟨gs, cs, rfl, hgs, hgl⟩ := hrow.form (show 0 < [(1 : Int)].length by decide)
  have hrow : w3.ownsRow W1.heap.size 3 1 (.slice (some ⟨gs, 0, none⟩) 1 cs) 1 [.int .i64 1] := by
    have h := hrow
    rw [List.mergeSort_singleton] at h
    exact h
  have s0 : w3.cell? ⟨gs, 0, none⟩ = some (.int .i64 1) := hrow.cellAt 0 (by omega)
  have hb3w := (unhide HB1).trans (hb3.mono (unhide HB1).size)
  have ho3 := own_below (unhide HO1) (hide hb3)
  have HB3 := hide hb3w
  have HO3 := hide ho3
  have hm3 : OneProc w3 pm pb := (unhide HM).kept (grown_below hb3w) (by simp)
  have hlk := one_look hm3
  have k3 : w3.cell? ⟨kb, 9, none⟩ = some (.map (some pm)) := by rw [hb3w.cell (p := ⟨kb, 9, none⟩) hkl]; exact hk
  have HL := hide (show w.heap.size ≤ w3.heap.size from hb3w.size)
  clear hss hrow hgs hgl hb3 hb3w ho3 hm3 HST hk
  go_wp2
  go_loopw [3, 19] (fun v i wr => ∃ k : Nat, k ≤ 1 ∧ i = .int .i64 k ∧ (k = 0 → v = .slice (some ⟨w.heap.size, 0, none⟩) 0 1 ∧ wr = w3) ∧ (k = 1 → Hid (wr.ownsRow w.heap.size 130 1 v 1 [.pointer (some ⟨pb, 0, none⟩)] ∧ Below w.heap.size w wr))) (fun _ i _ => 1 - (intOf i).toNat)
  case atStart => exact ⟨0, by omega, rfl, fun _ => ⟨rfl, rfl⟩, fun h => by omega⟩
  case round =>
    obtain ⟨k, hk, rfl, h0, h1⟩ := hrel
    have h2 : k = 0 ∨ k = 1 := by omega
    rcases h2 with rfl | rfl
    · obtain ⟨rfl, rfl⟩ := h0 rfl
      have hb4 : Below wr.heap.size wr (wr.alloc (Obj.cells #[.pointer (some ⟨pb, 0, none⟩)] 130)) := (Below.refl _ _).alloc (Nat.le_refl _) _
      have HA := hide (own_below (unhide HO3) (hide hb4))
      have HB4 := hide ((unhide HB3).trans (hb4.mono (unhide HB3).size))
      have hl := unhide HL
      clear h0 h1 hb4
      go_wp2_with (at_builtin; refine wpList_append_lies _ (by rfl) _ _ 115 (by rfl) w.heap.size 130 ip _ 1 8 Tryz.underlying115 (unhide HIP).1 (unhide HIP).2.1 (unhide HIP).2.2.1 (unhide HIP).2.2.2 rfl (by decide) _ 0 [] (by rfl) (unhide HA) ⟨wr.heap.size, 0, none⟩ 1 1 [.pointer (some ⟨pb, 0, none⟩)] (by rfl) (by rfl) (news1 wr _ _) (by intro u hu; simp only [List.mem_cons, List.not_mem_nil, or_false] at hu; subst hu; rfl) (by omega) (by unfold maxLen; omega) (by omega) (by simp; omega) (wr.heap.size + 1) (by simp) ?_; intro g8 c8 w8 hown8 hgrow8 hat8 hlt8)
      refine ⟨⟨1, by omega, by simp, fun h => by omega, fun _ => hide ⟨hown8, (unhide HB4).trans ⟨hgrow8.os, hgrow8.tape, hgrow8.output, hgrow8.size, fun q hq => hgrow8.block q (by simp; omega) (fun e => ?_)⟩⟩⟩, by simp [intOf]⟩
      have := (unhide HA).lt q e.symm
      omega
    · have HF := h1 rfl
      clear h0 h1
      go_wp2
      go_ret
      exact ⟨_, rfl, (unhide HF).1, (unhide HF).2⟩
end Go.Proofs.YtkmbleboceedbaaGreatDoor
