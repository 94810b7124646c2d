import Derived.Test.YtkokiefclmbgaaaGreatDoorBootsProofG32
import Derived.Test.YtkokiefclmbgaaaGreatDoorBootsProofG09
import Derived.Test.YtkokiefclmbgaaaGreatDoorBootsProofG46
import Derived.Test.YtkokiefclmbgaaaGreatDoorBootsProofG47
import Derived.Test.YtkokiefclmbgaaaGreatDoorBootsProofG41
import Derived.Test.YtkokiefclmbgaaaGreatDoorBootsProofG43
import Derived.Test.YtkokiefclmbgaaaGreatDoorBootsProofG25
/- The program's Console, where nothing was written. -/
namespace Go.Proofs.YtkokiefclmbgaaaGreatDoor
open Go Go.RowKit
set_option linter.unusedVariables false
set_option linter.unusedSimpArgs false

set_option maxRecDepth 100000 in
theorem clone_nil (w : World) : Calls Tryz.prog 91 #[.slice none 0 0] w fun e w' => e = .returned (.slice none 0 0) ∧ w' = w := by
  exact AnyE.slices_Clone_nil cloneBL 0 0 w
/-- A cell that is set to what it holds. -/
theorem set_same {w : World} {b j : Nat} {t : TypeId} {vs : List Value} {v : Value} (h : Holds w b t vs) (hj : vs[j]? = some v) : Below w.heap.size w (w.setCell ⟨b, j, none⟩ v) := by
  have h1 := h.set j v
  have hl := (List.getElem?_eq_some_iff.1 hj).1
  have e : vs.set j v = vs := by
    apply List.ext_getElem?
    intro i
    rw [List.getElem?_set]
    split
    · rename_i hi
      subst hi
      rw [hj]
    · rfl
  rw [e] at h1
  have hb := (Below.refl b w).setCell (p := ⟨b, j, none⟩) (Nat.le_refl _) v
  refine ⟨hb.os, hb.tape, hb.output, hb.size, fun k hk => ?_⟩
  by_cases hkb : k = b
  · subst hkb
    unfold Holds at h h1
    rw [h, h1]
  · show (w.heap.modify b _)[k]? = w.heap[k]?
    rw [Array.getElem?_modify, if_neg (fun e => hkb e.symm)]
set_option maxRecDepth 100000 in
set_option maxHeartbeats 1000000 in
theorem take_nil (cb j : Nat) (t : TypeId) (vs : List Value) (w : World) (h : Holds w cb t vs) (hj : vs[j]? = some (.slice none 0 0)) :
    Calls Tryz.prog 58 #[.pointer (some ⟨cb, j, none⟩), .int .i64 0] w fun e w' => e = .returned (.slice none 0 0) ∧ Below w.heap.size w w' := by
  have c0 : w.cell? ⟨cb, j, none⟩ = some (.slice none 0 0) := h.cell hj
  have f0 := h.frozen j
  have HB := hide (set_same h hj)
  have HC := hide (clone_nil w)
  clear h hj
  go_enter Tryz.func58, Tryz.ntmps58
  go_wp2_with fail
  refine (unhide HC).mono ?_
  rintro e w1 ⟨rfl, hw⟩
  subst hw
  go_wp2
  go_ret
  exact ⟨rfl, unhide HB⟩
theorem takeEnter : ∀ args w, (callFunc 58 args).run Tryz.prog w = .ok (.enter 58 args) w := enters_of Tryz.func58 (by kernel_rfl) rfl
def conRow : List Value := [.slice none 0 0, .slice none 0 0]
set_option maxRecDepth 100000 in
set_option maxHeartbeats 1000000 in
theorem conTell_nil (cb : Nat) (w : World) (h : Holds w cb 129 conRow) :
    Calls Tryz.prog 36 #[.pointer (some ⟨cb, 0, none⟩)] w fun e w' => e = .returned (.slice none 0 0) ∧ Below w.heap.size w w' := by
  have hS0 : w.cell? ⟨cb, 1, none⟩ = some (.slice none 0 0) := h.cell rfl
  have HT := hide (take_nil cb 1 129 conRow w.drew (h.heap rfl) rfl)
  have R1 := hide (show ∀ w' : World, w'.cell? ⟨cb, 1, none⟩ = some (.slice none 0 0) → (Instr.loadAt 32 (.pointer (some ⟨cb, 1, none⟩))).run Tryz.prog w' = .ok (.slice none 0 0) w' from fun w' h' => by
    clear hS0 h
    go_simp)
  have hcl := h.lt
  have HS0 := hide hS0
  clear h hS0
  go_enter Tryz.func36, Tryz.ntmps36
  go_upto_region 1 with fail
  refine act_gen ?_
  intro A hA
  have e0 : A.eval (.tmp 0) = .pointer (some ⟨cb, 0, none⟩) := by rw [hA]; rfl
  have esz : A.tmps.size = 13 := by rw [hA]; rfl
  have HA := hide hA
  clear hA
  refine wp_region_held_drew (S := fun w' => w'.cell? ⟨cb, 1, none⟩ = some (.slice none 0 0)) (by kernel_rfl) (unhide HS0) (fun hS => ?_)
  refine takeH (i := 0) (some 3) rfl rfl (by kernel_rfl) (by kernel_rfl) (by kernel_rfl) (fun _ _ _ h => h) (yields_move rfl _ rfl (.pointer (some ⟨cb, 0, none⟩)) (by simp [put_eval, put_size, esz, e0])) hS ?_
  refine takeH (i := 1) (some 4) rfl rfl (by kernel_rfl) (by kernel_rfl) (by kernel_rfl) (fun _ _ _ h => h) (yields_nil rfl _ rfl ⟨cb, 0, none⟩ (by simp [put_eval, put_size, esz, e0])) hS ?_
  refine takeH (i := 2) (some 5) rfl rfl (by kernel_rfl) (by kernel_rfl) (by kernel_rfl) (fun _ _ _ h => h) (yields_field rfl _ _ _ rfl (.pointer (some ⟨cb, 0, none⟩)) (by simp [put_eval, put_size, esz, e0]) (.pointer (some ⟨cb, 1, none⟩)) (fun w' => by go_simp)) hS ?_
  refine takeH (i := 3) (some 6) rfl rfl (by kernel_rfl) (by kernel_rfl) (by kernel_rfl) (fun _ _ _ h => h) (yields_move rfl _ rfl (.pointer (some ⟨cb, 0, none⟩)) (by simp [put_eval, put_size, esz, e0])) hS ?_
  refine takeH (i := 4) (some 7) rfl rfl (by kernel_rfl) (by kernel_rfl) (by kernel_rfl) (fun _ _ _ h => h) (yields_nil rfl _ rfl ⟨cb, 0, none⟩ (by simp [put_eval, put_size, esz, e0])) hS ?_
  refine takeH (i := 5) (some 8) rfl rfl (by kernel_rfl) (by kernel_rfl) (by kernel_rfl) (fun _ _ _ h => h) (yields_field rfl _ _ _ rfl (.pointer (some ⟨cb, 0, none⟩)) (by simp [put_eval, put_size, esz, e0]) (.pointer (some ⟨cb, 1, none⟩)) (fun w' => by go_simp)) hS ?_
  refine takeH (i := 6) (some 9) rfl rfl (by kernel_rfl) (by kernel_rfl) (by kernel_rfl) (fun _ _ _ h => h) (yields_field rfl _ _ _ rfl (.pointer (some ⟨cb, 1, none⟩)) (by simp [put_eval, put_size, esz, e0]) (.pointer (some ⟨cb, 1, none⟩)) (fun w' => by go_simp)) hS ?_
  refine takeH (i := 7) (some 10) rfl rfl (by kernel_rfl) (by kernel_rfl) (by kernel_rfl) (fun _ _ _ h => h) (yields_load1 rfl _ _ rfl ⟨cb, 1, none⟩ (by simp [put_eval, put_size, esz, e0]) (.slice none 0 0) (unhide R1)) hS ?_
  refine takeH (i := 8) (some 11) rfl rfl (by kernel_rfl) (by kernel_rfl) (by kernel_rfl) (fun _ _ _ h => h) (yields_len rfl _ _ rfl (.slice none 0 0) (by simp [put_eval, put_size, esz, e0]) (.int .i64 0) (fun w' _ => by go_simp)) hS ?_
  refine wpAnyH_ready (rs := [9]) (by kernel_rfl) (by simp) (AllReadyH.cons rfl (fun K hK => ?_) AllReadyH.nil)
  refine step_call2x rfl 58 5 11 _ _ rfl (.pointer (some ⟨cb, 1, none⟩)) (.int .i64 0) (by simp [put_eval, put_size, esz, e0]) (by simp [put_eval, put_size, esz, e0]) takeEnter _ (fun e w' h => ⟨_, h.1⟩) (unhide HT) (some 12) rfl ?_
  rintro r2 w2 ⟨hr2, hb2⟩
  have hr2 : r2 = .slice none 0 0 := by injection hr2
  subst hr2
  have hb2 : Below w.heap.size w w2 := ⟨hb2.os, hb2.tape, hb2.output, hb2.size, hb2.block⟩
  refine hK.out _ _ (by rw [hb2.cell (p := ⟨cb, 1, none⟩) hcl]; exact unhide HS0) (fun hS2 => ?_)
  clear hK K
  refine takeH (i := 10) (some 2) rfl rfl (by kernel_rfl) (by kernel_rfl) (by kernel_rfl) (fun _ _ _ h => h) (yields_assign rfl _ rfl (.slice none 0 0) (by simp [put_eval, put_size, esz])) hS2 ?_
  refine wpAnyH_done (by kernel_rfl) ?_ _
  have HB2 := hide hb2
  rw [unhide HA]
  simp only [Act.put, List.setIfInBounds_toArray, List.set_cons_zero, List.set_cons_succ]
  clear hb2 hS hS2 HA e0 esz R1 HT
  go_wp2
  go_ret
  exact ⟨rfl, unhide HB2⟩
set_option maxRecDepth 100000 in
set_option maxHeartbeats 1000000 in
theorem kConsole_nil (kb cb : Nat) (w : World) (hk : w.cell? ⟨kb, 6, none⟩ = some (.pointer (some ⟨cb, 0, none⟩))) (h : Holds w cb 129 conRow) :
    Calls Tryz.prog 25 #[.pointer (some ⟨kb, 0, none⟩)] w fun e w' => e = .returned (.slice none 0 0) ∧ Below w.heap.size w w' := by
  have HT := hide (conTell_nil cb w h)
  clear h
  go_enter Tryz.func25, Tryz.ntmps25
  go_wp2_with fail
  refine (unhide HT).mono ?_
  rintro e w1 ⟨rfl, hb⟩
  have HB := hide hb
  clear hb hk HT
  go_wp2
  go_ret
  exact ⟨rfl, unhide HB⟩
set_option maxRecDepth 100000 in
set_option maxHeartbeats 1000000 in
theorem console_nil (tk kb cb : Nat) (w : World) (ht : w.cell? ⟨tk, 0, none⟩ = some (.pointer (some ⟨kb, 0, none⟩))) (hk : w.cell? ⟨kb, 6, none⟩ = some (.pointer (some ⟨cb, 0, none⟩))) (h : Holds w cb 129 conRow) :
    Calls Tryz.prog 9 #[.pointer (some ⟨tk, 0, none⟩)] w fun e w' => e = .returned (.slice none 0 0) ∧ Below w.heap.size w w' := by
  have HT := hide (kConsole_nil kb cb w hk h)
  clear h hk
  go_enter Tryz.func9, Tryz.ntmps9
  go_wp2_with fail
  refine (unhide HT).mono ?_
  rintro e w1 ⟨rfl, hb⟩
  have HB := hide hb
  clear hb ht HT
  go_wp2
  go_ret
  exact ⟨rfl, unhide HB⟩
end Go.Proofs.YtkokiefclmbgaaaGreatDoor

/- What Boot's files leave, in numbers; a tree that has just been made. -/
namespace Go.Proofs.YtkokiefclmbgaaaGreatDoor
open Go Go.RowKit Go.Maps
set_option linter.unusedVariables false
set_option linter.unusedSimpArgs false

/-- Sizes and limits of what Boot's first files left. -/
structure PSize (lp lf lo li lb : Int) (j S : Nat) (p : PK) : Prop where
  len : p.xs.length ≤ j + 1
  used : usedOf p.cs ≤ S
  bytes : AllBytes p.cs
  lims : p.lp = lp ∧ p.lf = lf ∧ p.lo = lo ∧ p.li = li ∧ p.lb = lb
theorem popened_len (p : PK) (s : ByteArray) : (p.opened s).1.xs.length ≤ p.xs.length + 1 ∧ usedOf (p.opened s).1.cs = usedOf p.cs ∧ (AllBytes p.cs → AllBytes (p.opened s).1.cs) ∧ (p.opened s).1.lp = p.lp ∧ (p.opened s).1.lf = p.lf ∧ (p.opened s).1.lo = p.lo ∧ (p.opened s).1.li = p.li ∧ (p.opened s).1.lb = p.lb := by
  unfold PK.opened
  split
  · refine ⟨by simp [PK.add], used_snoc _, fun h => h.snoc, rfl, rfl, rfl, rfl, rfl⟩
  · exact ⟨by simp, rfl, fun h => h, rfl, rfl, rfl, rfl, rfl⟩
theorem over_bytes {c B : List Int} (hc : IsBytes c) (hB : IsBytes B) : IsBytes (over c B) := by
  rw [isBytes_mem] at hc hB ⊢
  intro x hx
  unfold over at hx
  rcases List.mem_append.1 hx with h | h
  · exact hB x h
  · exact hc x (List.mem_of_mem_drop h)
theorem PSize.put {lp lf lo li lb : Int} {j S : Nat} {p : PK} (h : PSize lp lf lo li lb j S p) (f : PFile) (hb : IsBytes f.bytes) : PSize lp lf lo li lb (j + 1) (S + f.bytes.length) (p.put f).2 := by
  unfold PK.put
  split
  · unfold PK.mkdir
    have h0 : PSize lp lf lo li lb (j + 1) (S + f.bytes.length) p := ⟨by have := h.len; omega, by have := h.used; omega, h.bytes, h.lims⟩
    split
    · exact h0
    split
    · exact h0
    split
    · exact h0
    · exact ⟨by have := h.len; simp [PK.add]; omega, by have := h.used; show usedOf (p.cs ++ [[]]) ≤ _; rw [used_snoc]; omega, h.bytes.snoc, h.lims⟩
  · obtain ⟨o1, o2, o3, o4, o5, o6, o7, o8⟩ := popened_len p f.path
    have hl := h.lims
    unfold PK.fileOut
    split
    · exact ⟨by have := h.len; show (p.opened f.path).1.xs.length ≤ _; omega, by have := h.used; show usedOf (p.opened f.path).1.cs ≤ _; omega, o3 h.bytes, o4.trans hl.1, o5.trans hl.2.1, o6.trans hl.2.2.1, o7.trans hl.2.2.2.1, o8.trans hl.2.2.2.2⟩
    · refine ⟨by have := h.len; show (p.opened f.path).1.xs.length ≤ _; omega, ?_, ?_, o4.trans hl.1, o5.trans hl.2.1, o6.trans hl.2.2.1, o7.trans hl.2.2.2.1, o8.trans hl.2.2.2.2⟩
      · have hs := used_set (p.opened f.path).1.cs (placeOf (p.opened f.path).1.xs (p.opened f.path).2).toNat (over ((p.opened f.path).1.old (p.opened f.path).2) f.bytes)
        rw [over_len (M := max f.bytes.length ((p.opened f.path).1.old (p.opened f.path).2).length) rfl] at hs
        have e : (p.opened f.path).1.old (p.opened f.path).2 = (p.opened f.path).1.cs.getD (placeOf (p.opened f.path).1.xs (p.opened f.path).2).toNat [] := rfl
        rw [← e] at hs
        have := h.used
        show usedOf ((p.opened f.path).1.cs.set _ _) ≤ _
        omega
      · intro c hc
        rcases List.mem_or_eq_of_mem_set hc with h1 | h1
        · exact o3 h.bytes c h1
        · rw [h1]
          refine over_bytes ?_ hb
          show IsBytes ((p.opened f.path).1.cs.getD _ [])
          rw [List.getD_eq_getElem?_getD]
          cases hg : (p.opened f.path).1.cs[(placeOf (p.opened f.path).1.xs (p.opened f.path).2).toNat]? with
          | none => exact isBytes_mem.2 (fun x hx => by cases hx)
          | some d => exact o3 h.bytes d (List.mem_of_getElem? hg)
/-- No more is there than the limits allow. -/
def PFit (p : PK) : Prop := (p.xs.length : Int) ≤ p.li ∧ (usedOf p.cs : Int) ≤ p.lb
theorem PFit.put {p : PK} (h : PFit p) (f : PFile) (hc : (p.put f).1 = 0) : PFit (p.put f).2 := by
  have hadd : ∀ (d : Int) (name : ByteArray) (is : Bool), ¬ p.li ≤ (p.xs.length : Int) → PFit (p.add d name is) := fun d name is q => by
    refine ⟨?_, ?_⟩
    · show (((p.xs ++ [newIno (p.last + 1) d name is]).length : Nat) : Int) ≤ p.li
      rw [List.length_append]
      simp
      omega
    · show (usedOf (p.cs ++ [[]]) : Int) ≤ p.lb
      rw [used_snoc]
      exact h.2
  unfold PK.put at hc ⊢
  split at hc
  · rename_i q0
    rw [if_pos q0]
    unfold PK.mkdir at hc ⊢
    split at hc
    · rename_i q; exact absurd hc q
    · rename_i q
      rw [if_neg q]
      split at hc
      · exact absurd hc (show ¬ (10 : Int) = 0 by decide)
      · rename_i q1
        rw [if_neg q1]
        split at hc
        · exact absurd hc (show ¬ (12 : Int) = 0 by decide)
        · rename_i q2
          rw [if_neg q2]
          exact hadd _ _ _ q2
  · rename_i q0
    rw [if_neg q0]
    have hc : p.fileCode f.path f.bytes = 0 := hc
    show PFit (p.fileOut f.path f.bytes)
    unfold PK.fileCode at hc
    split at hc
    · rename_i q; exact absurd hc q
    · split at hc
      · exact absurd hc (by decide)
      · rename_i q1
        have ho : PFit (p.opened f.path).1 := by
          unfold PK.opened
          split
          · rename_i q2; exact hadd _ _ _ (fun q3 => q1 ⟨q2, q3⟩)
          · exact h
        split at hc
        · exact absurd hc (by decide)
        · split at hc
          · exact absurd hc (by decide)
          · rename_i q3
            unfold PK.fileOut
            split
            · exact ho
            · rename_i q4
              refine ⟨ho.1, ?_⟩
              have hs := used_set (p.opened f.path).1.cs (placeOf (p.opened f.path).1.xs (p.opened f.path).2).toNat (over ((p.opened f.path).1.old (p.opened f.path).2) f.bytes)
              rw [over_len (M := max f.bytes.length ((p.opened f.path).1.old (p.opened f.path).2).length) rfl] at hs
              have e : (p.opened f.path).1.old (p.opened f.path).2 = (p.opened f.path).1.cs.getD (placeOf (p.opened f.path).1.xs (p.opened f.path).2).toNat [] := rfl
              rw [← e] at hs
              have hl8 := (popened_len p f.path).2.2.2.2.2.2.2
              show (usedOf ((p.opened f.path).1.cs.set _ _) : Int) ≤ (p.opened f.path).1.lb
              rw [hl8]
              have q5 : ¬ p.lb < (usedOf (p.opened f.path).1.cs : Int) - (((p.opened f.path).1.old (p.opened f.path).2).length : Int) + ((max f.bytes.length ((p.opened f.path).1.old (p.opened f.path).2).length : Nat) : Int) := fun q5 => q3 ⟨by omega, q5⟩
              omega
theorem boot0_size (lp lf lo li lb : Int) : PSize lp lf lo li lb 0 0 (boot0 lp lf lo li lb) := ⟨by simp [boot0], by simp [boot0, usedOf], isBytes_nils, rfl, rfl, rfl, rfl, rfl⟩
theorem TreeRep.base {w : World} {B B' tb ab am : Nat} {li lb used : Int} {xs : List Ino} {NB MB : List Nat} {V : List Value} (h : TreeRep w B tb ab am li lb used xs NB MB V) (hB : B' ≤ B) : TreeRep w B' tb ab am li lb used xs NB MB V :=
  ⟨h.tree, h.above, h.amap, h.len, h.node, h.root, h.vlen, h.apart, Nat.le_trans hB h.low.1, Nat.le_trans hB h.low.2.1, Nat.le_trans hB h.low.2.2.1, fun b hb => Nat.le_trans hB (h.low.2.2.2.1 b hb), fun m hm => ⟨Nat.le_trans hB (h.low.2.2.2.2 m hm).1, (h.low.2.2.2.2 m hm).2⟩⟩
theorem boot0_rep {w : World} {B B' tb ab am nb nm : Nat} {lp lf lo li lb : Int} (h : TreeRep w B tb ab am li lb 0 [newIno 1 0 ByteArray.empty true] [nb] [nm] [.slice none 0 0]) (hB : B' ≤ B) : BootRep w B' tb ab am (boot0 lp lf lo li lb) [nb] [nm] [.slice none 0 0] := by
  refine ⟨h.base hB, fun i v c hv hc => ?_, fun i j v u R hv hu h1 h2 => ?_⟩
  · have hi := (List.getElem?_eq_some_iff.1 hv).1
    have hi0 : i = 0 := by simp at hi; omega
    subst hi0
    have e1 : Value.slice none 0 0 = v := by simpa using hv
    have e2 : [] = c := by simpa [boot0] using hc
    exact .inl ⟨e1.symm, e2.symm⟩
  · have hi := (List.getElem?_eq_some_iff.1 hv).1
    have hj := (List.getElem?_eq_some_iff.1 hu).1
    simp at hi hj
    omega
/-- Blocks that are a kernel's own are as they were: its tree is. -/
theorem BootRep.stable {w w' : World} {B tb ab am : Nat} {p : PK} {NB MB : List Nat} {V : List Value} (h : BootRep w B tb ab am p NB MB V) (hs : w.heap.size ≤ w'.heap.size) (hk : ∀ k, B ≤ k → k < w.heap.size → w'.heap[k]? = w.heap[k]?) : BootRep w' B tb ab am p NB MB V := by
  have hl := h.tree.low
  refine ⟨⟨holds_block h.tree.tree (hk _ hl.1 h.tree.tree.lt), holds_block h.tree.above (hk _ hl.2.1 h.tree.above.lt), h.tree.amap.block (hk _ hl.2.2.1 h.tree.amap.lt), h.tree.len, fun i x b m hx hb hm => ?_, h.tree.root, h.tree.vlen, h.tree.apart, hl.1, hl.2.1, hl.2.2.1, hl.2.2.2.1, fun m hm => ⟨(hl.2.2.2.2 m hm).1, by have := (hl.2.2.2.2 m hm).2; omega⟩⟩, fun i v c hv hc => ?_, h.own⟩
  · obtain ⟨qn, v, mv, h1, h2, h3⟩ := h.tree.node i x b m hx hb hm
    refine ⟨qn, v, mv, holds_block h1 (hk _ (hl.2.2.2.1 b (List.mem_of_getElem? hb)) h1.lt), fun hd => ⟨(h2 hd).1, (h2 hd).2.block (hk _ (hl.2.2.2.2 m (List.mem_of_getElem? hm)).1 (h2 hd).2.lt)⟩, h3⟩
  · rcases h.cont i v c hv hc with q | ⟨R, cp, T, q1, q2, q3, q4, q5⟩
    · exact .inl q
    · exact .inr ⟨R, cp, T, q1, holds_block q2 (hk R q5 q2.lt), q3, q4, q5⟩
/-- Process 1 into a map that is new. -/
theorem one_put (w : World) (pb : Nat) : ∃ w', (Instr.mapUpdate 119 (.map (some w.heap.size)) (.int .i64 1) (.pointer (some ⟨pb, 0, none⟩))).run Tryz.prog (w.alloc (.map #[] 0)) = .ok () w' ∧ OneProc w' w.heap.size pb ∧ (w.alloc (.map #[] 0)).grownBy w' (some w.heap.size) := by
  have hD : (w.alloc (.map #[] 0)).ownsMap Tryz.prog 3 ptrElem w.heap.size 0 (.map []) := World.ownsMap_made w _ _ _
  have hkey := Go.Maps.keyOf_int_mk (P := Tryz.prog) Tryz.underlying3 (a := 1) (by decide)
  obtain ⟨w', hrun, hD', hg⟩ := hD.update intKeyed Tryz.underlying119 (by unfold maxLen; omega) hkey (show ptrElem (.pointer (some ⟨pb, 0, none⟩)) = some (.lit (.int .i64 pb), []) from rfl)
  exact ⟨w', hrun, hD', hg⟩
end Go.Proofs.YtkokiefclmbgaaaGreatDoor

/- The program's Used, where there is process 1 alone. -/
namespace Go.Proofs.YtkokiefclmbgaaaGreatDoor
open Go Go.RowKit
set_option linter.unusedVariables false
set_option linter.unusedSimpArgs false

theorem step_len {P : Program} {ops : Array Oper} {o : Oper} {a : Act} {w : World} {K : Act → World → Prop} {Q : Exit → Act → World → Prop} {E : Prop} (hgd : o.guard = none) (t : Nat) (ts : Array TypeId) (ho : o.op = .call { callee := .builtin .len, args := #[.tmp t], argTypes := ts }) (v : Value) (hx : a.eval (.tmp t) = v) (r : Value) (hrun : (Builtin.len_ ts o.type #[v]).run P w = .ok r w) (d : Option Tmp) (hd : o.dst = d) (h : K (a.put d r) w) :
    if Region.wanted o (yielded ops a.tmps) = true then Oper.wp P o a w K Q else E := by
  have hw : Region.wanted o (yielded ops a.tmps) = true := by simp [Region.wanted, hgd]
  have hx' : a.tmps[t]?.getD undef = v := by rw [← hx]; simp [go_sem]
  rw [if_pos hw]
  subst hd
  unfold Oper.wp
  simp [execOp, ho, hx', invoke, resolve, go_sem, hrun, Result.andThen]
  simpa [go_sem] using h
theorem objectsEnter : ∀ args w, (callFunc 55 args).run Tryz.prog w = .ok (.enter 55 args) w := enters_of Tryz.func55 (by kernel_rfl) rfl
theorem inodesEnter : ∀ args w, (callFunc 56 args).run Tryz.prog w = .ok (.enter 56 args) w := enters_of Tryz.func56 (by kernel_rfl) rfl
theorem fbytesEnter : ∀ args w, (callFunc 57 args).run Tryz.prog w = .ok (.enter 57 args) w := enters_of Tryz.func57 (by kernel_rfl) rfl
theorem limSize : (Tryz.prog.info? 23).map (·.size) = some 5 := by kernel_rfl
theorem lim_built (a b c d e : Int) (w : World) : (Instr.build 23 #[(0, .int .i64 a), (1, .int .i64 b), (2, .int .i64 c), (3, .int .i64 d), (4, .int .i64 e)]).run Tryz.prog w = .ok (.agg (limRow a b c d e).toArray) w := by kernel_rfl
theorem limRow_one (a b c d e : Int) : ∀ v ∈ limRow a b c d e, v.oneCell' = true := by
  intro v hv
  simp only [limRow, List.mem_cons, List.not_mem_nil, or_false] at hv
  rcases hv with rfl | rfl | rfl | rfl | rfl <;> rfl
theorem noMap_len {w : World} {m : Nat} (h : NoMap w m) (ty : TypeId) : (Builtin.len_ #[156] ty #[.map (some m)]).run Tryz.prog w = .ok (.int .i64 0) w := by
  obtain ⟨c, hc⟩ := h
  exact run_len_map w 156 ty m #[] c (by kernel_rfl) hc

set_option maxRecDepth 100000 in
set_option maxHeartbeats 4000000 in
theorem kUsed_one (kb pm pb cb tb ab : Nat) (lp lf lo li lb n used : Int) (PS : List Pg) (w : World) (hk : Holds w kb 121 (kernelRow lp lf lo li lb tb cb pm)) (hm : OneProc w pm pb) (hpl : pb < w.heap.size) (hp : PermsAt w pb PS) (hok : PgsOk PS) (hf : w.rangeAt pb 65814 (kfdsTo cb 3)) (ht : Holds w tb 163 [.pointer (some ⟨ab, 0, none⟩), .int .i64 n, .int .i64 li, .int .i64 used, .int .i64 lb]) :
    Calls Tryz.prog 35 #[.pointer (some ⟨kb, 0, none⟩)] w fun e w' => e = .returned (.agg (limRow 1 (PS.length : Nat) 0 n used).toArray) ∧ Below w.heap.size w w' := by
  obtain ⟨KROW, hKROW⟩ : ∃ KROW, KROW = kernelRow lp lf lo li lb tb cb pm := ⟨_, rfl⟩
  have y9 : KROW[9]? = some (.map (some pm)) := by rw [hKROW]; rfl
  have y5 : KROW[5]? = some (.pointer (some ⟨tb, 0, none⟩)) := by rw [hKROW]; rfl
  have y6 : KROW[6]? = some (.pointer (some ⟨cb, 0, none⟩)) := by rw [hKROW]; rfl
  have HFR := hide (show ∀ ww, Below w.heap.size w ww → Calls Tryz.prog 54 #[.pointer (some ⟨kb, 0, none⟩)] ww fun e w' => e = .returned (.int .i64 (PS.length : Nat)) ∧ Below ww.heap.size ww w' from fun ww h => frames_any kb pm pb lp lf lo li lb tb cb PS ww (hk.below h hk.lt) (hm.kept (grown_below h) (by simp)) (by have := h.size; omega) (hp.below h hpl) hok (pgs_len hok))
  rw [← hKROW] at hk
  have HOB := hide (show ∀ ww, Below w.heap.size w ww → Calls Tryz.prog 55 #[.pointer (some ⟨kb, 0, none⟩)] ww fun e w' => e = .returned (.map (some ww.heap.size)) ∧ NoMap w' ww.heap.size ∧ Below ww.heap.size ww w' from fun ww h => objects_none kb pm pb cb ww ((hk.below h hk.lt).cell y9) ((hk.below h hk.lt).cell y6) (by have := h.size; have := hk.lt; omega) (hm.kept (grown_below h) (by simp)) (by have := h.size; omega) (fun j v hv => by rw [h.cell (p := ⟨pb, 65814 + j, none⟩) hpl]; exact hf j v hv))
  have HIN := hide (show ∀ ww, Below w.heap.size w ww → Calls Tryz.prog 56 #[.pointer (some ⟨tb, 0, none⟩)] ww fun e w' => e = .returned (.int .i64 n) ∧ w' = ww from fun ww h => fsInodes_any tb ab n li used lb ww (ht.below h ht.lt))
  have HBY := hide (show ∀ ww, Below w.heap.size w ww → Calls Tryz.prog 57 #[.pointer (some ⟨tb, 0, none⟩)] ww fun e w' => e = .returned (.int .i64 used) ∧ w' = ww from fun ww h => fsBytes_any tb ab n li used lb ww (ht.below h ht.lt))
  have HSB := hide (show ∀ ww, Below w.heap.size w ww → Holds ww kb 121 KROW ∧ OneProc ww pm pb from fun ww h => ⟨hk.below h hk.lt, hm.kept (grown_below h) (by simp)⟩)
  have R1 := hide (show ∀ w' : World, (Holds w' kb 121 KROW ∧ OneProc w' pm pb) → (Instr.loadAt 119 (.pointer (some ⟨kb, 9, none⟩))).run Tryz.prog w' = .ok (.map (some pm)) w' from fun w' h => by
    have d := h.1.cell y9
    clear h hk hm hp hf ht y9 y5 y6 hKROW hok
    go_simp)
  have R2 := hide (show ∀ w' : World, (Holds w' kb 121 KROW ∧ OneProc w' pm pb) → (Instr.loadAt 113 (.pointer (some ⟨kb, 5, none⟩))).run Tryz.prog w' = .ok (.pointer (some ⟨tb, 0, none⟩)) w' from fun w' h => by
    have d := h.1.cell y5
    clear h hk hm hp hf ht y9 y5 y6 hKROW hok
    go_simp)
  obtain ⟨NP, hNP⟩ : ∃ NP, NP = PS.length := ⟨_, rfl⟩
  rw [← hNP] at HFR ⊢
  obtain ⟨W0, hW0⟩ : ∃ W0, W0 = w.alloc (.cells (limRow 0 0 0 0 0).toArray 23) := ⟨_, rfl⟩
  have hb0 : Below w.heap.size w W0 := by rw [hW0]; exact (Below.refl _ _).alloc (Nat.le_refl _) _
  have hn0 : Holds W0 w.heap.size 23 (limRow 0 0 0 0 0) := by rw [hW0]; exact Holds.new w 23 _
  have hs0 : w.heap.size < W0.heap.size := hn0.lt
  have hbd : Below W0.heap.size W0 W0.drew := ⟨rfl, rfl, rfl, Nat.le_refl _, fun _ _ => rfl⟩
  have HW0 := hide hW0
  have HB0 := hide hb0
  have HN0 := hide hn0
  have HBD := hide (hb0.trans (hbd.mono hb0.size))
  have hkl : kb < w.heap.size := hk.lt
  clear hk hm hp hf ht y9 y5 y6 hKROW hok hNP hW0 hb0 hn0 hbd
  go_enter Tryz.func35, Tryz.ntmps35
  go_upto_region 1 with fail
  have HW0' := hide (show w.alloc (Obj.cells #[.int .i64 0, .int .i64 0, .int .i64 0, .int .i64 0, .int .i64 0] 23) = W0 from (unhide HW0).symm)
  rw [unhide HW0']
  obtain ⟨H, hH⟩ : ∃ H, H = w.heap.size := ⟨_, rfl⟩
  rw [← hH]
  refine act_gen ?_
  intro A hA
  have e0 : A.eval (.tmp 0) = .pointer (some ⟨kb, 0, none⟩) := by rw [hA]; rfl
  have e2 : A.eval (.tmp 2) = .pointer (some ⟨H, 0, none⟩) := by rw [hA]; rfl
  have esz : A.tmps.size = 24 := by rw [hA]; rfl
  have HA := hide hA
  clear hA
  refine wp_region_held_drew (S := fun w' => Holds w' kb 121 KROW ∧ OneProc w' pm pb) (by kernel_rfl) (unhide HSB _ (unhide HBD)) (fun hS => ?_)
  refine takeH (i := 0) (some 3) rfl rfl (by kernel_rfl) (by kernel_rfl) (by kernel_rfl) (fun _ _ _ h => h) (yields_move rfl _ rfl (.pointer (some ⟨kb, 0, none⟩)) (by simp [put_eval, put_size, esz, e0, e2])) hS ?_
  refine takeH (i := 1) (some 4) rfl rfl (by kernel_rfl) (by kernel_rfl) (by kernel_rfl) (fun _ _ _ h => h) (yields_nil rfl _ rfl ⟨kb, 0, none⟩ (by simp [put_eval, put_size, esz, e0, e2])) hS ?_
  refine takeH (i := 2) (some 5) rfl rfl (by kernel_rfl) (by kernel_rfl) (by kernel_rfl) (fun _ _ _ h => h) (yields_field rfl _ _ _ rfl (.pointer (some ⟨kb, 0, none⟩)) (by simp [put_eval, put_size, esz, e0, e2]) (.pointer (some ⟨kb, 9, none⟩)) (fun w' => by go_simp)) hS ?_
  refine takeH (i := 3) (some 6) rfl rfl (by kernel_rfl) (by kernel_rfl) (by kernel_rfl) (fun _ _ _ h => h) (yields_load1 rfl _ _ rfl ⟨kb, 9, none⟩ (by simp [put_eval, put_size, esz, e0, e2]) (.map (some pm)) (unhide R1)) hS ?_
  refine takeH (i := 4) (some 7) rfl rfl (by kernel_rfl) (by kernel_rfl) (by kernel_rfl) (fun _ _ _ h => h) (yields_len rfl _ _ rfl (.map (some pm)) (by simp [put_eval, put_size, esz, e0, e2]) (.int .i64 1) (fun w' h => one_len h.2 _)) hS ?_
  refine takeH (i := 5) (some 8) rfl rfl (by kernel_rfl) (by kernel_rfl) (by kernel_rfl) (fun _ _ _ h => h) (yields_move rfl _ rfl (.pointer (some ⟨kb, 0, none⟩)) (by simp [put_eval, put_size, esz, e0, e2])) hS ?_
  refine takeH (i := 7) (some 10) rfl rfl (by kernel_rfl) (by kernel_rfl) (by kernel_rfl) (fun _ _ _ h => h) (yields_move rfl _ rfl (.pointer (some ⟨kb, 0, none⟩)) (by simp [put_eval, put_size, esz, e0, e2])) hS ?_
  refine takeH (i := 10) (some 13) rfl rfl (by kernel_rfl) (by kernel_rfl) (by kernel_rfl) (fun _ _ _ h => h) (yields_move rfl _ rfl (.pointer (some ⟨kb, 0, none⟩)) (by simp [put_eval, put_size, esz, e0, e2])) hS ?_
  refine takeH (i := 11) (some 14) rfl rfl (by kernel_rfl) (by kernel_rfl) (by kernel_rfl) (fun _ _ _ h => h) (yields_nil rfl _ rfl ⟨kb, 0, none⟩ (by simp [put_eval, put_size, esz, e0, e2])) hS ?_
  refine takeH (i := 12) (some 15) rfl rfl (by kernel_rfl) (by kernel_rfl) (by kernel_rfl) (fun _ _ _ h => h) (yields_field rfl _ _ _ rfl (.pointer (some ⟨kb, 0, none⟩)) (by simp [put_eval, put_size, esz, e0, e2]) (.pointer (some ⟨kb, 5, none⟩)) (fun w' => by go_simp)) hS ?_
  refine takeH (i := 13) (some 16) rfl rfl (by kernel_rfl) (by kernel_rfl) (by kernel_rfl) (fun _ _ _ h => h) (yields_load1 rfl _ _ rfl ⟨kb, 5, none⟩ (by simp [put_eval, put_size, esz, e0, e2]) (.pointer (some ⟨tb, 0, none⟩)) (unhide R2)) hS ?_
  refine takeH (i := 15) (some 18) rfl rfl (by kernel_rfl) (by kernel_rfl) (by kernel_rfl) (fun _ _ _ h => h) (yields_move rfl _ rfl (.pointer (some ⟨kb, 0, none⟩)) (by simp [put_eval, put_size, esz, e0, e2])) hS ?_
  refine takeH (i := 16) (some 19) rfl rfl (by kernel_rfl) (by kernel_rfl) (by kernel_rfl) (fun _ _ _ h => h) (yields_nil rfl _ rfl ⟨kb, 0, none⟩ (by simp [put_eval, put_size, esz, e0, e2])) hS ?_
  refine takeH (i := 17) (some 20) rfl rfl (by kernel_rfl) (by kernel_rfl) (by kernel_rfl) (fun _ _ _ h => h) (yields_field rfl _ _ _ rfl (.pointer (some ⟨kb, 0, none⟩)) (by simp [put_eval, put_size, esz, e0, e2]) (.pointer (some ⟨kb, 5, none⟩)) (fun w' => by go_simp)) hS ?_
  refine takeH (i := 18) (some 21) rfl rfl (by kernel_rfl) (by kernel_rfl) (by kernel_rfl) (fun _ _ _ h => h) (yields_load1 rfl _ _ rfl ⟨kb, 5, none⟩ (by simp [put_eval, put_size, esz, e0, e2]) (.pointer (some ⟨tb, 0, none⟩)) (unhide R2)) hS ?_
  refine wpAnyH_ready (rs := [6]) (by kernel_rfl) (by simp) (AllReadyH.cons rfl (fun K hK => ?_) AllReadyH.nil)
  refine step_call1' rfl 54 8 _ rfl (.pointer (some ⟨kb, 0, none⟩)) (by simp [put_eval, put_size, esz, e0]) framesEnter _ (.int .i64 (NP : Nat)) (fun e w' h => h.1) (unhide HFR _ (unhide HBD)) (some 9) rfl ?_
  rintro w1 ⟨_, hb1⟩
  have hb1w : Below w.heap.size w w1 := (unhide HB0).trans ((show Below W0.heap.size W0 w1 from ⟨hb1.os, hb1.tape, hb1.output, hb1.size, hb1.block⟩).mono (by omega))
  have hb01 : Below W0.heap.size W0 w1 := ⟨hb1.os, hb1.tape, hb1.output, hb1.size, hb1.block⟩
  refine hK.out _ _ (unhide HSB _ hb1w) (fun hS1 => ?_)
  clear hK K
  refine wpAnyH_ready (rs := [8]) (by kernel_rfl) (by simp) (AllReadyH.cons rfl (fun K hK => ?_) AllReadyH.nil)
  refine step_call1' rfl 55 10 _ rfl (.pointer (some ⟨kb, 0, none⟩)) (by simp [put_eval, put_size, esz, e0]) objectsEnter _ (.map (some w1.heap.size)) (fun e w' h => h.1) (unhide HOB _ hb1w) (some 11) rfl ?_
  rintro w2 ⟨_, hn2, hb2⟩
  have hb2w : Below w.heap.size w w2 := hb1w.trans (hb2.mono hb1w.size)
  have hb02 : Below W0.heap.size W0 w2 := hb01.trans (hb2.mono hb01.size)
  refine hK.out _ _ (unhide HSB _ hb2w) (fun hS2 => ?_)
  clear hK K
  refine wpAnyH_ready (rs := [9]) (by kernel_rfl) (by simp) (AllReadyH.cons rfl (fun K hK => ?_) AllReadyH.nil)
  refine step_len rfl 11 _ rfl (.map (some w1.heap.size)) (by simp [put_eval, put_size, esz]) (.int .i64 0) (noMap_len hn2 _) (some 12) rfl ?_
  refine hK.out _ _ hS2 (fun hS3 => ?_)
  clear hK K
  refine wpAnyH_ready (rs := [14]) (by kernel_rfl) (by simp) (AllReadyH.cons rfl (fun K hK => ?_) AllReadyH.nil)
  refine step_call1' rfl 56 16 _ rfl (.pointer (some ⟨tb, 0, none⟩)) (by simp [put_eval, put_size, esz]) inodesEnter _ (.int .i64 n) (fun e w' h => h.1) (unhide HIN _ hb2w) (some 17) rfl ?_
  rintro w3 ⟨_, hw3⟩
  subst hw3
  refine hK.out _ _ hS2 (fun hS4 => ?_)
  clear hK K
  refine wpAnyH_ready (rs := [19]) (by kernel_rfl) (by simp) (AllReadyH.cons rfl (fun K hK => ?_) AllReadyH.nil)
  refine step_call1' rfl 57 21 _ rfl (.pointer (some ⟨tb, 0, none⟩)) (by simp [put_eval, put_size, esz]) fbytesEnter _ (.int .i64 used) (fun e w' h => h.1) (unhide HBY _ hb2w) (some 22) rfl ?_
  rintro w4 ⟨_, hw4⟩
  subst hw4
  refine hK.out _ _ hS2 (fun hS5 => ?_)
  clear hK K
  obtain ⟨LR, hLR⟩ : ∃ LR, LR = limRow 1 (NP : Nat) 0 n used := ⟨_, rfl⟩
  have hLl : LR.length = 5 := by rw [hLR]; rfl
  have hL1 : ∀ v ∈ LR, v.oneCell' = true := by rw [hLR]; exact limRow_one _ _ _ _ _
  refine takeH (i := 20) (some 23) rfl rfl (by kernel_rfl) (by kernel_rfl) (by kernel_rfl) (fun _ _ _ h => h) (yields_build rfl _ _ rfl #[(0, .int .i64 1), (1, .int .i64 (NP : Nat)), (2, .int .i64 0), (3, .int .i64 n), (4, .int .i64 used)] (by simp [put_eval, put_size, esz]) (.agg LR.toArray) (fun w' => by rw [hLR]; exact lim_built _ _ _ _ _ w')) hS2 ?_
  have hn4 : Holds w4 H 23 (limRow 0 0 0 0 0) := by rw [hH]; exact (unhide HN0).below hb02 hs0
  have hl0 : (limRow 0 0 0 0 0).length = 5 := rfl
  refine wpAnyH_ready (rs := [21]) (by kernel_rfl) (by simp) (ready_store_part rfl rfl 23 (.tmp 2) (.tmp 23) rfl H 0 LR (by simp [put_eval, put_size, esz, e2]) (by simp [put_eval, put_size, esz]) 23 (limRow 0 0 0 0 0) hn4 (by rw [limSize, hLl]) (by rw [hLl, hl0]; omega) hL1 rfl (fun w5 H5 G5 => ⟨⟨hS2.1.grown (unhide G5) (by simp; omega), hS2.2.kept (unhide G5) (by have := World.ownsMap.lt (unhide HSB w (Below.refl _ _)).2; simp; omega)⟩, fun hS6 => ?_⟩) AllReadyH.nil)
  refine wpAnyH_done (by kernel_rfl) ?_ _
  rw [unhide HA]
  simp only [Act.put, List.setIfInBounds_toArray, List.set_cons_zero, List.set_cons_succ]
  have h5 := unhide H5
  rw [show splice (limRow 0 0 0 0 0) 0 LR = LR by unfold splice; rw [Nat.zero_add, List.take_zero, List.nil_append, hLl, List.drop_eq_nil_of_le (by rw [hl0]; omega), List.append_nil]] at h5
  have HFN := hide (show Below w.heap.size w w5 from hb2w.trans (below_grown (unhide G5) (by omega) hb2w.size))
  have HL := hide h5
  have HLR := hide (And.intro hLR hLl)
  clear hS hS1 hS2 hS3 hS4 hS5 hS6 h5 H5 G5 hb1 hb2 hb1w hb01 hb2w hb02 hn2 hn4 hL1 hLR hLl HA e0 e2 esz
  subst hH
  go_wp2
  exact ⟨rfl, .agg LR.toArray, results_one (by rfl) (by rfl) (run_loadVar_mid w5 w.heap.size 0 23 LR _ (unhide HL).range Tryz.underlying23 rfl (by rw [limSize, (unhide HLR).2])), by rw [(unhide HLR).1], unhide HFN⟩
end Go.Proofs.YtkokiefclmbgaaaGreatDoor
