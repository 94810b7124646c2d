import Derived.Test.YtjkpeelijbeekaaGreatDoorBootsProofG31
import Derived.Test.YtjkpeelijbeekaaGreatDoorBootsProofG03
/- The program's Find. -/
namespace Go.Proofs.YtjkpeelijbeekaaGreatDoor
open Go Go.RowKit Go.Maps
set_option linter.unusedVariables false
set_option linter.unusedSimpArgs false

/-- What stands against a file at a path: 0 is nothing. -/
def findCode (p : PK) (s : ByteArray) : Int := if (walkOf p.xs s).e ≠ 0 then (walkOf p.xs s).e else if (walkOf p.xs s).n = 0 then 9 else if dirOf p.xs (walkOf p.xs s).n = true then 11 else 0
def findErr (c : Int) : Ending := .returned (.tuple #[.pointer none, .iface 45 (.int .i64 c)])
def FindPost (p : PK) (NB : List Nat) (s : ByteArray) (w : World) (e : Ending) (w' : World) : Prop :=
  Below w.heap.size w w' ∧ (findCode p s ≠ 0 ∧ e = findErr (findCode p s) ∨ findCode p s = 0 ∧ ∃ (i : Nat) (x : Ino) (c : Nat), p.xs[i]? = some x ∧ x.id = (walkOf p.xs s).n ∧ NB[i]? = some c ∧ x.dir = false ∧ (walkOf p.xs s).e = 0 ∧ (walkOf p.xs s).n ≠ 0 ∧ e = .returned (.tuple #[.pointer (some ⟨c, 0, none⟩), .nilIface]))
set_option maxRecDepth 100000 in
set_option maxHeartbeats 1000000 in
theorem fsFind_any (p : PK) (B tb ab am : Nat) (used : Int) (NB MB : List Nat) (V : List Value) (s : ByteArray) (mm : Int) (w : World) (hr : TreeRep w B tb ab am p.li p.lb used p.xs NB MB V) (hi : PInv p) (hlen : p.xs.length ≤ 900000) (hli : 0 ≤ p.li ∧ p.li ≤ 1000000) (hu : 0 ≤ used ∧ used ≤ p.lb) (hlb : p.lb ≤ 1000000) (hs : s.size ≤ maxLen) (hm : w.cell? ⟨2, 0, none⟩ = some (.int .i64 mm)) (hml : 2 < w.heap.size) :
    Calls Tryz.prog 66 #[.pointer (some ⟨tb, 0, none⟩), .string s] w (FindPost p NB s w) := by
  have hne : p.xs ≠ [] := by obtain ⟨x, hx, _⟩ := hi.root; intro e; rw [e] at hx; cases hx
  have HFW := hide (fsFollow_any B tb ab am p.li p.lb used p.xs NB MB V s mm w hr (fun _ => hne) (fun x hx => (hi.ids x hx).1) hi.incr hs hm hml)
  have HR := hide hr
  have HI := hide hi
  have HLN := hide (show p.xs.length ≤ 900000 ∧ (0 ≤ p.li ∧ p.li ≤ 1000000) ∧ (0 ≤ used ∧ used ≤ p.lb) ∧ p.lb ≤ 1000000 from ⟨hlen, hli, hu, hlb⟩)
  clear hr hi hlen hli hu hlb hm hml hne hs
  go_enter Tryz.func66, Tryz.ntmps66
  go_wp2_with fail
  refine (unhide HFW).mono ?_
  rintro e w1 ⟨hb1, (⟨he, rfl⟩ | ⟨he, b, name, hpl, rfl⟩)⟩
  · have HP := hide (show FindPost p NB s w (findErr (walkOf p.xs s).e) (w1.alloc (Obj.cells #[.pointer none, .string ByteArray.empty, .string ByteArray.empty] 166)) from by
      have hc : findCode p s = (walkOf p.xs s).e := by unfold findCode; rw [if_pos he]
      exact ⟨hb1.alloc hb1.size _, .inl ⟨by rw [hc]; exact he, by rw [hc]⟩⟩)
    clear hb1 he HFW
    unfold placeErr
    go_wp2
    go_ret2
    exact unhide HP
  · obtain ⟨W2, hW2⟩ : ∃ W2, W2 = w1.alloc (Obj.cells #[.pointer (some ⟨b, 0, none⟩), .string name, .string s] 166) := ⟨_, rfl⟩
    have hb2 : Below w.heap.size w W2 := by rw [hW2]; exact hb1.alloc hb1.size _
    have hp2 : Holds W2 w1.heap.size 166 [.pointer (some ⟨b, 0, none⟩), .string name, .string s] := by rw [hW2]; exact Holds.new w1 166 _
    have hr2 := (unhide HR).below hb2
    obtain ⟨m, k, ff, dvs, hdn, hd2, hdd, hkk, hns, hBm, hcase⟩ := place_at hr2 (unhide HI) he hpl
    obtain ⟨dv, hdv, hcd⟩ : ∃ dv : Bool, (∀ c, ff name = some c → ∃ v0 vs, Holds W2 c 230 (v0 :: .bool dv :: vs)) ∧ (findCode p s = mayOf (ff name).isSome false (decide (p.li ≤ (p.xs.length : Int))) dv ∧ (findCode p s = 0 → ∃ (i : Nat) (x : Ino) (c : Nat), p.xs[i]? = some x ∧ x.id = (walkOf p.xs s).n ∧ NB[i]? = some c ∧ x.dir = false ∧ (walkOf p.xs s).e = 0 ∧ (walkOf p.xs s).n ≠ 0 ∧ ff name = some c)) := by
      rcases hcase with ⟨hn, i, x, c, y1, y2, y3, y4⟩ | ⟨hn, y, _⟩
      · obtain ⟨mi, hmi⟩ : ∃ mi, MB[i]? = some mi := ⟨_, List.getElem?_eq_getElem (by rw [hr2.len.2]; exact (List.getElem?_eq_some_iff.1 y1).1)⟩
        obtain ⟨qn, v1, mv1, z1, _⟩ := hr2.node i x c mi y1 y3 hmi
        have hdx : dirOf p.xs (walkOf p.xs s).n = x.dir := by rw [← y2]; exact dirOf_at (unhide HI).incr y1
        have hfc : findCode p s = if x.dir = true then 11 else 0 := by unfold findCode; rw [if_neg (by simpa using he), if_neg hn, hdx]
        refine ⟨x.dir, fun c' hc' => by rw [y4] at hc'; obtain rfl := Option.some.inj hc'; exact ⟨_, _, z1⟩, by rw [hfc, y4]; rfl, fun q => ⟨i, x, c, y1, y2, y3, ?_, he, hn, y4⟩⟩
        rw [hfc] at q
        cases hx : x.dir with
        | true => rw [hx] at q; exact absurd q (by decide)
        | false => rfl
      · have hfc : findCode p s = 9 := by unfold findCode; rw [if_neg (by simpa using he), if_pos hn]
        exact ⟨false, (fun c hc => by rw [y] at hc; cases hc), by rw [hfc, y]; rfl, fun q => by rw [hfc] at q; exact absurd q (by decide)⟩
    have hl := unhide HLN
    have HMO := hide (fsMayOpen_any tb ab b m k p.xs.length p.li used p.lb ff name s false dv dvs W2 hr2.tree ⟨by omega, by omega⟩ hl.2.1 hl.2.2.1 hl.2.2.2 hdn hd2 hdd (by omega) hdv)
    rw [← hcd.1] at HMO
    have HW2 := hide hW2
    have HB2 := hide hb2
    have HP2 := hide hp2
    have HDN := hide (And.intro hdn (And.intro hd2 (And.intro hdd hns)))
    have HCD := hide hcd.2
    obtain ⟨PB, hPB⟩ : ∃ PB, PB = w1.heap.size := ⟨_, rfl⟩
    obtain ⟨mc, hmc⟩ : ∃ mc, mc = findCode p s := ⟨_, rfl⟩
    rw [← hmc] at HMO HCD
    clear hb1 hW2 hb2 hp2 hr2 hdn hd2 hdd hkk hns hBm hcase he hpl hl hdv hcd HFW HR HI HLN
    unfold placeAt
    go_upto_region 4 with fail
    rw [← unhide HW2]
    rw [← hPB] at HP2 ⊢
    clear HW2 hPB
    have c0 : W2.cell? ⟨PB, 0, none⟩ = some (.pointer (some ⟨b, 0, none⟩)) := (unhide HP2).cell rfl
    have c1 : W2.cell? ⟨PB, 1, none⟩ = some (.string name) := (unhide HP2).cell rfl
    have c2 : W2.cell? ⟨PB, 2, none⟩ = some (.string s) := (unhide HP2).cell rfl
    have HMC := hide hmc
    clear hmc
    go_wp2_with fail
    refine (unhide HMO).mono ?_
    rintro e w3 ⟨rfl, hb3⟩
    have HB3 := hide ((unhide HB2).trans (hb3.mono (unhide HB2).size))
    have HP3 := hide ((unhide HP2).below hb3 (unhide HP2).lt)
    have HB23 := hide hb3
    clear hb3 HMO c0 c1 c2
    by_cases hz : mc = 0
    · obtain ⟨i, x, c, y1, y2, y3, y4, y5, y6, y7⟩ := unhide HCD hz
      subst hz
      have hd := unhide HDN
      have HND := hide (fsNode_any b m k name s ff w3 (by unfold maxLen; omega) ((hd.1.below (unhide HB23) hd.1.lt).cell hd.2.1) (hd.2.2.1.kept (grown_below (unhide HB23)) (by simp)))
      have HY := hide (show findCode p s = 0 ∧ ∃ (i : Nat) (x : Ino), p.xs[i]? = some x ∧ x.id = (walkOf p.xs s).n ∧ NB[i]? = some c ∧ x.dir = false ∧ (walkOf p.xs s).e = 0 ∧ (walkOf p.xs s).n ≠ 0 from ⟨(unhide HMC).symm, i, x, y1, y2, y3, y4, y5, y6⟩)
      rw [y7] at HND
      have c0 : w3.cell? ⟨PB, 0, none⟩ = some (.pointer (some ⟨b, 0, none⟩)) := (unhide HP3).cell rfl
      have c1 : w3.cell? ⟨PB, 1, none⟩ = some (.string name) := (unhide HP3).cell rfl
      have c2 : w3.cell? ⟨PB, 2, none⟩ = some (.string s) := (unhide HP3).cell rfl
      clear y1 y2 y3 y4 y5 y6 y7 hd HMC HCD HDN
      rw [show errRet 0 = .returned .nilIface from rfl]
      go_wp2_with fail
      refine (unhide HND).mono ?_
      rintro e w4 ⟨rfl, hb4⟩
      have HB4 := hide ((unhide HB3).trans (hb4.mono (unhide HB3).size))
      clear hb4 HND c0 c1 c2
      unfold nodePtr
      go_wp2
      go_ret2
      obtain ⟨q1, i, x, q2, q3, q4, q5, q6, q7⟩ := unhide HY
      exact ⟨unhide HB4, .inr ⟨q1, i, x, c, q2, q3, q4, q5, q6, q7, rfl⟩⟩
    · have HP := hide (show FindPost p NB s w (findErr mc) w3 from ⟨unhide HB3, .inl ⟨by rw [← unhide HMC]; exact hz, by rw [← unhide HMC]⟩⟩)
      rw [show errRet mc = errnoRet mc from by unfold errRet; rw [if_neg hz]]
      clear hz HMC HCD
      unfold errnoRet
      go_wp2
      go_ret2
      exact unhide HP
end Go.Proofs.YtjkpeelijbeekaaGreatDoor

/- The program's Console, where nothing was written. -/
namespace Go.Proofs.YtjkpeelijbeekaaGreatDoor
open Go Go.RowKit
set_option linter.unusedVariables false
set_option linter.unusedSimpArgs false

set_option maxRecDepth 100000 in
theorem clone_nil (w : World) : Calls Tryz.prog 91 #[.slice none 0 0] w fun e w' => e = .returned (.slice none 0 0) ∧ w' = w := by
  exact AnyE.slices_Clone_nil cloneBL 0 0 w
/-- A cell that is set to what it holds. -/
theorem set_same {w : World} {b j : Nat} {t : TypeId} {vs : List Value} {v : Value} (h : Holds w b t vs) (hj : vs[j]? = some v) : Below w.heap.size w (w.setCell ⟨b, j, none⟩ v) := by
  have h1 := h.set j v
  have hl := (List.getElem?_eq_some_iff.1 hj).1
  have e : vs.set j v = vs := by
    apply List.ext_getElem?
    intro i
    rw [List.getElem?_set]
    split
    · rename_i hi
      subst hi
      rw [hj]
    · rfl
  rw [e] at h1
  have hb := (Below.refl b w).setCell (p := ⟨b, j, none⟩) (Nat.le_refl _) v
  refine ⟨hb.os, hb.tape, hb.output, hb.size, fun k hk => ?_⟩
  by_cases hkb : k = b
  · subst hkb
    unfold Holds at h h1
    rw [h, h1]
  · show (w.heap.modify b _)[k]? = w.heap[k]?
    rw [Array.getElem?_modify, if_neg (fun e => hkb e.symm)]
set_option maxRecDepth 100000 in
set_option maxHeartbeats 1000000 in
theorem take_nil (cb j : Nat) (t : TypeId) (vs : List Value) (w : World) (h : Holds w cb t vs) (hj : vs[j]? = some (.slice none 0 0)) :
    Calls Tryz.prog 58 #[.pointer (some ⟨cb, j, none⟩), .int .i64 0] w fun e w' => e = .returned (.slice none 0 0) ∧ Below w.heap.size w w' := by
  have c0 : w.cell? ⟨cb, j, none⟩ = some (.slice none 0 0) := h.cell hj
  have f0 := h.frozen j
  have HB := hide (set_same h hj)
  have HC := hide (clone_nil w)
  clear h hj
  go_enter Tryz.func58, Tryz.ntmps58
  go_wp2_with fail
  refine (unhide HC).mono ?_
  rintro e w1 ⟨rfl, hw⟩
  subst hw
  go_wp2
  go_ret
  exact ⟨rfl, unhide HB⟩
theorem takeEnter : ∀ args w, (callFunc 58 args).run Tryz.prog w = .ok (.enter 58 args) w := enters_of Tryz.func58 (by kernel_rfl) rfl
def conRow : List Value := [.slice none 0 0, .slice none 0 0]
set_option maxRecDepth 100000 in
set_option maxHeartbeats 1000000 in
theorem conTell_nil (cb : Nat) (w : World) (h : Holds w cb 129 conRow) :
    Calls Tryz.prog 36 #[.pointer (some ⟨cb, 0, none⟩)] w fun e w' => e = .returned (.slice none 0 0) ∧ Below w.heap.size w w' := by
  have hS0 : w.cell? ⟨cb, 1, none⟩ = some (.slice none 0 0) := h.cell rfl
  have HT := hide (take_nil cb 1 129 conRow w.drew (h.heap rfl) rfl)
  have R1 := hide (show ∀ w' : World, w'.cell? ⟨cb, 1, none⟩ = some (.slice none 0 0) → (Instr.loadAt 32 (.pointer (some ⟨cb, 1, none⟩))).run Tryz.prog w' = .ok (.slice none 0 0) w' from fun w' h' => by
    clear hS0 h
    go_simp)
  have hcl := h.lt
  have HS0 := hide hS0
  clear h hS0
  go_enter Tryz.func36, Tryz.ntmps36
  go_upto_region 1 with fail
  refine act_gen ?_
  intro A hA
  have e0 : A.eval (.tmp 0) = .pointer (some ⟨cb, 0, none⟩) := by rw [hA]; rfl
  have esz : A.tmps.size = 13 := by rw [hA]; rfl
  have HA := hide hA
  clear hA
  refine wp_region_held_drew (S := fun w' => w'.cell? ⟨cb, 1, none⟩ = some (.slice none 0 0)) (by kernel_rfl) (unhide HS0) (fun hS => ?_)
  refine takeH (i := 0) (some 3) rfl rfl (by kernel_rfl) (by kernel_rfl) (by kernel_rfl) (fun _ _ _ h => h) (yields_move rfl _ rfl (.pointer (some ⟨cb, 0, none⟩)) (by simp [put_eval, put_size, esz, e0])) hS ?_
  refine takeH (i := 1) (some 4) rfl rfl (by kernel_rfl) (by kernel_rfl) (by kernel_rfl) (fun _ _ _ h => h) (yields_nil rfl _ rfl ⟨cb, 0, none⟩ (by simp [put_eval, put_size, esz, e0])) hS ?_
  refine takeH (i := 2) (some 5) rfl rfl (by kernel_rfl) (by kernel_rfl) (by kernel_rfl) (fun _ _ _ h => h) (yields_field rfl _ _ _ rfl (.pointer (some ⟨cb, 0, none⟩)) (by simp [put_eval, put_size, esz, e0]) (.pointer (some ⟨cb, 1, none⟩)) (fun w' => by go_simp)) hS ?_
  refine takeH (i := 3) (some 6) rfl rfl (by kernel_rfl) (by kernel_rfl) (by kernel_rfl) (fun _ _ _ h => h) (yields_move rfl _ rfl (.pointer (some ⟨cb, 0, none⟩)) (by simp [put_eval, put_size, esz, e0])) hS ?_
  refine takeH (i := 4) (some 7) rfl rfl (by kernel_rfl) (by kernel_rfl) (by kernel_rfl) (fun _ _ _ h => h) (yields_nil rfl _ rfl ⟨cb, 0, none⟩ (by simp [put_eval, put_size, esz, e0])) hS ?_
  refine takeH (i := 5) (some 8) rfl rfl (by kernel_rfl) (by kernel_rfl) (by kernel_rfl) (fun _ _ _ h => h) (yields_field rfl _ _ _ rfl (.pointer (some ⟨cb, 0, none⟩)) (by simp [put_eval, put_size, esz, e0]) (.pointer (some ⟨cb, 1, none⟩)) (fun w' => by go_simp)) hS ?_
  refine takeH (i := 6) (some 9) rfl rfl (by kernel_rfl) (by kernel_rfl) (by kernel_rfl) (fun _ _ _ h => h) (yields_field rfl _ _ _ rfl (.pointer (some ⟨cb, 1, none⟩)) (by simp [put_eval, put_size, esz, e0]) (.pointer (some ⟨cb, 1, none⟩)) (fun w' => by go_simp)) hS ?_
  refine takeH (i := 7) (some 10) rfl rfl (by kernel_rfl) (by kernel_rfl) (by kernel_rfl) (fun _ _ _ h => h) (yields_load1 rfl _ _ rfl ⟨cb, 1, none⟩ (by simp [put_eval, put_size, esz, e0]) (.slice none 0 0) (unhide R1)) hS ?_
  refine takeH (i := 8) (some 11) rfl rfl (by kernel_rfl) (by kernel_rfl) (by kernel_rfl) (fun _ _ _ h => h) (yields_len rfl _ _ rfl (.slice none 0 0) (by simp [put_eval, put_size, esz, e0]) (.int .i64 0) (fun w' _ => by go_simp)) hS ?_
  refine wpAnyH_ready (rs := [9]) (by kernel_rfl) (by simp) (AllReadyH.cons rfl (fun K hK => ?_) AllReadyH.nil)
  refine step_call2x rfl 58 5 11 _ _ rfl (.pointer (some ⟨cb, 1, none⟩)) (.int .i64 0) (by simp [put_eval, put_size, esz, e0]) (by simp [put_eval, put_size, esz, e0]) takeEnter _ (fun e w' h => ⟨_, h.1⟩) (unhide HT) (some 12) rfl ?_
  rintro r2 w2 ⟨hr2, hb2⟩
  have hr2 : r2 = .slice none 0 0 := by injection hr2
  subst hr2
  have hb2 : Below w.heap.size w w2 := ⟨hb2.os, hb2.tape, hb2.output, hb2.size, hb2.block⟩
  refine hK.out _ _ (by rw [hb2.cell (p := ⟨cb, 1, none⟩) hcl]; exact unhide HS0) (fun hS2 => ?_)
  clear hK K
  refine takeH (i := 10) (some 2) rfl rfl (by kernel_rfl) (by kernel_rfl) (by kernel_rfl) (fun _ _ _ h => h) (yields_assign rfl _ rfl (.slice none 0 0) (by simp [put_eval, put_size, esz])) hS2 ?_
  refine wpAnyH_done (by kernel_rfl) ?_ _
  have HB2 := hide hb2
  rw [unhide HA]
  simp only [Act.put, List.setIfInBounds_toArray, List.set_cons_zero, List.set_cons_succ]
  clear hb2 hS hS2 HA e0 esz R1 HT
  go_wp2
  go_ret
  exact ⟨rfl, unhide HB2⟩
set_option maxRecDepth 100000 in
set_option maxHeartbeats 1000000 in
theorem kConsole_nil (kb cb : Nat) (w : World) (hk : w.cell? ⟨kb, 6, none⟩ = some (.pointer (some ⟨cb, 0, none⟩))) (h : Holds w cb 129 conRow) :
    Calls Tryz.prog 25 #[.pointer (some ⟨kb, 0, none⟩)] w fun e w' => e = .returned (.slice none 0 0) ∧ Below w.heap.size w w' := by
  have HT := hide (conTell_nil cb w h)
  clear h
  go_enter Tryz.func25, Tryz.ntmps25
  go_wp2_with fail
  refine (unhide HT).mono ?_
  rintro e w1 ⟨rfl, hb⟩
  have HB := hide hb
  clear hb hk HT
  go_wp2
  go_ret
  exact ⟨rfl, unhide HB⟩
set_option maxRecDepth 100000 in
set_option maxHeartbeats 1000000 in
theorem console_nil (tk kb cb : Nat) (w : World) (ht : w.cell? ⟨tk, 0, none⟩ = some (.pointer (some ⟨kb, 0, none⟩))) (hk : w.cell? ⟨kb, 6, none⟩ = some (.pointer (some ⟨cb, 0, none⟩))) (h : Holds w cb 129 conRow) :
    Calls Tryz.prog 9 #[.pointer (some ⟨tk, 0, none⟩)] w fun e w' => e = .returned (.slice none 0 0) ∧ Below w.heap.size w w' := by
  have HT := hide (kConsole_nil kb cb w hk h)
  clear h hk
  go_enter Tryz.func9, Tryz.ntmps9
  go_wp2_with fail
  refine (unhide HT).mono ?_
  rintro e w1 ⟨rfl, hb⟩
  have HB := hide hb
  clear hb ht HT
  go_wp2
  go_ret
  exact ⟨rfl, unhide HB⟩
end Go.Proofs.YtjkpeelijbeekaaGreatDoor
