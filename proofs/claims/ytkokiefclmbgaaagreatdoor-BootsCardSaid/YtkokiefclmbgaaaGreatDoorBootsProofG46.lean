import Derived.Test.YtkokiefclmbgaaaGreatDoorBootsProofG41
import Derived.Test.YtkokiefclmbgaaaGreatDoorBootsProofG43
import Derived.Test.YtkokiefclmbgaaaGreatDoorBootsProofG45
/- The program's execute, for a process that has no pages yet. -/
namespace Go.Proofs.YtkokiefclmbgaaaGreatDoor
open Go Go.RowKit Go.Maps
set_option linter.unusedVariables false
set_option linter.unusedSimpArgs false

set_option maxHeartbeats 1000000 in
theorem readHeader_nil (w : World) : Calls Tryz.prog 97 #[.slice none 0 0] w fun e w' => e = .returned (.tuple #[.int .i64 0, .bool false]) ∧ w' = w := by
  go_enter Tryz.func97, Tryz.ntmps97
  go_wp2
  go_ret2
  exact ⟨rfl, rfl⟩
set_option maxRecDepth 100000 in
set_option maxHeartbeats 1000000 in
theorem load_nil (w : World) : Calls Tryz.prog 67 #[.slice none 0 0] w fun e w' => e = errPlan 2 ∧ Below w.heap.size w w' := by
  have HH := hide (readHeader_nil (w.alloc (.cells #[.int .u64 0, .slice none 0 0] 187)))
  go_enter Tryz.func67, Tryz.ntmps67
  go_wp2_with fail
  refine (unhide HH).mono ?_
  rintro e w1 ⟨rfl, hw1⟩
  have hR1 : Holds w1 w.heap.size 187 [.int .u64 0, .slice none 0 0] := by rw [hw1]; exact Holds.new w 187 _
  have hbl1 : Below w.heap.size w w1 := by rw [hw1]; exact (Below.refl w.heap.size w).alloc (Nat.le_refl _) _
  have c0 : w1.cell? ⟨w.heap.size, 0, none⟩ = some (.int .u64 0) := hR1.cell rfl
  have c1 : w1.cell? ⟨w.heap.size, 1, none⟩ = some (.slice none 0 0) := hR1.cell rfl
  have f0 := hR1.frozen 0
  have f1 := hR1.frozen 1
  obtain ⟨d0, d1, d2⟩ := plan_set hR1 hbl1
  have D2 := hide d2
  clear d2 hw1 hR1 hbl1 HH
  go_wp2
  exact bodyPost_ret (v := .tuple #[noPlan, .iface 45 (.int .i64 2)]) (by simp [results, Tryz.results67, go_sem, noPlan, d0, d1]) rfl ⟨rfl, unhide D2⟩
/-- Load of a file's bytes, as they lie. -/
theorem load_node {B : Nat} {v : Value} {c : List Int} (w : World) (hv : BytesIs w B v c) (hb : IsBytes c) (hl : c.length ≤ 500000) (ht : w.rangeAt 1 0 tblRow) (hgw : 1 < w.heap.size) :
    Calls Tryz.prog 67 #[v] w fun e w' => Below w.heap.size w w' ∧ ((∃ k, Bad c k ∧ e = errPlan k) ∨ (Good c ∧ ∃ g gc, e = .returned (.tuple #[.agg #[.int .u64 (numAt c 24 8), .slice (some ⟨g, 0, none⟩) (outPgs c).length gc], .nilIface]) ∧ w'.ownsRow w.heap.size 87 258 (.slice (some ⟨g, 0, none⟩) (outPgs c).length gc) (outPgs c).length (apiRow (outPgs c)))) := by
  rcases hv with ⟨rfl, rfl⟩ | ⟨R, cp, T, rfl, hR, hcp, _, _⟩
  · refine (load_nil w).mono fun e w' h => ⟨h.2, .inl ⟨2, .inl ⟨fun q => ?_, rfl⟩, h.1⟩⟩
    have := q.1
    simp at this
  · refine (load_exe R 0 cp c w hb (by omega) hl (fun j hj => ?_) hR.lt ht hgw).mono fun e w' h => ⟨h.2, exe_split hb h⟩
    rw [Nat.zero_add]
    refine hR.cell ?_
    rw [bytesRow_append, List.getElem?_append_left (by rw [bytesRow_length]; exact hj)]
    exact bytesRow_get c j hj
theorem mayOpenEnter : ∀ args w, (callFunc 63 args).run Tryz.prog w = .ok (.enter 63 args) w := enters_of Tryz.func63 (by kernel_rfl) rfl
theorem freeEnter : ∀ args w, (callFunc 70 args).run Tryz.prog w = .ok (.enter 70 args) w := enters_of Tryz.func70 (by kernel_rfl) rfl
theorem countEnter : ∀ args w, (callFunc 71 args).run Tryz.prog w = .ok (.enter 71 args) w := enters_of Tryz.func71 (by kernel_rfl) rfl
theorem newSpaceEnter : ∀ args w, (callFunc 72 args).run Tryz.prog w = .ok (.enter 72 args) w := enters_of Tryz.func72 (by kernel_rfl) rfl
def rvOf (c : Int) : Value := if c = 0 then .nilIface else .iface 45 (.int .i64 c)
theorem errRet_rv (c : Int) : errRet c = .returned (rvOf c) := by
  unfold errRet rvOf
  split <;> rfl
theorem two_row (R : List Int) : pagesTo R 2 = apiRow (twoPgs R) := by
  unfold pagesTo twoPgs apiRow
  simp
theorem pgs_len {PS : List Pg} (h : PgsOk PS) : PS.length ≤ 256 := by
  have := pgsTo_len PS 256
  rwa [pgsTo_all h] at this
theorem zeroSpace_get (j : Nat) (h : j < 65792) : zeroSpace[j]? = some (.int .u8 0) := by
  unfold zeroSpace
  rw [List.getElem?_replicate, if_pos h]
theorem perms_none {w : World} {pb : Nat} {E : Int} {R : List Int} {pid par st su wk : Int} {fds : List Value} (hR : R.length = 16) (h : Holds w pb 183 (procRow E R zeroSpace pid par st su wk fds)) : PermsAt w pb [] := fun j hj => by
  refine h.cell ?_
  have h1 : (Value.int .u64 E :: R.map (Value.int .u64)).length = 17 := by simp [hR]
  unfold procRow cpuRow
  rw [List.getElem?_append_left (by rw [List.length_append, h1, zeroSpace_length]; omega), List.getElem?_append_right (by omega), h1, Nat.add_sub_cancel_left]
  exact zeroSpace_get _ (by omega)
theorem noPgs : PgsOk [] := ⟨List.Pairwise.nil, fun p hp => by cases hp⟩
def regs15 (x : Int) : List Int := List.replicate 15 0 ++ [x]
theorem zero16_set (x : Int) : zero16.set 15 x = List.replicate 15 0 ++ [x] := rfl
/-- What execute leaves. -/
def KExecPost (p : PK) (s : ByteArray) (ss : List ByteArray) (pb : Nat) (pid par : Int) (fds : List Value) (w : World) (e : Ending) (w' : World) : Prop :=
  (∃ c, p.ExecErr [0] 0 s ss c ∧ e = errnoRet c ∧ Below w.heap.size w w') ∨
  (p.ExecOk [0] 0 s ss ∧ e = .returned .nilIface ∧ FrameS w w' [pb] ∧ Holds w' pb 183 (procRow (numAt (p.fileOf s) 24 8) (List.replicate 15 0 ++ [65024 + (spOff ss : Int)]) (spaceRow (outPgs (p.fileOf s) ++ twoPgs (stackRoom ss))) pid par 0 0 0 fds))

set_option maxRecDepth 100000 in
set_option maxHeartbeats 8000000 in
theorem execute_any (p : PK) (B tb ab am kb pm pb cb q so cap : Nat) (a : Option Addr) (pid par mm : Int) (fds : List Value) (NB MB : List Nat) (V : List Value) (s : ByteArray) (ss : List ByteArray) (w : World)
    (hr : BootRep w B tb ab am p NB MB V) (hi : PInv p) (hby : AllBytes p.cs) (hu : usedOf p.cs ≤ 500000) (hlen : p.xs.length ≤ 900000) (hli : 0 ≤ p.li ∧ p.li ≤ 1000000) (hul : (usedOf p.cs : Int) ≤ p.lb ∧ p.lb ≤ 1000000) (hlf : 0 ≤ p.lf ∧ p.lf ≤ 1000000)
    (hk : Holds w kb 121 (kernelRow p.lp p.lf p.lo p.li p.lb tb cb pm)) (hm : OneProc w pm pb) (hp : Holds w pb 183 (procRow 0 zero16 zeroSpace pid par 0 0 0 fds)) (hfd : ∀ v ∈ fds, v.oneCell' = true)
    (hsn : ss.length ≤ 1000) (ha : 0 < ss.length → a = some ⟨q, so, none⟩) (hq : q < w.heap.size) (hcell : ∀ i, i < ss.length → w.cell? ⟨q, so + i, none⟩ = some (.string (ss.getD i ByteArray.empty)))
    (hs : s.size ≤ maxLen) (ht : w.rangeAt 1 0 tblRow) (hgw : 1 < w.heap.size) (hmm : w.cell? ⟨2, 0, none⟩ = some (.int .i64 mm)) (hml : 2 < w.heap.size) :
    Calls Tryz.prog 41 #[.pointer (some ⟨kb, 0, none⟩), .pointer (some ⟨pb, 0, none⟩), .string s, .slice a ss.length cap] w (KExecPost p s ss pb pid par fds w) := by
  have c5 : w.cell? ⟨kb, 5, none⟩ = some (.pointer (some ⟨tb, 0, none⟩)) := hk.cell rfl
  have HFW := hide (fsFind_any p B tb ab am (usedOf p.cs) NB MB V s mm w hr.tree hi hlen hli ⟨by omega, hul.1⟩ hul.2 hs hmm hml)
  have HR := hide hr
  have HI := hide hi
  have HK := hide hk
  have HM := hide hm
  have HPR := hide hp
  have HNM := hide (show AllBytes p.cs ∧ usedOf p.cs ≤ 500000 ∧ p.xs.length ≤ 900000 ∧ (0 ≤ p.lf ∧ p.lf ≤ 1000000) ∧ ss.length ≤ 1000 ∧ q < w.heap.size ∧ 1 < w.heap.size from ⟨hby, hu, hlen, hlf, hsn, hq, hgw⟩)
  have HAR := hide (And.intro ha hcell)
  have HT := hide ht
  have HFD := hide hfd
  clear hr hi hk hm hp hby hu hlen hlf hli hul hsn ha hq hcell ht hgw hmm hml hs hfd
  go_enter Tryz.func41, Tryz.ntmps41
  go_wp2_with fail
  refine (unhide HFW).mono ?_
  rintro e w3 ⟨hb3, (⟨he, rfl⟩ | ⟨he, i, x, c, y1, y2, y3, hxf, hwe, hn, rfl⟩)⟩
  · have HP := hide (show KExecPost p s ss pb pid par fds w (errnoRet (findCode p s)) w3 from .inl ⟨_, by
      unfold findCode at he ⊢
      by_cases q1 : (walkOf p.xs s).e = 0
      · rw [if_neg (by simpa using q1)] at he ⊢
        by_cases q2 : (walkOf p.xs s).n = 0
        · rw [if_pos q2]
          exact .inr ⟨q1, .inl ⟨q2, rfl⟩⟩
        · rw [if_neg q2] at he ⊢
          by_cases q3 : dirOf p.xs (walkOf p.xs s).n = true
          · rw [if_pos q3]
            exact .inr ⟨q1, .inr ⟨q2, .inl ⟨q3, rfl⟩⟩⟩
          · rw [if_neg q3] at he; exact absurd rfl he
      · rw [if_pos q1]
        exact .inl ⟨q1, rfl⟩, rfl, hb3⟩)
    clear hb3 he HFW c5
    unfold findErr
    go_wp2
    go_ret
    exact unhide HP
  · have HB3 := hide hb3
    have HR3 := hide ((unhide HR).below hb3)
    have HE := hide hwe
    clear hb3 he hwe HFW c5
    · -- a file is there
      have hil := (List.getElem?_eq_some_iff.1 y1).1
      obtain ⟨fc, hfc⟩ : ∃ fc, p.cs[i]? = some fc := ⟨_, List.getElem?_eq_getElem (by rw [(unhide HI).len]; exact hil)⟩
      have hfo : p.fileOf s = fc := by
        unfold PK.fileOf
        rw [← y2, place_idx (unhide HI).incr y1, List.getD_eq_getElem?_getD, show ((i : Int)).toNat = i from rfl, hfc]
        rfl
      obtain ⟨mi, hmi⟩ : ∃ mi, MB[i]? = some mi := ⟨_, List.getElem?_eq_getElem (by rw [(unhide HR3).tree.len.2]; exact hil)⟩
      obtain ⟨qn, v1, mv1, z1, _, z3, _⟩ := (unhide HR3).tree.node i x c mi y1 y3 hmi
      have hcv := (unhide HR3).cont i v1 fc z3 hfc
      obtain ⟨va, vc, hvs⟩ := hcv.len
      rw [hvs] at z1 hcv
      have hdirf : dirOf p.xs (walkOf p.xs s).n = false := by rw [← y2, dirOf_at (unhide HI).incr y1, hxf]
      have HFO := hide hfo
      have HZ1 := hide z1
      have HCV := hide hcv
      have HDF := hide (And.intro hn hdirf)
      have HFL := hide (show fc.length ≤ 500000 ∧ IsBytes fc from ⟨by have := used_ge hfc; have := (unhide HNM).2.1; omega, (unhide HNM).1 fc (List.mem_of_getElem? hfc)⟩)
      clear hil hfc hfo hmi z3 hcv hvs hdirf y1 y2 y3 hxf hn
      have HB4 := HB3
      have HBY := hide (nodeBytes_any c va fc.length vc w3 ((unhide HZ1).cell rfl))
      have HLD := hide (load_node w3 (unhide HCV) (unhide HFL).2 (unhide HFL).1 (fun j v hj => by rw [(unhide HB4).cell (p := ⟨1, 0 + j, none⟩) (unhide HNM).2.2.2.2.2.2]; exact unhide HT j v hj) (by have := (unhide HNM).2.2.2.2.2.2; have := (unhide HB4).size; omega))
      clear z1 HZ1 HCV
      go_wp2_with fail
      refine (unhide HBY).mono ?_
      rintro e w4' ⟨rfl, hw4⟩
      subst hw4
      clear HBY
      go_wp2_with fail
      refine (unhide HLD).mono ?_
      rintro e w5 ⟨hb5, (⟨kk, hbad, rfl⟩ | ⟨hgood, g, gc, rfl, how5⟩)⟩
      · have hcode := hbad.code
        have hk0 : (kk == 0) = false := by simp; omega
        have HP := hide (show KExecPost p s ss pb pid par fds w (errnoRet kk) (w5.alloc (Obj.cells #[.int .u64 0, .slice none 0 0] 187)) from .inl ⟨kk, .inr ⟨unhide HE, .inr ⟨(unhide HDF).1, .inr ⟨(unhide HDF).2, .inl (by rw [unhide HFO]; exact hbad)⟩⟩⟩, rfl, ((unhide HB4).trans (hb5.mono (unhide HB4).size)).alloc (Nat.le_trans (unhide HB4).size hb5.size) _⟩)
        unfold errPlan noPlan
        clear hbad hcode hb5 HLD
        go_wp2
        go_ret
        exact unhide HP
      obtain ⟨W6, hW6⟩ : ∃ W6, W6 = w5.alloc (Obj.cells #[.int .u64 (numAt fc 24 8), .slice (some ⟨g, 0, none⟩) (outPgs fc).length gc] 187) := ⟨_, rfl⟩
      have h6 : Holds W6 w5.heap.size 187 [.int .u64 (numAt fc 24 8), .slice (some ⟨g, 0, none⟩) (outPgs fc).length gc] := by rw [hW6]; exact Holds.new w5 187 _
      have hb6 : Below w5.heap.size w5 W6 := by rw [hW6]; exact (Below.refl _ _).alloc (Nat.le_refl _) _
      have HB6 := hide ((unhide HB4).trans ((hb5.trans (hb6.mono hb5.size)).mono (unhide HB4).size))
      have how6 := own_below how5 (hide hb6)
      have hgl := how5.lt g rfl
      have hnl : (outPgs fc).length ≤ 256 := outPgs_len hgood
      obtain ⟨n0, hn0⟩ : ∃ n0, n0 = (outPgs fc).length := ⟨_, rfl⟩
      obtain ⟨E, hE⟩ : ∃ E, E = numAt fc 24 8 := ⟨_, rfl⟩
      rw [← hn0, ← hE] at hW6 h6
      rw [← hn0] at how6 hnl
      rw [← hn0, ← hE]
      have hgl5 : w4'.heap.size ≤ g ∧ g < w5.heap.size := ⟨hgl.1, hgl.2⟩
      obtain ⟨QB, hQB⟩ : ∃ QB, QB = w5.heap.size := ⟨_, rfl⟩
      have HGL := hide (show w4'.heap.size ≤ g ∧ g < QB ∧ w.heap.size ≤ w4'.heap.size ∧ QB < W6.heap.size from ⟨hgl5.1, by omega, (unhide HB4).size, by rw [hQB]; exact h6.lt⟩)
      have HGD := hide hgood
      have HN0 := hide (And.intro hn0 hE)
      have H6 := hide h6
      have HOW6 := hide how6
      have HW6 := hide hW6
      clear hgood how5 hb5 hb6 how6 hgl hgl5 hn0 hE h6 hW6 HLD
      go_upto_region 7 with fail
      rw [← unhide HW6]
      rw [← hQB] at H6 ⊢
      clear hQB HW6
      have hac : ∀ j, j < ss.length → W6.cell? ⟨q, so + j, none⟩ = some (.string (ss.getD j ByteArray.empty)) := fun j hj => by rw [(unhide HB6).cell (p := ⟨q, so + j, none⟩) (unhide HNM).2.2.2.2.2.1]; exact (unhide HAR).2 j hj
      by_cases hok : okArgs ss = true
      case neg =>
        have hok' : okArgs ss = false := by simpa using hok
        have HST := hide (stack_exe_bad a q so cap ss W6 (unhide HNM).2.2.2.2.1 (unhide HAR).1 hac hok')
        have HP := hide (show KExecPost p s ss pb pid par fds w (errnoRet 6) W6 from .inl ⟨6, .inr ⟨unhide HE, .inr ⟨(unhide HDF).1, .inr ⟨(unhide HDF).2, .inr ⟨by rw [unhide HFO]; exact unhide HGD, .inl ⟨hok', rfl⟩⟩⟩⟩⟩, rfl, unhide HB6⟩)
        clear hok hok' hac
        go_wp2_with fail
        refine (unhide HST).mono ?_
        rintro e w7 ⟨rfl, hw7⟩
        subst hw7
        go_wp2
        go_ret
        exact unhide HP
      have HST := hide (stack_exe a q so cap ss W6 (unhide HNM).2.2.2.2.1 (unhide HAR).1 (by have := (unhide HNM).2.2.2.2.2.1; have := (unhide HB6).size; omega) hac hok)
      have HOK := hide hok
      clear hok hac
      go_wp2_with fail
      refine (unhide HST).mono ?_
      rintro e w7 ⟨g5, rfl, hst7, hg5, hb7⟩
      have hs7 := hb7.size
      have HB7 := hide ((unhide HB6).trans (hb7.mono (unhide HB6).size))
      have h67 := (unhide H6).below hb7 (unhide H6).lt
      have d0 : w7.cell? ⟨QB, 0, none⟩ = some (.int .u64 E) := h67.cell rfl
      have d1 : w7.cell? ⟨QB, 1, none⟩ = some (.slice (some ⟨g, 0, none⟩) n0 gc) := h67.cell rfl
      have HOW7 := hide (own_below (unhide HOW6) (hide hb7))
      obtain ⟨ip, hip, hpz0, hpz1, hpz2⟩ := info_parts apiInfo
      have HIP := hide (And.intro hip (And.intro hpz0 (And.intro hpz1 hpz2)))
      have hRl := stackRoom_length (unhide HOK)
      have hSl : (pagesTo (stackRoom ss) 2).length = 2 * 258 := pagesTo_length _ hRl 2
      have hS1 : ∀ u ∈ pagesTo (stackRoom ss) 2, u.oneCell' = true := by rw [two_row]; exact apiRow_one _
      obtain ⟨SR, hSR⟩ : ∃ SR, SR = pagesTo (stackRoom ss) 2 := ⟨_, rfl⟩
      rw [← hSR] at hSl hS1 hst7
      have HSR := hide (And.intro hSR hRl)
      have HSL := hide (And.intro hSl hS1)
      have HNW := hide (holds_news (hide hst7))
      have hbase7 : w4'.heap.size ≤ w7.heap.size := by have := unhide HGL; omega
      have HS7 := hide (show w.heap.size ≤ w7.heap.size ∧ QB < w7.heap.size from ⟨(unhide HB7).size, h67.lt⟩)
      clear hst7 hip hpz0 hpz1 hpz2 hRl hSl hS1 hSR h67 hb7 hg5 HST HOW6 H6 hs7
      go_upto_region 11 with (at_builtin; refine wpList_append_lies _ (by rfl) _ _ 76 (by rfl) w4'.heap.size 87 ip _ 258 272 Tryz.underlying76 (unhide HIP).1 (unhide HIP).2.1 (unhide HIP).2.2.1 (unhide HIP).2.2.2 (by show zeroRow.toArray.size = 258; simp [zeroRow_length]) (by decide) _ n0 _ (by rfl) (unhide HOW7) ⟨g5, 0, none⟩ 2 2 SR (by rfl) (unhide HSL).1 (unhide HNW) (unhide HSL).2 (by omega) (by unfold maxLen; omega) (by omega) hbase7 w7.heap.size (by rfl) ?_; intro g8 c8 w8 hown8 hgrow8 hat8 hlt8)
      have hgrow8 : w7.grownBy w8 (some g) := hgrow8
      have hgg := unhide HGL
      have hb8 : Below w.heap.size w w8 := (unhide HB7).trans (below_grown hgrow8 (by omega) (unhide HS7).1)
      have d08 : w8.cell? ⟨QB, 0, none⟩ = some (.int .u64 E) := hgrow8.cell d0 (by simp; omega)
      obtain ⟨PS, hPS⟩ : ∃ PS, PS = outPgs fc ++ twoPgs (stackRoom ss) := ⟨_, rfl⟩
      have hPok : PgsOk PS := by rw [hPS]; exact all_pok (unhide HGD) _ (unhide HSR).2
      have hPl : PS.length = n0 + 2 := by rw [hPS, List.length_append, ← (unhide HN0).1]; rfl
      have hPn := pgs_len hPok
      obtain ⟨NN, hNN⟩ : ∃ NN, NN = n0 + 2 := ⟨_, rfl⟩
      have hap : ApiAt w8 g8 PS := by
        refine api_at (base := w4'.heap.size) (gc := c8) (fun q hq => (hPok.each q hq).2.2.2.2) ?_
        rw [hPl, show apiRow PS = apiRow (outPgs fc) ++ SR by rw [hPS, apiRow_append, (unhide HSR).1, two_row]]
        exact hown8
      have hNN0 : (0 : Int) ≤ (NN : Int) ∧ (NN : Int) ≤ 256 := by omega
      rw [← hNN]
      have hPl : PS.length = NN := by omega
      obtain ⟨LF, hLF⟩ : ∃ LF, LF = p.lf := ⟨_, rfl⟩
      have hlf := (unhide HNM).2.2.2.1
      rw [← hLF] at hlf
      have hKm : ∀ ww, Below w8.heap.size w8 ww → Below w.heap.size w ww := fun ww h => hb8.trans (h.mono hb8.size)
      have HKM := hide hKm
      have HFR := hide (show ∀ ww, Below w8.heap.size w8 ww → Calls Tryz.prog 70 #[.pointer (some ⟨kb, 0, none⟩)] ww fun e w' => e = .returned (.int .i64 LF) ∧ Below ww.heap.size ww w' from fun ww hh => by
        have hw := hKm ww hh
        refine (freeFrames_any kb pm pb p.lp p.lf p.lo p.li p.lb tb cb [] ww ((unhide HK).below hw (unhide HK).lt) ((unhide HM).kept (grown_below hw) (by simp)) (by have := (unhide HPR).lt; have := hw.size; omega) (perms_none zero16_length ((unhide HPR).below hw (unhide HPR).lt)) noPgs (by simp) (by rw [← hLF]; exact hlf)).mono ?_
        rintro e w' ⟨rfl, h⟩
        exact ⟨by rw [← hLF]; simp, h⟩)
      have HCT := hide (show ∀ ww, Below w8.heap.size w8 ww → Calls Tryz.prog 71 #[.pointer (some ⟨pb, 17, none⟩)] ww fun e w' => e = .returned (.int .i64 0) ∧ Below ww.heap.size ww w' from fun ww hh => by
        have hw := hKm ww hh
        refine (count_any pb 17 [] ww noPgs (perms_none zero16_length ((unhide HPR).below hw (unhide HPR).lt))).mono ?_
        rintro e w' ⟨rfl, h⟩
        subst h
        exact ⟨rfl, Below.refl _ _⟩)
      obtain ⟨qb, hqb⟩ : ∃ qb : Bool, qb = decide (LF < (NN : Int)) := ⟨_, rfl⟩
      have R9 := hide (show ∀ w' : World, ((do eqGuard .add 3 (.tmp 52) (.tmp 57) (.int .i64 LF) (.int .i64 0); binOp .add 3 (.int .i64 LF) (.int .i64 0) : Sem Value)).run Tryz.prog w' = .ok (.int .i64 LF) w' from fun w' => by
        have h1 := hlf.1
        have h2 := hlf.2
        clear hKm hap hPok hb8 d08 hgrow8 hown8 hat8 d0 d1
        go_simp
        try (rw [IntKind.wrap_i64]; omega))
      have R10 := hide (show ∀ w' : World, ((do eqGuard .gtr 3 (.tmp 50) (.tmp 58) (.int .i64 (NN : Int)) (.int .i64 LF); binOp .gtr 3 (.int .i64 (NN : Int)) (.int .i64 LF) : Sem Value)).run Tryz.prog w' = .ok (.bool qb) w' from fun w' => by
        rw [hqb]
        clear hKm hap hPok hb8 d08 hgrow8 hown8 hat8 d0 d1 hqb
        go_simp)
      have HQB := hide hqb
      have HLF := hide (And.intro hLF hlf)
      have HAP := hide (show ApiAt w8 g8 PS ∧ g8 < w8.heap.size from ⟨hap, hlt8⟩)
      have HPS := hide (show PS = outPgs fc ++ twoPgs (stackRoom ss) ∧ PgsOk PS ∧ PS.length = NN ∧ NN = n0 + 2 from ⟨hPS, hPok, hPl, hNN⟩)
      have HB8 := hide hb8
      have HD08 := hide d08
      have HQL := hide (show QB < w8.heap.size from by have := (unhide HS7).2; have := hgrow8.size; omega)
      have hbd : Below w8.heap.size w8 w8.drew := ⟨rfl, rfl, rfl, Nat.le_refl _, fun _ _ => rfl⟩
      have HBD := hide hbd
      clear hgg hb8 d08 hPS hPok hPl hPn hap hNN hNN0 hLF hlf hKm hqb hbd hown8 hgrow8 hat8 hlt8 d0 d1 HOW7 HIP HNW HSL hbase7
      refine act_gen ?_
      intro A hA
      have e0 : A.eval (.tmp 0) = .pointer (some ⟨kb, 0, none⟩) := by rw [hA]; rfl
      have e1 : A.eval (.tmp 1) = .pointer (some ⟨pb, 0, none⟩) := by rw [hA]; rfl
      have e15 : A.eval (.tmp 14) = .slice (some ⟨g8, 0, none⟩) NN c8 := by rw [hA]; rfl
      have esz : A.tmps.size = 75 := by rw [hA]; rfl
      have HA14 := hide hA
      clear hA
      refine wp_region_held_drew (S := fun _ => True) (by kernel_rfl) trivial (fun hS => ?_)
      refine takeH (i := 0) (some 49) rfl rfl (by kernel_rfl) (by kernel_rfl) (by kernel_rfl) (fun _ _ _ h => h) (yields_move rfl _ rfl (.slice (some ⟨g8, 0, none⟩) NN c8) (by simp [put_eval, put_size, esz, e0, e1, e15])) hS ?_
      refine takeH (i := 1) (some 50) rfl rfl (by kernel_rfl) (by kernel_rfl) (by kernel_rfl) (fun _ _ _ h => h) (yields_len rfl _ _ rfl (.slice (some ⟨g8, 0, none⟩) NN c8) (by simp [put_eval, put_size, esz, e0, e1, e15]) (.int .i64 (NN : Int)) (fun w' _ => by go_simp)) hS ?_
      refine takeH (i := 2) (some 51) rfl rfl (by kernel_rfl) (by kernel_rfl) (by kernel_rfl) (fun _ _ _ h => h) (yields_move rfl _ rfl (.pointer (some ⟨kb, 0, none⟩)) (by simp [put_eval, put_size, esz, e0, e1, e15])) hS ?_
      refine takeH (i := 4) (some 53) rfl rfl (by kernel_rfl) (by kernel_rfl) (by kernel_rfl) (fun _ _ _ h => h) (yields_move rfl _ rfl (.pointer (some ⟨pb, 0, none⟩)) (by simp [put_eval, put_size, esz, e0, e1, e15])) hS ?_
      refine takeH (i := 5) (some 54) rfl rfl (by kernel_rfl) (by kernel_rfl) (by kernel_rfl) (fun _ _ _ h => h) (yields_nil rfl _ rfl ⟨pb, 0, none⟩ (by simp [put_eval, put_size, esz, e0, e1, e15])) hS ?_
      refine takeH (i := 6) (some 55) rfl rfl (by kernel_rfl) (by kernel_rfl) (by kernel_rfl) (fun _ _ _ h => h) (yields_field rfl _ _ _ rfl (.pointer (some ⟨pb, 0, none⟩)) (by simp [put_eval, put_size, esz, e0, e1, e15]) (.pointer (some ⟨pb, 0, none⟩)) (fun w' => by go_simp)) hS ?_
      refine takeH (i := 7) (some 56) rfl rfl (by kernel_rfl) (by kernel_rfl) (by kernel_rfl) (fun _ _ _ h => h) (yields_field rfl _ _ _ rfl (.pointer (some ⟨pb, 0, none⟩)) (by simp [put_eval, put_size, esz, e0, e1, e15]) (.pointer (some ⟨pb, 17, none⟩)) (fun w' => by go_simp)) hS ?_
      refine wpAnyH_ready (rs := [3]) (by kernel_rfl) (by simp) (AllReadyH.cons rfl (fun K hK => ?_) AllReadyH.nil)
      refine step_call1' rfl 70 51 _ rfl (.pointer (some ⟨kb, 0, none⟩)) (by simp [put_eval, put_size, esz, e0, e1, e15]) freeEnter _ (.int .i64 LF) (fun e w' h => h.1) (unhide HFR _ (unhide HBD)) (some 52) rfl ?_
      rintro w9 ⟨_, hb9⟩
      have hb9 : Below w8.heap.size w8 w9 := ⟨hb9.os, hb9.tape, hb9.output, hb9.size, hb9.block⟩
      refine hK.out _ _ trivial (fun hS9 => ?_)
      clear hK K
      refine wpAnyH_ready (rs := [8]) (by kernel_rfl) (by simp) (AllReadyH.cons rfl (fun K hK => ?_) AllReadyH.nil)
      refine step_call1' rfl 71 56 _ rfl (.pointer (some ⟨pb, 17, none⟩)) (by simp [put_eval, put_size, esz, e0, e1, e15]) countEnter _ (.int .i64 0) (fun e w' h => h.1) (unhide HCT _ hb9) (some 57) rfl ?_
      rintro w10 ⟨_, hb10⟩
      refine hK.out _ _ trivial (fun hS10 => ?_)
      clear hK K
      have HB10 := hide (hb9.trans (hb10.mono hb9.size))
      refine takeH (i := 9) (some 58) rfl rfl (by kernel_rfl) (by kernel_rfl) (by kernel_rfl) (fun _ _ _ h => h) (yields_bin rfl .add 3 _ (.tmp 52) (.tmp 57) rfl (.int .i64 LF) (.int .i64 0) (by simp [put_eval, put_size, esz, e0]) (by simp [put_eval, put_size, esz, e0]) (.int .i64 LF) (unhide R9)) hS10 ?_
      refine takeH (i := 10) (some 59) rfl rfl (by kernel_rfl) (by kernel_rfl) (by kernel_rfl) (fun _ _ _ h => h) (yields_bin rfl .gtr 3 _ (.tmp 50) (.tmp 58) rfl (.int .i64 (NN : Int)) (.int .i64 LF) (by simp [put_eval, put_size, esz, e0]) (by simp [put_eval, put_size, esz, e0]) (.bool qb) (unhide R10)) hS10 ?_
      refine wpAnyH_done (by kernel_rfl) ?_ _
      rw [unhide HA14]
      simp only [Act.put, List.setIfInBounds_toArray, List.set_cons_zero, List.set_cons_succ]
      have HB10' := hide ((unhide HKM) w10 (unhide HB10))
      have hb10 := unhide HB10
      have d010 : w10.cell? ⟨QB, 0, none⟩ = some (.int .u64 E) := by rw [hb10.cell (p := ⟨QB, 0, none⟩) (unhide HQL)]; exact unhide HD08
      have HD10 := hide d010
      have HAP10 := hide (show ApiAt w10 g8 PS ∧ g8 < w10.heap.size from ⟨(unhide HAP).1.below hb10 (fun _ => (unhide HAP).2), by have := (unhide HAP).2; have := hb10.size; omega⟩)
      have HQL10 := hide (show QB < w10.heap.size from by have := unhide HQL; have := hb10.size; omega)
      clear hb9 hb10 hS hS9 hS10 d010 HA14 e0 e1 e15 esz R9 R10 HFR HCT HBD HB10 HAP HQL HD08 HB8
      cases qb with
      | true =>
        have HP := hide (show KExecPost p s ss pb pid par fds w (errnoRet 7) w10 from .inl ⟨7, .inr ⟨unhide HE, .inr ⟨(unhide HDF).1, .inr ⟨(unhide HDF).2, .inr ⟨by rw [unhide HFO]; exact unhide HGD, .inr ⟨unhide HOK, by
          have h := of_decide_eq_true (unhide HQB).symm
          rw [unhide HFO, ← (unhide HN0).1, ← (unhide HLF).1]
          have := (unhide HPS).2.2.2
          simp
          omega, rfl⟩⟩⟩⟩⟩, rfl, unhide HB10'⟩)
        go_wp2
        go_ret
        exact unhide HP
      | false =>
        have HEO := hide (show p.ExecOk [0] 0 s ss from ⟨unhide HE, (unhide HDF).1, (unhide HDF).2, by rw [unhide HFO]; exact unhide HGD, unhide HOK, by
          have h := of_decide_eq_false (unhide HQB).symm
          rw [unhide HFO, ← (unhide HN0).1, ← (unhide HLF).1]
          have := (unhide HPS).2.2.2
          simp
          omega⟩)
        obtain ⟨SP, hSP⟩ : ∃ SP, SP = spaceRow PS := ⟨_, rfl⟩
        have hSl : SP.length = 65792 := by rw [hSP]; exact spaceRow_length (fun q hq => ((unhide HPS).2.1.each q hq).2.2.2.2)
        have hS1 : ∀ v ∈ SP, v.oneCell' = true := by rw [hSP]; exact spaceRow_one PS
        have HNS := hide (show Calls Tryz.prog 72 #[.slice (some ⟨g8, 0, none⟩) NN c8] w10.drew fun e w' => e = .returned (.agg SP.toArray) ∧ Below w10.heap.size w10 w' from by
          have hn := newSpace_any (some ⟨g8, 0, none⟩) g8 c8 PS w10.drew (unhide HPS).2.1 (fun _ => ⟨rfl, (unhide HAP10).2⟩) (fun i q hq => (unhide HAP10).1 i q hq) (by have := pgs_len (unhide HPS).2.1; exact this)
          rw [(unhide HPS).2.2.1] at hn
          refine hn.mono ?_
          rintro e w' ⟨rfl, h⟩
          exact ⟨by rw [hSP], h.os, h.tape, h.output, h.size, h.block⟩)
        have HSP := hide (And.intro hSP (And.intro hSl hS1))
        have R3 := hide (show ∀ w' : World, w'.cell? ⟨QB, 0, none⟩ = some (.int .u64 E) → (Instr.loadAt 74 (.pointer (some ⟨QB, 0, none⟩))).run Tryz.prog w' = .ok (.int .u64 E) w' from fun w' h' => by
          clear hSP hSl hS1
          go_simp)
        have hcl : (cpuRow E zero16 SP).length = 65809 := cpuRow_length zero16_length hSl
        have hcl0 : (cpuRow 0 zero16 zeroSpace).length = 65809 := cpuRow_length zero16_length zeroSpace_length
        obtain ⟨CR, hCR⟩ : ∃ CR, CR = cpuRow E zero16 SP := ⟨_, rfl⟩
        have RB := hide (cpu_built E SP hSl)
        rw [← hCR] at RB
        obtain ⟨OLD, hOLD⟩ : ∃ OLD, OLD = procRow 0 zero16 zeroSpace pid par 0 0 0 fds := ⟨_, rfl⟩
        have hCRl : CR.length = 65809 := by rw [hCR]; exact hcl
        have hCR1 : ∀ v ∈ CR, v.oneCell' = true := by rw [hCR]; exact cpuRow_one E zero16 hS1
        have hOLl : 65809 ≤ OLD.length := by rw [hOLD]; unfold procRow; rw [List.length_append, hcl0]; omega
        have hspl : splice OLD 0 CR = procRow E zero16 SP pid par 0 0 0 fds := by rw [hOLD, hCR]; exact proc_splice hcl0 hcl
        have HPR' := hide (show Holds w pb 183 OLD from by rw [hOLD]; exact unhide HPR)
        have HCL := hide (show (Tryz.prog.info? 178).map (·.size) = some CR.length ∧ 0 + CR.length ≤ OLD.length ∧ (∀ v ∈ CR, v.oneCell' = true) ∧ splice OLD 0 CR = procRow E zero16 SP pid par 0 0 0 fds from ⟨by rw [cpuSize, hCRl], by rw [hCRl]; omega, hCR1, hspl⟩)
        clear hSP hSl hS1 hcl hcl0 hCR hOLD hCRl hCR1 hOLl hspl
        go_upto_region 13 with fail
        refine act_gen ?_
        intro A hA
        have e1 : A.eval (.tmp 1) = .pointer (some ⟨pb, 0, none⟩) := by rw [hA]; rfl
        have e12 : A.eval (.tmp 11) = .pointer (some ⟨QB, 0, none⟩) := by rw [hA]; rfl
        have e15 : A.eval (.tmp 14) = .slice (some ⟨g8, 0, none⟩) NN c8 := by rw [hA]; rfl
        have esz : A.tmps.size = 75 := by rw [hA]; rfl
        have HA16 := hide hA
        clear hA
        refine wp_region_held_drew (S := fun w' => w'.cell? ⟨QB, 0, none⟩ = some (.int .u64 E)) (by kernel_rfl) (unhide HD10) (fun hS => ?_)
        refine takeH (i := 0) (some 61) rfl rfl (by kernel_rfl) (by kernel_rfl) (by kernel_rfl) (fun _ _ _ h => h) (yields_move rfl _ rfl (.pointer (some ⟨pb, 0, none⟩)) (by simp [put_eval, put_size, esz, e1, e12, e15])) hS ?_
        refine takeH (i := 1) (some 62) rfl rfl (by kernel_rfl) (by kernel_rfl) (by kernel_rfl) (fun _ _ _ h => h) (yields_field rfl _ _ _ rfl (.pointer (some ⟨QB, 0, none⟩)) (by simp [put_eval, put_size, esz, e1, e12, e15]) (.pointer (some ⟨QB, 0, none⟩)) (fun w' => by go_simp)) hS ?_
        refine takeH (i := 2) (some 63) rfl rfl (by kernel_rfl) (by kernel_rfl) (by kernel_rfl) (fun _ _ _ h => h) (yields_load1 rfl _ _ rfl ⟨QB, 0, none⟩ (by simp [put_eval, put_size, esz, e1, e12, e15]) (.int .u64 E) (unhide R3)) hS ?_
        refine takeH (i := 3) (some 64) rfl rfl (by kernel_rfl) (by kernel_rfl) (by kernel_rfl) (fun _ _ _ h => h) (yields_move rfl _ rfl (.slice (some ⟨g8, 0, none⟩) NN c8) (by simp [put_eval, put_size, esz, e1, e12, e15])) hS ?_
        refine wpAnyH_ready (rs := [4]) (by kernel_rfl) (by simp) (AllReadyH.cons rfl (fun K hK => ?_) AllReadyH.nil)
        refine step_call1' rfl 72 64 _ rfl (.slice (some ⟨g8, 0, none⟩) NN c8) (by simp [put_eval, put_size, esz, e1, e12, e15]) newSpaceEnter _ (.agg SP.toArray) (fun e w' h => h.1) (unhide HNS) (some 65) rfl ?_
        rintro w11 ⟨_, hb11⟩
        have hS11 : w11.cell? ⟨QB, 0, none⟩ = some (.int .u64 E) := by rw [hb11.cell (p := ⟨QB, 0, none⟩) (unhide HQL10)]; exact unhide HD10
        refine hK.out _ _ hS11 (fun hS2 => ?_)
        clear hK K
        have hb11w := (unhide HB10').trans (hb11.mono (unhide HB10').size)
        have hp11 := (unhide HPR').below hb11w (unhide HPR').lt
        have hpl : pb < w.heap.size := (unhide HPR').lt
        have hkeep : ∀ w12, Hid (w11.grownBy w12 (some pb)) → w12.cell? ⟨QB, 0, none⟩ = some (.int .u64 E) := fun w12 g => (unhide g).cell hS11 (by simp; have := unhide HGL; omega)
        refine takeH (i := 5) (some 66) rfl rfl (by kernel_rfl) (by kernel_rfl) (by kernel_rfl) (fun _ _ _ h => h) (yields_build rfl _ _ rfl #[(0, .int .u64 E), (2, .agg SP.toArray)] (by simp [put_eval, put_size, esz]) (.agg CR.toArray) (unhide RB)) hS2 ?_
        refine takeH (i := 6) (some 67) rfl rfl (by kernel_rfl) (by kernel_rfl) (by kernel_rfl) (fun _ _ _ h => h) (yields_nil rfl _ rfl ⟨pb, 0, none⟩ (by simp [put_eval, put_size, esz, e1, e12, e15])) hS2 ?_
        refine takeH (i := 7) (some 68) rfl rfl (by kernel_rfl) (by kernel_rfl) (by kernel_rfl) (fun _ _ _ h => h) (yields_field rfl _ _ _ rfl (.pointer (some ⟨pb, 0, none⟩)) (by simp [put_eval, put_size, esz, e1, e12, e15]) (.pointer (some ⟨pb, 0, none⟩)) (fun w' => by go_simp)) hS2 ?_
        refine wpAnyH_ready (rs := [8]) (by kernel_rfl) (by simp) (ready_store_part rfl rfl 178 (.tmp 68) (.tmp 66) rfl pb 0 CR (by simp [put_eval, put_size, esz]) (by simp [put_eval, put_size, esz]) 183 OLD hp11 (unhide HCL).1 (unhide HCL).2.1 (unhide HCL).2.2.1 rfl (fun w12 H12 G12 => ⟨hkeep w12 G12, fun hS12 => ?_⟩) AllReadyH.nil)
        refine wpAnyH_done (by kernel_rfl) ?_ _
        rw [unhide HA16]
        simp only [Act.put, List.setIfInBounds_toArray, List.set_cons_zero, List.set_cons_succ]
        have h12 := unhide H12
        rw [(unhide HCL).2.2.2] at h12
        have hcl16 : (procRow E zero16 SP pid par 0 0 0 fds)[16]? = some (.int .u64 0) := by
          have h := cpuRow_length (E := E) zero16_length (unhide HSP).2.1
          unfold procRow
          rw [List.getElem?_append_left (by rw [h]; omega)]
          unfold cpuRow zero16
          rw [List.getElem?_append_left (by simp)]
          rfl
        have k16 : w12.cell? ⟨pb, 16, none⟩ = some (.int .u64 0) := h12.cell hcl16
        have f16 := h12.frozen 16
        have hset := h12.set 16 (.int .u64 (65024 + (spOff ss : Int)))
        rw [proc_reg zero16_length, zero16_set] at hset
        have HFN := hide (show KExecPost p s ss pb pid par fds w (.returned .nilIface) (w12.setCell ⟨pb, 16, none⟩ (.int .u64 (65024 + (spOff ss : Int)))) from .inr ⟨unhide HEO, rfl, by
          have g := unhide G12
          have hs11 := hb11w.size
          have q : w12.grownBy (w12.setCell ⟨pb, 16, none⟩ (.int .u64 (65024 + (spOff ss : Int)))) (some pb) := grown_set ⟨rfl, rfl, rfl, Nat.le_refl _, fun _ _ _ => rfl⟩ 16 _
          refine ⟨g.os.trans hb11w.os, g.tape.trans hb11w.tape, g.output.trans hb11w.output, Nat.le_trans hs11 (Nat.le_trans g.size q.size), fun k hk hn => ?_⟩
          have hkp : some k ≠ some pb := by simpa using hn
          exact (q.block k (by have := g.size; omega) hkp).trans ((g.block k (by omega) hkp).trans (hb11w.block k hk)), by
          rw [unhide HFO, ← (unhide HN0).2, ← (unhide HPS).1, ← (unhide HSP).1]
          exact hset⟩)
        clear hS hS2 hS11 hS12 hb11 hb11w hp11 hset h12 H12 G12 hcl16 HA16 e1 e12 e15 esz HNS RB R3 hpl hkeep HCL
        go_wp2
        go_ret
        exact unhide HFN
end Go.Proofs.YtkokiefclmbgaaaGreatDoor
