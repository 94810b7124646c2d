import Derived.Test.YtkokiefclmbgaaaGreatDoorBootsProofG26
import Derived.Test.YtkokiefclmbgaaaGreatDoorBootsProofG05
import Derived.Test.YtkokiefclmbgaaaGreatDoorBootsProofG02
import Derived.Lib.AppendZerosOnto
import Derived.Deep.MidRow
/- The program's Write onto a file that has bytes, from its head on. -/
namespace Go.Proofs.YtkokiefclmbgaaaGreatDoor
open Go Go.RowKit Go.Maps
set_option linter.unusedVariables false
set_option linter.unusedSimpArgs false

theorem bytesRow_append (A B : List Int) : bytesRow (A ++ B) = bytesRow A ++ bytesRow B := by simp [bytesRow]
theorem zerosL (n : Nat) : (Builtin.zeroCells (Value.int .u8 0).cells n).toList = bytesRow (List.replicate n 0) := by rw [zeroCells_u8]
theorem splice_over (C T : List Int) (k : Nat) (hk : k ≤ T.length) : splice (C ++ T) C.length (List.replicate k 0) = C ++ List.replicate k 0 ++ T.drop k := by
  unfold splice
  rw [List.take_left' rfl, List.length_replicate, List.drop_append]
  simp
theorem append_zeros_row (w : World) (R c0 k : Nat) (C T : List Int) (h : Holds w R 5 (bytesRow (C ++ T))) (hc : c0 = C.length + T.length) (hcm : c0 ≤ maxLen) (hl : C.length + k ≤ 100000000) :
    ∃ R' cp T' w', (Builtin.append_ #[32, 3] 32 #[.slice (some ⟨R, 0, none⟩) C.length c0, .int .i64 k]).run Tryz.prog w = .ok (.slice (some ⟨R', 0, none⟩) (C.length + k) cp) w' ∧ Holds w' R' 5 (bytesRow (C ++ List.replicate k 0 ++ T')) ∧ cp = C.length + k + T'.length ∧ cp ≤ maxLen ∧ (R' = R ∧ w.grownBy w' (some R) ∨ R' = w.heap.size ∧ w.grownBy w' none) := by
  obtain ⟨i, hi⟩ : ∃ i, Tryz.prog.info? 5 = some i := by
    have := u8Inf
    cases h : Tryz.prog.info? 5 with
    | none => rw [h] at this; cases this
    | some i => exact ⟨i, rfl⟩
  have hii : i.zero = some (.int .u8 0) ∧ i.size = 1 ∧ i.bytes = 1 := by
    have := u8Inf
    rw [hi] at this
    simpa using this
  by_cases hg : c0 < C.length + k
  · have hold : (Builtin.firstCells i.size C.length (.slice (some ⟨R, 0, none⟩) C.length c0)).run Tryz.prog w.drew = .ok (bytesRow C).toArray w.drew := by
      refine run_firstCells_some (P := Tryz.prog) w.drew i.size C.length ⟨R, 0, none⟩ C.length c0 (bytesRow C) (by rw [bytesRow_length, hii.2.1, Nat.mul_one]) (fun j v hj => ?_)
      have hd : Holds w.drew R 5 (bytesRow (C ++ T)) := h.heap rfl
      rw [Addr.add_mid, Nat.zero_add]
      refine hd.cell ?_
      rw [bytesRow_append, List.getElem?_append_left (List.getElem?_eq_some_iff.1 hj).1]
      exact hj
    have hr := Go.Lib.run_append_grow_zeros (P := Tryz.prog) w 32 3 32 5 i (.int .u8 0) .i64 .i64 Tryz.underlying32 Tryz.underlying3 hi hii.1 (some ⟨R, 0, none⟩) C.length c0 (bytesRow C) hold k (by omega) (by omega) hg (by omega) (by rw [hii.2.2]; omega) (growslice_fits hg (by rw [hii.2.2]; omega))
    have hge := grownCap_ge w (C.length + k) c0 5
    have hle := grownCap_le_maxLen w (C.length + k) c0 5 (by unfold maxLen; omega)
    refine ⟨w.heap.size, grownCap w (C.length + k) c0 5, List.replicate (grownCap w (C.length + k) c0 5 - (C.length + k)) 0, _, hr, ?_, by simp; omega, hle, .inr ⟨rfl, ?_⟩⟩
    · rw [zeroCells_u8, zeroCells_u8, show (bytesRow C).toArray ++ (bytesRow (List.replicate k 0)).toArray ++ (bytesRow (List.replicate (grownCap w (C.length + k) c0 5 - (C.length + k)) 0)).toArray = (bytesRow (C ++ List.replicate k 0 ++ List.replicate (grownCap w (C.length + k) c0 5 - (C.length + k)) 0)).toArray from by simp [bytesRow]]
      exact Holds.new w.drew 5 _
    · exact ⟨rfl, rfl, rfl, by simp, fun k hk _ => heap_alloc_old w.drew _ hk⟩
  · have hkT : k ≤ T.length := by omega
    refine ⟨R, c0, T.drop k, w.setCells R C.length (bytesRow (List.replicate k 0)), ?_, ?_, by simp; omega, hcm, .inl ⟨rfl, grown_setCells _ _ w (World.grownBy.refl _ _)⟩⟩
    · have hroom : C.length + k ≤ c0 := by omega
      have hst := run_storeCells_cells (P := Tryz.prog) R C.length (bytesRow (List.replicate k 0)) 0 w (fun j hj => by
        rw [bytesRow_length, List.length_replicate] at hj
        rw [Nat.add_zero, h.cell (bytesRow_get _ (C.length + j) (by rw [List.length_append]; omega))]
        rfl) (fun j hj => h.frozen _) (bytesRow_one' _)
      simp only [Nat.add_zero] at hst
      have hw : IntKind.i64.wrap (k : Int) = k := by rw [IntKind.wrap_i64]; omega
      have hneg : ¬ ((k : Int) < 0) := by omega
      have h48 : ¬ (281474976710656 < (k : Int)) := by omega
      have hz : ∀ n, (Builtin.zeroCells (Value.int .u8 0).cells n).toList = bytesRow (List.replicate n 0) := zerosL
      by_cases hk0 : k = 0
      · subst hk0
        have hroom0 : C.length ≤ c0 := by omega
        have h0 : (bytesRow (List.replicate 0 (0 : Int))) = [] := rfl
        rw [h0] at hst ⊢
        have hw0 : IntKind.i64.wrap 0 = 0 := by rw [IntKind.wrap_i64]; decide
        simp [Builtin.append_, run_underlying Tryz.underlying32, run_underlying Tryz.underlying3, sizeOf, typeInfo, zeroValue, hi, hii.1, hii.2.1, hii.2.2, asInt, asIntOf, hw0, hroom0, Addr.add_lit, hst]
      · simp [Builtin.append_, run_underlying Tryz.underlying32, run_underlying Tryz.underlying3, sizeOf, typeInfo, zeroValue, hi, hii.1, hii.2.1, hii.2.2, asInt, asIntOf, hw, hneg, h48, hroom, hk0, hz, Addr.add_lit, hst]
    · have := holds_setCells (bytesRow (List.replicate k 0)) C.length w _ h (by rw [bytesRow_length, bytesRow_length, List.length_replicate, List.length_append]; omega)
      rw [bytesRow_splice, splice_over C T k hkT] at this
      exact this

theorem wpList_copy_row {P : Program} {ops : Array Oper} {rest : List Oper} {o : Oper} {a : Act} {w : World} {Q : Exit → Act → World → Prop} (hgd : o.guard = none) (d s : Operand) (dT sT : TypeId)
    (ho : o.op = .call { callee := .builtin .copy, args := #[d, s], argTypes := #[dT, sT] }) (elem : TypeId) (hu : P.underlying dT = some (.slice elem)) (hsz : (P.info? elem).map (·.size) = some 1)
    (g off dLen dCap : Nat) (q qo sLen sCap : Nat) (hd : a.eval d = .slice (some ⟨g, off, none⟩) dLen dCap) (hs : a.eval s = .slice (some ⟨q, qo, none⟩) sLen sCap)
    (cur : List Value) (t : TypeId) (hg : Holds w g t cur) (cs : List Value) (hn : cs.length = Nat.min sLen dLen) (hsrc : ∀ j v, cs[j]? = some v → w.cell? ⟨q, qo + j, none⟩ = some v)
    (h1 : ∀ v ∈ cs, v.oneCell' = true) (hfit : off + cs.length ≤ cur.length)
    (h : ∀ w', Hid (Holds w' g t (splice cur off cs)) → Hid (w.grownBy w' (some g)) → wpList P ops Q rest (a.put o.dst (goInt cs.length)) w') : wpList P ops Q (o :: rest) a w := by
  refine wpList_plain hgd fun K hK => ?_
  have := step_copy_row (P := P) (ops := ops) (o := o) (a := a) (w := w) (K := K) (Q := Q) (E := True) hgd d s dT sT ho elem hu hsz g off dLen dCap q qo sLen sCap hd hs cur t hg cs hn hsrc h1 hfit (fun w' h1 h2 => hK _ _ (h w' h1 h2))
  have hw : Region.wanted o (yielded ops a.tmps) = true := by simp [Region.wanted, hgd]
  rw [if_pos hw] at this
  exact this
theorem splice_over_all (C T : List Int) (k : Nat) (L : List Int) (hk : k = L.length - C.length) : splice (C ++ List.replicate k 0 ++ T) 0 L = over C L ++ T := by
  have key : (C ++ List.replicate k 0 ++ T).drop L.length = C.drop L.length ++ T := by
    by_cases h : C.length ≤ L.length
    · rw [List.drop_eq_nil_of_le h, List.nil_append, List.drop_left' (by rw [List.length_append, List.length_replicate]; omega)]
    · have : k = 0 := by omega
      subst this
      rw [List.replicate_zero, List.append_nil, List.drop_append, show L.length - C.length = 0 by omega, List.drop_zero]
  unfold splice over
  rw [Nat.zero_add, List.take_zero, List.nil_append, key, List.append_assoc]
set_option maxRecDepth 100000 in
set_option maxHeartbeats 1000000 in
theorem fsWrite_old {pth : ByteArray} (tb ab b q o R0 : Nat) (n li used lb : Int) (n1 c1 c0 : Nat) (mv : Value) (L C T : List Int) (w : World) (hL : L.length = n1) (hq : q < w.heap.size) (hqt : q ≠ tb) (hqb : q ≠ b) (hqr : q ≠ R0) (hv : BView w q o L) (ht : Holds w tb 163 [.pointer (some ⟨ab, 0, none⟩), .int .i64 n, .int .i64 li, .int .i64 used, .int .i64 lb]) (hb : Holds w b 230 [.string pth, .bool false, .slice (some ⟨R0, 0, none⟩) C.length c0, mv, .int .i64 0]) (hr : Holds w R0 5 (bytesRow (C ++ T))) (hc : c0 = C.length + T.length) (hcm : c0 ≤ maxLen) (hCl : C.length ≤ 1000000) (hn : 0 ≤ n ∧ n ≤ li) (hli : li ≤ 1000000) (h1 : 0 < n1) (hl1 : n1 ≤ 1000000) (hu : 0 ≤ used ∧ used ≤ 1000000 ∧ 0 ≤ lb ∧ lb ≤ 1000000) (hf : ((n1 - C.length : Nat) : Int) ≤ lb - used) :
    Calls Tryz.prog 64 #[.pointer (some ⟨tb, 0, none⟩), .pointer (some ⟨b, 0, none⟩), .int .i64 0, .slice (some ⟨q, o, none⟩) n1 c1] w fun e w' => e = .returned .nilIface ∧ Holds w' tb 163 [.pointer (some ⟨ab, 0, none⟩), .int .i64 n, .int .i64 li, .int .i64 (used + ((n1 - C.length : Nat) : Int)), .int .i64 lb] ∧ FrameS w w' [tb, b, R0] ∧ ∃ R cp T', (R = R0 ∨ w.heap.size ≤ R) ∧ cp = (over C L).length + T'.length ∧ cp ≤ maxLen ∧ Holds w' b 230 [.string pth, .bool false, .slice (some ⟨R, 0, none⟩) (over C L).length cp, mv, .int .i64 0] ∧ Holds w' R 5 (bytesRow (over C L ++ T')) := by
  have t3 : w.cell? ⟨tb, 3, none⟩ = some (.int .i64 used) := ht.cell rfl
  have t4 : w.cell? ⟨tb, 4, none⟩ = some (.int .i64 lb) := ht.cell rfl
  have f3 := ht.frozen 3
  obtain ⟨n0, hn0⟩ : ∃ n0, n0 = C.length := ⟨_, rfl⟩
  obtain ⟨mo, hmo⟩ : ∃ mo, mo = n1 - n0 := ⟨_, rfl⟩
  obtain ⟨nn, hnn⟩ : ∃ nn, nn = n0 + mo := ⟨_, rfl⟩
  rw [← hn0] at hb hCl hf hc ⊢
  rw [← hmo] at hf ⊢
  have hov : (over C L).length = nn := by rw [over_len (M := max n1 n0) (by rw [hL, hn0])]; omega
  rw [hov]
  have hn1n : n1 ≤ nn := by omega
  have hnl : nn ≤ 2000000 := by omega
  have b1 : w.cell? ⟨b, 2, none⟩ = some (.slice (some ⟨R0, 0, none⟩) n0 c0) := hb.cell rfl
  have k1 : ((n1 : Int) == 0) = false := by simp; omega
  have k2 : max (0 : Int) ((n1 : Int) - (n0 : Int)) = (mo : Int) := by omega
  have hbt : b ≠ tb := holds_apart hb ht (by decide)
  have hrt : R0 ≠ tb := holds_apart hr ht (by decide)
  have hrb : R0 ≠ b := holds_apart hr hb (by decide)
  have HT := hide ht
  have HB := hide hb
  have HV := hide hv
  have HR0 := hide hr
  have HN := hide (And.intro hn0 (And.intro hmo hnn))
  have HC := hide hc
  have HOV := hide hov
  have HRM := hide (fsHasRoom_any tb ab n li used lb 0 (mo : Int) w ht ⟨hn.1, by omega⟩ ⟨by omega, hli⟩ ⟨hu.1, hu.2.1⟩ hu.2.2)
  rw [decide_eq_true (show (0 : Int) ≤ li - n by omega), decide_eq_true hf, Bool.and_true] at HRM
  clear ht hb hv hr hn0 hmo hnn hc hov t3 t4 f3 hn hli
  go_enter Tryz.func64, Tryz.ntmps64
  go_upto_region 4 with fail
  go_wp2_with fail
  refine (unhide HRM).mono ?_
  rintro e wq ⟨rfl, hhq, hbq⟩
  have HHQ := hide hhq
  have HGQ := hide (show w.grownBy wq (some tb) from ⟨hbq.os, hbq.tape, hbq.output, hbq.size, fun k hk _ => hbq.block k hk⟩)
  have t3 : wq.cell? ⟨tb, 3, none⟩ = some (.int .i64 used) := ((unhide HT).heap (W' := wq) hhq).cell rfl
  have f3 := ((unhide HT).heap (W' := wq) hhq).frozen 3
  clear hhq hbq HRM b1
  go_upto_region 7 with fail
  obtain ⟨W1, hW1⟩ : ∃ W1, W1 = wq.setCell ⟨tb, 3, none⟩ (.int .i64 (used + (mo : Int))) := ⟨_, rfl⟩
  rw [← hW1]
  have hb1 : Holds W1 b 230 [.string pth, .bool false, .slice (some ⟨R0, 0, none⟩) n0 c0, mv, .int .i64 0] := by rw [hW1]; exact ((unhide HB).heap (W' := wq) (unhide HHQ)).set_other hbt 3 _
  have hr1 : Holds W1 R0 5 (bytesRow (C ++ T)) := by rw [hW1]; exact ((unhide HR0).heap (W' := wq) (unhide HHQ)).set_other hrt 3 _
  have ht1 : Holds W1 tb 163 [.pointer (some ⟨ab, 0, none⟩), .int .i64 n, .int .i64 li, .int .i64 (used + (mo : Int)), .int .i64 lb] := by rw [hW1]; exact ((unhide HT).heap (W' := wq) (unhide HHQ)).set 3 _
  have hf1 : FrameS w W1 [tb, b, R0] := by rw [hW1]; exact (FrameS.refl w _).grown (r := some tb) (grown_set (w := w) (wr := wq) (b := tb) (unhide HGQ) 3 _) (fun x hx => .inl (by simp at hx; simp [hx]))
  have hs1 : W1.heap.size = w.heap.size := by rw [hW1]; simp [World.setCell, unhide HHQ]
  obtain ⟨R, cp, T', W2, hap, hr2, hcp, hcpm, hwh⟩ := append_zeros_row W1 R0 c0 mo C T hr1 (by have := (unhide HN).1; have := unhide HC; omega) hcm (by have := (unhide HN).1; omega)
  rw [← (unhide HN).1, ← (unhide HN).2.2] at hap hcp
  have hwR : R = R0 ∨ w.heap.size ≤ R := by rcases hwh with ⟨q1, _⟩ | ⟨q1, _⟩; exact .inl q1; exact .inr (by omega)
  have hRt : R ≠ tb := by have := (unhide HT).lt; rcases hwR with q1 | q1; rw [q1]; exact hrt; omega
  have hRb : R ≠ b := by have := (unhide HB).lt; rcases hwR with q1 | q1; rw [q1]; exact hrb; omega
  have hqR : q ≠ R := by rcases hwR with q1 | q1; rw [q1]; exact hqr; omega
  have hg12 : ∃ r, W1.grownBy W2 r ∧ (∀ x, r = some x → x = R0) := by
    rcases hwh with ⟨_, q1⟩ | ⟨_, q1⟩
    · exact ⟨some R0, q1, fun x hx => by simpa using hx.symm⟩
    · exact ⟨none, q1, fun x hx => by cases hx⟩
  obtain ⟨r, hg12, hrx⟩ := hg12
  have hb2 : Holds W2 b 230 [.string pth, .bool false, .slice (some ⟨R0, 0, none⟩) n0 c0, mv, .int .i64 0] := hb1.grown hg12 (fun e => hrb (hrx _ e.symm).symm)
  have ht2 := ht1.grown hg12 (fun e => hrt (hrx _ e.symm).symm)
  have hf2 : FrameS w W2 [tb, b, R0] := hf1.grown hg12 (fun x hx => .inl (by rw [hrx x hx]; simp))
  have HAP := hide hap
  have HB2 := hide hb2
  have HT2 := hide ht2
  have HR2 := hide hr2
  have HF2 := hide hf2
  have HCP := hide (And.intro hcp (And.intro hcpm hwR))
  have b1' : W1.cell? ⟨b, 2, none⟩ = some (.slice (some ⟨R0, 0, none⟩) n0 c0) := hb1.cell rfl
  have b2 : W2.cell? ⟨b, 2, none⟩ = some (.slice (some ⟨R0, 0, none⟩) n0 c0) := hb2.cell rfl
  have g2 := hb2.frozen 2
  have HS1 := hide hs1
  clear hap hb1 ht1 hW1 hr1 hf1 t3 f3 hb2 ht2 hr2 hf2 hcp hcpm hwR hwh hg12 hrx hs1
  go_upto_region 8 with (at_builtin; refine Lib.wpList_append_run _ rfl _ _ _ _ rfl _ _ rfl rfl _ _ (unhide HAP) ?_)
  obtain ⟨W3, hW3⟩ : ∃ W3, W3 = W2.setCell ⟨b, 2, none⟩ (.slice (some ⟨R, 0, none⟩) nn cp) := ⟨_, rfl⟩
  rw [← hW3]
  have hr3 : Holds W3 R 5 (bytesRow (C ++ List.replicate mo 0 ++ T')) := by rw [hW3]; exact (unhide HR2).set_other hRb 2 _
  have hn3 : Holds W3 b 230 [.string pth, .bool false, .slice (some ⟨R, 0, none⟩) nn cp, mv, .int .i64 0] := by rw [hW3]; exact (unhide HB2).set 2 _
  have ht3 : Holds W3 tb 163 [.pointer (some ⟨ab, 0, none⟩), .int .i64 n, .int .i64 li, .int .i64 (used + (mo : Int)), .int .i64 lb] := by rw [hW3]; exact (unhide HT2).set_other hbt.symm 2 _
  have hf3 : FrameS w W3 [tb, b, R0] := by rw [hW3]; exact (unhide HF2).grown (grown_set (w := W2) (wr := W2) (b := b) (World.grownBy.refl _ _) 2 _) (fun x hx => .inl (by simp at hx; simp [hx]))
  have hsrc : ∀ (j : Nat) (v : Value), (bytesRow L)[j]? = some v → W3.cell? ⟨q, o + j, none⟩ = some v := by
    intro j v hj
    have hjl : j < L.length := by have := (List.getElem?_eq_some_iff.1 hj).1; rwa [bytesRow_length] at this
    rw [bytesRow_get L j hjl] at hj
    obtain rfl := Option.some.inj hj
    have h := (unhide HV) j hjl
    have he : W3.cell? ⟨q, o + j, none⟩ = w.cell? ⟨q, o + j, none⟩ := by unfold World.cell?; rw [hf3.block q hq (by simp [hqt, hqb, hqr])]
    exact he.trans h
  have hln : (bytesRow L).length = Nat.min n1 nn := by rw [bytesRow_length, hL]; exact (Nat.min_eq_left hn1n).symm
  have hft : 0 + (bytesRow L).length ≤ (bytesRow (C ++ List.replicate mo 0 ++ T')).length := by have := unhide HN; rw [bytesRow_length, bytesRow_length, hL]; simp; omega
  have HR3 := hide hr3
  have HN3 := hide hn3
  have HT3 := hide ht3
  have HF3 := hide hf3
  have HSRC := hide hsrc
  have HLN := hide (And.intro hln hft)
  have c3 : W3.cell? ⟨b, 2, none⟩ = some (.slice (some ⟨R, 0, none⟩) nn cp) := hn3.cell rfl
  have HLL := hide hL
  have HH := hide (And.intro hRt hRb)
  clear hsrc hln hft hr3 hn3 ht3 hf3 hW3 hL hq hqt hqb hqr hqR hRt hRb b1' b2 g2
  go_upto_region 9 with (refine wpList_copy_row rfl _ _ 32 32 rfl 5 Tryz.underlying32 u8one R 0 nn cp q o n1 c1 rfl rfl (bytesRow (C ++ List.replicate mo 0 ++ T')) 5 (unhide HR3) (bytesRow L) (unhide HLN).1 (unhide HSRC) (bytesRow_one' _) (unhide HLN).2 ?_; intro w4 H4 G4)
  have HP := hide (show Holds w4 tb 163 [.pointer (some ⟨ab, 0, none⟩), .int .i64 n, .int .i64 li, .int .i64 (used + (mo : Int)), .int .i64 lb] ∧ FrameS w w4 [tb, b, R0] ∧ ∃ R cp T', (R = R0 ∨ w.heap.size ≤ R) ∧ cp = nn + T'.length ∧ cp ≤ maxLen ∧ Holds w4 b 230 [.string pth, .bool false, .slice (some ⟨R, 0, none⟩) nn cp, mv, .int .i64 0] ∧ Holds w4 R 5 (bytesRow (over C L ++ T')) from by
    have hcp := unhide HCP
    have hh := unhide HH
    refine ⟨(unhide HT3).grown (unhide G4) (by simpa using fun e => hh.1 e.symm), (unhide HF3).grown (unhide G4) (fun x hx => ?_), R, cp, T', hcp.2.2, hcp.1, hcp.2.1, (unhide HN3).grown (unhide G4) (by simpa using fun e => hh.2 e.symm), ?_⟩
    · have hx : R = x := by simpa using hx
      subst hx
      rcases hcp.2.2 with q1 | q1
      · exact .inl (by simp [q1])
      · exact .inr q1
    · have h := unhide H4
      have hn := unhide HN
      rw [bytesRow_splice, splice_over_all C T' mo L (by rw [unhide HLL, ← hn.1]; exact hn.2.1)] at h
      exact h)
  clear H4 G4 HR3 HN3 HT3 HF3 HSRC HLN HCP HH c3
  go_wp2
  go_ret
  exact ⟨rfl, unhide HP⟩
end Go.Proofs.YtkokiefclmbgaaaGreatDoor
