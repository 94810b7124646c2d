import Derived.Test.YtkokiefclmbgaaaGreatDoorBootsProofG37
/- The program's objects, where there is process 1 alone, with the console: none. -/
namespace Go.Proofs.YtkokiefclmbgaaaGreatDoor
open Go Go.RowKit Go.Maps
set_option linter.unusedVariables false
set_option linter.unusedSimpArgs false

/-- A map that holds nothing. -/
def NoMap (w : World) (m : Nat) : Prop := ∃ clock, w.heap[m]? = some (.map #[] clock)
theorem NoMap.below {w w' : World} {m : Nat} (h : NoMap w m) (hl : m < w.heap.size) (hb : Below w.heap.size w w') : NoMap w' m := by
  obtain ⟨c, hc⟩ := h
  exact ⟨c, by rw [hb.block m hl]; exact hc⟩
theorem conComparable : (Tryz.prog.info? 114).map (·.comparable) = some true := by kernel_rfl
theorem con_eq (cb : Nat) (w : World) : (binOp .neq 180 (.iface 114 (.pointer (some ⟨cb, 0, none⟩))) (.iface 114 (.pointer (some ⟨cb, 0, none⟩)))).run Tryz.prog w = .ok (.bool false) w := by
  have hc := conComparable
  cases hi : Tryz.prog.info? 114 with
  | none => simp [hi] at hc
  | some i =>
    have hcc : i.comparable = true := by simpa [hi] using hc
    have h : ∀ d : Nat, (Op.equalIn (d + 2) 180 (.iface 114 (.pointer (some ⟨cb, 0, none⟩))) (.iface 114 (.pointer (some ⟨cb, 0, none⟩)))).run Tryz.prog w = .ok true w := fun d => by
      simp [Op.equalIn, run_underlying Tryz.underlying180, run_underlying Tryz.underlying114, typeInfo, hi, hcc, sameAddr]
    simp only [binOp]
    simp [Op.equal, Op.maxDepth, h 9998]
set_option maxRecDepth 100000 in
set_option maxHeartbeats 2000000 in
theorem objects_none (kb pm pb cb : Nat) (w : World) (hk : w.cell? ⟨kb, 9, none⟩ = some (.map (some pm))) (hk6 : w.cell? ⟨kb, 6, none⟩ = some (.pointer (some ⟨cb, 0, none⟩))) (hkl : kb < w.heap.size) (hm : OneProc w pm pb) (hpl : pb < w.heap.size) (hf : w.rangeAt pb 65814 (kfdsTo cb 3)) :
    Calls Tryz.prog 55 #[.pointer (some ⟨kb, 0, none⟩)] w fun e w' => e = .returned (.map (some w.heap.size)) ∧ NoMap w' w.heap.size ∧ Below w.heap.size w w' := by
  obtain ⟨W1, hW1⟩ : ∃ W1, W1 = w.alloc (.map #[] 0) := ⟨_, rfl⟩
  have hb1 : Below w.heap.size w W1 := by rw [hW1]; exact (Below.refl _ _).alloc (Nat.le_refl _) _
  have hs1 : W1.heap.size = w.heap.size + 1 := by rw [hW1]; simp
  have hn1 : NoMap W1 w.heap.size := ⟨0, by rw [hW1]; exact heap_alloc_new w _⟩
  have hm1 : OneProc W1 pm pb := hm.kept (grown_below hb1) (by simp)
  have k9 : W1.cell? ⟨kb, 9, none⟩ = some (.map (some pm)) := by rw [hb1.cell (p := ⟨kb, 9, none⟩) hkl]; exact hk
  have hpm : pm < w.heap.size := World.ownsMap.lt hm
  rw [fds_8] at hf
  have HK6 := hide hk6
  have HF := hide hf
  have HM1 := hide hm1
  have HN1 := hide hn1
  have HB1 := hide hb1
  have HW1 := hide hW1
  have HS1 := hide hs1
  have hmm := @run_makeMap Tryz.prog
  clear hm hf hm1 hn1 hb1 hk hk6 hW1 hs1
  go_enter Tryz.func55, Tryz.ntmps55
  go_upto_region 2 with fail
  rw [← unhide HW1]
  clear hmm
  go_wp2_with (first | (at_range; refine wpList_range_own _ rfl _ 119 rfl 3 130 intKeyed Tryz.underlying119 ptrElem pm 1 (procD pb) rfl (unhide HM1) ?_; intro w0 hrg0 hg0 hs0) | go_in)
  have HR0 := hide hrg0
  have hb0 : Below W1.heap.size W1 w0 := ⟨hg0.os, hg0.tape, hg0.output, hg0.size, fun k hk => hg0.block k hk (by simp)⟩
  have HB0 := hide ((unhide HB1).trans (hb0.mono (unhide HB1).size))
  have HN0 := hide ((unhide HN1).below (by rw [unhide HS1]; omega) hb0)
  have HS0 := hide (show W1.heap.size < w0.heap.size from by omega)
  clear hrg0 hg0 hs0 k9 hb0
  go_frame
  go_loopw [5] (fun _ wr => ∃ (left : Lit → Bool) (cnt : Nat), Hid (wr.ranges Tryz.prog 3 ptrElem pm W1.heap.size 1 (procD pb) left cnt) ∧ Hid (∀ kl, left kl = true → kl = .int .i64 1) ∧ Hid (NoMap wr w.heap.size) ∧ Hid (Below w.heap.size w wr) ∧ Hid (W1.heap.size < wr.heap.size)) (fun _ wr => wr.rangeLeft pm W1.heap.size)
  case atStart => exact ⟨_, _, HR0, hide (fun kl h => procD_has h), HN0, HB0, HS0⟩
  case round =>
    obtain ⟨left, cnt, HRG, HLF, HNM, HB, HSZ⟩ := hrel
    go_wp2_with (first
      | (at_next; refine wpList_next_ranges _ rfl _ rfl 3 intKeyed ptrElem (Value.int .i64) nodePtr invInt invPtr pm W1.heap.size 1 (procD pb) left cnt rfl (unhide HRG) ?_ ?_)
      | go_in)
    · intro hc0 hl0
      go_wp2
      go_ret
      exact ⟨rfl, unhide HNM, unhide HB⟩
    · intro x c kl y1 y2 w1 cnt1 hkey hlk hv hat hrg1 hlt hg1 hs1 hen
      have hkl' := unhide HLF kl hlk
      subst hkl'
      obtain rfl := one_key hkey rfl
      obtain rfl := one_elem hv (show y1 = _ by rw [← hat .nil]; exact procD_at pb .nil)
      have hsw := unhide HS1
      have hszz := unhide HSZ
      have hb1 : Below w.heap.size w w1 := (unhide HB).trans ⟨hg1.os, hg1.tape, hg1.output, hg1.size, fun k hk => hg1.block k (by have := (unhide HB).size; omega) (by simp; omega)⟩
      have hn1 : NoMap w1 w.heap.size := by
        obtain ⟨ck, hck⟩ := unhide HNM
        exact ⟨ck, by rw [hg1.block w.heap.size (by omega) (by simp; omega)]; exact hck⟩
      have hf1 : w1.rangeAt pb 65814 _ := fun j v hv => by rw [hb1.cell (p := ⟨pb, 65814 + j, none⟩) hpl]; exact unhide HF j v hv
      have k6 : w1.cell? ⟨kb, 6, none⟩ = some (.pointer (some ⟨cb, 0, none⟩)) := by rw [hb1.cell (p := ⟨kb, 6, none⟩) hkl]; exact unhide HK6
      have HF1 := hide hf1
      have HRG1 := hide hrg1
      have HFN := hide (And.intro hn1 hb1)
      have HSZ1 := hide (show W1.heap.size < w1.heap.size from by have := hg1.size; omega)
      have HLT := hide hlt
      clear hkey hlk hv hat hrg1 hlt hg1 hs1 hb1 hn1 hf1 hsw hszz
      unfold nodePtr at hen ⊢
      go_wp2_with (refine wpList_load_mid rfl 181 _ rfl pb 65814 (by rfl) _ _ (unhide HF1) Tryz.underlying181 rfl (by rw [fdsSize]; rfl) ?_)
      clear hen
      have HRGO := hide ((unhide HRG).left_eq)
      go_loopw [22] (fun i wi => ∃ k : Nat, k ≤ 8 ∧ i = .int .i64 k ∧ wi = w1) (fun i _ => 8 - (intOf i).toNat)
      case atStart => exact ⟨0, by omega, rfl, rfl⟩
      case round =>
        obtain ⟨k, hk, rfl, rfl⟩ := hrel
        have ce := con_eq cb
        have h9 : k = 0 ∨ k = 1 ∨ k = 2 ∨ k = 3 ∨ k = 4 ∨ k = 5 ∨ k = 6 ∨ k = 7 ∨ k = 8 := by omega
        rcases h9 with rfl | rfl | rfl | rfl | rfl | rfl | rfl | rfl | rfl
        · have ix := fd_ix0
          unfold conFd
          go_wp2
          exact ⟨⟨1, by omega, by simp, trivial⟩, by simp [intOf]⟩
        · have ix := fd_ix1
          unfold conFd
          go_wp2
          exact ⟨⟨2, by omega, by simp, trivial⟩, by simp [intOf]⟩
        · have ix := fd_ix2
          unfold conFd
          go_wp2
          exact ⟨⟨3, by omega, by simp, trivial⟩, by simp [intOf]⟩
        · have ix := fd_ix3
          unfold conFd
          go_wp2
          exact ⟨⟨4, by omega, by simp, trivial⟩, by simp [intOf]⟩
        · have ix := fd_ix4
          unfold conFd
          go_wp2
          exact ⟨⟨5, by omega, by simp, trivial⟩, by simp [intOf]⟩
        · have ix := fd_ix5
          unfold conFd
          go_wp2
          exact ⟨⟨6, by omega, by simp, trivial⟩, by simp [intOf]⟩
        · have ix := fd_ix6
          unfold conFd
          go_wp2
          exact ⟨⟨7, by omega, by simp, trivial⟩, by simp [intOf]⟩
        · have ix := fd_ix7
          unfold conFd
          go_wp2
          exact ⟨⟨8, by omega, by simp, trivial⟩, by simp [intOf]⟩
        · go_wp2
          refine ⟨⟨_, _, HRG1, hide (fun kl h => ?_), hide (unhide HFN).1, hide (unhide HFN).2, HSZ1⟩, ?_⟩
          · have := (Bool.and_eq_true _ _ ▸ h : left kl = true ∧ (!kl.sameKey (.int .i64 1)) = true)
            exact unhide HLF kl this.1
          · rw [(unhide HRG1).left_eq, unhide HRGO]; have := unhide HLT; omega
end Go.Proofs.YtkokiefclmbgaaaGreatDoor
