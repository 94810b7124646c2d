import Derived.Test.YtkokiefclmbgaaaGreatDoorBootsProofG32
import Derived.Test.YtkokiefclmbgaaaGreatDoorBootsProofG36
/- The program's tellFd, tellFds, at the console. -/
namespace Go.Proofs.YtkokiefclmbgaaaGreatDoor
open Go Go.RowKit
set_option linter.unusedVariables false
set_option linter.unusedSimpArgs false

def fdRow (n : Int) : List Value := [.int .i64 n, .int .i64 4, .int .i64 0]
theorem as_con_file (v : Value) (w : World) : (Instr.typeAssert (.iface 114 v) 180 277 true).run Tryz.prog w = .ok (.tuple #[.pointer none, .bool false]) w := by kernel_rfl
theorem as_con_read (v : Value) (w : World) : (Instr.typeAssert (.iface 114 v) 180 278 true).run Tryz.prog w = .ok (.tuple #[.pointer none, .bool false]) w := by kernel_rfl
theorem as_con_write (v : Value) (w : World) : (Instr.typeAssert (.iface 114 v) 180 279 true).run Tryz.prog w = .ok (.tuple #[.pointer none, .bool false]) w := by kernel_rfl
theorem as_con_con (v : Value) (w : World) : (Instr.typeAssert (.iface 114 v) 180 114 true).run Tryz.prog w = .ok (.tuple #[v, .bool true]) w := by kernel_rfl
set_option maxRecDepth 100000 in
set_option maxHeartbeats 1000000 in
theorem tellFd_con (n : Int) (cb : Nat) (w : World) : Calls Tryz.prog 112 #[.int .i64 n, conFd cb] w fun e w' => e = .returned (.agg (fdRow n).toArray) ∧ Below w.heap.size w w' := by
  unfold conFd
  have a1 := as_con_file
  have a2 := as_con_read
  have a3 := as_con_write
  have a4 := as_con_con
  go_enter Tryz.func112, Tryz.ntmps112
  go_wp2
  refine bodyPost_ret (v := .agg (fdRow n).toArray) (by simp [results, Tryz.results112, go_sem, fdRow]) rfl ⟨rfl, ?_⟩
  exact ((Below.refl w.heap.size w).alloc (Nat.le_refl _) _).alloc (by simp) _
def fdsUpTo (n : Nat) : List Value := (List.range n).flatMap (fun k : Nat => fdRow (k : Int))
theorem fdInfo : (Tryz.prog.info? 109).map (fun i => (i.zero, i.size, i.bytes)) = some (some (.agg #[.int .i64 0, .int .i64 0, .int .i64 0]), 3, 24) := by kernel_rfl
theorem fds_8 (cb : Nat) : kfdsTo cb 3 = [conFd cb, conFd cb, conFd cb, .nilIface, .nilIface, .nilIface, .nilIface, .nilIface] := rfl
theorem fdRow_one (n : Int) : ∀ u ∈ fdRow n, u.oneCell' = true := by
  intro u hu
  simp only [fdRow, List.mem_cons, List.not_mem_nil, or_false] at hu
  rcases hu with rfl | rfl | rfl <;> rfl
theorem fd_ix0 (x0 x1 x2 x3 x4 x5 x6 x7 : Value) (w : World) : (Instr.index 181 (.agg #[x0, x1, x2, x3, x4, x5, x6, x7]) (.int .i64 0)).run Tryz.prog w = .ok x0 w := by kernel_rfl
theorem fd_ix1 (x0 x1 x2 x3 x4 x5 x6 x7 : Value) (w : World) : (Instr.index 181 (.agg #[x0, x1, x2, x3, x4, x5, x6, x7]) (.int .i64 1)).run Tryz.prog w = .ok x1 w := by kernel_rfl
theorem fd_ix2 (x0 x1 x2 x3 x4 x5 x6 x7 : Value) (w : World) : (Instr.index 181 (.agg #[x0, x1, x2, x3, x4, x5, x6, x7]) (.int .i64 2)).run Tryz.prog w = .ok x2 w := by kernel_rfl
theorem fd_ix3 (x0 x1 x2 x3 x4 x5 x6 x7 : Value) (w : World) : (Instr.index 181 (.agg #[x0, x1, x2, x3, x4, x5, x6, x7]) (.int .i64 3)).run Tryz.prog w = .ok x3 w := by kernel_rfl
theorem fd_ix4 (x0 x1 x2 x3 x4 x5 x6 x7 : Value) (w : World) : (Instr.index 181 (.agg #[x0, x1, x2, x3, x4, x5, x6, x7]) (.int .i64 4)).run Tryz.prog w = .ok x4 w := by kernel_rfl
theorem fd_ix5 (x0 x1 x2 x3 x4 x5 x6 x7 : Value) (w : World) : (Instr.index 181 (.agg #[x0, x1, x2, x3, x4, x5, x6, x7]) (.int .i64 5)).run Tryz.prog w = .ok x5 w := by kernel_rfl
theorem fd_ix6 (x0 x1 x2 x3 x4 x5 x6 x7 : Value) (w : World) : (Instr.index 181 (.agg #[x0, x1, x2, x3, x4, x5, x6, x7]) (.int .i64 6)).run Tryz.prog w = .ok x6 w := by kernel_rfl
theorem fd_ix7 (x0 x1 x2 x3 x4 x5 x6 x7 : Value) (w : World) : (Instr.index 181 (.agg #[x0, x1, x2, x3, x4, x5, x6, x7]) (.int .i64 7)).run Tryz.prog w = .ok x7 w := by kernel_rfl
theorem fdsSize : (Tryz.prog.info? 181).map (·.size) = some 8 := by kernel_rfl
set_option maxRecDepth 100000 in
set_option maxHeartbeats 2000000 in
theorem tellFds_con (pb cb : Nat) (w : World) (hf : w.rangeAt pb 65814 (kfdsTo cb 3)) :
    Calls Tryz.prog 86 #[.pointer (some ⟨pb, 0, none⟩)] w fun e w' => ∃ v, e = .returned v ∧ w'.ownsRow w.heap.size 109 3 v 3 (fdsUpTo 3) ∧ Below w.heap.size w w' := by
  rw [fds_8] at hf
  have HF := hide hf
  obtain ⟨ip, hip, hpz0, hpz1, hpz2⟩ := info_parts fdInfo
  have HIP := hide (And.intro hip (And.intro hpz0 (And.intro hpz1 hpz2)))
  clear hf hip hpz0 hpz1 hpz2
  go_enter Tryz.func86, Tryz.ntmps86
  go_wp2_with (refine wpList_load_mid rfl 181 _ rfl pb 65814 (by rfl) _ _ (unhide HF) Tryz.underlying181 rfl (by rw [fdsSize]; rfl) ?_)
  go_loopw [3, 10] (fun v i wr => ∃ k : Nat, k ≤ 8 ∧ i = .int .i64 k ∧ Hid (wr.ownsRow w.heap.size 109 3 v (min k 3) (fdsUpTo (min k 3))) ∧ Hid (Below w.heap.size w wr)) (fun _ i _ => 8 - (intOf i).toNat)
  case atStart => exact ⟨0, by omega, rfl, hide (World.ownsRow_nil _ _ _ _), hide (Below.refl _ _)⟩
  case round =>
    obtain ⟨k, hk, rfl, HO, HB⟩ := hrel
    have hs0 := (unhide HB).size
    have HAPP := hide (show ∀ (m : Nat) (w1 : World), m < 3 → m = k → Below wr.heap.size wr w1 → w1.ownsRow w.heap.size 109 3 u3 m (fdsUpTo m) from fun m w1 hm hmk hb => by
      have h := own_below (unhide HO) (hide hb)
      rw [← hmk, show min m 3 = m by omega] at h
      exact h)
    have h9 : k = 0 ∨ k = 1 ∨ k = 2 ∨ k = 3 ∨ k = 4 ∨ k = 5 ∨ k = 6 ∨ k = 7 ∨ k = 8 := by omega
    rcases h9 with rfl | rfl | rfl | rfl | rfl | rfl | rfl | rfl | rfl
    · have HT := hide (tellFd_con 0 cb wr)
      have ix := fd_ix0
      unfold conFd at HT ⊢
      go_wp2_with fail
      refine (unhide HT).mono ?_
      rintro e w1 ⟨rfl, hb1⟩
      have hs1 := hb1.size
      have hb2 : Below wr.heap.size wr (w1.alloc (Obj.cells #[.int .i64 0, .int .i64 4, .int .i64 0] 109)) := hb1.trans ((Below.refl _ _).alloc hb1.size _)
      have HA := hide (unhide HAPP 0 _ (by omega) rfl hb2)
      have HB2 := hide ((unhide HB).trans (hb2.mono hs0))
      unfold fdRow
      clear hb1 hb2 HT
      go_wp2_with (at_builtin; refine wpList_append_lies _ (by rfl) _ _ 77 (by rfl) w.heap.size 109 ip _ 3 24 Tryz.underlying77 (unhide HIP).1 (unhide HIP).2.1 (unhide HIP).2.2.1 (unhide HIP).2.2.2 rfl (by decide) u3 0 (fdsUpTo 0) (by rfl) (unhide HA) ⟨w1.heap.size, 0, none⟩ 1 1 (fdRow 0) (by rfl) (by rfl) (news3 w1 _ _ _ _) (fdRow_one 0) (by omega) (by unfold maxLen; omega) (by omega) (by simp; omega) (w1.heap.size + 1) (by simp) ?_; intro g8 c8 w8 hown8 hgrow8 hat8 hlt8)
      refine ⟨⟨1, by omega, by simp, hide hown8, hide ((unhide HB2).trans ⟨hgrow8.os, hgrow8.tape, hgrow8.output, hgrow8.size, fun q hq => hgrow8.block q (by simp; omega) (fun e => ?_)⟩)⟩, by simp [intOf]⟩
      have := (unhide HA).lt q e.symm
      omega
    · have HT := hide (tellFd_con 1 cb wr)
      have ix := fd_ix1
      unfold conFd at HT ⊢
      go_wp2_with fail
      refine (unhide HT).mono ?_
      rintro e w1 ⟨rfl, hb1⟩
      have hs1 := hb1.size
      have hb2 : Below wr.heap.size wr (w1.alloc (Obj.cells #[.int .i64 1, .int .i64 4, .int .i64 0] 109)) := hb1.trans ((Below.refl _ _).alloc hb1.size _)
      have HA := hide (unhide HAPP 1 _ (by omega) rfl hb2)
      have HB2 := hide ((unhide HB).trans (hb2.mono hs0))
      unfold fdRow
      clear hb1 hb2 HT
      go_wp2_with (at_builtin; refine wpList_append_lies _ (by rfl) _ _ 77 (by rfl) w.heap.size 109 ip _ 3 24 Tryz.underlying77 (unhide HIP).1 (unhide HIP).2.1 (unhide HIP).2.2.1 (unhide HIP).2.2.2 rfl (by decide) u3 1 (fdsUpTo 1) (by rfl) (unhide HA) ⟨w1.heap.size, 0, none⟩ 1 1 (fdRow 1) (by rfl) (by rfl) (news3 w1 _ _ _ _) (fdRow_one 1) (by omega) (by unfold maxLen; omega) (by omega) (by simp; omega) (w1.heap.size + 1) (by simp) ?_; intro g8 c8 w8 hown8 hgrow8 hat8 hlt8)
      refine ⟨⟨2, by omega, by simp, hide hown8, hide ((unhide HB2).trans ⟨hgrow8.os, hgrow8.tape, hgrow8.output, hgrow8.size, fun q hq => hgrow8.block q (by simp; omega) (fun e => ?_)⟩)⟩, by simp [intOf]⟩
      have := (unhide HA).lt q e.symm
      omega
    · have HT := hide (tellFd_con 2 cb wr)
      have ix := fd_ix2
      unfold conFd at HT ⊢
      go_wp2_with fail
      refine (unhide HT).mono ?_
      rintro e w1 ⟨rfl, hb1⟩
      have hs1 := hb1.size
      have hb2 : Below wr.heap.size wr (w1.alloc (Obj.cells #[.int .i64 2, .int .i64 4, .int .i64 0] 109)) := hb1.trans ((Below.refl _ _).alloc hb1.size _)
      have HA := hide (unhide HAPP 2 _ (by omega) rfl hb2)
      have HB2 := hide ((unhide HB).trans (hb2.mono hs0))
      unfold fdRow
      clear hb1 hb2 HT
      go_wp2_with (at_builtin; refine wpList_append_lies _ (by rfl) _ _ 77 (by rfl) w.heap.size 109 ip _ 3 24 Tryz.underlying77 (unhide HIP).1 (unhide HIP).2.1 (unhide HIP).2.2.1 (unhide HIP).2.2.2 rfl (by decide) u3 2 (fdsUpTo 2) (by rfl) (unhide HA) ⟨w1.heap.size, 0, none⟩ 1 1 (fdRow 2) (by rfl) (by rfl) (news3 w1 _ _ _ _) (fdRow_one 2) (by omega) (by unfold maxLen; omega) (by omega) (by simp; omega) (w1.heap.size + 1) (by simp) ?_; intro g8 c8 w8 hown8 hgrow8 hat8 hlt8)
      refine ⟨⟨3, by omega, by simp, hide hown8, hide ((unhide HB2).trans ⟨hgrow8.os, hgrow8.tape, hgrow8.output, hgrow8.size, fun q hq => hgrow8.block q (by simp; omega) (fun e => ?_)⟩)⟩, by simp [intOf]⟩
      have := (unhide HA).lt q e.symm
      omega
    · have ix := fd_ix3
      go_wp2
      exact ⟨⟨4, by omega, by simp, HO, HB⟩, by simp [intOf]⟩
    · have ix := fd_ix4
      go_wp2
      exact ⟨⟨5, by omega, by simp, HO, HB⟩, by simp [intOf]⟩
    · have ix := fd_ix5
      go_wp2
      exact ⟨⟨6, by omega, by simp, HO, HB⟩, by simp [intOf]⟩
    · have ix := fd_ix6
      go_wp2
      exact ⟨⟨7, by omega, by simp, HO, HB⟩, by simp [intOf]⟩
    · have ix := fd_ix7
      go_wp2
      exact ⟨⟨8, by omega, by simp, HO, HB⟩, by simp [intOf]⟩
    · go_wp2
      go_ret
      exact ⟨_, rfl, unhide HO, unhide HB⟩
end Go.Proofs.YtkokiefclmbgaaaGreatDoor
