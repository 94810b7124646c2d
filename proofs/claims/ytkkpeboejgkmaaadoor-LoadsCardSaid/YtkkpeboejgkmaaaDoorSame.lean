/- samePages: of pages that are the same. -/
import Derived.Test.YtkkpeboejgkmaaaDoorMem
import Derived.Test.YtkkpeboejgkmaaaDoorAs
import Derived.Test.YtkkpeboejgkmaaaDoorArrEq
import Derived.Deep.QuietTactic
import Derived.BigQuiet
import Derived.Deep.MidRow
namespace Go.Proofs.YtkkpeboejgkmaaaDoor
open Go.RowKit
set_option linter.unusedVariables false
set_option linter.unusedSimpArgs false
/-- A whole array loaded, in a region that only reads. -/
theorem wpQuiet_load {P : Program} {ops : Array Oper} {C : World → Prop} {Q : Act → Prop} {a : Act} {o : Oper} {rest : List Oper} (hw : Region.wanted o (yielded ops a.tmps) = true) (ty : TypeId) (x : Operand) (ho : o.op = .load ty x)
    (b off : Nat) (hx : a.eval x = .pointer (some ⟨b, off, none⟩)) (cs : List Value) (d : TypeDesc) (hc : ∀ w, C w → w.rangeAt b off cs) (hu : P.underlying ty = some d) (hd : d.isRow = true) (hi : (P.info? ty).map (·.size) = some cs.length)
    (h : wpQuiet P ops C Q rest (a.put o.dst (.agg cs.toArray))) : wpQuiet P ops C Q (o :: rest) a := by
  unfold wpQuiet
  rw [if_pos hw]
  refine ⟨.agg cs.toArray, fun w hC => ?_, h⟩
  unfold Oper.quietAt execOp
  simp only [ho, hx, Instr.loadAt, Instr.sureAddr, Sem.run_bind, Sem.run_pure, Result.andThen_ok, run_loadVar_mid w b off ty cs d (hc w hC) hu hd hi]
  exact ⟨rfl, rfl⟩
theorem range_drewN {w : World} {b o : Nat} {cs : List Value} (h : w.rangeAt b o cs) : ∀ w', (∃ n, w' = w.drewN n) → w'.rangeAt b o cs := by
  rintro w' ⟨n, rfl⟩ j v hv
  rw [World.cell?_drewN]
  exact h j v hv
theorem wrap_perm (n : Int) (h0 : 0 ≤ n) (h1 : n ≤ 255) : IntKind.i64.wrap n = n := by
  simp [IntKind.wrap, IntKind.bits, IntKind.signed]; split <;> omega
theorem arr256Size : (Tryd.prog.info? 74).map (·.size) = some 256 := by kernel_rfl
theorem eq256 (L : List Int) (h : L.length = 256) (w : World) : (Op.equalIn 10000 74 (.agg (bytesRow L).toArray) (.agg (bytesRow L).toArray)).run Tryd.prog w = .ok true w := by
  have := run_equalIn_ints (P := Tryd.prog) w 9998 74 5 256 .u8 Tryd.underlying74 Tryd.underlying5 (fun _ => by kernel_rfl) L L h h
  simpa [bytesRow] using this
/-- A page: its number, what may be done, its bytes. -/
structure Pg where
  num : Int
  perm : Int
  bytes : List Int
/-- The pages at block g, as package api has them. -/
def ApiAt (w : World) (g : Nat) (PS : List Pg) : Prop := ∀ i p, PS[i]? = some p → w.cell? ⟨g, i * 258, none⟩ = some (.int .i64 p.num) ∧ w.cell? ⟨g, i * 258 + 1, none⟩ = some (.int .u8 p.perm) ∧ w.rangeAt g (i * 258 + 2) (bytesRow p.bytes)
/-- The pages at block g, as the document's answer has them. -/
def RefAt (w : World) (g : Nat) (PS : List Pg) : Prop := ∀ i p, PS[i]? = some p → w.cell? ⟨g, i * 258, none⟩ = some (.int .i64 p.num) ∧ w.cell? ⟨g, i * 258 + 1, none⟩ = some (.int .i64 p.perm) ∧ w.rangeAt g (i * 258 + 2) (bytesRow p.bytes)

set_option maxRecDepth 100000 in
set_option maxHeartbeats 1000000 in
theorem samePages_any (aa ab : Option Addr) (ga gb ca cb : Nat) (PS : List Pg) (w : World) (ha : 0 < PS.length → aa = some ⟨ga, 0, none⟩) (hb : 0 < PS.length → ab = some ⟨gb, 0, none⟩)
    (hA : ApiAt w ga PS) (hB : RefAt w gb PS) (hp : ∀ p ∈ PS, 0 ≤ p.perm ∧ p.perm ≤ 255 ∧ p.bytes.length = 256) (hn : PS.length ≤ 100000) :
    Calls Tryd.prog 15 #[.slice aa PS.length ca, .slice ab PS.length cb] w fun e w' => e = .returned (.bool true) ∧ w'.heap = w.heap ∧ Below w.heap.size w w' := by
  have HA := hide hA
  have HB := hide hB
  have HP := hide hp
  have HA1 := hide ha
  have HB1 := hide hb
  clear hA hB hp ha hb
  go_enter Tryd.func15, Tryd.ntmps15
  go_wp2
  go_loopw [5] (fun i wr => ∃ k : Nat, k ≤ PS.length ∧ i = .int .i64 k ∧ wr.heap = w.heap ∧ Below w.heap.size w wr) (fun i _ => PS.length - (intOf i).toNat)
  case atStart => exact ⟨0, by omega, rfl, rfl, Below.refl _ _⟩
  case round =>
    obtain ⟨k, hk, rfl, hh, hbl⟩ := hrel
    have HH := hide hh
    have HBL := hide hbl
    clear hh hbl
    by_cases hlt : k < PS.length
    · have e1 := (unhide HA1) (by omega)
      have e2 := (unhide HB1) (by omega)
      subst e1 e2
      obtain ⟨p, hpk⟩ : ∃ p, PS[k]? = some p := ⟨_, List.getElem?_eq_getElem hlt⟩
      have hcells : ∀ a, wr.cell? a = w.cell? a := fun a => by unfold World.cell?; rw [unhide HH]
      have hpb := (unhide HP) p (List.mem_of_getElem? hpk)
      obtain ⟨a1, a2, a3⟩ := (unhide HA) k p hpk
      obtain ⟨b1, b2, b3⟩ := (unhide HB) k p hpk
      obtain ⟨num, perm, bytes⟩ := p
      simp only at a1 a2 a3 b1 b2 b3 hpb
      rw [← hcells] at a1 a2 b1 b2
      have a3' : wr.rangeAt ga (k * 258 + 2) (bytesRow bytes) := fun j v hv => by rw [hcells]; exact a3 j v hv
      have b3' : wr.rangeAt gb (k * 258 + 2) (bytesRow bytes) := fun j v hv => by rw [hcells]; exact b3 j v hv
      obtain ⟨p0, p1, p2⟩ := hpb
      have hq := eq256 bytes p2
      have hu := Tryd.underlying74
      obtain ⟨cs, hcs⟩ : ∃ cs, cs = bytesRow bytes := ⟨_, rfl⟩
      have hl : cs.length = 256 := by rw [hcs, bytesRow_length, p2]
      have hi : (Tryd.prog.info? 74).map (·.size) = some cs.length := by rw [arr256Size, hl]
      have h1 : ∀ v ∈ cs, v.oneCell' = true := by rw [hcs]; intro v hv; obtain ⟨x, _, rfl⟩ := List.mem_map.1 hv; rfl
      obtain ⟨ds, hds⟩ : ∃ ds, ds = bytesRow bytes := ⟨_, rfl⟩
      have hld : ds.length = 256 := by rw [hds, bytesRow_length, p2]
      have hid : (Tryd.prog.info? 74).map (·.size) = some ds.length := by rw [arr256Size, hld]
      have h2 : ∀ v ∈ ds, v.oneCell' = true := by rw [hds, ← hcs]; exact h1
      have hq : ∀ w, (Op.equalIn 10000 74 (.agg cs.toArray) (.agg ds.toArray)).run Tryd.prog w = .ok true w := by rw [hcs, hds]; exact hq
      rw [← hcs] at a3'
      rw [← hds] at b3'
      have hwp := wrap_perm perm p0 p1
      have hk0 : (0 : Int) ≤ (k : Int) := by omega
      have hk1 : (k : Int) < (PS.length : Int) := by omega
      clear hcs hds a3 b3 hcells hpk p2
      go_wp2_with fail
      have HRA := hide a3'
      have HRB := hide b3'
      clear a3' b3'
      refine wp_region_quiet_lit (by kernel_rfl) (by kernel_rfl) ?_
      repeat (first | (refine wpQuiet_load (by rfl) 74 _ rfl ga (k * 258 + 2) (by rfl) cs _ (range_drewN (unhide HRA)) hu rfl hi ?_; simp only [Act.put, List.setIfInBounds_toArray, List.set_cons_succ, List.set_cons_zero]) | (refine wpQuiet_load (by rfl) 74 _ rfl gb (k * 258 + 2) (by rfl) ds _ (range_drewN (unhide HRB)) hu rfl hid ?_; simp only [Act.put, List.setIfInBounds_toArray, List.set_cons_succ, List.set_cons_zero]) | go_big_quiet_step (fail))
      refine wpQuiet_nil ?_
      intro _ hw'
      obtain ⟨nq, hw''⟩ := hw'
      subst hw''
      go_wp2
      go_roundw
      case rel => exact ⟨k + 1, by omega, by go_num, unhide HH, ⟨(unhide HBL).os, (unhide HBL).tape, (unhide HBL).output, (unhide HBL).size, (unhide HBL).block⟩⟩
      case measure => simp [intOf]; omega
    · go_wp2
      go_ret
      exact ⟨rfl, unhide HH, unhide HBL⟩
end Go.Proofs.YtkkpeboejgkmaaaDoor
