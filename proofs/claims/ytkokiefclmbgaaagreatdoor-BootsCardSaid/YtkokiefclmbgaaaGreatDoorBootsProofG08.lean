import Derived.Test.YtkokiefclmbgaaaGreatDoorBootsProofG07
import Derived.RegionTactic
import Derived.ChangeAlike
import Derived.BigRegion
/- tinyosref: Used. -/
namespace Go.Proofs.YtkokiefclmbgaaaGreatDoor
open Go.RowKit
set_option linter.unusedVariables false
set_option linter.unusedSimpArgs false

def limRow (a b c d e : Int) : List Value := [.int .i64 a, .int .i64 b, .int .i64 c, .int .i64 d, .int .i64 e]
/-- The processes' row: of each one how many pages it has. -/
def PagesAt (w : World) (v : Value) (PL : List Nat) : Prop := ∃ a c, v = .slice a PL.length c ∧ ∀ (i n : Nat), PL[i]? = some n → ∃ gp b d, a = some ⟨gp, 0, none⟩ ∧ gp < w.heap.size ∧ w.cell? ⟨gp, i * 31 + 22, none⟩ = some (.slice b n d)
/-- How long the inodes' bytes are. -/
def LensOf (xs : List Ino) (BL : List Nat) : Prop := BL.length = xs.length ∧ ∀ (i : Nat) (x : Ino) (n : Nat), xs[i]? = some x → BL[i]? = some n → ∃ a c, x.bytes = .slice a n c
theorem sum_take_succ {l : List Nat} {j n : Nat} (h : l[j]? = some n) : (l.take (j + 1)).sum = (l.take j).sum + n := by
  rw [List.take_add_one, h]; simp
theorem sum_take_le (l : List Nat) (j : Nat) : (l.take j).sum ≤ l.sum := by
  have h := List.take_append_drop j l
  have h2 : l.sum = (l.take j).sum + (l.drop j).sum := by
    conv => lhs; rw [← h]
    rw [List.sum_append]
  omega

set_option maxRecDepth 100000 in
set_option maxHeartbeats 4000000 in
theorem refUsed_any (base kb g cap : Nat) (k : RK) (PL BL : List Nat) (oa : Option Addr) (on oc : Nat) (w : World) (h : RepK w base kb g cap k) (hP : PagesAt w k.pv PL) (hO : k.ov = .slice oa on oc) (hB : LensOf k.inos BL)
    (hn : k.inos.length ≤ 100000) (hp : PL.length ≤ 100000) (hps : PL.sum ≤ 10000000) (hbs : BL.sum ≤ 10000000) :
    Calls Tryz.prog 24 #[.pointer (some ⟨kb, 0, none⟩)] w fun e w' => e = .returned (.agg (limRow PL.length PL.sum on k.inos.length BL.sum).toArray) ∧ Below w.heap.size w w' := by
  have hkl := h.1.lt
  have hgb := h.2.lt g rfl
  obtain ⟨pa, pc, hpv, hpp⟩ := hP
  have c5 : w.cell? ⟨kb, 5, none⟩ = some (.slice pa PL.length pc) := by rw [← hpv]; exact h.1.cell rfl
  have c6 : w.cell? ⟨kb, 6, none⟩ = some (.slice oa on oc) := by rw [← hO]; exact h.1.cell rfl
  have c7 : w.cell? ⟨kb, 7, none⟩ = some (.slice (some ⟨g, 0, none⟩) k.inos.length cap) := h.1.cell rfl
  have H := hide h
  have HP := hide hpp
  have HBL := hide hB
  clear h hpp hB
  have Z1 := hide (show Holds ((w.alloc (.cells (limRow 0 0 0 0 0).toArray 59)).alloc (.cells (limRow PL.length 0 on k.inos.length 0).toArray 59)) (w.heap.size + 1) 59 (limRow PL.length 0 on k.inos.length 0) from by
    have h := Holds.new (w.alloc (.cells (limRow 0 0 0 0 0).toArray 59)) 59 (limRow PL.length 0 on k.inos.length 0)
    rwa [show (w.alloc (.cells (limRow 0 0 0 0 0).toArray 59)).heap.size = w.heap.size + 1 from by simp] at h)
  have Z2 := hide ((Holds.new w 59 (limRow 0 0 0 0 0)).alloc (.cells (limRow PL.length 0 on k.inos.length 0).toArray 59))
  have Z3 := hide (((Below.refl w.heap.size w).alloc (Nat.le_refl _) (.cells (limRow 0 0 0 0 0).toArray 59)).alloc (by simp) (.cells (limRow PL.length 0 on k.inos.length 0).toArray 59))
  go_enter Tryz.func24, Tryz.ntmps24
  go_wp2
  go_region
  go_wp2
  go_loopw [4] (fun i wr => ∃ j : Nat, j ≤ PL.length ∧ i = .int .i64 j ∧ Hid (Holds wr (w.heap.size + 1) 59 (limRow PL.length (PL.take j).sum on k.inos.length 0)) ∧ Hid (Holds wr w.heap.size 59 (limRow 0 0 0 0 0)) ∧ Hid (Below w.heap.size w wr)) (fun i _ => PL.length - (intOf i).toNat)
  case atStart =>
    exact ⟨0, by omega, rfl, hide ((unhide Z1).heap rfl), hide ((unhide Z2).heap rfl), hide ⟨(unhide Z3).os, (unhide Z3).tape, (unhide Z3).output, (unhide Z3).size, (unhide Z3).block⟩⟩
  case round =>
    obtain ⟨j, hj, rfl, HU, HR, HB⟩ := hrel
    have hcell : ∀ b o, b < w.heap.size → wr.cell? ⟨b, o, none⟩ = w.cell? ⟨b, o, none⟩ := fun b o hb => (unhide HB).cell (p := ⟨b, o, none⟩) hb
    have d5 : wr.cell? ⟨kb, 5, none⟩ = some (.slice pa PL.length pc) := by rw [hcell _ _ hkl]; exact c5
    by_cases hlt : j < PL.length
    · obtain ⟨n, hnj⟩ : ∃ n, PL[j]? = some n := ⟨_, List.getElem?_eq_getElem hlt⟩
      obtain ⟨gp, b, d, hpa, hgp, hc⟩ := unhide HP j n hnj
      subst hpa
      have d22 : wr.cell? ⟨gp, j * 31 + 22, none⟩ = some (.slice b n d) := by rw [hcell _ _ hgp]; exact hc
      have u1 : wr.cell? ⟨w.heap.size + 1, 1, none⟩ = some (.int .i64 ((PL.take j).sum : Nat)) := (unhide HU).cell rfl
      have uf := (unhide HU).frozen 1
      have hsum := sum_take_succ hnj
      have hle := sum_take_le PL (j + 1)
      obtain ⟨A, hA⟩ : ∃ A, A = (PL.take j).sum := ⟨_, rfl⟩
      rw [← hA] at u1 hsum
      have HS := hide hsum
      have hA1 : (A : Int) + (n : Int) ≤ 10000000 := by omega
      have hj0 : (0 : Int) ≤ (j : Int) := by omega
      have hj1 : (j : Int) < (PL.length : Int) := by omega
      have hgw : gp ≠ w.heap.size + 1 := by omega
      have hkw : kb ≠ w.heap.size + 1 := by omega
      have N1 := hide (show Holds (wr.setCell ⟨w.heap.size + 1, 1, none⟩ (.int .i64 ((A : Int) + (n : Int)))) (w.heap.size + 1) 59 (limRow PL.length ((PL.take (j + 1)).sum : Nat) on k.inos.length 0) from by
        have h := (unhide HU).set 1 (.int .i64 ((A : Int) + (n : Int)))
        rw [hsum, Int.natCast_add]; exact h)
      have N2 := hide ((unhide HR).set_other (c := w.heap.size + 1) (by omega) 1 (.int .i64 ((A : Int) + (n : Int))))
      have N3 := hide ((unhide HB).setCell (p := ⟨w.heap.size + 1, 1, none⟩) (Nat.le_succ _) (.int .i64 ((A : Int) + (n : Int))))
      clear hcell hnj hc hsum hle hA c5 c6 c7
      go_wp2
      go_region
      go_wp2
      go_roundw
      case rel => exact ⟨j + 1, by omega, by go_num, hide ((unhide N1).heap rfl), hide ((unhide N2).heap rfl), hide ⟨(unhide N3).os, (unhide N3).tape, (unhide N3).output, (unhide N3).size, (unhide N3).block⟩⟩
      case measure => simp [intOf]; omega
    · have hje : j = PL.length := by omega
      subst hje
      rw [List.take_length] at HU
      go_wp2
      go_loopw [5] (fun i wr => ∃ j : Nat, j ≤ k.inos.length ∧ i = .int .i64 j ∧ Hid (Holds wr (w.heap.size + 1) 59 (limRow PL.length PL.sum on k.inos.length (BL.take j).sum)) ∧ Hid (Holds wr w.heap.size 59 (limRow 0 0 0 0 0)) ∧ Hid (Below w.heap.size w wr)) (fun i _ => k.inos.length - (intOf i).toNat)
      case atStart => exact ⟨0, by omega, rfl, HU, HR, HB⟩
      case round =>
        obtain ⟨j, hj, rfl, HU, HR, HB⟩ := hrel
        have hcell : ∀ b o, b < w.heap.size → wr.cell? ⟨b, o, none⟩ = w.cell? ⟨b, o, none⟩ := fun b o hb => (unhide HB).cell (p := ⟨b, o, none⟩) hb
        have d7 : wr.cell? ⟨kb, 7, none⟩ = some (.slice (some ⟨g, 0, none⟩) k.inos.length cap) := by rw [hcell _ _ hkl]; exact c7
        clear d5
        by_cases hlt : j < k.inos.length
        · obtain ⟨x, hx⟩ : ∃ x, k.inos[j]? = some x := ⟨_, List.getElem?_eq_getElem hlt⟩
          obtain ⟨n, hnj⟩ : ∃ n, BL[j]? = some n := ⟨_, List.getElem?_eq_getElem (by rw [(unhide HBL).1]; exact hlt)⟩
          obtain ⟨b, d, hb⟩ := (unhide HBL).2 j x n hx hnj
          have d4 : wr.cell? ⟨g, j * 5 + 4, none⟩ = some (.slice b n d) := by
            rw [hcell _ _ hgb.2, (unhide H).at.cell hx (i := 4) (by omega) rfl, hb]
          have u1 : wr.cell? ⟨w.heap.size + 1, 4, none⟩ = some (.int .i64 ((BL.take j).sum : Nat)) := (unhide HU).cell rfl
          have uf := (unhide HU).frozen 4
          have hsum := sum_take_succ hnj
          have hle := sum_take_le BL (j + 1)
          obtain ⟨A, hA⟩ : ∃ A, A = (BL.take j).sum := ⟨_, rfl⟩
          rw [← hA] at u1 hsum
          have HS := hide hsum
          have hA1 : (A : Int) + (n : Int) ≤ 10000000 := by omega
          have hj0 : (0 : Int) ≤ (j : Int) := by omega
          have hj1 : (j : Int) < (k.inos.length : Int) := by omega
          have hgw : g ≠ w.heap.size + 1 := by omega
          have hkw : kb ≠ w.heap.size + 1 := by omega
          have N1 := hide (show Holds (wr.setCell ⟨w.heap.size + 1, 4, none⟩ (.int .i64 ((A : Int) + (n : Int)))) (w.heap.size + 1) 59 (limRow PL.length PL.sum on k.inos.length ((BL.take (j + 1)).sum : Nat)) from by
            have h := (unhide HU).set 4 (.int .i64 ((A : Int) + (n : Int)))
            rw [hsum, Int.natCast_add]; exact h)
          have N2 := hide ((unhide HR).set_other (c := w.heap.size + 1) (by omega) 4 (.int .i64 ((A : Int) + (n : Int))))
          have N3 := hide ((unhide HB).setCell (p := ⟨w.heap.size + 1, 4, none⟩) (Nat.le_succ _) (.int .i64 ((A : Int) + (n : Int))))
          clear hcell hnj hx hb hsum hle hA c5 c6 c7
          go_wp2
          go_region
          go_wp2
          go_roundw
          case rel => exact ⟨j + 1, by omega, by go_num, hide ((unhide N1).heap rfl), hide ((unhide N2).heap rfl), hide ⟨(unhide N3).os, (unhide N3).tape, (unhide N3).output, (unhide N3).size, (unhide N3).block⟩⟩
          case measure => simp [intOf]; omega
        · have hje : j = k.inos.length := by omega
          have htk : BL.take j = BL := List.take_of_length_le (by rw [(unhide HBL).1]; omega)
          rw [htk] at HU
          have l0 := (unhide HU).cell (j := 0) rfl
          have l1 := (unhide HU).cell (j := 1) rfl
          have l2 := (unhide HU).cell (j := 2) rfl
          have l3 := (unhide HU).cell (j := 3) rfl
          have l4 := (unhide HU).cell (j := 4) rfl
          have r0 := (unhide HR).cell (j := 0) rfl
          have r1 := (unhide HR).cell (j := 1) rfl
          have r2 := (unhide HR).cell (j := 2) rfl
          have r3 := (unhide HR).cell (j := 3) rfl
          have r4 := (unhide HR).cell (j := 4) rfl
          have f0 := (unhide HR).frozen 0
          have f1 := (unhide HR).frozen 1
          have f2 := (unhide HR).frozen 2
          have f3 := (unhide HR).frozen 3
          have f4 := (unhide HR).frozen 4
          have u5 := (((((unhide HR).set 0 (.int .i64 PL.length)).set 1 (.int .i64 (PL.sum : Nat))).set 2 (.int .i64 on)).set 3 (.int .i64 k.inos.length)).set 4 (.int .i64 (BL.sum : Nat))
          have v0 := u5.cell (j := 0) rfl
          have v1 := u5.cell (j := 1) rfl
          have v2 := u5.cell (j := 2) rfl
          have v3 := u5.cell (j := 3) rfl
          have v4 := u5.cell (j := 4) rfl
          have N3 := hide ((((((unhide HB).setCell (p := ⟨w.heap.size, 0, none⟩) (Nat.le_refl _) (.int .i64 PL.length)).setCell (p := ⟨w.heap.size, 1, none⟩) (Nat.le_refl _) (.int .i64 (PL.sum : Nat))).setCell (p := ⟨w.heap.size, 2, none⟩) (Nat.le_refl _) (.int .i64 on)).setCell (p := ⟨w.heap.size, 3, none⟩) (Nat.le_refl _) (.int .i64 k.inos.length)).setCell (p := ⟨w.heap.size, 4, none⟩) (Nat.le_refl _) (.int .i64 (BL.sum : Nat)))
          clear hcell u5 htk hje
          go_wp2
          exact bodyPost_ret (v := .agg (limRow PL.length PL.sum on k.inos.length BL.sum).toArray) (by simp [results, Tryz.results24, go_sem, v0, v1, v2, v3, v4, limRow]) rfl ⟨rfl, unhide N3⟩
end Go.Proofs.YtkokiefclmbgaaaGreatDoor
