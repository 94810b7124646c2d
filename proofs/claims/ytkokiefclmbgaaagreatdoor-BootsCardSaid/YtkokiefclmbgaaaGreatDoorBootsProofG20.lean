import Derived.Test.YtkokiefclmbgaaaGreatDoorBootsProofG14
import Derived.Test.YtkokiefclmbgaaaGreatDoorBootsProofG09
import Derived.Deep.RegionHeld3
import Derived.Deep.AppendLies
/- tinyosref.Stack. -/
namespace Go.Proofs.YtkokiefclmbgaaaGreatDoor
open Go.RowKit
set_option linter.unusedVariables false
set_option linter.unusedSimpArgs false
theorem intInfo : (Tryz.prog.info? 3).map (fun i => (i.zero, i.size, i.bytes)) = some (some (.int .i64 0), 1, 8) := by kernel_rfl
theorem intsRow_get (L : List Int) (j : Nat) (h : j < L.length) : (intsRow L)[j]? = some (.int .i64 (L.getD j 0)) := by
  simp [intsRow, List.getD, List.getElem?_eq_getElem h]
theorem addrs_rev_step {ss : List ByteArray} {k : Nat} (h : k < ss.length) :
    intsRow (addrs (ss.drop (k + 1))).reverse ++ [.int .i64 ((65024 + (512 - total (ss.drop k)) : Nat) : Int)] = intsRow (addrs (ss.drop k)).reverse := by
  rw [drop_cons h, addrs, List.reverse_cons]
  simp [intsRow]

set_option maxRecDepth 100000 in
set_option maxHeartbeats 600000 in
theorem stack_ref (a : Option Addr) (b off cap : Nat) (ss : List ByteArray) (w : World) (hn : ss.length ≤ 1000) (ha : 0 < ss.length → a = some ⟨b, off, none⟩) (hbw : b < w.heap.size)
    (hcell : ∀ i, i < ss.length → w.cell? ⟨b, off + i, none⟩ = some (.string (ss.getD i ByteArray.empty))) (hok : okArgs ss = true) :
    Calls Tryz.prog 50 #[.slice a ss.length cap] w fun e w' => ∃ g gc, e = .returned (.tuple #[.slice (some ⟨g, 0, none⟩) 2 gc, .int .u64 (65024 + (spOff ss : Int)), .int .i64 0]) ∧ w'.ownsRow (w.heap.size + 1) 155 258 (.slice (some ⟨g, 0, none⟩) 2 gc) 2 (refPagesTo (stackRoom ss) 2) ∧ Below w.heap.size w w' := by
  obtain ⟨i0, hi0, hz0, hz1, hz2⟩ := info_parts intInfo
  have HC := hide hcell
  have HA := hide ha
  have HO := hide hok
  have hn8 := (ok_all hok).1
  have HI := hide (And.intro hi0 (And.intro hz0 (And.intro hz1 hz2)))
  clear hcell ha hok hi0 hz0 hz1 hz2
  go_enter Tryz.func50, Tryz.ntmps50
  go_wp2
  go_loop [5] (fun i => ∃ k : Nat, k ≤ ss.length ∧ i = .int .i64 k) (fun i => ss.length - (intOf i).toNat)
  case atStart => exact ⟨0, by omega, rfl⟩
  case round =>
    obtain ⟨k, hk, rfl⟩ := hrel
    by_cases hlt : k < ss.length
    · have hca := (unhide HC) k hlt
      have e := (unhide HA) (by omega)
      subst e
      have hso : okArg (ss.getD k ByteArray.empty) = true := (List.all_eq_true.1 (ok_all (unhide HO)).2) _ (by simp [List.getD, List.getElem?_eq_getElem hlt])
      have hl := size_le (unhide HO) hlt
      obtain ⟨s, hs'⟩ : ∃ s, s = ss.getD k ByteArray.empty := ⟨_, rfl⟩
      rw [← hs'] at hca hl hso
      have HSO := hide hso
      clear hs' hso
      go_wp2
      go_loop [6] (fun i => ∃ j : Nat, j ≤ s.size ∧ i = .int .i64 j) (fun i => s.size - (intOf i).toNat)
      case atStart => exact ⟨0, by omega, rfl⟩
      case round =>
        obtain ⟨j, hj, rfl⟩ := hrel
        by_cases hjl : j < s.size
        · have hb : ((s[j].toNat : Int) == 0) = false := by have := byte_ok (unhide HSO) hjl; simpa using this
          go_wp2
          go_round
          case rel => exact ⟨j + 1, by omega, by go_num⟩
          case measure => simp [intOf]; omega
        · go_wp2
          go_round
          case rel => exact ⟨k + 1, by omega, by go_num⟩
          case measure => simp [intOf]; omega
    · clear hk
      go_wp2_with (refine wpList_alloc_big rfl 218 rfl zeros512 alloc512 ?_)
      go_loopw [9, 10, 11] (fun at_ v i wr => ∃ k : Nat, k ≤ ss.length ∧ i = .int .i64 ((k : Int) - 1) ∧ at_ = .int .i64 ((65024 + (512 - total (ss.drop k)) : Nat) : Int) ∧ Holds wr w.heap.size 218 (bytesRow (room (ss.drop k))) ∧
          wr.ownsRow (w.heap.size + 1) 3 1 v (ss.length - k) (intsRow (addrs (ss.drop k)).reverse) ∧ Below w.heap.size w wr ∧ w.heap.size + 1 ≤ wr.heap.size)
        (fun _ _ i _ => (intOf i + 1).toNat)
      case atStart =>
        refine ⟨ss.length, Nat.le_refl _, rfl, ?_, ?_, ?_, ?_, ?_⟩
        · simp [total]
        · rw [List.drop_length, room]
          exact Holds.new _ _ _
        · rw [List.drop_length, Nat.sub_self]
          exact World.ownsRow_nil _ _ _ _
        · exact (Below.refl _ _).alloc (Nat.le_refl _) _
        · simp
      case round =>
        obtain ⟨k, hk, rfl, rfl, hroom, hown, hbel, hsz⟩ := hrel
        have HRo := hide hroom
        have HOw := hide hown
        have HBe := hide hbel
        clear hroom hown hbel
        rcases k with _ | k
        · have ht : total ss ≤ 248 := by have := total_drop_le (unhide HO) 0; simpa using this
          obtain ⟨D, hD⟩ : ∃ D, D = 65024 + (512 - total (ss.drop 0)) := ⟨_, rfl⟩
          rw [← hD]
          rw [List.drop_zero] at hD
          obtain ⟨V, hV⟩ : ∃ V, V = D - 8 * (ss.length + 2) := ⟨_, rfl⟩
          obtain ⟨X, hX⟩ : ∃ X, X = spOff ss := ⟨_, rfl⟩
          obtain ⟨Y, hY⟩ : ∃ Y, Y = 65024 + X := ⟨_, rfl⟩
          have hX2 : 65024 + X = V / 16 * 16 := by rw [hX, spOff, hV, hD]; omega
          have q1 : (D : Int) - 8 * ((ss.length : Int) + 2) = (V : Int) := by omega
          have q2 : (V : Int) / 16 * 16 = (Y : Int) := by omega
          have q3 : (Y : Int) - 65024 = (X : Int) := by omega
          have hXV : X + 8 * (ss.length + 2) ≤ 512 := by omega
          have hX0 : (0 : Int) ≤ (X : Int) := by omega
          have hV0 : (0 : Int) ≤ (V : Int) := by omega
          have hV5 : (V : Int) ≤ 65536 := by omega
          have hD0 : (0 : Int) ≤ (D : Int) := by omega
          have hD5 : (D : Int) ≤ 65536 := by omega
          have hY0 : (65024 : Int) ≤ (Y : Int) := by omega
          have hY5 : (Y : Int) ≤ 65536 := by omega
          have hXle : (X : Int) ≤ 512 := by omega
          have HX := hide hX
          have HY := hide hY
          have hrl : (room ss).length = 512 := room_length _ (by omega)
          have HRL := hide hrl
          clear hD hV hX hX2 hY hrl
          go_wp2_with fail
          refine (put_any w.heap.size 0 512 512 218 (room ss) X (ss.length : Int) wr (by simpa using unhide HRo) (by omega) (by rw [unhide HRL]; omega) (by rw [unhide HRL]; omega) (by omega)).mono ?_
          rintro e w3 ⟨rfl, hrm, hg3⟩
          have how3 := (unhide HOw).kept hg3 (by
            cases hv : Value.ownBlock u10 with
            | none => exact .inl rfl
            | some q => right; intro h; have := (unhide HOw).lt q hv; simp at h; omega)
          have hb3 := (unhide HBe).trans (below_grown hg3 (Nat.le_refl _) (by omega))
          have hs3 : w.heap.size + 1 ≤ w3.heap.size := by have := hg3.size; omega
          have A1 := hide hrm
          have A2 := hide how3
          have A3 := hide hb3
          clear hrm how3 hb3 hg3
          go_wp2_with fail
          go_loopw [13] (fun i wr => ∃ k : Nat, k ≤ ss.length ∧ i = .int .i64 k ∧ Holds wr w.heap.size 218 (bytesRow (splice (room ss) X (words8 ((heads ss).take (k + 1))))) ∧ wr.ownsRow (w.heap.size + 1) 3 1 u10 ss.length (intsRow (addrs ss).reverse) ∧ Below w.heap.size w wr ∧ w.heap.size + 1 ≤ wr.heap.size) (fun i _ => ss.length - (intOf i).toNat)
          case atStart => exact ⟨0, by omega, rfl, by have := unhide A1; simpa [heads, words8] using this, by have := unhide A2; simpa using this, unhide A3, hs3⟩
          case round =>
            obtain ⟨k, hk, rfl, hrm, how, hbl, hsr⟩ := hrel
            by_cases hlt : k < ss.length
            · obtain ⟨g, cg, hf⟩ := how.form (by omega)
              obtain ⟨hu10, hg1, hg2⟩ := hf
              subst hu10
              obtain ⟨A, hA⟩ : ∃ A, A = (addrs ss).getD k 0 := ⟨_, rfl⟩
              have hAb := addrs_bd ss k hlt
              have hca : wr.cell? ⟨g, ss.length - 1 - k, none⟩ = some (.int .i64 A) := by
                rw [how.cellAt _ (by omega), rev_get ss k hlt, hA]
              rw [← hA] at hAb
              obtain ⟨hA0, hA1⟩ := hAb
              obtain ⟨M, hM⟩ : ∃ M, M = ss.length - 1 - k := ⟨_, rfl⟩
              rw [← hM] at hca
              obtain ⟨Z1, hZ1⟩ : ∃ Z1, Z1 = X + 8 := ⟨_, rfl⟩
              obtain ⟨Z, hZ⟩ : ∃ Z, Z = X + 8 + 8 * k := ⟨_, rfl⟩
              have r2 : (ss.length : Int) - 1 - (k : Int) = (M : Int) := by omega
              have r3 : (X : Int) + 8 = (Z1 : Int) := by omega
              have r4 : (Z1 : Int) + 8 * (k : Int) = (Z : Int) := by omega
              have hM0 : (0 : Int) ≤ (M : Int) := by omega
              have hMn : (M : Int) < (ss.length : Int) := by omega
              have y1 := wrap_small (X : Int) hX0 (by omega)
              have y2 := wrap_small (Z1 : Int) (by omega) (by omega)
              have y3 := wrap_small (Z : Int) (by omega) (by omega)
              have y4 := wrap_small (8 * (k : Int)) (by omega) (by omega)
              have y5 := wrap_small ((ss.length : Int) - 1) (by omega) (by omega)
              have y6 := wrap_small (M : Int) (by omega) (by omega)
              have y7 : IntKind.u64.wrap A = A := by rw [IntKind.wrap_u64]; omega
              have HZ := hide hZ
              have HAA := hide hA
              have hZb : Z + 8 ≤ 512 := by omega
              have hgd1 : g < wr.drew.heap.size := hg2
              have hgd2 : g ≠ w.heap.size := by omega
              have B1 := hide hrm
              have B2 := hide how
              have B3 := hide hbl
              have hspl : (splice (room ss) X (words8 ((heads ss).take (k + 1)))).length = 512 := by
                rw [splice_length _ _ _ (by rw [words8_length, List.length_take, heads_length, unhide HRL]; omega), unhide HRL]
              have HSP := hide hspl
              clear hrm how hbl hM hZ1 hZ hA hspl
              go_wp2_with fail
              go_region_held3 (fun w' => w'.cell? ⟨g, M, none⟩ = some (.int .i64 A)) (first | go_keep | (rw [grown_cell hg4 hgd1 hgd2]; assumption))
                ((go_at_call 81; refine (put_any w.heap.size 0 512 512 218 (splice (room ss) X (words8 ((heads ss).take (k + 1)))) Z A wr.drew (by exact (unhide B1).heap rfl) hZb (by rw [unhide HSP]; omega) (by rw [unhide HSP]; omega) hA0).mono ?_; rintro e w4 ⟨rfl, hrm4, hg4⟩))
              have hg5 : wr.grownBy w4 (some w.heap.size) := ⟨hg4.os, hg4.tape, hg4.output, hg4.size, hg4.block⟩
              have t1 := hrm4
              rw [unhide HAA, unhide HZ, put_step ss X k hlt (unhide HRL) hXV] at t1
              have t2 := (unhide B2).kept hg5 (.inr (by show some g ≠ some w.heap.size; simp; omega))
              have t3 := (unhide B3).trans (below_grown hg5 (Nat.le_refl _) (by omega))
              have t4 : w.heap.size + 1 ≤ w4.heap.size := by have := hg5.size; omega
              have T1 := hide t1
              have T2 := hide t2
              have T3 := hide t3
              clear hrm4 hg4 hg5 t1 t2 t3 y1 y2 y3 y4 y5 y6 y7 r2 r3 r4
              go_wp2
              go_roundw
              case rel => first | exact ⟨k + 1, by omega, by go_num, unhide T1, unhide T2, unhide T3, t4⟩ | ((repeat apply Exists.intro); exact ⟨⟨k + 1, by omega, by go_num, unhide T1, unhide T2, unhide T3, t4⟩, rfl⟩)
              case measure => simp [intOf]; omega
            · have e : k = ss.length := by omega
              subst e
              rw [put_last ss X (unhide HO) (unhide HX)] at hrm
              have B1 := hide hrm
              have B3 := hide hbl
              clear hrm how hbl
              go_wp2_with fail
              have hRl := stackRoom_length (unhide HO)
              have HRl := hide hRl
              clear hRl
              obtain ⟨ip, hip, hpz0, hpz1, hpz2⟩ := info_parts pageInfo
              have HP := hide (And.intro hip (And.intro hpz0 (And.intro hpz1 hpz2)))
              clear hip hpz0 hpz1 hpz2
              go_loopw [14, 15] (fun v i wr => ∃ k : Nat, k ≤ 2 ∧ i = .int .i64 k ∧ wr.ownsRow (w.heap.size + 1) 155 258 v k (refPagesTo (stackRoom ss) k) ∧ Holds wr w.heap.size 218 (bytesRow (stackRoom ss)) ∧ Below w.heap.size w wr ∧ w.heap.size + 1 ≤ wr.heap.size) (fun _ i _ => 2 - (intOf i).toNat)
              case atStart => exact ⟨0, by omega, rfl, World.ownsRow_nil _ _ _ _, unhide B1, unhide B3, hsr⟩
              case round =>
                obtain ⟨k, hk, rfl, how, hrm, hbl, hsz5⟩ := hrel
                have C1 := hide how
                have C2 := hide hrm
                have C3 := hide hbl
                clear how hrm hbl
                have hk3 : k = 0 ∨ k = 1 ∨ k = 2 := by omega
                rcases hk3 with rfl | rfl | rfl
                · rw [show ((0 : Nat) : Int) = (0 : Int) from rfl]
                  have wz0 : IntKind.i64.wrap 0 = 0 := by decide
                  have wz1 : IntKind.i64.wrap 256 = 256 := by decide
                  go_wp2_with (first | (refine wpList_build_big rfl 155 _ rfl #[(0, .int .i64 254), (1, .int .i64 6)] rfl (.agg (refPage 254 6 zero256).toArray) (buildPage 254) ?_) | (refine wpList_alloc_big rfl 155 rfl (refPage 0 0 zero256).toArray allocPage ?_) | (refine wpList_store_hold rfl 155 _ _ rfl wr.heap.size (refPage 254 6 zero256) (by rfl) (by rfl) 155 (refPage 0 0 zero256) (Holds.new _ _ _) (by rw [pageSize, refPage_length, zero256_length]) (by rw [refPage_length, refPage_length]) (refPage_one _ _ _) ?_; intro w6 hp6 hg6))
                  have hg6' : wr.grownBy w6 none := ⟨hg6.os, hg6.tape, hg6.output, by have := hg6.size; simp at this; omega, fun q hq _ => by rw [hg6.block q (by simp; omega) (by simp; omega), Below.heap_alloc _ _ _ hq]⟩
                  have D2 := hide ((unhide C2).grown hg6' (by simp))
                  have D1 := hide ((unhide C1).kept hg6' (by
                    cases hv : Value.ownBlock u14 with
                    | none => exact .inl rfl
                    | some q => exact .inr (by simp)))
                  have D3 := hide ((unhide C3).grown hg6' (by omega) (by intro q h; cases h))
                  have hs6 : wr.heap.size < w6.heap.size := (unhide hp6).lt
                  clear hg6 hg6'
                  simp only [Act.put, List.setIfInBounds_toArray, List.set_cons_succ, List.set_cons_zero]
                  go_region_held3 (fun _ => True) (trivial)
                    ((refine step_copy_row (by rfl) _ _ 32 32 (by rfl) 5 Tryz.underlying32 u8size wr.heap.size 2 256 256 w.heap.size 0 512 512 (by rfl) (by rfl) (refPage 254 6 zero256) 155 (by exact (unhide hp6).heap rfl) (bytesRow ((stackRoom ss).take 256)) (by rw [bytesRow_length]; simp [unhide HRl]) (by exact src0 D2) (bytesRow_one _) (by rw [bytesRow_length, refPage_length, zero256_length]; simp [unhide HRl]) ?_; intro w7 hp7 hg7))
                  have hpp := unhide hp7
                  rw [refPage_splice _ _ _ (by rw [zero256_length]; simp [unhide HRl])] at hpp
                  have hg8 : w6.grownBy w7 (some wr.heap.size) := ⟨hg7.os, hg7.tape, hg7.output, hg7.size, hg7.block⟩
                  have E2 := hide ((unhide D2).grown hg8 (by simp; omega))
                  have E1 := hide ((unhide D1).kept hg8 (by
                    cases hv : Value.ownBlock u14 with
                    | none => exact .inl rfl
                    | some q => right; intro h; have := (unhide C1).lt q hv; simp at h; omega))
                  have E3 := hide ((unhide D3).trans (below_grown hg8 (by omega) (by omega)))
                  have hs7 : wr.heap.size < w7.heap.size := by have := hg8.size; omega
                  have hlen : (refPage 254 6 ((stackRoom ss).take 256)).length = 258 := by rw [refPage_length]; simp [unhide HRl]
                  have HLEN := hide hlen
                  obtain ⟨PP, hPP⟩ : ∃ PP, PP = refPage 254 6 ((stackRoom ss).take 256) := ⟨_, rfl⟩
                  rw [← hPP] at hpp
                  have HPP := hide hPP
                  have E0 := hide hpp
                  have hone : ∀ v ∈ PP, v.oneCell' = true := by rw [hPP]; exact refPage_one _ _ _
                  have HONE := hide hone
                  clear hpp hg7 hg8 hp7 hlen hPP hone
                  go_wp2_with (first | (refine wpList_load_mid rfl 155 _ rfl wr.heap.size 0 (by rfl) PP _ (unhide E0).range Tryz.underlying155 rfl (by rw [pageSize, unhide HPP, unhide HLEN]) ?_) | (refine wpList_slice1 rfl 80 155 _ rfl PP (by rfl) ip _ Tryz.underlying80 (unhide HP).1 (unhide HP).2.1 (by rw [(unhide HP).2.2.1, unhide HPP, unhide HLEN]) (by rw [unhide HPP, unhide HLEN]; omega) (by rw [unhide HPP, unhide HLEN]; omega) ?_) | (at_builtin; refine wpList_append_lies _ (by rfl) _ _ 80 (by rfl) (w.heap.size + 1) 155 ip _ 258 272 Tryz.underlying80 (unhide HP).1 (unhide HP).2.1 (unhide HP).2.2.1 (unhide HP).2.2.2 (by simp [Value.cells, refPage_length, zero256_length]) (by decide) u14 _ _ (by rfl) ((unhide E1).alloc _) ⟨w7.heap.size, 0, none⟩ 1 1 PP (by rfl) (by rw [unhide HPP, unhide HLEN]) (by have := World.news_of_block (cs := PP.toArray) (t := 155) (fr := (0, 0)) (heap_alloc_new w7 _); simpa using this) (unhide HONE) (by omega) (by unfold maxLen; omega) (by omega) (by simp; omega) (w7.heap.size + 1) (by simp) ?_; intro g cap5 w8 hown8 hgrow8 hat8 hlt8))
                  have f1 := hown8
                  rw [unhide HPP] at f1
                  have f2 := ((unhide E2).alloc (.cells PP.toArray 155)).grown hgrow8 (by intro h; have := (unhide E1).lt w.heap.size h.symm; omega)
                  have f3 := ((unhide E3).alloc (by omega) (.cells PP.toArray 155)).grown hgrow8 (by simp; omega) (by intro q h; have := (unhide E1).lt q h; omega)
                  have f4 : w.heap.size + 1 ≤ w8.heap.size := by have := hgrow8.size; simp at this; omega
                  go_roundw
                  case rel => exact ⟨1, by omega, rfl, f1, f2, f3, f4⟩
                  case measure => simp [intOf]
                · rw [show ((1 : Nat) : Int) = (1 : Int) from rfl]
                  have wz0 : IntKind.i64.wrap 0 = 0 := by decide
                  have wz1 : IntKind.i64.wrap 256 = 256 := by decide
                  go_wp2_with (first | (refine wpList_build_big rfl 155 _ rfl #[(0, .int .i64 255), (1, .int .i64 6)] rfl (.agg (refPage 255 6 zero256).toArray) (buildPage 255) ?_) | (refine wpList_alloc_big rfl 155 rfl (refPage 0 0 zero256).toArray allocPage ?_) | (refine wpList_store_hold rfl 155 _ _ rfl wr.heap.size (refPage 255 6 zero256) (by rfl) (by rfl) 155 (refPage 0 0 zero256) (Holds.new _ _ _) (by rw [pageSize, refPage_length, zero256_length]) (by rw [refPage_length, refPage_length]) (refPage_one _ _ _) ?_; intro w6 hp6 hg6))
                  have hg6' : wr.grownBy w6 none := ⟨hg6.os, hg6.tape, hg6.output, by have := hg6.size; simp at this; omega, fun q hq _ => by rw [hg6.block q (by simp; omega) (by simp; omega), Below.heap_alloc _ _ _ hq]⟩
                  have D2 := hide ((unhide C2).grown hg6' (by simp))
                  have D1 := hide ((unhide C1).kept hg6' (by
                    cases hv : Value.ownBlock u14 with
                    | none => exact .inl rfl
                    | some q => exact .inr (by simp)))
                  have D3 := hide ((unhide C3).grown hg6' (by omega) (by intro q h; cases h))
                  have hs6 : wr.heap.size < w6.heap.size := (unhide hp6).lt
                  clear hg6 hg6'
                  simp only [Act.put, List.setIfInBounds_toArray, List.set_cons_succ, List.set_cons_zero]
                  go_region_held3 (fun _ => True) (trivial)
                    ((refine step_copy_row (by rfl) _ _ 32 32 (by rfl) 5 Tryz.underlying32 u8size wr.heap.size 2 256 256 w.heap.size 256 256 256 (by rfl) (by rfl) (refPage 255 6 zero256) 155 (by exact (unhide hp6).heap rfl) (bytesRow ((stackRoom ss).drop 256)) (by rw [bytesRow_length]; simp [unhide HRl]) (by exact src1 D2) (bytesRow_one _) (by rw [bytesRow_length, refPage_length, zero256_length]; simp [unhide HRl]) ?_; intro w7 hp7 hg7))
                  have hpp := unhide hp7
                  rw [refPage_splice _ _ _ (by rw [zero256_length]; simp [unhide HRl])] at hpp
                  have hg8 : w6.grownBy w7 (some wr.heap.size) := ⟨hg7.os, hg7.tape, hg7.output, hg7.size, hg7.block⟩
                  have E2 := hide ((unhide D2).grown hg8 (by simp; omega))
                  have E1 := hide ((unhide D1).kept hg8 (by
                    cases hv : Value.ownBlock u14 with
                    | none => exact .inl rfl
                    | some q => right; intro h; have := (unhide C1).lt q hv; simp at h; omega))
                  have E3 := hide ((unhide D3).trans (below_grown hg8 (by omega) (by omega)))
                  have hs7 : wr.heap.size < w7.heap.size := by have := hg8.size; omega
                  have hlen : (refPage 255 6 ((stackRoom ss).drop 256)).length = 258 := by rw [refPage_length]; simp [unhide HRl]
                  have HLEN := hide hlen
                  obtain ⟨PP, hPP⟩ : ∃ PP, PP = refPage 255 6 ((stackRoom ss).drop 256) := ⟨_, rfl⟩
                  rw [← hPP] at hpp
                  have HPP := hide hPP
                  have E0 := hide hpp
                  have hone : ∀ v ∈ PP, v.oneCell' = true := by rw [hPP]; exact refPage_one _ _ _
                  have HONE := hide hone
                  clear hpp hg7 hg8 hp7 hlen hPP hone
                  go_wp2_with (first | (refine wpList_load_mid rfl 155 _ rfl wr.heap.size 0 (by rfl) PP _ (unhide E0).range Tryz.underlying155 rfl (by rw [pageSize, unhide HPP, unhide HLEN]) ?_) | (refine wpList_slice1 rfl 80 155 _ rfl PP (by rfl) ip _ Tryz.underlying80 (unhide HP).1 (unhide HP).2.1 (by rw [(unhide HP).2.2.1, unhide HPP, unhide HLEN]) (by rw [unhide HPP, unhide HLEN]; omega) (by rw [unhide HPP, unhide HLEN]; omega) ?_) | (at_builtin; refine wpList_append_lies _ (by rfl) _ _ 80 (by rfl) (w.heap.size + 1) 155 ip _ 258 272 Tryz.underlying80 (unhide HP).1 (unhide HP).2.1 (unhide HP).2.2.1 (unhide HP).2.2.2 (by simp [Value.cells, refPage_length, zero256_length]) (by decide) u14 _ _ (by rfl) ((unhide E1).alloc _) ⟨w7.heap.size, 0, none⟩ 1 1 PP (by rfl) (by rw [unhide HPP, unhide HLEN]) (by have := World.news_of_block (cs := PP.toArray) (t := 155) (fr := (0, 0)) (heap_alloc_new w7 _); simpa using this) (unhide HONE) (by omega) (by unfold maxLen; omega) (by omega) (by simp; omega) (w7.heap.size + 1) (by simp) ?_; intro g cap5 w8 hown8 hgrow8 hat8 hlt8))
                  have f1 := hown8
                  rw [unhide HPP] at f1
                  have f2 := ((unhide E2).alloc (.cells PP.toArray 155)).grown hgrow8 (by intro h; have := (unhide E1).lt w.heap.size h.symm; omega)
                  have f3 := ((unhide E3).alloc (by omega) (.cells PP.toArray 155)).grown hgrow8 (by simp; omega) (by intro q h; have := (unhide E1).lt q h; omega)
                  have f4 : w.heap.size + 1 ≤ w8.heap.size := by have := hgrow8.size; simp at this; omega
                  go_roundw
                  case rel => exact ⟨2, by omega, rfl, f1, f2, f3, f4⟩
                  case measure => simp [intOf]
                · rw [show ((2 : Nat) : Int) = (2 : Int) from rfl]
                  obtain ⟨g, gc, hu14, hgb, hgl⟩ := (unhide C1).form (by omega)
                  subst hu14
                  have hYX : (Y : Int) = 65024 + (spOff ss : Int) := by have := unhide HY; have h2 := unhide HX; omega
                  have HYX := hide hYX
                  clear hYX
                  go_wp2
                  go_ret3
                  exact ⟨g, gc, by rw [← unhide HYX]; rfl, unhide C1, unhide C3⟩
        · have ht : total (ss.drop (k + 1)) ≤ 248 := total_drop_le (unhide HO) (k + 1)
          have ht' : total (ss.drop k) ≤ 248 := total_drop_le (unhide HO) k
          have hts := total_step (ss := ss) (k := k) (by omega)
          have hsz30 := size_le (unhide HO) (k := k) (by omega)
          have e := (unhide HA) (by omega)
          subst e
          have hca : wr.cell? ⟨b, off + k, none⟩ = some (.string (ss.getD k ByteArray.empty)) := by
            rw [(unhide HBe).cell (p := ⟨b, off + k, none⟩) hbw]; exact (unhide HC) k (by omega)
          obtain ⟨s, hs⟩ : ∃ s, s = ss.getD k ByteArray.empty := ⟨_, rfl⟩
          rw [← hs] at hca hts hsz30
          have HS := hide hs
          obtain ⟨U, hU⟩ : ∃ U, U = 512 - total (ss.drop k) := ⟨_, rfl⟩
          obtain ⟨D, hD⟩ : ∃ D, D = 65024 + (512 - total (ss.drop (k + 1))) := ⟨_, rfl⟩
          obtain ⟨E, hE⟩ : ∃ E, E = 65024 + (512 - total (ss.drop k)) := ⟨_, rfl⟩
          rw [← hD]
          have eA : (D : Int) - (s.size : Int) - 1 = (E : Int) := by omega
          have eB : (E : Int) - 65024 = (U : Int) := by omega
          have HU := hide hU
          have HE := hide hE
          have hb1 : b < wr.drew.heap.size := by show b < wr.heap.size; omega
          have hb2 : b ≠ w.heap.size := by omega
          have hUn : U < 512 := by omega
          have hUne : ¬ 512 = U := by omega
          have hUs : U + s.size + 1 ≤ 512 := by omega
          have hUl : 264 ≤ U := by omega
          have hk8 : k < 8 := by omega
          have e1 : (((k + 1 : Nat) : Int) - 1) = (k : Int) := by omega
          rw [e1]
          have hkn : (k : Int) < (ss.length : Int) := by omega
          have hk0 : (0 : Int) ≤ (k : Int) := by omega
          have hU0 : (0 : Int) ≤ (U : Int) := by omega
          have hU5 : (U : Int) ≤ 512 := by omega
          have hUw := wrap_small (U : Int) hU0 (by omega)
          have hD0 : (65024 : Int) ≤ (D : Int) := by omega
          have hD5 : (D : Int) ≤ 65536 := by omega
          have hE0 : (65024 : Int) ≤ (E : Int) := by omega
          have hE5 : (E : Int) ≤ 65536 := by omega
          have hrl : (bytesRow (room (ss.drop (k + 1)))).length = 512 := by rw [bytesRow_length, room_length _ (by omega)]
          have HRL := hide hrl
          clear hs hts hD hU hE e1 ht ht' hrl
          go_wp2
          go_region_held3 (fun w' => w'.cell? ⟨b, off + k, none⟩ = some (.string s)) (first | go_keep | (rw [grown_cell hg2 hb1 hb2]; assumption))
            ((refine step_copy_str (by rfl) _ _ 32 9 (by rfl) 5 Tryz.underlying32 u8size w.heap.size U (512 - U) (512 - U) s (by rfl) (by rfl) (bytesRow (room (ss.drop (k + 1)))) 218 (by exact (unhide HRo).heap rfl) (by omega) (by rw [unhide HRL]; omega) ?_; intro w2 HR2 hg2))
          have hg3 : wr.grownBy w2 (some w.heap.size) := ⟨hg2.os, hg2.tape, hg2.output, hg2.size, hg2.block⟩
          have eR : splice (room (ss.drop (k + 1))) U (strInts s) = room (ss.drop k) := by rw [room_step (ss := ss) (k := k) (by omega), ← unhide HS, ← unhide HU]
          have R1 := unhide HR2
          rw [byteCells_ints, bytesRow_splice, eR] at R1
          have how2 := (unhide HOw).kept hg3 (by
            cases hv : Value.ownBlock u10 with
            | none => exact .inl rfl
            | some q => right; intro h; have := (unhide HOw).lt q hv; simp at h; omega)
          have hsz2 : w.heap.size + 1 ≤ w2.heap.size := by have := hg3.size; omega
          have hb5 := (unhide HBe).trans (below_grown hg3 (Nat.le_refl _) (by omega))
          have H1 := hide R1
          have H2 := hide how2
          have H3 := hide hb5
          clear hg2 hg3 eR R1 how2 hb5 HR2
          go_wp2_with (at_builtin; refine wpList_append_lies _ (by rfl) _ _ 219 (by rfl) (w.heap.size + 1) 3 i0 (.int .i64 0) 1 8 Tryz.underlying219 (unhide HI).1 (unhide HI).2.1 (unhide HI).2.2.1 (unhide HI).2.2.2 rfl (by decide) u10 _ _ (by rfl) ((unhide H2).alloc _) ⟨w2.heap.size, 0, none⟩ 1 1 [.int .i64 (E : Int)] (by rfl) (by rfl) (World.news_of_block (cs := #[.int .i64 (E : Int)]) (t := 3) (fr := (0, 0)) (heap_alloc_new w2 _)) (by simp [Value.oneCell']) (by omega) (by unfold maxLen; omega) (by omega) (by simp; omega) (w2.heap.size + 1) (by simp) ?_; intro g cap5 w5 hown5 hgrow5 hat5 hlt5)
          have q1 := ((unhide H1).alloc (.cells #[.int .i64 (E : Int)] 3)).grown hgrow5 (by intro h; have := (unhide H2).lt w.heap.size h.symm; omega)
          have q3 := ((unhide H3).alloc (by omega) (.cells #[.int .i64 (E : Int)] 3)).grown hgrow5 (by simp; omega) (by intro k h; have := (unhide H2).lt k h; omega)
          have q4 : w.heap.size + 1 ≤ w5.heap.size := by have := hgrow5.size; simp at this; omega
          rw [unhide HE, addrs_rev_step (by omega)] at hown5
          have q2 := hide hown5
          have Q1 := hide q1
          have Q3 := hide q3
          clear hown5 q1 q3 hgrow5 hat5 H1 H2 H3
          go_wp2
          go_roundw
          case rel => exact ⟨k, by omega, rfl, by rw [← unhide HE], unhide Q1, by rw [show ss.length - k = ss.length - (k + 1) + 1 from by omega]; exact unhide q2, unhide Q3, q4⟩
          case measure => simp [intOf]
end Go.Proofs.YtkokiefclmbgaaaGreatDoor
