/- found: from the stack pointer on. -/
import Derived.Test.YtkkpeboejgkmaaaDoorFoundPure
import Derived.Deep.AppendLies
import Derived.Deep.QuietTactic
import Derived.BigQuiet
namespace Go.Proofs.YtkkpeboejgkmaaaDoor
open Go.RowKit
set_option linter.unusedVariables false
set_option linter.unusedSimpArgs false
theorem u8Info : (Tryd.prog.info? 5).map (fun i => (i.zero, i.size, i.bytes)) = some (some (.int .u8 0), 1, 1) := by kernel_rfl
theorem addr_add (b o j : Nat) : (⟨b, o, none⟩ : Addr).add j = ⟨b, o + j, none⟩ := by unfold Addr.add; split <;> simp_all
theorem page0_cells {W : World} {g : Nat} {t : TypeId} {R : List Int} (hR : R.length = 512) (h : Holds W g t (pagesTo R 2)) : ∀ j u, (bytesRow (R.take 256))[j]? = some u → W.cell? ((⟨g, 2, none⟩ : Addr).add j) = some u := by
  intro j u hu
  rw [addr_add]
  refine h.cell ?_
  have hl : (bytesRow (R.take 256)).length = 256 := by rw [bytesRow_length]; simp [hR]
  have hj : j < 256 := by rw [← hl]; exact (List.getElem?_eq_some_iff.1 hu).1
  show (pageRow 254 6 (R.take 256) ++ pageRow 255 6 (R.drop 256))[2 + j]? = some u
  rw [List.getElem?_append_left (by rw [pageRow_length]; simp [hR]; omega), Nat.add_comm 2 j]
  exact hu
theorem page1_cells {W : World} {g : Nat} {t : TypeId} {R : List Int} (hR : R.length = 512) (h : Holds W g t (pagesTo R 2)) : ∀ j u, (bytesRow (R.drop 256))[j]? = some u → W.cell? ((⟨g, 260, none⟩ : Addr).add j) = some u := by
  intro j u hu
  rw [addr_add]
  refine h.cell ?_
  have hl : (pageRow 254 6 (R.take 256)).length = 258 := by rw [pageRow_length]; simp [hR]
  show (pageRow 254 6 (R.take 256) ++ pageRow 255 6 (R.drop 256))[260 + j]? = some u
  rw [List.getElem?_append_right (by omega), hl, show 260 + j - 258 = j + 2 from by omega]
  exact hu
theorem wrapu_small (n : Int) (h0 : 0 ≤ n) (h1 : n < 1000000) : IntKind.u64.wrap n = n := by rw [IntKind.wrap_u64]; omega

set_option maxRecDepth 100000 in
set_option maxHeartbeats 1000000 in
theorem found_any (a : Option Addr) (b off cap g cp : Nat) (ss : List ByteArray) (w : World) (hn : ss.length ≤ 1000) (ha : 0 < ss.length → a = some ⟨b, off, none⟩) (hbw : b < w.heap.size)
    (hcell : ∀ i, i < ss.length → w.cell? ⟨b, off + i, none⟩ = some (.string (ss.getD i ByteArray.empty))) (hok : okArgs ss = true)
    (hpg : Holds w g 80 (pagesTo (stackRoom ss) 2)) :
    Calls Tryd.prog 18 #[.slice (some ⟨g, 0, none⟩) 2 cp, .int .u64 (65024 + (spOff ss : Int)), .slice a ss.length cap] w fun e w' => e = .returned (.bool true) ∧ Below w.heap.size w w' := by
  obtain ⟨i0, hi0, hz0, hz1, hz2⟩ := info_parts u8Info
  have HI := hide (And.intro hi0 (And.intro hz0 (And.intro hz1 hz2)))
  have HC := hide hcell
  have HA := hide ha
  have HO := hide hok
  have HP := hide hpg
  have hR := stackRoom_length hok
  have HR := hide hR
  have hn8 := (ok_all hok).1
  have ht : total ss ≤ 248 := by have := total_drop_le hok 0; simpa using this
  obtain ⟨X, hX⟩ : ∃ X, X = spOff ss := ⟨_, rfl⟩
  obtain ⟨S, hS⟩ : ∃ S, S = 65024 + X := ⟨_, rfl⟩
  have hX16 : X % 16 = 0 := by rw [hX, spOff]; omega
  have hXV : X + 8 * (ss.length + 2) ≤ 512 := by rw [hX, spOff]; omega
  rw [← hX, show (65024 + (X : Int)) = (S : Int) from by omega]
  have q1 : (S : Int) % 16 = 0 := by omega
  have q2 : (S : Int) - 65024 = (X : Int) := by omega
  have hS0 : (65024 : Int) ≤ (S : Int) := by omega
  have hS1 : (S : Int) ≤ 65536 := by omega
  have y1 := wrapu_small (X : Int) (by omega) (by omega)
  have y2 := wrap_small (X : Int) (by omega) (by omega)
  have hX0 : (0 : Int) ≤ (X : Int) := by omega
  have HX := hide hX
  have l1 : (bytesRow ((stackRoom ss).take 256)).length = 256 := by rw [bytesRow_length]; simp [hR]
  have l2 : (bytesRow ((stackRoom ss).drop 256)).length = 256 := by rw [bytesRow_length]; simp [hR]
  have L1 := hide l1
  have L2 := hide l2
  clear hcell ha hok hpg hR hX hS hX16 l1 l2 hi0 hz0 hz1 hz2
  go_enter Tryd.func18, Tryd.ntmps18
  go_wp2_with (first | (at_builtin; refine wpList_append_lies _ (by rfl) (.tmp 28) (.tmp 32) 40 (by rfl) w.heap.size 5 i0 (.int .u8 0) 1 1 Tryd.underlying40 (unhide HI).1 (unhide HI).2.1 (unhide HI).2.2.1 (unhide HI).2.2.2 rfl (by decide) (.slice (some ⟨g1, 0, none⟩) 256 c1) 256 (bytesRow ((stackRoom ss).take 256)) (by rfl) (unhide hown1) ⟨g, 260, none⟩ 256 256 (bytesRow ((stackRoom ss).drop 256)) (by rfl) (by rw [unhide L2]) (page1_cells (unhide HR) ((unhide HP).grown hgrow1 (by simp [Value.ownBlock]))) (bytesRow_one _) (by omega) (by unfold maxLen; omega) (by omega) hgrow1.size w1.heap.size rfl ?_; intro g2 c2 w2 hown2 hgrow2 hat2 hlt2; replace hown2 := hide hown2) | (at_builtin; refine wpList_append_lies _ (by rfl) (.tmp 22) (.tmp 26) 40 (by rfl) w.heap.size 5 i0 (.int .u8 0) 1 1 Tryd.underlying40 (unhide HI).1 (unhide HI).2.1 (unhide HI).2.2.1 (unhide HI).2.2.2 rfl (by decide) (.slice none 0 0) 0 [] (by rfl) (World.ownsRow_nil _ _ _ _) ⟨g, 2, none⟩ 256 256 (bytesRow ((stackRoom ss).take 256)) (by rfl) (by rw [unhide L1]) (page0_cells (unhide HR) (unhide HP)) (bytesRow_one _) (by omega) (by unfold maxLen; omega) (by omega) (Nat.le_refl _) w.heap.size rfl ?_; intro g1 c1 w1 hown1 hgrow1 hat1 hlt1; simp only [Nat.zero_add, List.nil_append] at hown1; replace hown1 := hide hown1))
  have hcs : ∀ j x, (stackRoom ss)[j]? = some x → w2.cell? ⟨g2, j, none⟩ = some (.int .u8 x) := by
    intro j x hx
    have hj : j < 512 := by rw [← unhide HR]; exact (List.getElem?_eq_some_iff.1 hx).1
    rw [(unhide hown2).cellAt j (by omega)]
    have e : bytesRow (List.take 256 (stackRoom ss)) ++ bytesRow (List.drop 256 (stackRoom ss)) = bytesRow (stackRoom ss) := by
      unfold bytesRow; rw [← List.map_append, List.take_append_drop]
    rw [e]
    simp [bytesRow, hx]
  have hg1 : g1 = w.heap.size := hat1.resolve_left (by intro h; cases h)
  have hb1 : Below w.heap.size w w1 := (Below.refl _ _).grown hgrow1 (Nat.le_refl _) (by intro k h; cases h)
  have hb2 : Below w.heap.size w w2 := hb1.grown hgrow2 hgrow1.size (by intro k h; simp [Value.ownBlock] at h; omega)
  have hcw : ∀ i, i < ss.length → w2.cell? ⟨b, off + i, none⟩ = some (.string (ss.getD i ByteArray.empty)) := fun i hi => by
    rw [hb2.cell (p := ⟨b, off + i, none⟩) hbw]; exact (unhide HC) i hi
  have HCS := hide hcs
  have HB2 := hide hb2
  have HCW := hide hcw
  clear hcs hb1 hb2 hcw hg1 hgrow1 hgrow2 hat1 hat2 hown1 hown2
  refine (word_any g2 512 c2 X (ss.length : Int) w2 (by omega) (by omega) (by omega) (by omega) (fun k hk => (unhide HCS) _ _ (by have := stack_head (unhide HO) 0 k (by omega) hk; rw [heads_zero, ← unhide HX] at this; simpa using this))).mono ?_
  rintro e w3 ⟨rfl, hw3⟩
  subst hw3
  obtain ⟨Z1, hZ1⟩ : ∃ Z1, Z1 = X + 8 := ⟨_, rfl⟩
  obtain ⟨Z2, hZ2⟩ : ∃ Z2, Z2 = X + 8 + 8 * ss.length := ⟨_, rfl⟩
  have r1 : (X : Int) + 8 = (Z1 : Int) := by omega
  have r2 : (Z1 : Int) + 8 * (ss.length : Int) = (Z2 : Int) := by omega
  have hZ2b : Z2 + 8 ≤ 512 := by omega
  have HZ2 := hide hZ2
  have HZ1 := hide hZ1
  clear hZ1 hZ2
  go_wp2_with fail
  refine (word_any g2 512 c2 Z2 0 w3 (by omega) (by omega) (by omega) (by omega) (fun k hk => (unhide HCS) _ _ (by have := stack_head (unhide HO) (ss.length + 1) k (by omega) hk; rw [heads_last, ← unhide HX] at this; rw [unhide HZ2, show X + 8 + 8 * ss.length + k = X + 8 * (ss.length + 1) + k from by omega]; exact this))).mono ?_
  rintro e w4 ⟨rfl, hw4⟩
  subst hw4
  go_wp2_with fail
  go_loopw [11] (fun i wr => ∃ k : Nat, k ≤ ss.length ∧ i = .int .i64 k ∧ wr.heap = w4.heap ∧ Below w4.heap.size w4 wr) (fun i _ => ss.length - (intOf i).toNat)
  case atStart => exact ⟨0, by omega, rfl, rfl, Below.refl _ _⟩
  case round =>
    obtain ⟨i, hi, rfl, hh, hbl⟩ := hrel
    have HH := hide hh
    have HBL := hide hbl
    clear hh hbl
    by_cases hlt : i < ss.length
    · have e := (unhide HA) (by omega)
      subst e
      have hcells : ∀ a, wr.cell? a = w4.cell? a := fun a => by unfold World.cell?; rw [unhide HH]
      have hca : wr.cell? ⟨b, off + i, none⟩ = some (.string (ss.getD i ByteArray.empty)) := by rw [hcells]; exact (unhide HCW) i hlt
      have hs30 := size_le (unhide HO) hlt
      have hmd := total_drop_lt ss i hlt
      have htd : total (ss.drop i) ≤ 248 := total_drop_le (unhide HO) i
      obtain ⟨s, hs⟩ : ∃ s, s = ss.getD i ByteArray.empty := ⟨_, rfl⟩
      obtain ⟨U, hU⟩ : ∃ U, U = 512 - total (ss.drop i) := ⟨_, rfl⟩
      obtain ⟨A, hA⟩ : ∃ A, A = 65024 + U := ⟨_, rfl⟩
      obtain ⟨Z, hZ⟩ : ∃ Z, Z = X + 8 + 8 * i := ⟨_, rfl⟩
      have hbytes : ∀ k, (hk : k < s.size) → wr.cell? ⟨g2, U + k, none⟩ = some (.int .u8 (s[k].toNat : Int)) := fun k hk => by
        rw [hcells]; subst hs; rw [hU]; exact (unhide HCS) _ _ (stack_arg (unhide HO) i k hlt hk)
      have hend : wr.cell? ⟨g2, U + s.size, none⟩ = some (.int .u8 0) := by
        rw [hcells, hs, hU]; exact (unhide HCS) _ _ (stack_end (unhide HO) i hlt)
      rw [← hs] at hca hs30 hmd
      have r3 : (Z1 : Int) + 8 * (i : Int) = (Z : Int) := by have := unhide HZ1; omega
      have r4 : (A : Int) - 65024 = (U : Int) := by omega
      have hZb : Z + 8 ≤ 512 := by omega
      have hUs : U + s.size < 512 := by omega
      have hA0 : (65024 : Int) ≤ (A : Int) := by omega
      have hA1 : (A : Int) ≤ 65536 := by omega
      have y3 := wrapu_small (U : Int) (by omega) (by omega)
      have y4 := wrap_small (U : Int) (by omega) (by omega)
      have HWD := hide (word_any g2 512 c2 Z (A : Int) wr (by omega) (by omega) (by omega) (by omega) (fun k hk => by
        rw [hcells]
        refine (unhide HCS) _ _ ?_
        have := stack_head (unhide HO) (i + 1) k (by omega) hk
        rw [heads_mid ss i hlt, ← unhide HX, ← hU, ← hA] at this
        rw [hZ, show X + 8 + 8 * i + k = X + 8 * (i + 1) + k from by omega]; exact this))
      have HBY := hide hbytes
      have HEN := hide hend
      clear hs hU hA hZ hcells hbytes hend hmd htd
      go_wp2_with fail
      refine (unhide HWD).mono ?_
      rintro e w5 ⟨rfl, hw5⟩
      subst hw5
      go_wp2_with fail
      go_loopw [13] (fun j wq => ∃ k : Nat, k ≤ s.size ∧ j = .int .i64 k ∧ wq.heap = w5.heap ∧ Below w5.heap.size w5 wq) (fun j _ => s.size - (intOf j).toNat)
      case atStart => exact ⟨0, by omega, rfl, rfl, Below.refl _ _⟩
      case round =>
        obtain ⟨k, hk, rfl, hh2, hbl2⟩ := hrel
        have hcells : ∀ a, wr.cell? a = w5.cell? a := fun a => by unfold World.cell?; rw [hh2]
        have hca2 : wr.cell? ⟨b, off + i, none⟩ = some (.string s) := by rw [hcells]; exact hca
        have HH2 := hide hh2
        have HBL2 := hide hbl2
        have hi0 : (0 : Int) ≤ (i : Int) := by omega
        have hin : (i : Int) < (ss.length : Int) := by omega
        clear hh2 hbl2
        by_cases hks : k < s.size
        · have hby : wr.cell? ⟨g2, U + k, none⟩ = some (.int .u8 (s[k].toNat : Int)) := by rw [hcells]; exact (unhide HBY) k hks
          have hk0 : (0 : Int) ≤ (k : Int) := by omega
          have hkn : (k : Int) < (s.size : Int) := by omega
          have y5 := wrap_small ((U : Int) + (k : Int)) (by omega) (by omega)
          have hUk : (U : Int) + (k : Int) < 512 := by omega
          clear hcells hca
          go_wp2
          go_quiet (fail)
          go_wp2
          go_roundw
          case rel => exact ⟨k + 1, by omega, by go_num, unhide HH2, ⟨(unhide HBL2).os, (unhide HBL2).tape, (unhide HBL2).output, (unhide HBL2).size, (unhide HBL2).block⟩⟩
          case measure => simp [intOf]; omega
        · have hen : wr.cell? ⟨g2, U + s.size, none⟩ = some (.int .u8 0) := by rw [hcells]; exact unhide HEN
          have hUk : (U : Int) + (s.size : Int) < 512 := by omega
          clear hcells hca
          go_wp2
          go_roundw
          case rel => exact ⟨i + 1, by omega, by go_num, (unhide HH2).trans (unhide HH), (unhide HBL).trans ((unhide HBL2).mono (unhide HBL).size)⟩
          case measure => simp [intOf]; omega
    · go_wp2
      go_ret
      exact ⟨rfl, (unhide HB2).trans ((unhide HBL).mono (unhide HB2).size)⟩
end Go.Proofs.YtkkpeboejgkmaaaDoor
