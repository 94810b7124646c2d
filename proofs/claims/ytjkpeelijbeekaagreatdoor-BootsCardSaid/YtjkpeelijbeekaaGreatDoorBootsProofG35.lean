import Derived.Test.YtjkpeelijbeekaaGreatDoorBootsProofG31
/- The program's Pages of an address space. -/
namespace Go.Proofs.YtjkpeelijbeekaaGreatDoor
open Go Go.RowKit
set_option linter.unusedVariables false
set_option linter.unusedSimpArgs false

theorem makeApi0 (w : World) (n : Nat) (h : n ≤ 100000) : ∃ cur : Array Value, cur.size = n * 258 ∧ (Instr.makeSlice 76 (.int .i64 0) (.int .i64 n)).run Tryz.prog w = .ok (.slice (some ⟨w.heap.size, 0, none⟩) 0 n) (w.alloc (.cells cur 87)) := by
  obtain ⟨i, hi, hzz⟩ := Option.map_eq_some_iff.1 apiInfo
  simp only [Prod.mk.injEq] at hzz
  obtain ⟨hz, hs, hb⟩ := hzz
  have hr := run_make (P := Tryz.prog) w 76 87 i _ Tryz.underlying76 hi hz .i64 .i64 0 n (by omega) (by omega) (by rw [hb]; omega) (by omega)
  rw [hs, Int.toNat_natCast] at hr
  exact ⟨_, by simp [madeCells], hr⟩
theorem api_fields (w : World) : ((#[{ name := "Number", type := 3, offset := 0, embedded := false, tag := "", pkgPath := "", byteOffset := 0 }, { name := "Perm", type := 84, offset := 1, embedded := false, tag := "", pkgPath := "", byteOffset := 8 }, { name := "Bytes", type := 85, offset := 2, embedded := false, tag := "", pkgPath := "", byteOffset := 9 }] : Array Field).mapM fun f => (do pure (f.offset, ← sizeOf f.type) : Sem (Nat × Nat))).run Tryz.prog w = .ok #[(0, 1), (1, 1), (2, 256)] w := by kernel_rfl
theorem api_built (num perm : Int) (bytes : List Int) (hb : bytes.length = 256) (w : World) : (Instr.build 87 #[(0, .int .i64 num), (1, .int .u8 perm), (2, .agg (bytesRow bytes).toArray)]).run Tryz.prog w = .ok (.agg (pageRow num perm bytes).toArray) w := by
  have hzv := Tryz.zeroValue87 w
  have hl : Tryz.zeroCells87.toList.length = 258 := by rw [Array.length_toList]; exact Tryz.zeroCells87_size
  generalize Tryz.zeroCells87 = ZA at hzv hl
  obtain ⟨Z⟩ := ZA
  have hl : Z.length = 258 := hl
  have hff : Instr.fill (fun i => (#[(0, 1), (1, 1), (2, 256)] : Array (Nat × Nat))[i]?) (Value.agg Z.toArray).cells [(0, Value.int .i64 num), (1, Value.int .u8 perm), (2, Value.agg (bytesRow bytes).toArray)] = some (pageRow num perm bytes).toArray := by
    show Instr.fill _ Z.toArray _ = _
    rw [fill_part _ _ 0 0 1 _ _ rfl rfl (by rw [hl]; omega), fill_part _ _ 1 1 1 _ _ rfl rfl (by rw [splice_length _ _ _ (by simp [Value.cells, hl])]; omega), fill_part _ _ 2 2 256 _ _ rfl (by simp [Value.cells, bytesRow_length, hb]) (by rw [splice_length _ _ _ (by rw [splice_length _ _ _ (by simp [Value.cells, hl])]; simp [Value.cells, hl]), splice_length _ _ _ (by simp [Value.cells, hl])]; omega)]
    refine congrArg some (congrArg List.toArray ?_)
    match Z, hl with
    | z0 :: z1 :: r, hl =>
      have hr : r.length = 256 := by simpa using hl
      unfold splice pageRow
      simp [Value.cells, bytesRow_length, hb, hr]
  unfold Instr.build
  simp only [Sem.run_bind, hzv, Result.andThen_ok, run_underlying Tryz.underlying87, api_fields, hff]
  rfl
theorem space_page {w : World} {pb so : Nat} {PS : List Pg} (hok : PgsOk PS) (h : w.rangeAt pb so (spaceRow PS)) {j : Nat} (hj : j < 256) : w.cell? ⟨pb, so + j * 257, none⟩ = some (.int .u8 (permAt PS j)) ∧ ∀ p, PS.find? (fun p => p.num == (j : Int)) = some p → w.rangeAt pb (so + j * 257 + 1) (bytesRow p.bytes) := by
  have hb : ∀ p ∈ PS, p.bytes.length = 256 := fun p hp => (hok.each p hp).2.2.2.2
  refine ⟨h _ _ (by have := space_get hb j 0 hj (by omega); rw [Nat.add_zero] at this; rw [this]; exact spacePage_perm PS j), fun p hp i v hv => ?_⟩
  have hi := (List.getElem?_eq_some_iff.1 hv).1
  rw [bytesRow_length, hb p (List.mem_of_find?_eq_some hp)] at hi
  rw [Nat.add_assoc so, Nat.add_assoc so, Nat.add_assoc (j * 257)]
  refine h _ _ ?_
  rw [space_get hb j (1 + i) hj (by omega)]
  unfold spacePage pageCells
  rw [hp, Nat.add_comm 1 i]
  exact hv
theorem pgsTo_each {PS : List Pg} (h : PgsOk PS) (n : Nat) : ∀ p ∈ pgsTo PS n, p.bytes.length = 256 := by
  intro p hp
  rw [pgsTo_take h] at hp
  exact (h.each p (List.mem_filter.1 hp).1).2.2.2.2

set_option maxRecDepth 100000 in
set_option maxHeartbeats 2000000 in
theorem spacePages_any (pb so : Nat) (PS : List Pg) (w : World) (hok : PgsOk PS) (hc : w.rangeAt pb so (spaceRow PS)) (hpl : pb < w.heap.size) :
    Calls Tryz.prog 85 #[.pointer (some ⟨pb, so, none⟩)] w fun e w' => ∃ v, e = .returned v ∧ w'.ownsRow w.heap.size 87 258 v PS.length (apiRow PS) ∧ Below w.heap.size w w' := by
  have HCT := hide (count_any pb so PS w hok (fun j hj => (space_page hok hc hj).1))
  have hPl : PS.length ≤ 256 := by have := pgsTo_len PS 256; rwa [pgsTo_all hok] at this
  have hPi : (PS.length : Int) ≤ 256 := by omega
  obtain ⟨cur, hcur, hmk⟩ := makeApi0 w PS.length (by omega)
  obtain ⟨W1, hW1⟩ : ∃ W1, W1 = w.alloc (.cells cur 87) := ⟨_, rfl⟩
  have hb1 : Below w.heap.size w W1 := by rw [hW1]; exact (Below.refl _ _).alloc (Nat.le_refl _) _
  have ho1 : W1.ownsRow w.heap.size 87 258 (.slice (some ⟨w.heap.size, 0, none⟩) 0 PS.length) (pgsTo PS 0).length (apiRow (pgsTo PS 0)) := by rw [hW1]; exact World.ownsRow_made w cur PS.length (Nat.le_refl _) (by unfold maxLen; omega) hcur
  have HOK := hide hok
  have HC := hide hc
  have HB1 := hide hb1
  have HO1 := hide ho1
  have HW1 := hide hW1
  obtain ⟨ip, hip, hpz0, hpz1, hpz2⟩ := info_parts apiInfo
  have HIP := hide (And.intro hip (And.intro hpz0 (And.intro hpz1 hpz2)))
  clear hok hc hb1 ho1 hW1 hcur hip hpz0 hpz1 hpz2 hPl
  go_enter Tryz.func85, Tryz.ntmps85
  go_wp2_with fail
  refine (unhide HCT).mono ?_
  rintro e w0 ⟨rfl, hw0⟩
  subst hw0
  clear HCT
  go_upto_region 2 with fail
  rw [← unhide HW1]
  clear hmk hPi
  go_wp2
  go_loopw [3, 9] (fun v i wr => ∃ k : Nat, k ≤ 256 ∧ i = .int .i64 k ∧ Hid (wr.ownsRow w0.heap.size 87 258 v (pgsTo PS k).length (apiRow (pgsTo PS k))) ∧ Hid (Below w0.heap.size w0 wr)) (fun _ i _ => 256 - (intOf i).toNat)
  case atStart => exact ⟨0, by omega, rfl, HO1, HB1⟩
  case round =>
    obtain ⟨k, hk, rfl, HO, HB⟩ := hrel
    by_cases hlt : k < 256
    · have hk0 : (0 : Int) ≤ (k : Int) := by omega
      have hk1 : (k : Int) < 256 := by omega
      have hcr : wr.rangeAt pb so (spaceRow PS) := fun j v hv => by rw [(unhide HB).cell (p := ⟨pb, so + j, none⟩) hpl]; exact unhide HC j v hv
      obtain ⟨hperm, hbytes⟩ := space_page (unhide HOK) hcr hlt
      have hs := pgsTo_succ PS k
      obtain ⟨pm, hpm⟩ : ∃ pm, pm = permAt PS k := ⟨_, rfl⟩
      rw [← hpm] at hperm
      rcases permAt_found (unhide HOK) k with ⟨h1, h2⟩ | ⟨h1, p, hpp, h2, h3⟩
      · have HE := hide (show pgsTo PS (k + 1) = pgsTo PS k by rw [hs, h2]; simp)
        have k0 : pm = 0 := by omega
        subst k0
        clear hs hpm h1 h2 hcr hbytes
        go_wp2
        refine ⟨⟨k + 1, by omega, by simp, ?_, HB⟩, by simp only [intOf]; omega⟩
        rw [unhide HE]
        exact HO
      · have hpe := (unhide HOK).each p hpp
        have hnum : p.num = (k : Int) := by have := List.find?_some h2; simpa using this
        have HE := hide (show pgsTo PS (k + 1) = pgsTo PS k ++ [p] by rw [hs, h2]; simp)
        have hpb := hbytes p h2
        have hbl := hpe.2.2.2.2
        have k0 : (pm == 0) = false := by simp; omega
        have hpe3 : pm = p.perm := by omega
        have HNP := hide (And.intro hnum (And.intro hpe3 hbl))
        obtain ⟨n, hn⟩ : ∃ n, n = (pgsTo PS k).length := ⟨_, rfl⟩
        obtain ⟨xs, hxs⟩ : ∃ xs, xs = apiRow (pgsTo PS k) := ⟨_, rfl⟩
        obtain ⟨bs, hbs⟩ : ∃ bs, bs = bytesRow p.bytes := ⟨_, rfl⟩
        have hnl : n ≤ 256 := by rw [hn]; have := pgsTo_len PS k; omega
        rw [← hn, ← hxs] at HO
        rw [← hbs] at hpb
        have hbsl : bs.length = 256 := by rw [hbs, bytesRow_length, hbl]
        have RB := hide (show ∀ w', (Instr.build 87 #[(0, .int .i64 (k : Int)), (1, .int .u8 pm), (2, .agg bs.toArray)]).run Tryz.prog w' = .ok (.agg (pageRow (k : Int) pm p.bytes).toArray) w' from fun w' => by rw [hbs]; exact api_built _ _ _ hbl w')
        obtain ⟨PR, hPR⟩ : ∃ PR, PR = pageRow (k : Int) pm p.bytes := ⟨_, rfl⟩
        rw [← hPR] at RB
        have hPRl : PR.length = 258 := by rw [hPR, pageRow_length', hbl]
        have hPR1 : ∀ v ∈ PR, v.oneCell' = true := by rw [hPR]; exact pageRow_one _ _ _
        have HPR := hide (And.intro hPR (And.intro hPRl hPR1))
        have HEQ := hide (And.intro hn hxs)
        have HPB := hide (show wr.cell? ⟨pb, so + k * 257, none⟩ = some (.int .u8 pm) ∧ wr.rangeAt pb (so + k * 257 + 1) bs from ⟨hperm, hpb⟩)
        have hblw : pb < wr.heap.size := by have := (unhide HB).size; omega
        have R5 := hide (show ∀ w' : World, (w'.cell? ⟨pb, so + k * 257, none⟩ = some (.int .u8 pm) ∧ w'.rangeAt pb (so + k * 257 + 1) bs) → (Instr.loadAt 84 (.pointer (some ⟨pb, so + k * 257, none⟩))).run Tryz.prog w' = .ok (.int .u8 pm) w' from fun w' h' => by
          have d := h'.1
          clear h' hperm hpb
          go_simp)
        clear hs hpm h1 h2 h3 hcr hbytes hpe hnum hpb hbl hpe3 hpp hn hxs hbs hPR hPRl hPR1
        go_upto_region 7 with fail
        clear hperm k0
        refine act_gen ?_
        intro A hA
        have e3 : A.eval (.tmp 3) = u3 := by rw [hA]; rfl
        have e4 : A.eval (.tmp 4) = .int .i64 (k : Int) := by rw [hA]; rfl
        have e5 : A.eval (.tmp 5) = .pointer (some ⟨pb, so + k * 257, none⟩) := by rw [hA]; rfl
        have esz : A.tmps.size = 37 := by rw [hA]; rfl
        have HA := hide hA
        clear hA
        refine wp_region_held_drew (S := fun w' => w'.cell? ⟨pb, so + k * 257, none⟩ = some (.int .u8 pm) ∧ w'.rangeAt pb (so + k * 257 + 1) bs) (by kernel_rfl) (unhide HPB) (fun hS => ?_)
        refine takeH (i := 0) (some 22) rfl rfl (by kernel_rfl) (by kernel_rfl) (by kernel_rfl) (fun _ _ _ h => h) (yields_move rfl _ rfl u3 (by simp [put_eval, put_size, esz, e3, e4, e5])) hS ?_
        refine takeH (i := 1) (some 23) rfl rfl (by kernel_rfl) (by kernel_rfl) (by kernel_rfl) (fun _ _ _ h => h) (yields_move rfl _ rfl (.int .i64 (k : Int)) (by simp [put_eval, put_size, esz, e3, e4, e5])) hS ?_
        refine takeH (i := 2) (some 24) rfl rfl (by kernel_rfl) (by kernel_rfl) (by kernel_rfl) (fun _ _ _ h => h) (yields_move rfl _ rfl (.pointer (some ⟨pb, so + k * 257, none⟩)) (by simp [put_eval, put_size, esz, e3, e4, e5])) hS ?_
        refine takeH (i := 3) (some 25) rfl rfl (by kernel_rfl) (by kernel_rfl) (by kernel_rfl) (fun _ _ _ h => h) (yields_nil rfl _ rfl ⟨pb, so + k * 257, none⟩ (by simp [put_eval, put_size, esz, e3, e4, e5])) hS ?_
        refine takeH (i := 4) (some 26) rfl rfl (by kernel_rfl) (by kernel_rfl) (by kernel_rfl) (fun _ _ _ h => h) (yields_field rfl _ _ _ rfl (.pointer (some ⟨pb, so + k * 257, none⟩)) (by simp [put_eval, put_size, esz, e3, e4, e5]) (.pointer (some ⟨pb, so + k * 257, none⟩)) (fun w' => by go_simp)) hS ?_
        refine takeH (i := 5) (some 27) rfl rfl (by kernel_rfl) (by kernel_rfl) (by kernel_rfl) (fun _ _ _ h => h) (yields_load1 rfl _ _ rfl ⟨pb, so + k * 257, none⟩ (by simp [put_eval, put_size, esz, e3, e4, e5]) (.int .u8 pm) (unhide R5)) hS ?_
        refine takeH (i := 6) (some 28) rfl rfl (by kernel_rfl) (by kernel_rfl) (by kernel_rfl) (fun _ _ _ h => h) (yields_move rfl _ rfl (.pointer (some ⟨pb, so + k * 257, none⟩)) (by simp [put_eval, put_size, esz, e3, e4, e5])) hS ?_
        refine takeH (i := 7) (some 29) rfl rfl (by kernel_rfl) (by kernel_rfl) (by kernel_rfl) (fun _ _ _ h => h) (yields_nil rfl _ rfl ⟨pb, so + k * 257, none⟩ (by simp [put_eval, put_size, esz, e3, e4, e5])) hS ?_
        refine takeH (i := 8) (some 30) rfl rfl (by kernel_rfl) (by kernel_rfl) (by kernel_rfl) (fun _ _ _ h => h) (yields_field rfl _ _ _ rfl (.pointer (some ⟨pb, so + k * 257, none⟩)) (by simp [put_eval, put_size, esz, e3, e4, e5]) (.pointer (some ⟨pb, so + k * 257 + 1, none⟩)) (fun w' => by go_simp)) hS ?_
        refine takeH (i := 9) (some 31) rfl rfl (by kernel_rfl) (by kernel_rfl) (by kernel_rfl) (fun _ _ _ h => h) (yieldsIf_load_mid (by simp [Region.wanted]) 85 _ rfl pb (so + k * 257 + 1) (by simp [put_eval, put_size, esz, e3, e4, e5]) bs _ (fun w h => h.2) Tryz.underlying85 rfl (by rw [b256Size, hbsl])) hS ?_
        refine takeH (i := 10) (some 32) rfl rfl (by kernel_rfl) (by kernel_rfl) (by kernel_rfl) (fun _ _ _ h => h) (yields_build rfl _ _ rfl #[(0, .int .i64 (k : Int)), (1, .int .u8 pm), (2, .agg bs.toArray)] (by simp [put_eval, put_size, esz]) (.agg PR.toArray) (unhide RB)) hS ?_
        refine wpAnyH_ready (rs := [11]) (by kernel_rfl) (by simp) (AllReadyH.cons rfl (fun K hK => ?_) AllReadyH.nil)
        refine step_slice1 rfl _ 87 _ rfl PR (by simp [put_eval, put_size, esz]) ip _ Tryz.underlying76 (unhide HIP).1 (unhide HIP).2.1 (by rw [(unhide HIP).2.2.1, (unhide HPR).2.1]) (by rw [(unhide HPR).2.1]; decide) (by rw [(unhide HPR).2.1]; decide) wr.heap.size rfl (some 33) rfl ?_
        have hb2 : Below wr.heap.size wr (wr.drew.alloc (.cells PR.toArray 87)) := by
          have h := (Below.refl wr.drew.heap.size wr.drew).alloc (Nat.le_refl _) (.cells PR.toArray 87)
          exact ⟨h.os, h.tape, h.output, h.size, h.block⟩
        have hh2 : Holds (wr.drew.alloc (.cells PR.toArray 87)) wr.heap.size 87 PR := Holds.new wr.drew 87 PR
        have ho2 := own_below (unhide HO) (hide hb2)
        obtain ⟨W2, hW2⟩ : ∃ W2, W2 = wr.drew.alloc (.cells PR.toArray 87) := ⟨_, rfl⟩
        rw [← hW2] at hb2 hh2 ho2 ⊢
        have hS2 : W2.cell? ⟨pb, so + k * 257, none⟩ = some (.int .u8 pm) ∧ W2.rangeAt pb (so + k * 257 + 1) bs := ⟨by rw [hb2.cell (p := ⟨pb, so + k * 257, none⟩) hblw]; exact (unhide HPB).1, fun j v hv => by rw [hb2.cell (p := ⟨pb, so + k * 257 + 1 + j, none⟩) hblw]; exact (unhide HPB).2 j v hv⟩
        refine hK.out _ _ hS2 (fun hS3 => ?_)
        clear hK K
        refine wpAnyH_ready (rs := [12]) (by kernel_rfl) (by simp) (AllReadyH.cons rfl (fun K hK => ?_) AllReadyH.nil)
        have hs0 := (unhide HB).size
        refine step_append_lies _ rfl _ _ 76 rfl w0.heap.size 87 ip _ 258 272 Tryz.underlying76 (unhide HIP).1 (unhide HIP).2.1 (unhide HIP).2.2.1 (unhide HIP).2.2.2 (by show zeroRow.toArray.size = 258; simp [zeroRow_length]) (by decide) u3 n xs (by simp [put_eval, put_size, esz, e3]) ho2 ⟨wr.heap.size, 0, none⟩ 1 1 PR (by simp [put_eval, put_size, esz]) (by rw [(unhide HPR).2.1]) (holds_news (hide hh2)) (unhide HPR).2.2 (by omega) (by unfold maxLen; omega) (by omega) (by have := hb2.size; omega) W2.heap.size rfl ?_
        intro g8 c8 w8 hown8 hgrow8 hat8 hlt8
        have hne : some pb ≠ u3.ownBlock := by
          intro e
          have := ho2.lt pb e.symm
          omega
        refine hK.out _ _ ⟨hgrow8.cell hS2.1 hne, rangeAt_grown hS2.2 hgrow8 hne⟩ (fun hS4 => ?_)
        clear hK K
        refine takeH (i := 13) (some 3) rfl rfl (by kernel_rfl) (by kernel_rfl) (by kernel_rfl) (fun _ _ _ h => h) (yields_assign rfl _ rfl (.slice (some ⟨g8, 0, none⟩) (n + 1) c8) (by simp [put_eval, put_size, esz])) hS4 ?_
        refine wpAnyH_done (by kernel_rfl) ?_ _
        rw [unhide HA]
        simp only [Act.put, List.setIfInBounds_toArray, List.set_cons_zero, List.set_cons_succ]
        have HF := hide (show w8.ownsRow w0.heap.size 87 258 (.slice (some ⟨g8, 0, none⟩) (n + 1) c8) (pgsTo PS (k + 1)).length (apiRow (pgsTo PS (k + 1))) ∧ Below w0.heap.size w0 w8 from by
          refine ⟨?_, ?_⟩
          · rw [unhide HE, List.length_append, apiRow_append, ← (unhide HEQ).1, ← (unhide HEQ).2, show apiRow [p] = PR by rw [(unhide HPR).1, (unhide HNP).2.1, ← (unhide HNP).1]; simp [apiRow]]
            exact hown8
          · have h1 := (unhide HB).trans (hb2.mono hs0)
            refine h1.trans ⟨hgrow8.os, hgrow8.tape, hgrow8.output, hgrow8.size, fun q hq => hgrow8.block q (by have := h1.size; omega) (fun e => ?_)⟩
            have := ho2.lt q e.symm
            omega)
        clear hS hS2 hS3 hS4 hown8 hgrow8 hat8 hlt8 hne hb2 hh2 ho2 hW2 hs0 HA e3 e4 e5 esz RB R5 hblw
        go_wp2
        exact ⟨⟨k + 1, by omega, by simp, hide (unhide HF).1, hide (unhide HF).2⟩, by simp only [intOf]; omega⟩
    · have hke : k = 256 := by omega
      subst hke
      go_wp2
      go_ret
      have ho := unhide HO
      rw [pgsTo_all (unhide HOK)] at ho
      exact ⟨_, rfl, ho, unhide HB⟩
end Go.Proofs.YtjkpeelijbeekaaGreatDoor
