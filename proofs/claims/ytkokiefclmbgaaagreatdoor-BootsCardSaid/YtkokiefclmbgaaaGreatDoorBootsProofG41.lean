import Derived.Test.YtkokiefclmbgaaaGreatDoorBootsProofG32
import Derived.Test.YtkokiefclmbgaaaGreatDoorBootsProofG40
import Derived.ChangeSlices
import Derived.Test.YtkokiefclmbgaaaGreatDoorBootsProofG38
import Derived.SizedLaws
import Derived.WideShapes
import Derived.Deep.Slices
import Derived.Deep.Strs
/- A store of a great row in a drawn region, as one term. -/
namespace Go.Proofs.YtkokiefclmbgaaaGreatDoor
open Go Go.RowKit
set_option linter.unusedVariables false

theorem ready_store_part {P : Program} {md : Region.Mode} {ops : Array Oper} {Q : Exit → Act → World → Prop} {S : World → Prop} {fuel : Nat} {listed : Array Bool} {a : Act} {w : World} {i : Nat} {o : Oper} {rs : List Nat} (hi : ops[i]? = some o) (hgd : o.guard = none) (ty : TypeId) (x y : Operand) (ho : o.op = .store ty x y)
    (g off : Nat) (cs : List Value) (hx : a.eval x = .pointer (some ⟨g, off, none⟩)) (hy : a.eval y = .agg cs.toArray)
    (t : TypeId) (old : List Value) (hg : Holds w g t old) (hsz : (P.info? ty).map (·.size) = some cs.length) (hfit : off + cs.length ≤ old.length) (h1 : ∀ v ∈ cs, v.oneCell' = true) (hd : o.dst = none)
    (h : ∀ w', Hid (Holds w' g t (splice old off cs)) → Hid (w.grownBy w' (some g)) → S w' ∧ (S w' → wpAnyH P md ops Q S fuel (listed.setIfInBounds i true) a w')) (hs : AllReadyH P md ops Q S fuel listed a w rs) :
    AllReadyH P md ops Q S fuel listed a w (i :: rs) :=
  AllReadyH.cons hi (fun K hK => step_store_part hgd ty x y ho g off cs hx hy t old hg hsz hfit h1 hd (fun w' a1 a2 => hK.out _ _ (h w' a1 a2).1 (h w' a1 a2).2)) hs
end Go.Proofs.YtkokiefclmbgaaaGreatDoor

/- The program's Pages of an address space. -/
namespace Go.Proofs.YtkokiefclmbgaaaGreatDoor
open Go Go.RowKit
set_option linter.unusedVariables false
set_option linter.unusedSimpArgs false

theorem makeApi0 (w : World) (n : Nat) (h : n ≤ 100000) : ∃ cur : Array Value, cur.size = n * 258 ∧ (Instr.makeSlice 76 (.int .i64 0) (.int .i64 n)).run Tryz.prog w = .ok (.slice (some ⟨w.heap.size, 0, none⟩) 0 n) (w.alloc (.cells cur 87)) := by
  obtain ⟨i, hi, hzz⟩ := Option.map_eq_some_iff.1 apiInfo
  simp only [Prod.mk.injEq] at hzz
  obtain ⟨hz, hs, hb⟩ := hzz
  have hr := run_make (P := Tryz.prog) w 76 87 i _ Tryz.underlying76 hi hz .i64 .i64 0 n (by omega) (by omega) (by rw [hb]; omega) (by omega)
  rw [hs, Int.toNat_natCast] at hr
  exact ⟨_, by simp [madeCells], hr⟩
theorem api_fields (w : World) : ((#[{ name := "Number", type := 3, offset := 0, embedded := false, tag := "", pkgPath := "", byteOffset := 0 }, { name := "Perm", type := 84, offset := 1, embedded := false, tag := "", pkgPath := "", byteOffset := 8 }, { name := "Bytes", type := 85, offset := 2, embedded := false, tag := "", pkgPath := "", byteOffset := 9 }] : Array Field).mapM fun f => (do pure (f.offset, ← sizeOf f.type) : Sem (Nat × Nat))).run Tryz.prog w = .ok #[(0, 1), (1, 1), (2, 256)] w := by kernel_rfl
theorem api_built (num perm : Int) (bytes : List Int) (hb : bytes.length = 256) (w : World) : (Instr.build 87 #[(0, .int .i64 num), (1, .int .u8 perm), (2, .agg (bytesRow bytes).toArray)]).run Tryz.prog w = .ok (.agg (pageRow num perm bytes).toArray) w := by
  have hzv := Tryz.zeroValue87 w
  have hl : Tryz.zeroCells87.toList.length = 258 := by rw [Array.length_toList]; exact Tryz.zeroCells87_size
  generalize Tryz.zeroCells87 = ZA at hzv hl
  obtain ⟨Z⟩ := ZA
  have hl : Z.length = 258 := hl
  have hff : Instr.fill (fun i => (#[(0, 1), (1, 1), (2, 256)] : Array (Nat × Nat))[i]?) (Value.agg Z.toArray).cells [(0, Value.int .i64 num), (1, Value.int .u8 perm), (2, Value.agg (bytesRow bytes).toArray)] = some (pageRow num perm bytes).toArray := by
    show Instr.fill _ Z.toArray _ = _
    rw [fill_part _ _ 0 0 1 _ _ rfl rfl (by rw [hl]; omega), fill_part _ _ 1 1 1 _ _ rfl rfl (by rw [splice_length _ _ _ (by simp [Value.cells, hl])]; omega), fill_part _ _ 2 2 256 _ _ rfl (by simp [Value.cells, bytesRow_length, hb]) (by rw [splice_length _ _ _ (by rw [splice_length _ _ _ (by simp [Value.cells, hl])]; simp [Value.cells, hl]), splice_length _ _ _ (by simp [Value.cells, hl])]; omega)]
    refine congrArg some (congrArg List.toArray ?_)
    match Z, hl with
    | z0 :: z1 :: r, hl =>
      have hr : r.length = 256 := by simpa using hl
      unfold splice pageRow
      simp [Value.cells, bytesRow_length, hb, hr]
  unfold Instr.build
  simp only [Sem.run_bind, hzv, Result.andThen_ok, run_underlying Tryz.underlying87, api_fields, hff]
  rfl
theorem space_page {w : World} {pb so : Nat} {PS : List Pg} (hok : PgsOk PS) (h : w.rangeAt pb so (spaceRow PS)) {j : Nat} (hj : j < 256) : w.cell? ⟨pb, so + j * 257, none⟩ = some (.int .u8 (permAt PS j)) ∧ ∀ p, PS.find? (fun p => p.num == (j : Int)) = some p → w.rangeAt pb (so + j * 257 + 1) (bytesRow p.bytes) := by
  have hb : ∀ p ∈ PS, p.bytes.length = 256 := fun p hp => (hok.each p hp).2.2.2.2
  refine ⟨h _ _ (by have := space_get hb j 0 hj (by omega); rw [Nat.add_zero] at this; rw [this]; exact spacePage_perm PS j), fun p hp i v hv => ?_⟩
  have hi := (List.getElem?_eq_some_iff.1 hv).1
  rw [bytesRow_length, hb p (List.mem_of_find?_eq_some hp)] at hi
  rw [Nat.add_assoc so, Nat.add_assoc so, Nat.add_assoc (j * 257)]
  refine h _ _ ?_
  rw [space_get hb j (1 + i) hj (by omega)]
  unfold spacePage pageCells
  rw [hp, Nat.add_comm 1 i]
  exact hv
theorem pgsTo_each {PS : List Pg} (h : PgsOk PS) (n : Nat) : ∀ p ∈ pgsTo PS n, p.bytes.length = 256 := by
  intro p hp
  rw [pgsTo_take h] at hp
  exact (h.each p (List.mem_filter.1 hp).1).2.2.2.2

set_option maxRecDepth 100000 in
set_option maxHeartbeats 2000000 in
theorem spacePages_any (pb so : Nat) (PS : List Pg) (w : World) (hok : PgsOk PS) (hc : w.rangeAt pb so (spaceRow PS)) (hpl : pb < w.heap.size) :
    Calls Tryz.prog 85 #[.pointer (some ⟨pb, so, none⟩)] w fun e w' => ∃ v, e = .returned v ∧ w'.ownsRow w.heap.size 87 258 v PS.length (apiRow PS) ∧ Below w.heap.size w w' := by
  have HCT := hide (count_any pb so PS w hok (fun j hj => (space_page hok hc hj).1))
  have hPl : PS.length ≤ 256 := by have := pgsTo_len PS 256; rwa [pgsTo_all hok] at this
  have hPi : (PS.length : Int) ≤ 256 := by omega
  obtain ⟨cur, hcur, hmk⟩ := makeApi0 w PS.length (by omega)
  obtain ⟨W1, hW1⟩ : ∃ W1, W1 = w.alloc (.cells cur 87) := ⟨_, rfl⟩
  have hb1 : Below w.heap.size w W1 := by rw [hW1]; exact (Below.refl _ _).alloc (Nat.le_refl _) _
  have ho1 : W1.ownsRow w.heap.size 87 258 (.slice (some ⟨w.heap.size, 0, none⟩) 0 PS.length) (pgsTo PS 0).length (apiRow (pgsTo PS 0)) := by rw [hW1]; exact World.ownsRow_made w cur PS.length (Nat.le_refl _) (by unfold maxLen; omega) hcur
  have HOK := hide hok
  have HC := hide hc
  have HB1 := hide hb1
  have HO1 := hide ho1
  have HW1 := hide hW1
  obtain ⟨ip, hip, hpz0, hpz1, hpz2⟩ := info_parts apiInfo
  have HIP := hide (And.intro hip (And.intro hpz0 (And.intro hpz1 hpz2)))
  clear hok hc hb1 ho1 hW1 hcur hip hpz0 hpz1 hpz2 hPl
  go_enter Tryz.func85, Tryz.ntmps85
  go_wp2_with fail
  refine (unhide HCT).mono ?_
  rintro e w0 ⟨rfl, hw0⟩
  subst hw0
  clear HCT
  go_upto_region 2 with fail
  rw [← unhide HW1]
  clear hmk hPi
  go_wp2
  go_loopw [3, 9] (fun v i wr => ∃ k : Nat, k ≤ 256 ∧ i = .int .i64 k ∧ Hid (wr.ownsRow w0.heap.size 87 258 v (pgsTo PS k).length (apiRow (pgsTo PS k))) ∧ Hid (Below w0.heap.size w0 wr)) (fun _ i _ => 256 - (intOf i).toNat)
  case atStart => exact ⟨0, by omega, rfl, HO1, HB1⟩
  case round =>
    obtain ⟨k, hk, rfl, HO, HB⟩ := hrel
    by_cases hlt : k < 256
    · have hk0 : (0 : Int) ≤ (k : Int) := by omega
      have hk1 : (k : Int) < 256 := by omega
      have hcr : wr.rangeAt pb so (spaceRow PS) := fun j v hv => by rw [(unhide HB).cell (p := ⟨pb, so + j, none⟩) hpl]; exact unhide HC j v hv
      obtain ⟨hperm, hbytes⟩ := space_page (unhide HOK) hcr hlt
      have hs := pgsTo_succ PS k
      obtain ⟨pm, hpm⟩ : ∃ pm, pm = permAt PS k := ⟨_, rfl⟩
      rw [← hpm] at hperm
      rcases permAt_found (unhide HOK) k with ⟨h1, h2⟩ | ⟨h1, p, hpp, h2, h3⟩
      · have HE := hide (show pgsTo PS (k + 1) = pgsTo PS k by rw [hs, h2]; simp)
        have k0 : pm = 0 := by omega
        subst k0
        clear hs hpm h1 h2 hcr hbytes
        go_wp2
        refine ⟨⟨k + 1, by omega, by simp, ?_, HB⟩, by simp only [intOf]; omega⟩
        rw [unhide HE]
        exact HO
      · have hpe := (unhide HOK).each p hpp
        have hnum : p.num = (k : Int) := by have := List.find?_some h2; simpa using this
        have HE := hide (show pgsTo PS (k + 1) = pgsTo PS k ++ [p] by rw [hs, h2]; simp)
        have hpb := hbytes p h2
        have hbl := hpe.2.2.2.2
        have k0 : (pm == 0) = false := by simp; omega
        have hpe3 : pm = p.perm := by omega
        have HNP := hide (And.intro hnum (And.intro hpe3 hbl))
        obtain ⟨n, hn⟩ : ∃ n, n = (pgsTo PS k).length := ⟨_, rfl⟩
        obtain ⟨xs, hxs⟩ : ∃ xs, xs = apiRow (pgsTo PS k) := ⟨_, rfl⟩
        obtain ⟨bs, hbs⟩ : ∃ bs, bs = bytesRow p.bytes := ⟨_, rfl⟩
        have hnl : n ≤ 256 := by rw [hn]; have := pgsTo_len PS k; omega
        rw [← hn, ← hxs] at HO
        rw [← hbs] at hpb
        have hbsl : bs.length = 256 := by rw [hbs, bytesRow_length, hbl]
        have RB := hide (show ∀ w', (Instr.build 87 #[(0, .int .i64 (k : Int)), (1, .int .u8 pm), (2, .agg bs.toArray)]).run Tryz.prog w' = .ok (.agg (pageRow (k : Int) pm p.bytes).toArray) w' from fun w' => by rw [hbs]; exact api_built _ _ _ hbl w')
        obtain ⟨PR, hPR⟩ : ∃ PR, PR = pageRow (k : Int) pm p.bytes := ⟨_, rfl⟩
        rw [← hPR] at RB
        have hPRl : PR.length = 258 := by rw [hPR, pageRow_length', hbl]
        have hPR1 : ∀ v ∈ PR, v.oneCell' = true := by rw [hPR]; exact pageRow_one _ _ _
        have HPR := hide (And.intro hPR (And.intro hPRl hPR1))
        have HEQ := hide (And.intro hn hxs)
        have HPB := hide (show wr.cell? ⟨pb, so + k * 257, none⟩ = some (.int .u8 pm) ∧ wr.rangeAt pb (so + k * 257 + 1) bs from ⟨hperm, hpb⟩)
        have hblw : pb < wr.heap.size := by have := (unhide HB).size; omega
        have R5 := hide (show ∀ w' : World, (w'.cell? ⟨pb, so + k * 257, none⟩ = some (.int .u8 pm) ∧ w'.rangeAt pb (so + k * 257 + 1) bs) → (Instr.loadAt 84 (.pointer (some ⟨pb, so + k * 257, none⟩))).run Tryz.prog w' = .ok (.int .u8 pm) w' from fun w' h' => by
          have d := h'.1
          clear h' hperm hpb
          go_simp)
        clear hs hpm h1 h2 h3 hcr hbytes hpe hnum hpb hbl hpe3 hpp hn hxs hbs hPR hPRl hPR1
        go_upto_region 7 with fail
        clear hperm k0
        refine act_gen ?_
        intro A hA
        have e3 : A.eval (.tmp 3) = u3 := by rw [hA]; rfl
        have e4 : A.eval (.tmp 4) = .int .i64 (k : Int) := by rw [hA]; rfl
        have e5 : A.eval (.tmp 5) = .pointer (some ⟨pb, so + k * 257, none⟩) := by rw [hA]; rfl
        have esz : A.tmps.size = 37 := by rw [hA]; rfl
        have HA := hide hA
        clear hA
        refine wp_region_held_drew (S := fun w' => w'.cell? ⟨pb, so + k * 257, none⟩ = some (.int .u8 pm) ∧ w'.rangeAt pb (so + k * 257 + 1) bs) (by kernel_rfl) (unhide HPB) (fun hS => ?_)
        refine takeH (i := 0) (some 22) rfl rfl (by kernel_rfl) (by kernel_rfl) (by kernel_rfl) (fun _ _ _ h => h) (yields_move rfl _ rfl u3 (by simp [put_eval, put_size, esz, e3, e4, e5])) hS ?_
        refine takeH (i := 1) (some 23) rfl rfl (by kernel_rfl) (by kernel_rfl) (by kernel_rfl) (fun _ _ _ h => h) (yields_move rfl _ rfl (.int .i64 (k : Int)) (by simp [put_eval, put_size, esz, e3, e4, e5])) hS ?_
        refine takeH (i := 2) (some 24) rfl rfl (by kernel_rfl) (by kernel_rfl) (by kernel_rfl) (fun _ _ _ h => h) (yields_move rfl _ rfl (.pointer (some ⟨pb, so + k * 257, none⟩)) (by simp [put_eval, put_size, esz, e3, e4, e5])) hS ?_
        refine takeH (i := 3) (some 25) rfl rfl (by kernel_rfl) (by kernel_rfl) (by kernel_rfl) (fun _ _ _ h => h) (yields_nil rfl _ rfl ⟨pb, so + k * 257, none⟩ (by simp [put_eval, put_size, esz, e3, e4, e5])) hS ?_
        refine takeH (i := 4) (some 26) rfl rfl (by kernel_rfl) (by kernel_rfl) (by kernel_rfl) (fun _ _ _ h => h) (yields_field rfl _ _ _ rfl (.pointer (some ⟨pb, so + k * 257, none⟩)) (by simp [put_eval, put_size, esz, e3, e4, e5]) (.pointer (some ⟨pb, so + k * 257, none⟩)) (fun w' => by go_simp)) hS ?_
        refine takeH (i := 5) (some 27) rfl rfl (by kernel_rfl) (by kernel_rfl) (by kernel_rfl) (fun _ _ _ h => h) (yields_load1 rfl _ _ rfl ⟨pb, so + k * 257, none⟩ (by simp [put_eval, put_size, esz, e3, e4, e5]) (.int .u8 pm) (unhide R5)) hS ?_
        refine takeH (i := 6) (some 28) rfl rfl (by kernel_rfl) (by kernel_rfl) (by kernel_rfl) (fun _ _ _ h => h) (yields_move rfl _ rfl (.pointer (some ⟨pb, so + k * 257, none⟩)) (by simp [put_eval, put_size, esz, e3, e4, e5])) hS ?_
        refine takeH (i := 7) (some 29) rfl rfl (by kernel_rfl) (by kernel_rfl) (by kernel_rfl) (fun _ _ _ h => h) (yields_nil rfl _ rfl ⟨pb, so + k * 257, none⟩ (by simp [put_eval, put_size, esz, e3, e4, e5])) hS ?_
        refine takeH (i := 8) (some 30) rfl rfl (by kernel_rfl) (by kernel_rfl) (by kernel_rfl) (fun _ _ _ h => h) (yields_field rfl _ _ _ rfl (.pointer (some ⟨pb, so + k * 257, none⟩)) (by simp [put_eval, put_size, esz, e3, e4, e5]) (.pointer (some ⟨pb, so + k * 257 + 1, none⟩)) (fun w' => by go_simp)) hS ?_
        refine takeH (i := 9) (some 31) rfl rfl (by kernel_rfl) (by kernel_rfl) (by kernel_rfl) (fun _ _ _ h => h) (yieldsIf_load_mid (by simp [Region.wanted]) 85 _ rfl pb (so + k * 257 + 1) (by simp [put_eval, put_size, esz, e3, e4, e5]) bs _ (fun w h => h.2) Tryz.underlying85 rfl (by rw [b256Size, hbsl])) hS ?_
        refine takeH (i := 10) (some 32) rfl rfl (by kernel_rfl) (by kernel_rfl) (by kernel_rfl) (fun _ _ _ h => h) (yields_build rfl _ _ rfl #[(0, .int .i64 (k : Int)), (1, .int .u8 pm), (2, .agg bs.toArray)] (by simp [put_eval, put_size, esz]) (.agg PR.toArray) (unhide RB)) hS ?_
        refine wpAnyH_ready (rs := [11]) (by kernel_rfl) (by simp) (AllReadyH.cons rfl (fun K hK => ?_) AllReadyH.nil)
        refine step_slice1 rfl _ 87 _ rfl PR (by simp [put_eval, put_size, esz]) ip _ Tryz.underlying76 (unhide HIP).1 (unhide HIP).2.1 (by rw [(unhide HIP).2.2.1, (unhide HPR).2.1]) (by rw [(unhide HPR).2.1]; decide) (by rw [(unhide HPR).2.1]; decide) wr.heap.size rfl (some 33) rfl ?_
        have hb2 : Below wr.heap.size wr (wr.drew.alloc (.cells PR.toArray 87)) := by
          have h := (Below.refl wr.drew.heap.size wr.drew).alloc (Nat.le_refl _) (.cells PR.toArray 87)
          exact ⟨h.os, h.tape, h.output, h.size, h.block⟩
        have hh2 : Holds (wr.drew.alloc (.cells PR.toArray 87)) wr.heap.size 87 PR := Holds.new wr.drew 87 PR
        have ho2 := own_below (unhide HO) (hide hb2)
        obtain ⟨W2, hW2⟩ : ∃ W2, W2 = wr.drew.alloc (.cells PR.toArray 87) := ⟨_, rfl⟩
        rw [← hW2] at hb2 hh2 ho2 ⊢
        have hS2 : W2.cell? ⟨pb, so + k * 257, none⟩ = some (.int .u8 pm) ∧ W2.rangeAt pb (so + k * 257 + 1) bs := ⟨by rw [hb2.cell (p := ⟨pb, so + k * 257, none⟩) hblw]; exact (unhide HPB).1, fun j v hv => by rw [hb2.cell (p := ⟨pb, so + k * 257 + 1 + j, none⟩) hblw]; exact (unhide HPB).2 j v hv⟩
        refine hK.out _ _ hS2 (fun hS3 => ?_)
        clear hK K
        refine wpAnyH_ready (rs := [12]) (by kernel_rfl) (by simp) (AllReadyH.cons rfl (fun K hK => ?_) AllReadyH.nil)
        have hs0 := (unhide HB).size
        refine step_append_lies _ rfl _ _ 76 rfl w0.heap.size 87 ip _ 258 272 Tryz.underlying76 (unhide HIP).1 (unhide HIP).2.1 (unhide HIP).2.2.1 (unhide HIP).2.2.2 (by show zeroRow.toArray.size = 258; simp [zeroRow_length]) (by decide) u3 n xs (by simp [put_eval, put_size, esz, e3]) ho2 ⟨wr.heap.size, 0, none⟩ 1 1 PR (by simp [put_eval, put_size, esz]) (by rw [(unhide HPR).2.1]) (holds_news (hide hh2)) (unhide HPR).2.2 (by omega) (by unfold maxLen; omega) (by omega) (by have := hb2.size; omega) W2.heap.size rfl ?_
        intro g8 c8 w8 hown8 hgrow8 hat8 hlt8
        have hne : some pb ≠ u3.ownBlock := by
          intro e
          have := ho2.lt pb e.symm
          omega
        refine hK.out _ _ ⟨hgrow8.cell hS2.1 hne, rangeAt_grown hS2.2 hgrow8 hne⟩ (fun hS4 => ?_)
        clear hK K
        refine takeH (i := 13) (some 3) rfl rfl (by kernel_rfl) (by kernel_rfl) (by kernel_rfl) (fun _ _ _ h => h) (yields_assign rfl _ rfl (.slice (some ⟨g8, 0, none⟩) (n + 1) c8) (by simp [put_eval, put_size, esz])) hS4 ?_
        refine wpAnyH_done (by kernel_rfl) ?_ _
        rw [unhide HA]
        simp only [Act.put, List.setIfInBounds_toArray, List.set_cons_zero, List.set_cons_succ]
        have HF := hide (show w8.ownsRow w0.heap.size 87 258 (.slice (some ⟨g8, 0, none⟩) (n + 1) c8) (pgsTo PS (k + 1)).length (apiRow (pgsTo PS (k + 1))) ∧ Below w0.heap.size w0 w8 from by
          refine ⟨?_, ?_⟩
          · rw [unhide HE, List.length_append, apiRow_append, ← (unhide HEQ).1, ← (unhide HEQ).2, show apiRow [p] = PR by rw [(unhide HPR).1, (unhide HNP).2.1, ← (unhide HNP).1]; simp [apiRow]]
            exact hown8
          · have h1 := (unhide HB).trans (hb2.mono hs0)
            refine h1.trans ⟨hgrow8.os, hgrow8.tape, hgrow8.output, hgrow8.size, fun q hq => hgrow8.block q (by have := h1.size; omega) (fun e => ?_)⟩
            have := ho2.lt q e.symm
            omega)
        clear hS hS2 hS3 hS4 hown8 hgrow8 hat8 hlt8 hne hb2 hh2 ho2 hW2 hs0 HA e3 e4 e5 esz RB R5 hblw
        go_wp2
        exact ⟨⟨k + 1, by omega, by simp, hide (unhide HF).1, hide (unhide HF).2⟩, by simp only [intOf]; omega⟩
    · have hke : k = 256 := by omega
      subst hke
      go_wp2
      go_ret
      have ho := unhide HO
      rw [pgsTo_all (unhide HOK)] at ho
      exact ⟨_, rfl, ho, unhide HB⟩
end Go.Proofs.YtkokiefclmbgaaaGreatDoor

/- Laws for the walk of execute: a CPU that is built, stores of great rows in drawn regions, calls. -/
namespace Go.Proofs.YtkokiefclmbgaaaGreatDoor
open Go Go.RowKit Go.Maps
set_option linter.unusedVariables false
set_option linter.unusedSimpArgs false

theorem cpu_fields (w : World) : ((#[{ name := "PC", type := 74, offset := 0, embedded := false, tag := "", pkgPath := "", byteOffset := 0 }, { name := "Regs", type := 75, offset := 1, embedded := false, tag := "", pkgPath := "", byteOffset := 8 }, { name := "Space", type := 176, offset := 17, embedded := false, tag := "", pkgPath := "", byteOffset := 136 }] : Array Field).mapM fun f => (do pure (f.offset, ← sizeOf f.type) : Sem (Nat × Nat))).run Tryz.prog w = .ok #[(0, 1), (1, 16), (17, 65792)] w := by
  simp [Tryz.sizeOf74, Tryz.sizeOf75, Tryz.sizeOf176]
theorem cpu_built (E : Int) (S : List Value) (hS : S.length = 65792) (w : World) : (Instr.build 178 #[(0, .int .u64 E), (2, .agg S.toArray)]).run Tryz.prog w = .ok (.agg (cpuRow E zero16 S).toArray) w := by
  have hzv := Tryz.zeroValue178 w
  have hl : Tryz.zeroCells178.toList.length = 65809 := by rw [Array.length_toList]; exact Tryz.zeroCells178_size
  have hz1 := cpu_z1
  generalize Tryz.zeroCells178 = ZA at hzv hl hz1
  obtain ⟨Z⟩ := ZA
  have hl : Z.length = 65809 := hl
  have hz1 : Z.take 17 = List.replicate 17 (.int .u64 0) := hz1
  have hff : Instr.fill (fun i => (#[(0, 1), (1, 16), (17, 65792)] : Array (Nat × Nat))[i]?) (Value.agg Z.toArray).cells [(0, Value.int .u64 E), (2, Value.agg S.toArray)] = some (cpuRow E zero16 S).toArray := by
    show Instr.fill _ Z.toArray _ = _
    rw [fill_part _ _ 0 0 1 _ _ rfl rfl (by rw [hl]; omega), fill_part _ _ 2 17 65792 _ _ rfl (by simp [Value.cells, hS]) (by rw [splice_length _ _ _ (by simp [Value.cells, hl])]; omega)]
    refine congrArg some (congrArg List.toArray ?_)
    have e0 : Z = List.replicate 17 (.int .u64 0) ++ Z.drop 17 := by rw [← hz1, List.take_append_drop]
    have hd : (Z.drop 17).length = 65792 := by rw [List.length_drop, hl]
    generalize Z.drop 17 = D at e0 hd
    subst e0
    unfold splice cpuRow zero16
    simp [Value.cells, hd, hS, List.replicate_succ]
  unfold Instr.build
  simp only [Sem.run_bind, hzv, Result.andThen_ok, run_underlying Tryz.underlying178, cpu_fields, hff]
  rfl
theorem cpuSize : (Tryz.prog.info? 178).map (·.size) = some 65809 := by
  have h := Tryz.sizeOf178 default
  cases hi : Tryz.prog.info? 178 with
  | none => simp [sizeOf, typeInfo, hi] at h
  | some i => simp [sizeOf, typeInfo, hi] at h; simp [h]
theorem cpuRow_one (E : Int) (R : List Int) {S : List Value} (hS : ∀ v ∈ S, v.oneCell' = true) : ∀ v ∈ cpuRow E R S, v.oneCell' = true := by
  intro v hv
  unfold cpuRow at hv
  rcases List.mem_append.1 hv with h | h
  · rcases List.mem_cons.1 h with rfl | h
    · rfl
    · obtain ⟨x, _, rfl⟩ := List.mem_map.1 h; rfl
  · exact hS v h
theorem proc_splice {E E' : Int} {R R' : List Int} {S S' : List Value} {pid par st su wk : Int} {fds : List Value} (h1 : (cpuRow E R S).length = 65809) (h2 : (cpuRow E' R' S').length = 65809) : splice (procRow E R S pid par st su wk fds) 0 (cpuRow E' R' S') = procRow E' R' S' pid par st su wk fds := by
  unfold splice procRow
  rw [Nat.zero_add, List.take_zero, List.nil_append, h2, List.drop_left' h1]
theorem proc_reg {E : Int} {R : List Int} {S : List Value} {pid par st su wk : Int} {fds : List Value} (hR : R.length = 16) (x : Int) : (procRow E R S pid par st su wk fds).set 16 (.int .u64 x) = procRow E (R.set 15 x) S pid par st su wk fds := by
  unfold procRow cpuRow
  have e : ((Value.int .u64 E :: R.map (Value.int .u64)) ++ S).set 16 (.int .u64 x) = (Value.int .u64 E :: (R.set 15 x).map (Value.int .u64)) ++ S := by
    rw [List.set_append_left _ _ (by simp [hR]), List.set_cons_succ, List.map_set]
  rw [List.set_append_left _ _ (by simp [hR]; omega), e]
theorem refPgs_sorted {B : List Int} {ss : List Seg} : ∀ (n : Nat), (∀ p, p < n → ss.countP (fun s => cov s p) ≤ 1) → (refPgs B ss n).Pairwise (fun p q => p.num < q.num) ∧ ∀ q ∈ refPgs B ss n, 0 ≤ q.num ∧ q.num < (n : Int)
  | 0, _ => by simp [refPgs]
  | n + 1, h => by
    obtain ⟨h1, h2⟩ := refPgs_sorted (B := B) n (fun p hp => h p (by omega))
    rw [refPgs_succ]
    have hc := h n (by omega)
    rw [List.countP_eq_length_filter] at hc
    generalize hF : ss.filter (fun s => cov s n) = F at hc
    refine ⟨List.pairwise_append.2 ⟨h1, ?_, fun a ha b hb => ?_⟩, fun q hq => ?_⟩
    · cases F with
      | nil => simp
      | cons x r =>
        have : r = [] := by cases r with
          | nil => rfl
          | cons y t => simp at hc
        subst this
        simp
    · obtain ⟨x, _, rfl⟩ := List.mem_map.1 hb
      exact (h2 a ha).2
    · rcases List.mem_append.1 hq with h3 | h3
      · have := h2 q h3; omega
      · obtain ⟨x, _, rfl⟩ := List.mem_map.1 h3
        show 0 ≤ (n : Int) ∧ (n : Int) < ((n + 1 : Nat) : Int)
        omega
theorem outPgs_pok {B : List Int} (h : Good B) : PgsOk (outPgs B) ∧ ∀ p ∈ outPgs B, p.num < 254 := by
  have hs := refPgs_sorted (B := B) (ss := fileSegs B) 256 (fun p hp => h.2.2.1 p hp)
  have hm : ∀ p ∈ outPgs B, ∃ (n : Nat) (s : Seg), p.num = n ∧ p.perm = s.perm ∧ s ∈ fileSegs B ∧ cov s n = true := by
    intro p hp
    obtain ⟨n, _, hq⟩ := List.mem_flatMap.1 hp
    obtain ⟨s, hs, rfl⟩ := List.mem_map.1 hq
    obtain ⟨h1, h2⟩ := List.mem_filter.1 hs
    exact ⟨n, s, rfl, rfl, h1, h2⟩
  have hsg : ∀ s ∈ fileSegs B, ∃ i, SegOk B (64 + 56 * i) ∧ s = segAt B (64 + 56 * i) := by
    intro s hs
    unfold fileSegs segsUpTo at hs
    obtain ⟨i, hi, rfl⟩ := List.mem_map.1 hs
    exact ⟨i, h.2.1 i (List.mem_range.1 hi), rfl⟩
  have hlt : ∀ p ∈ outPgs B, p.num < 254 := by
    intro p hp
    obtain ⟨n, s, h1, _, h3, h4⟩ := hm p hp
    obtain ⟨i, hi, rfl⟩ := hsg s h3
    have hl := (cov_true.1 h4).2
    have := hi.2.2.2.2.2.2
    have := hi.2.2.1
    unfold Seg.last at hl
    omega
  refine ⟨⟨hs.1, fun p hp => ?_⟩, hlt⟩
  obtain ⟨n, s, h1, h2, h3, h4⟩ := hm p hp
  obtain ⟨i, hi, rfl⟩ := hsg s h3
  have hpm := hi.2.1
  obtain ⟨a, b, c⟩ := outPgs_ok h p hp
  have := hlt p hp
  refine ⟨by omega, by omega, ?_, b, c⟩
  rw [h2]; exact hpm.1
theorem all_pok {B : List Int} (h : Good B) (R : List Int) (hR : R.length = 512) : PgsOk (outPgs B ++ twoPgs R) := by
  obtain ⟨h1, h2⟩ := outPgs_pok h
  refine ⟨List.pairwise_append.2 ⟨h1.sorted, by simp [twoPgs], fun a ha b hb => ?_⟩, fun p hp => ?_⟩
  · have := h2 a ha
    simp only [twoPgs, List.mem_cons, List.mem_nil_iff, or_false] at hb
    rcases hb with rfl | rfl
    · show a.num < 254; omega
    · show a.num < 255; omega
  · rcases List.mem_append.1 hp with hp | hp
    · exact h1.each p hp
    · have hb := (twoPgs_ok R hR p hp).2.2
      simp only [twoPgs, List.mem_cons, List.mem_nil_iff, or_false] at hp
      rcases hp with rfl | rfl
      · exact ⟨show (0 : Int) ≤ 254 by decide, show (254 : Int) < 256 by decide, show (1 : Int) ≤ 6 by decide, show (6 : Int) ≤ 255 by decide, hb⟩
      · exact ⟨show (0 : Int) ≤ 255 by decide, show (255 : Int) < 256 by decide, show (1 : Int) ≤ 6 by decide, show (6 : Int) ≤ 255 by decide, hb⟩
end Go.Proofs.YtkokiefclmbgaaaGreatDoor

/- Boots, whole. -/
namespace Go.Proofs.YtkokiefclmbgaaaGreatDoor
open Go.RowKit
set_option linter.unusedVariables false
set_option linter.unusedSimpArgs false

/-- Boots, out of what the program's Boot and the calls on its kernel answer. -/
theorem boots_all (lp lf lo li lb : Int) (fa : Option Addr) (fb foff fcap : Nat) (FZ : List PFile) (LS : List FLoc) (w : World) (hfa : 0 < FZ.length → fa = some ⟨fb, foff, none⟩ ∧ fb < w.heap.size) (hf : FilesInL w fb foff FZ LS) (hb : ∀ f ∈ FZ, f.path.size ≤ 140737488355328 ∧ f.bytes.length ≤ 140737488355328) (hl : FZ.length ≤ 140737488355328) (hby : ∀ f ∈ FZ, IsBytes f.bytes)
    (hg : w.cell? ⟨0, 0, none⟩ = some (.iface 194 (.agg #[.pointer (some ⟨5, 40, none⟩)]))) (hge : 0 < w.heap.size) (KR : World → Nat → Addr → PK → Prop) (api : ProgApi KR)
    (hprog : ∀ (lp lf lo li lb : Int) (FZ : List PFile) (w' : World) (va : Option Addr) (vb vcap : Nat) (LS' : List FLoc), FZ.length ≤ 100 → (FZ.map (fun f => f.bytes.length)).sum ≤ 200000 → (∀ f ∈ FZ, f.path.size ≤ maxLen ∧ IsBytes f.bytes) → Below w.heap.size w w' → (0 < FZ.length → va = some ⟨vb, 0, none⟩ ∧ vb < w'.heap.size) → FilesInL w' vb 0 FZ LS' → Calls Tryz.prog 10 #[.agg #[.int .i64 lp, .int .i64 lf, .int .i64 lo, .int .i64 li, .int .i64 lb], .slice va FZ.length vcap] w' (ProgBoot lp lf lo li lb FZ KR w')) :
    Calls Tryz.prog 3 #[.agg #[.int .i64 lp, .int .i64 lf, .int .i64 lo, .int .i64 li, .int .i64 lb, .slice fa FZ.length fcap]] w fun e w' => e = .returned (.bool true) ∧ Below w.heap.size w w' := by
  refine boots_law lp lf lo li lb fa fb foff fcap FZ LS w hfa hf hb hl hby hg hge KR api (fun w' h => lives_law w' KR (fun w'' va vb vcap LS' h2 h3 h4 => ?_)) (fun hn hs w' va vb vcap LS' h2 h3 h4 => ?_) (puts_inv lp lf lo li lb FZ).tree
  · refine hprog 2 10 2 3 1000 [tinyF] w'' va vb vcap LS' (by decide) (by simp [tinyF, tiny_len]) (fun f hf => ?_) (h.trans (h2.mono h.size)) h3 h4
    have e : f = tinyF := by simpa using hf
    subst e
    exact ⟨by decide, tiny_bytes⟩
  · exact hprog lp lf lo li lb FZ w' va vb vcap LS' hn hs (fun f hf => ⟨by have := (hb f hf).1; unfold maxLen; omega, hby f hf⟩) h2 h3 h4
end Go.Proofs.YtkokiefclmbgaaaGreatDoor

/- Boots: the argument opened. -/
namespace Go.Proofs.YtkokiefclmbgaaaGreatDoor
open Go Go.ChangeShapes Go.WideShapes Go.ChangeAt Go.RowKit Go.Deep
set_option linter.unusedVariables false
set_option linter.unusedSimpArgs false

theorem cells_byte : Tryz.prog.cellsOf 5 = 1 := by kernel_rfl
theorem cells_file : Tryz.prog.cellsOf 44 = 3 := by kernel_rfl
theorem cells_str : Tryz.prog.cellsOf 9 = 1 := by kernel_rfl
theorem cells_bool : Tryz.prog.cellsOf 4 = 1 := by kernel_rfl
theorem cells_byts : Tryz.prog.cellsOf 32 = 1 := by kernel_rfl
theorem cells_int : Tryz.prog.cellsOf 3 = 1 := by kernel_rfl
theorem cells_lims : Tryz.prog.cellsOf 23 = 5 := by kernel_rfl
theorem cells_files : Tryz.prog.cellsOf 24 = 1 := by kernel_rfl
theorem cells_setting : Tryz.prog.cellsOf 26 = 6 := by kernel_rfl
theorem bytes_byte : Tryz.prog.bytesOf 5 = 1 := by kernel_rfl
theorem bytes_file : Tryz.prog.bytesOf 44 = 48 := by kernel_rfl
theorem list3' {α : Type} {cs : List α} (h : cs.length = 3) : ∃ a b c, cs = [a, b, c] := by
  match cs, h with
  | [a, b, c], _ => exact ⟨a, b, c, rfl⟩
theorem list5' {α : Type} {cs : List α} (h : cs.length = 5) : ∃ a b c d e, cs = [a, b, c, d, e] := by
  match cs, h with
  | [a, b, c, d, e], _ => exact ⟨a, b, c, d, e, rfl⟩
theorem list6' {α : Type} {cs : List α} (h : cs.length = 6) : ∃ a b c d e f, cs = [a, b, c, d, e, f] := by
  match cs, h with
  | [a, b, c, d, e, f], _ => exact ⟨a, b, c, d, e, f, rfl⟩

theorem weights_agg {H : Type} {P : Program} {t : TypeId} {fs : Array Field} {ds : List (DataW H)} (hu : P.underlying t = some (.struct fs)) : (DataW.agg ds).weights P t = DataW.weightsEach P (fs.toList.map (·.type)) ds := by
  rw [DataW.weights, hu]
theorem weights_slice {H : Type} {P : Program} {t e : TypeId} {ds ss : List (DataW H)} (hu : P.underlying t = some (.slice e)) : (DataW.slice ds ss).weights P t = (ds.length + ss.length) * P.bytesOf e :: (DataW.weightsAll P e ds ++ DataW.weightsAll P e ss) := by
  rw [DataW.weights, hu]
theorem weightsAll_mem {H : Type} {P : Program} {e : TypeId} : ∀ {ds : List (DataW H)} {d : DataW H}, d ∈ ds → ∀ n ∈ d.weights P e, n ∈ DataW.weightsAll P e ds
  | d0 :: r, d, hd, n, hn => by
    rw [DataW.weightsAll]
    rcases List.mem_cons.1 hd with rfl | hd
    · exact List.mem_append_left _ hn
    · exact List.mem_append_right _ (weightsAll_mem hd n hn)
  | [], _, hd, _, _ => by cases hd

/-- What an argument's file is. -/
structure OneFile (W : World) (cs : List Value) (f : PFile) (l : FLoc) : Prop where
  cells : cs = [.string f.path, .bool f.dir, .slice l.a f.bytes.length l.c]
  loc : 0 < f.bytes.length → l.a = some ⟨l.q, l.o, none⟩ ∧ l.q < W.heap.size
  view : BView W l.q l.o f.bytes
  byte : IsBytes f.bytes
  psize : f.path.size ≤ 140737488355328
  bsize : f.bytes.length ≤ 140737488355328
theorem isBytes_take {zs : List Int} {len : Nat} (hl : len ≤ zs.length) (hws : ∀ n ∈ zs, (Lit.int .u8 n).wf = true) : IsBytes (zs.take len) := by
  intro j
  by_cases hj : j < len
  · have hz2 : (zs.take len).getD j 0 ∈ zs := by
      have : (zs.take len).getD j 0 = zs[j]'(by omega) := by simp [List.getD, hj, List.getElem?_eq_getElem (show j < zs.length by omega)]
      rw [this]; exact List.getElem_mem _
    exact bounds_u8 (hws _ hz2)
  · rw [List.getD, List.getElem?_eq_none (by rw [List.length_take]; omega)]
    exact ⟨Int.le_refl 0, by decide⟩
theorem bytes_open {H : Type} {enc : TypeId × Value → H} {W : World} {fuel : Nat} {v : Value} {x : DataW H × List MemPlace}
    (h : DataW.trod enc Tryz.prog W 0 (fun _ => true) true fuel 32 [v] = some x) (hw : ∀ n ∈ x.1.weights Tryz.prog 32, n ≤ reachBytes) :
    ∃ (B : List Int) (l : FLoc), v = .slice l.a B.length l.c ∧ (0 < B.length → l.a = some ⟨l.q, l.o, none⟩ ∧ l.q < W.heap.size) ∧ BView W l.q l.o B ∧ IsBytes B ∧ B.length ≤ 140737488355328 := by
  rcases open_ints Tryz.underlying32 Tryz.underlying5 cells_byte h with ⟨hcs, hx⟩ | ⟨a, len, c, zs, hcs, hbase, hl, hm, hz, hx, hcell, hws⟩
  · simp only [List.cons.injEq, and_true] at hcs
    subst hcs
    exact ⟨[], ⟨none, 0, 0, 0⟩, rfl, fun q => by simp at q, fun j hj => by simp at hj, fun j => by simp, by simp⟩
  · simp only [List.cons.injEq, and_true] at hcs
    subst hcs
    simp only [if_true] at hz
    have hsz : len ≤ reachBytes := by
      rw [hx] at hw
      have := hw ((lits .u8 (zs.take len)).length + (lits .u8 (zs.drop len)).length) (by
        rw [weights_slice Tryz.underlying32, bytes_byte, Nat.mul_one]
        exact List.mem_cons_self ..)
      have e : (lits .u8 (zs.take len) : List (DataW H)).length = len := by simp [lits]; omega
      omega
    have htl : (zs.take len).length = len := by rw [List.length_take]; omega
    have hsz' : len ≤ 140737488355328 := Nat.le_trans hsz (by decide)
    by_cases h0 : len = 0
    · subst h0
      exact ⟨[], ⟨some a, 0, 0, c⟩, rfl, fun q => by simp at q, fun j hj => by simp at hj, fun j => by simp, by simp⟩
    obtain ⟨b, off, spot⟩ := a
    have hc0 := hcell 0 (by omega)
    have hspot : spot = none := by simpa [Addr.add] using World.cell?_spot hc0
    subst hspot
    have hbw : b < W.heap.size := by have := World.block_lt_of_cell? W _ hc0; rwa [addr_add] at this
    refine ⟨zs.take len, ⟨some ⟨b, off, none⟩, b, off, c⟩, by rw [htl], fun _ => ⟨rfl, hbw⟩, fun i hi => ?_, isBytes_take (by omega) hws, by omega⟩
    rw [htl] at hi
    have := hcell i (by omega)
    rw [addr_add] at this
    rw [this]
    simp [List.getD, hi]
theorem file_open {H : Type} {enc : TypeId × Value → H} {W : World} {fuel : Nat} {cs : List Value} {x : DataW H × List MemPlace}
    (h : DataW.trod enc Tryz.prog W 0 (fun _ => true) true fuel 44 cs = some x) (hw : ∀ n ∈ x.1.weights Tryz.prog 44, n ≤ reachBytes) :
    ∃ f l, OneFile W cs f l := by
  obtain ⟨y0, y1, y2, n, rfl, hl, h0, h1, h2⟩ := trod_struct3 Tryz.underlying44 h
  rw [cells_file] at hl
  obtain ⟨v0, v1, v2, rfl⟩ := list3' hl
  have hw2 : ∀ n ∈ DataW.weightsEach Tryz.prog [9, 4, 32] [y0.1, y1.1, y2.1], n ≤ reachBytes := fun n hn => hw n (by rw [weights_agg Tryz.underlying44]; exact hn)
  clear hw
  change DataW.trod enc Tryz.prog W 0 _ true n 9 (List.take (Tryz.prog.cellsOf 9) (List.drop 0 [v0, v1, v2])) = some y0 at h0
  change DataW.trod enc Tryz.prog W 0 _ true n 4 (List.take (Tryz.prog.cellsOf 4) (List.drop 1 [v0, v1, v2])) = some y1 at h1
  change DataW.trod enc Tryz.prog W 0 _ true n 32 (List.take (Tryz.prog.cellsOf 32) (List.drop 2 [v0, v1, v2])) = some y2 at h2
  rw [cells_str] at h0
  rw [cells_bool] at h1
  rw [cells_byts] at h2
  obtain ⟨s, f0, g0, _⟩ := DataW.trod_string Tryz.underlying9 (show DataW.trod _ _ _ _ _ _ n 9 [v0] = some y0 from h0)
  obtain ⟨d, f1, g1⟩ := DataW.trod_bool Tryz.underlying4 (show DataW.trod _ _ _ _ _ _ n 4 [v1] = some y1 from h1)
  subst g0 g1
  simp only [List.cons.injEq, and_true] at f0 f1
  subst f0 f1
  obtain ⟨B, l, rfl, b1, b2, b3, b4⟩ := bytes_open (show DataW.trod _ _ _ _ _ _ n 32 [v2] = some y2 from h2) (fun n hn => hw2 n (DataW.weights_mem_each (j := 2) rfl rfl n hn))
  refine ⟨⟨s, d, B⟩, l, rfl, b1, b2, b3, ?_, b4⟩
  have hs : s.data.toList.length ≤ reachBytes := hw2 _ (DataW.weights_mem_each (j := 0) rfl rfl _ (by rw [DataW.weights]; exact List.mem_cons_self ..))
  have e : s.data.toList.length = s.size := Array.length_toList
  rw [e] at hs
  exact Nat.le_trans hs (by decide)

structure OpenSetting (W : World) (cs : List Value) (lp lf lo li lb : Int) (fa : Option Addr) (fb foff fcap : Nat) (FZ : List PFile) (LS : List FLoc) : Prop where
  cells : cs = [.int .i64 lp, .int .i64 lf, .int .i64 lo, .int .i64 li, .int .i64 lb, .slice fa FZ.length fcap]
  at_ : 0 < FZ.length → fa = some ⟨fb, foff, none⟩ ∧ fb < W.heap.size
  files : FilesInL W fb foff FZ LS
  each : ∀ f ∈ FZ, f.path.size ≤ 140737488355328 ∧ f.bytes.length ≤ 140737488355328
  len : FZ.length ≤ 140737488355328
  byte : ∀ f ∈ FZ, IsBytes f.bytes
theorem files_open {H : Type} {enc : TypeId × Value → H} {W : World} {fuel : Nat} {v : Value} {x : DataW H × List MemPlace}
    (h : DataW.trod enc Tryz.prog W 0 (fun _ => true) true fuel 24 [v] = some x) (hw : ∀ n ∈ x.1.weights Tryz.prog 24, n ≤ reachBytes) :
    ∃ fa fb foff fcap FZ LS, v = .slice fa FZ.length fcap ∧ (0 < FZ.length → fa = some ⟨fb, foff, none⟩ ∧ fb < W.heap.size) ∧ FilesInL W fb foff FZ LS ∧ (∀ f ∈ FZ, f.path.size ≤ 140737488355328 ∧ f.bytes.length ≤ 140737488355328) ∧ FZ.length ≤ 140737488355328 ∧ ∀ f ∈ FZ, IsBytes f.bytes := by
  rcases open_slice Tryz.underlying24 h with ⟨hcs, hx⟩ | ⟨a, len, cap, m, n, D, Pl, hcs, hb, hl, hm, hmm, rfl, hx⟩
  · simp only [List.cons.injEq, and_true] at hcs
    subst hcs
    exact ⟨none, 0, 0, 0, [], [], rfl, fun q => by simp at q, ⟨rfl, fun i f l hi _ => by simp at hi⟩, fun f hf => by simp at hf, by simp, fun f hf => by simp at hf⟩
  simp only [List.cons.injEq, and_true] at hcs
  subst hcs
  simp only [if_true] at hmm
  subst hmm
  have hws : ∀ i, i < len → ∀ k ∈ (D i).weights Tryz.prog 44, k ≤ reachBytes := fun i hi k hk => hw k (by
    rw [weights_slice Tryz.underlying24]
    exact List.mem_cons_of_mem _ (List.mem_append_left _ (weightsAll_mem (List.mem_map.2 ⟨i, List.mem_range.2 hi, rfl⟩) k hk)))
  have hlen : len ≤ 140737488355328 := by
    have := hw ((((List.range len).map D).length + ((List.range (m - len)).map fun j => D (len + j)).length) * 48) (by
      rw [weights_slice Tryz.underlying24, bytes_file]
      exact List.mem_cons_self ..)
    have h2 : reachBytes = 140737488351232 := by decide
    simp only [List.length_map, List.length_range] at this
    omega
  by_cases h0 : len = 0
  · subst h0
    exact ⟨some a, 0, 0, m, [], [], rfl, fun q => by simp at q, ⟨rfl, fun i f l hi _ => by simp at hi⟩, fun f hf => by simp at hf, by simp, fun f hf => by simp at hf⟩
  rw [cells_file] at hx
  haveI hinh : Inhabited (PFile × FLoc) := ⟨(⟨ByteArray.empty, false, []⟩, ⟨none, 0, 0, 0⟩)⟩
  obtain ⟨V, hV⟩ := choose_lt (α := PFile × FLoc) (n := len) (p := fun i z => ∃ cs', W.cells? 0 (a.add (i * 3)) 3 = some cs' ∧ OneFile W cs' z.1 z.2) (fun i hi => by
    obtain ⟨cs', h1, h2⟩ := hx i (by omega)
    obtain ⟨f, l, hf⟩ := file_open h2 (hws i hi)
    exact ⟨(f, l), cs', h1, hf⟩)
  obtain ⟨b, off, spot⟩ := a
  have hcell : ∀ i, i < len → ∀ j u, [Value.string (V i).1.path, .bool (V i).1.dir, .slice (V i).2.a (V i).1.bytes.length (V i).2.c][j]? = some u → W.cell? (((⟨b, off, spot⟩ : Addr).add (i * 3)).add j) = some u := fun i hi j u hu => by
    obtain ⟨cs', h1, h2⟩ := hV i hi
    obtain ⟨_, hl3, hc⟩ := World.cells?_some h1
    have hj : j < 3 := by simpa using (List.getElem?_eq_some_iff.1 hu).1
    rw [hc j hj, h2.cells]
    exact hu
  have hc0 := hcell 0 (by omega) 0 _ rfl
  have hspot : spot = none := by simpa [Addr.add] using World.cell?_spot hc0
  subst hspot
  have hbw : b < W.heap.size := by have := World.block_lt_of_cell? W _ hc0; rwa [addr_add, addr_add] at this
  have hget : ∀ (i : Nat) (f : PFile), ((List.range len).map fun i => (V i).1)[i]? = some f → i < len ∧ f = (V i).1 := fun i f hf => by
    rw [List.getElem?_map] at hf
    by_cases hi : i < len
    · rw [List.getElem?_range hi] at hf
      exact ⟨hi, by simpa using hf.symm⟩
    · rw [List.getElem?_eq_none (by simp; omega)] at hf
      cases hf
  have hone : ∀ f ∈ (List.range len).map (fun i => (V i).1), ∃ cs l, OneFile W cs f l := fun f hf => by
    obtain ⟨i, hi, rfl⟩ := List.mem_map.1 hf
    obtain ⟨cs', _, h2⟩ := hV i (List.mem_range.1 hi)
    exact ⟨cs', _, h2⟩
  refine ⟨some ⟨b, off, none⟩, b, off, m, (List.range len).map (fun i => (V i).1), (List.range len).map (fun i => (V i).2), by rw [List.length_map, List.length_range], fun _ => ⟨rfl, hbw⟩, ⟨by simp, fun i f l hf hl2 => ?_⟩, fun f hf => ?_, by simpa using hlen, fun f hf => ?_⟩
  · obtain ⟨hi, rfl⟩ := hget i f hf
    have hl3 : l = (V i).2 := by
      rw [List.getElem?_map, List.getElem?_range hi] at hl2
      simpa using hl2.symm
    subst hl3
    obtain ⟨cs', _, h2⟩ := hV i hi
    have c0 := hcell i hi 0 _ rfl
    have c1 := hcell i hi 1 _ rfl
    have c2 := hcell i hi 2 _ rfl
    rw [addr_add, addr_add] at c0 c1 c2
    exact ⟨c0, c1, c2, h2.loc, h2.view⟩
  · obtain ⟨_, _, h2⟩ := hone f hf
    exact ⟨h2.psize, h2.bsize⟩
  · obtain ⟨_, _, h2⟩ := hone f hf
    exact h2.byte
theorem setting_open {H : Type} {enc : TypeId × Value → H} {W : World} {fuel : Nat} {cs : List Value} {x : DataW H × List MemPlace}
    (h : DataW.trod enc Tryz.prog W 0 (fun _ => true) true fuel 26 cs = some x) (hw : ∀ n ∈ x.1.weights Tryz.prog 26, n ≤ reachBytes) :
    ∃ lp lf lo li lb fa fb foff fcap FZ LS, OpenSetting W cs lp lf lo li lb fa fb foff fcap FZ LS := by
  obtain ⟨y0, y1, n, rfl, hl, h0, h1⟩ := trod_struct2 Tryz.underlying26 h
  rw [cells_setting] at hl
  obtain ⟨v0, v1, v2, v3, v4, v5, rfl⟩ := list6' hl
  have hw2 : ∀ n ∈ DataW.weightsEach Tryz.prog [23, 24] [y0.1, y1.1], n ≤ reachBytes := fun n hn => hw n (by rw [weights_agg Tryz.underlying26]; exact hn)
  clear hw
  change DataW.trod enc Tryz.prog W 0 _ true n 23 (List.take (Tryz.prog.cellsOf 23) (List.drop 0 [v0, v1, v2, v3, v4, v5])) = some y0 at h0
  change DataW.trod enc Tryz.prog W 0 _ true n 24 (List.take (Tryz.prog.cellsOf 24) (List.drop 5 [v0, v1, v2, v3, v4, v5])) = some y1 at h1
  rw [cells_lims] at h0
  rw [cells_files] at h1
  have h0' : DataW.trod enc Tryz.prog W 0 (fun _ => true) true n 23 [v0, v1, v2, v3, v4] = some y0 := h0
  obtain ⟨xs, k, rfl, hx, hl5, hxl, hel⟩ := DataW.trod_struct Tryz.underlying23 h0'
  obtain ⟨x0, x1, x2, x3, x4, rfl⟩ := list5' (show xs.length = 5 from hxl)
  have e0 := hel 0 _ rfl
  have e1 := hel 1 _ rfl
  have e2 := hel 2 _ rfl
  have e3 := hel 3 _ rfl
  have e4 := hel 4 _ rfl
  change DataW.trod enc Tryz.prog W 0 _ true k 3 (List.take (Tryz.prog.cellsOf 3) (List.drop 0 [v0, v1, v2, v3, v4])) = some x0 at e0
  change DataW.trod enc Tryz.prog W 0 _ true k 3 (List.take (Tryz.prog.cellsOf 3) (List.drop 1 [v0, v1, v2, v3, v4])) = some x1 at e1
  change DataW.trod enc Tryz.prog W 0 _ true k 3 (List.take (Tryz.prog.cellsOf 3) (List.drop 2 [v0, v1, v2, v3, v4])) = some x2 at e2
  change DataW.trod enc Tryz.prog W 0 _ true k 3 (List.take (Tryz.prog.cellsOf 3) (List.drop 3 [v0, v1, v2, v3, v4])) = some x3 at e3
  change DataW.trod enc Tryz.prog W 0 _ true k 3 (List.take (Tryz.prog.cellsOf 3) (List.drop 4 [v0, v1, v2, v3, v4])) = some x4 at e4
  rw [cells_int] at e0 e1 e2 e3 e4
  obtain ⟨n0, f0, g0, _⟩ := DataW.trod_int Tryz.underlying3 (show DataW.trod _ _ _ _ _ _ k 3 [v0] = some x0 from e0)
  obtain ⟨n1, f1, g1, _⟩ := DataW.trod_int Tryz.underlying3 (show DataW.trod _ _ _ _ _ _ k 3 [v1] = some x1 from e1)
  obtain ⟨n2, f2, g2, _⟩ := DataW.trod_int Tryz.underlying3 (show DataW.trod _ _ _ _ _ _ k 3 [v2] = some x2 from e2)
  obtain ⟨n3, f3, g3, _⟩ := DataW.trod_int Tryz.underlying3 (show DataW.trod _ _ _ _ _ _ k 3 [v3] = some x3 from e3)
  obtain ⟨n4, f4, g4, _⟩ := DataW.trod_int Tryz.underlying3 (show DataW.trod _ _ _ _ _ _ k 3 [v4] = some x4 from e4)
  simp only [List.cons.injEq, and_true] at f0 f1 f2 f3 f4
  subst f0 f1 f2 f3 f4
  obtain ⟨fa, fb, foff, fcap, FZ, LS, rfl, b1, b2, b3, b4, b5⟩ := files_open (show DataW.trod _ _ _ _ _ _ (k + 1) 24 [v5] = some y1 from h1) (fun n hn => hw2 n (DataW.weights_mem_each (j := 1) rfl rfl n hn))
  exact ⟨n0, n1, n2, n3, n4, fa, fb, foff, fcap, FZ, LS, rfl, b1, b2, b3, b4, b5⟩
end Go.Proofs.YtkokiefclmbgaaaGreatDoor
