import Derived.Test.YtkokiefclmbgaaaGreatDoorBootsProofG23
/- tinyosref: Boot, at limits. -/
namespace Go.Proofs.YtkokiefclmbgaaaGreatDoor
open Go.RowKit
set_option linter.unusedVariables false
set_option linter.unusedSimpArgs false

set_option maxRecDepth 100000 in
set_option maxHeartbeats 4000000 in
theorem refBoot_files (lp lf lo li lb : Int) (pa da ba : Option Addr) (pb poff pcap db doff dcap bb boff bcap : Nat) (FZ : List PFile) (w : World) (h : limsOk lp lf lo li lb) (h0 : li ≠ 0) (hn : FZ.length ≤ 100) (hsum : (FZ.map (fun f => f.bytes.length)).sum ≤ 200000)
    (hpa : 0 < FZ.length → pa = some ⟨pb, poff, none⟩ ∧ da = some ⟨db, doff, none⟩ ∧ ba = some ⟨bb, boff, none⟩) (hf : FilesAt w pb poff db doff bb boff FZ) (hlt : pb < w.heap.size ∧ db < w.heap.size ∧ bb < w.heap.size) (hps : ∀ f ∈ FZ, f.path.size ≤ maxLen ∧ IsBytes f.bytes) :
    Calls Tryz.prog 16 #[.agg #[.int .i64 lp, .int .i64 lf, .int .i64 lo, .int .i64 li, .int .i64 lb], .slice pa FZ.length pcap, .slice da FZ.length dcap, .slice ba FZ.length bcap] w fun e w' => BootPost lp lf lo li lb FZ w e w' := by
  obtain ⟨a1, a2, a3, a4, a5, a6, a7, a8, a9, a10⟩ := h
  have gli : (li == 0) = false := by simpa using h0
  have b1 : decide (lp < 1) = false := decide_eq_false (by omega)
  have b2 : decide (16 < lp) = false := decide_eq_false (by omega)
  have b3 : decide (lf < 1) = false := decide_eq_false (by omega)
  have b4 : decide (1000 < lf) = false := decide_eq_false (by omega)
  have b5 : decide (lo < 0) = false := decide_eq_false (by omega)
  have b6 : decide (100000 < lo) = false := decide_eq_false (by omega)
  have b7 : decide (li < 0) = false := decide_eq_false (by omega)
  have b8 : decide (100000 < li) = false := decide_eq_false (by omega)
  have b9 : decide (lb < 0) = false := decide_eq_false (by omega)
  have b10 : decide (100000 < lb) = false := decide_eq_false (by omega)
  have HF := hide hf
  have HPA := hide hpa
  have HST := hide (fun (j : Nat) (f : PFile) (hf : FZ[j]? = some f) => boot_step lp lf lo li lb FZ w j f hf hn hsum hps)
  obtain ⟨o1, ho1⟩ : ∃ o, o = Obj.cells #[.int .i64 lp, .int .i64 lf, .int .i64 lo, .int .i64 li, .int .i64 lb] 59 := ⟨_, rfl⟩
  obtain ⟨W0, hW0⟩ : ∃ W0, W0 = (w.alloc o1).alloc (Obj.cells ((rk0 lp lf lo li lb).cells (.slice none 0 0)).toArray 71) := ⟨_, rfl⟩
  have hk0 : Holds W0 (w.heap.size + 1) 71 ((rk0 lp lf lo li lb).cells (.slice none 0 0)) := by
    have hh := Holds.new (w.alloc o1) 71 ((rk0 lp lf lo li lb).cells (.slice none 0 0))
    rw [show (w.alloc o1).heap.size = w.heap.size + 1 from by simp] at hh
    rw [hW0]; exact hh
  have hb0 : Below w.heap.size w W0 := by rw [hW0]; exact ((Below.refl _ _).alloc (Nat.le_refl _) _).alloc (by simp) _
  have hs0 : W0.heap.size = w.heap.size + 2 := by rw [hW0]; simp
  have HFR := hide (refFresh_any (w.heap.size + 2) (w.heap.size + 1) (rk0 lp lf lo li lb) (.slice none 0 0) W0 hk0 (Int.le_refl 0) (by show (0 : Int) ≤ 1000000; decide))
  have HB0 := hide hb0
  have HK0 := hide hk0
  have HS0 := hide hs0
  have HW0 := hide (hW0.trans (by rw [ho1]))
  have HPS := hide hps
  have HSUM := hide hsum
  clear hf hpa hps hsum h0 ho1 hW0 hk0 hb0 hs0 a1 a2 a3 a4 a5 a6 a7 a8 a9 a10
  go_enter Tryz.func16, Tryz.ntmps16
  go_wp2_with fail
  have hfr := unhide HFR
  rw [unhide HW0] at hfr
  refine hfr.mono ?_
  rintro e w1 ⟨rfl, hk1, hg1⟩
  clear hfr HFR
  rw [← unhide HW0] at hg1
  have hs1 : w.heap.size + 2 ≤ w1.heap.size := by have h1 := hg1.size; have h2 := unhide HS0; omega
  have HB1 := hide ((unhide HB0).trans (below_grown (B := w.heap.size) hg1 (by omega) (by have h2 := unhide HS0; omega)))
  have c7 : w1.cell? ⟨w.heap.size + 1, 7, none⟩ = some (.slice none 0 0) := hk1.cell rfl
  have HK1 := hide hk1
  obtain ⟨ii, hii, hz0, hz1, hz2⟩ := info_of inoInfo
  have HII := hide (And.intro hii (And.intro hz0 (And.intro hz1 hz2)))
  have HNW := hide (show ∀ j u, (inoCells root)[j]? = some u → (w1.alloc (Obj.cells (inoCells root).toArray 90)).cell? ((⟨w1.heap.size, 0, none⟩ : Addr).add j) = some u from fun j u hj => by
    rw [addr_add, Nat.zero_add]
    exact (Holds.new w1 90 (inoCells root)).cell hj)
  clear hk1 hg1 hii hz0 hz1 hz2
  simp only [show (rk0 lp lf lo li lb).last + 1 = 1 from rfl]
  go_upto_region 11 with (at_builtin; refine wpList_append_lies _ (by rfl) _ _ 67 (by rfl) (w.heap.size + 2) 90 ii _ 5 64 Tryz.underlying67 (unhide HII).1 (unhide HII).2.1 (unhide HII).2.2.1 (unhide HII).2.2.2 rfl (by decide) _ 0 [] (by rfl) (World.ownsRow_nil _ _ _ _) ⟨w1.heap.size, 0, none⟩ 1 1 (inoCells root) (by rfl) (by rfl) (unhide HNW) (by intro u hu; simp only [inoCells, root, List.mem_cons, List.not_mem_nil, or_false] at hu; rcases hu with rfl | rfl | rfl | rfl | rfl <;> rfl) (by omega) (by unfold maxLen; omega) (by omega) (by simp; omega) (w1.heap.size + 1) (by simp) ?_; intro g5 cap5 w5 hown5 hgrow5 hat5 hlt5; have k5 := ((unhide HK1).alloc (Obj.cells (inoCells root).toArray 90)).grown hgrow5 (by show some (w.heap.size + 1) ≠ none; simp); have x7 := k5.cell (j := 7) rfl; have y7 := k5.frozen 7; have K5 := hide k5; clear k5)
  have hg5 : g5 = w1.heap.size + 1 := by rcases hat5 with h | h; simp [Value.ownBlock] at h; exact h
  have hr6 : RepK (w5.setCell ⟨w.heap.size + 1, 7, none⟩ (.slice (some ⟨g5, 0, none⟩) 1 cap5)) (w.heap.size + 2) (w.heap.size + 1) g5 cap5 (rk1 lp lf lo li lb) := by
    refine ⟨(unhide K5).set 7 _, ?_⟩
    exact hown5.kept (grown_set (World.grownBy.refl w5 (some (w.heap.size + 1))) 7 _) (.inr (by show some g5 ≠ some (w.heap.size + 1); simp; omega))
  have hb6 : Below w.heap.size w (w5.setCell ⟨w.heap.size + 1, 7, none⟩ (.slice (some ⟨g5, 0, none⟩) 1 cap5)) :=
    (((unhide HB1).alloc (by omega) _).grown hgrow5 (by simp; omega) (by intro q h; simp [Value.ownBlock] at h)).setCell (p := ⟨w.heap.size + 1, 7, none⟩) (Nat.le_succ _) _
  have HR0 := hide (show BootR lp lf lo li lb w FZ 0 (w5.setCell ⟨w.heap.size + 1, 7, none⟩ (.slice (some ⟨g5, 0, none⟩) 1 cap5)) from ⟨rk1 lp lf lo li lb, [[]], g5, cap5, hr6, ⟨rfl, fun i x c hx hc => by
      match i, hx, hc with
      | 0, hx, hc =>
        have e1 : root = x := by simpa [rk1] using hx
        have e2 : [] = c := by simpa using hc
        subst e1 e2
        exact .inl ⟨rfl, rfl⟩
      | (m + 1), hx, _ => simp [rk1] at hx⟩, rk1_inv lp lf lo li lb, rfl, rfl, isBytes_nils, by simp [usedOf], by simp [rk1], by simp [rk1], hb6⟩)
  clear hown5 hgrow5 hat5 hr6 hb6 x7 y7 c7 hg5 hlt5
  go_loopw [12] (fun i wr => ∃ (j : Nat), j ≤ FZ.length ∧ i = .int .i64 j ∧ Hid (BootR lp lf lo li lb w FZ j wr)) (fun i _ => FZ.length - (intOf i).toNat)
  case atStart => exact ⟨0, by omega, rfl, HR0⟩
  case round =>
    obtain ⟨j, hj, rfl, HR⟩ := hrel
    by_cases hlt2 : j < FZ.length
    · obtain ⟨f, hf⟩ : ∃ f, FZ[j]? = some f := ⟨_, List.getElem?_eq_getElem hlt2⟩
      obtain ⟨e1, e2, e3⟩ := (unhide HPA) (by omega)
      subst e1 e2 e3
      obtain ⟨a, q, o, c, hcb, haq, hbv⟩ := (unhide HF).bytes j f hf
      obtain ⟨k, cs, g, cap, hba⟩ := unhide HR
      have d1 : wr.cell? ⟨pb, poff + j, none⟩ = some (.string f.path) := by rw [hba.below.cell (p := ⟨pb, poff + j, none⟩) hlt.1]; exact (unhide HF).path j f hf
      have d2 : wr.cell? ⟨db, doff + j, none⟩ = some (.bool f.dir) := by rw [hba.below.cell (p := ⟨db, doff + j, none⟩) hlt.2.1]; exact (unhide HF).dir j f hf
      have d3 : wr.cell? ⟨bb, boff + j, none⟩ = some (.slice a f.bytes.length c) := by rw [hba.below.cell (p := ⟨bb, boff + j, none⟩) hlt.2.2]; exact hcb
      have hj0 : (0 : Int) ≤ (j : Int) := by omega
      have hj1 : (j : Int) < (FZ.length : Int) := by omega
      have HFD := hide (unhide HST j f hf a q o c haq hbv wr.drew (unhide HR).drew)
      clear hba hf hcb haq hbv
      go_wp2
      go_region_with (go_at_call 29; refine (unhide HFD).mono ?_; rintro e w7 ⟨c1, rfl, hb7, hne, hok⟩; have HB7 := hide hb7; have HNE := hide hne; have HOK := hide hok; clear hb7 hne hok)
      all_goals
        by_cases hz : c1 = 0
        · subst hz
          have HR7 := hide (unhide HOK rfl)
          clear HOK HNE
          go_wp2
          go_roundw
          case rel => first | exact ⟨j + 1, by omega, by go_num, HR7⟩ | ((repeat apply Exists.intro); exact ⟨⟨j + 1, by omega, by go_num, HR7⟩, rfl⟩)
          case measure => simp [intOf]; omega
        · have hz2 : (c1 != 0) = true := by simpa using hz
          have HX := hide (show BootErr lp lf lo li lb FZ c1 from .inl (by rw [unhide HNE hz]; exact ⟨hz, rfl⟩))
          clear hz HOK HNE
          go_wp2
          go_ret2
          exact ⟨unhide HB7, .inl ⟨c1, unhide HX, rfl⟩⟩
    · have hje : j = FZ.length := by omega
      subst hje
      obtain ⟨k, cs, g, cap, hba⟩ := unhide HR
      have hwl := hba.below.size
      have hgl := hba.rep.2.lt g rfl
      obtain ⟨W8, hW8⟩ : ∃ W8, W8 = wr.alloc (Obj.cells proc1.toArray 83) := ⟨_, rfl⟩
      have hs8 : W8.heap.size = wr.heap.size + 1 := by rw [hW8]; simp
      have hkb8 : Holds W8 (w.heap.size + 1) 71 (k.cells (.slice (some ⟨g, 0, none⟩) k.inos.length cap)) := by rw [hW8]; exact hba.rep.1.alloc _
      have hp8 : Holds W8 wr.heap.size 83 proc1 := by rw [hW8]; exact Holds.new wr 83 proc1
      have c5 : W8.cell? ⟨w.heap.size + 1, 5, none⟩ = some (.slice none 0 0) := by rw [← hba.nils.pv]; exact hkb8.cell rfl
      have f5 := hkb8.frozen 5
      have hl8 : w.heap.size + 1 < W8.heap.size := by omega
      have hm8 : W8.heap.size ≠ w.heap.size + 1 := by omega
      have hm9 : w.heap.size + 1 ≠ W8.heap.size := by omega
      obtain ⟨ip, hip, hp0, hp1, hp2⟩ := info_of procInfo
      have HIP := hide (And.intro hip (And.intro hp0 (And.intro hp1 hp2)))
      obtain ⟨PP, hPP⟩ : ∃ PP, PP = proc1 := ⟨_, rfl⟩
      have hpn : PP.length = 31 := by rw [hPP]; rfl
      have HP1 := hide (show ∀ u ∈ PP, u.oneCell' = true from by rw [hPP]; exact proc1_one)
      have HPZ := hide (show (Tryz.prog.info? 83).map (·.size) = some PP.length from by rw [hPP]; exact procSize)
      have HPP := hide hPP
      have HR8 := hide (show W8.drew.rangeAt wr.heap.size 0 PP from by rw [World.rangeAt_drew, hPP]; exact hp8.range)
      have HNP := hide (show ∀ (W : World) (j : Nat) (u : Value), PP[j]? = some u → (W.alloc (Obj.cells PP.toArray 83)).cell? ((⟨W.heap.size, 0, none⟩ : Addr).add j) = some u from fun W j u hj => by
        rw [addr_add, Nat.zero_add]
        exact (Holds.new W 83 PP).cell hj)
      have HK8 := hide hkb8
      have HS8 := hide hs8
      have HW8 := hide hW8
      simp only [proc1, regs0, List.replicate, List.cons_append, List.nil_append] at hW8
      have HWL := hide hW8
      have HBA := hide hba
      clear hba HR hlt2 hj hkb8 hs8 hW8 hp8 hPP hip hp0 hp1 hp2
      go_upto_region 21 with fail
      rw [← unhide HWL]
      refine act_gen ?_
      intro A hA
      have e10 : A.eval (.tmp 10) = .pointer (some ⟨w.heap.size + 1, 0, none⟩) := by rw [hA]; rfl
      have e14 : A.eval (.tmp 14) = .pointer (some ⟨wr.heap.size, 0, none⟩) := by rw [hA]; rfl
      have esz : A.tmps.size = 137 := by rw [hA]; rfl
      have HA := hide hA
      clear hA
      refine wp_region_held_drew (S := fun w' => w'.rangeAt wr.heap.size 0 PP) (by kernel_rfl) (unhide HR8) (fun hS => ?_)
      refine takeH (i := 0) (some 112) rfl rfl (by kernel_rfl) (by kernel_rfl) (by kernel_rfl) (fun _ _ _ h => h) (yields_move rfl _ rfl _ e10) hS ?_
      refine takeH (i := 1) (some 113) rfl rfl (by kernel_rfl) (by kernel_rfl) (by kernel_rfl) (fun _ _ _ h => h) (yields_move rfl _ rfl _ ((put_other (by decide)).trans e10)) hS ?_
      refine takeH (i := 2) (some 114) rfl rfl (by kernel_rfl) (by kernel_rfl) (by kernel_rfl) (fun _ _ _ h => h) (yields_nil rfl _ rfl _ (put_same (by simp only [put_size, esz]; decide))) hS ?_
      refine takeH (i := 3) (some 115) rfl rfl (by kernel_rfl) (by kernel_rfl) (by kernel_rfl) (fun _ _ _ h => h) (yields_procs rfl _ rfl _ (put_same (by simp only [put_size, esz]; decide))) hS ?_
      refine takeH (i := 5) (some 117) rfl rfl (by kernel_rfl) (by kernel_rfl) (by kernel_rfl) (fun _ _ _ h => h) (yieldsIf_load_mid (by simp [Region.wanted]) _ _ rfl wr.heap.size 0 ((put_other (by decide)).trans ((put_other (by decide)).trans ((put_other (by decide)).trans ((put_other (by decide)).trans e14)))) PP _ (fun w h => h) Tryz.underlying83 rfl (unhide HPZ)) hS ?_
      obtain ⟨A1, hA1⟩ : ∃ A1, A1 = ((((A.put (some 112) (.pointer (some ⟨w.heap.size + 1, 0, none⟩))).put (some 113) (.pointer (some ⟨w.heap.size + 1, 0, none⟩))).put (some 114) (.pointer (some ⟨w.heap.size + 1, 0, none⟩))).put (some 115) (.pointer (some ⟨w.heap.size + 1, 5, none⟩))).put (some 117) (.agg PP.toArray) := ⟨_, rfl⟩
      rw [← hA1]
      have a112 : A1.eval (.tmp 112) = .pointer (some ⟨w.heap.size + 1, 0, none⟩) := by rw [hA1]; exact (put_other (by decide)).trans ((put_other (by decide)).trans ((put_other (by decide)).trans ((put_other (by decide)).trans (put_same (by simp only [put_size, esz]; decide)))))
      have a115 : A1.eval (.tmp 115) = .pointer (some ⟨w.heap.size + 1, 5, none⟩) := by rw [hA1]; exact (put_other (by decide)).trans (put_same (by simp only [put_size, esz]; decide))
      have a117 : A1.eval (.tmp 117) = .agg PP.toArray := by rw [hA1]; exact put_same (by simp only [put_size, esz]; decide)
      have s1 : A1.tmps.size = 137 := by rw [hA1]; simp only [put_size, esz]
      have HA1 := hide hA1
      clear hA1 e10 e14 esz
      have HLD := hide (show ∀ W : World, W.cell? ⟨w.heap.size + 1, 5, none⟩ = some (.slice none 0 0) → (Instr.loadAt 65 (.pointer (some ⟨w.heap.size + 1, 5, none⟩))).run Tryz.prog W = .ok (.slice none 0 0) W from fun W hW => by go_simp)
      have HSA := hide (rangeAt_fresh W8.drew wr.heap.size 0 PP (Obj.cells PP.toArray 83) (unhide HR8))
      have HC5 := hide (show W8.drew.cell? ⟨w.heap.size + 1, 5, none⟩ = some (.slice none 0 0) from c5)
      refine wpAnyH_ready (rs := [4, 6]) (by kernel_rfl) (by simp) (AllReadyH.cons rfl (fun K hK => ?_) (AllReadyH.cons rfl (fun K hK => ?_) AllReadyH.nil))
      case' refine_1 =>
        refine step_cell rfl _ _ rfl _ a115 (.slice none 0 0) (unhide HLD W8.drew (unhide HC5)) (some 116) rfl ?_
        refine hK.out _ _ hS (fun _ => ?_)
        clear hK K
        refine wpAnyH_ready (rs := [6]) (by kernel_rfl) (by simp) (AllReadyH.cons rfl (fun K hK => ?_) AllReadyH.nil)
        refine step_slice1 rfl _ _ _ rfl PP ((put_other (by decide)).trans a117) ip _ Tryz.underlying65 (unhide HIP).1 (unhide HIP).2.1 ((unhide HIP).2.2.1.trans hpn.symm) (by omega) (by omega) W8.heap.size rfl (some 118) rfl ?_
        refine hK.out _ _ (unhide HSA) (fun _ => ?_)
        clear hK K
        obtain ⟨A2, hA2⟩ : ∃ A2, A2 = (A1.put (some 116) (.slice none 0 0)).put (some 118) (.slice (some ⟨W8.heap.size, 0, none⟩) 1 1) := ⟨_, rfl⟩
        rw [← hA2]
        have a112' : A2.eval (.tmp 112) = .pointer (some ⟨w.heap.size + 1, 0, none⟩) := by rw [hA2]; exact (put_other (by decide)).trans ((put_other (by decide)).trans a112)
        have a116 : A2.eval (.tmp 116) = .slice none 0 0 := by rw [hA2]; exact (put_other (by decide)).trans (put_same (by rw [s1]; decide))
        have a118 : A2.eval (.tmp 118) = .slice (some ⟨W8.heap.size, 0, none⟩) 1 1 := by rw [hA2]; exact put_same (by simp only [put_size, s1]; decide)
        have s2 : A2.tmps.size = 137 := by rw [hA2]; simp only [put_size, s1]
        have HA2 := hide hA2
        clear hA2
      case' refine_2 =>
        refine step_slice1 rfl _ _ _ rfl PP a117 ip _ Tryz.underlying65 (unhide HIP).1 (unhide HIP).2.1 ((unhide HIP).2.2.1.trans hpn.symm) (by omega) (by omega) W8.heap.size rfl (some 118) rfl ?_
        refine hK.out _ _ (unhide HSA) (fun _ => ?_)
        clear hK K
        refine wpAnyH_ready (rs := [4]) (by kernel_rfl) (by simp) (AllReadyH.cons rfl (fun K hK => ?_) AllReadyH.nil)
        refine step_cell rfl _ _ rfl _ ((put_other (by decide)).trans a115) (.slice none 0 0) (unhide HLD _ (by rw [World.cell?_alloc_lt _ _ _ hl8]; exact unhide HC5)) (some 116) rfl ?_
        refine hK.out _ _ (unhide HSA) (fun _ => ?_)
        clear hK K
        obtain ⟨A2, hA2⟩ : ∃ A2, A2 = (A1.put (some 118) (.slice (some ⟨W8.heap.size, 0, none⟩) 1 1)).put (some 116) (.slice none 0 0) := ⟨_, rfl⟩
        rw [← hA2]
        have a112' : A2.eval (.tmp 112) = .pointer (some ⟨w.heap.size + 1, 0, none⟩) := by rw [hA2]; exact (put_other (by decide)).trans ((put_other (by decide)).trans a112)
        have a116 : A2.eval (.tmp 116) = .slice none 0 0 := by rw [hA2]; exact put_same (by simp only [put_size, s1]; decide)
        have a118 : A2.eval (.tmp 118) = .slice (some ⟨W8.heap.size, 0, none⟩) 1 1 := by rw [hA2]; exact (put_other (by decide)).trans (put_same (by rw [s1]; decide))
        have s2 : A2.tmps.size = 137 := by rw [hA2]; simp only [put_size, s1]
        have HA2 := hide hA2
        clear hA2
      all_goals
        refine wpAnyH_ready (rs := [7]) (by kernel_rfl) (by simp) (AllReadyH.cons rfl (fun K hK => ?_) AllReadyH.nil)
        refine step_append_lies _ rfl _ _ 65 rfl (w.heap.size + 2) 83 ip _ 31 264 Tryz.underlying65 (unhide HIP).1 (unhide HIP).2.1 (unhide HIP).2.2.1 (unhide HIP).2.2.2 rfl (by decide) _ 0 [] a116 (World.ownsRow_nil _ _ _ _) ⟨W8.heap.size, 0, none⟩ 1 1 PP a118 (by rw [hpn]) (unhide HNP W8.drew) (unhide HP1) (by omega) (by unfold maxLen; omega) (by omega) (by simp; omega) (W8.heap.size + 1) (by simp) ?_
        intro g9 cap9 w9 hown9 hgrow9 hat9 hlt9
        have hg9 : g9 = W8.heap.size + 1 := by rcases hat9 with h | h; simp [Value.ownBlock] at h; exact h
        have hS9 : w9.rangeAt wr.heap.size 0 PP := rangeAt_grown (unhide HSA) hgrow9 (by simp [Value.ownBlock])
        refine hK.out _ _ hS9 (fun _ => ?_)
        clear hK K
        change wpAnyH _ _ _ _ _ _ _ (A2.put (some 119) (.slice (some ⟨g9, 0, none⟩) 1 cap9)) _
        obtain ⟨A3, hA3⟩ : ∃ A3, A3 = A2.put (some 119) (.slice (some ⟨g9, 0, none⟩) 1 cap9) := ⟨_, rfl⟩
        rw [← hA3]
        have b112 : A3.eval (.tmp 112) = .pointer (some ⟨w.heap.size + 1, 0, none⟩) := by rw [hA3]; exact (put_other (by decide)).trans a112'
        have b119 : A3.eval (.tmp 119) = .slice (some ⟨g9, 0, none⟩) 1 cap9 := by rw [hA3]; exact put_same (by rw [s2]; decide)
        have s3 : A3.tmps.size = 137 := by rw [hA3]; simp only [put_size, s2]
        have HA3 := hide hA3
        clear hA3
        refine takeH (i := 8) (some 120) rfl rfl (by kernel_rfl) (by kernel_rfl) (by kernel_rfl) (fun _ _ _ h => h) (yields_nil rfl _ rfl _ b112) hS9 ?_
        refine takeH (i := 9) (some 121) rfl rfl (by kernel_rfl) (by kernel_rfl) (by kernel_rfl) (fun _ _ _ h => h) (yields_procs rfl _ rfl _ (put_same (by rw [s3]; decide))) hS9 ?_
        refine wpAnyH_ready (rs := [10]) (by kernel_rfl) (by simp) (AllReadyH.cons rfl (fun K hK => ?_) AllReadyH.nil)
        have k9 : Holds w9 (w.heap.size + 1) 71 (k.cells (.slice (some ⟨g, 0, none⟩) k.inos.length cap)) := (((unhide HK8).heap (W' := W8.drew) rfl).alloc (Obj.cells PP.toArray 83)).grown hgrow9 (by show some (w.heap.size + 1) ≠ none; simp)
        have hst : (Instr.storeAt 65 (.pointer (some ⟨w.heap.size + 1, 5, none⟩)) (.slice (some ⟨g9, 0, none⟩) 1 cap9)).run Tryz.prog w9 = .ok () (w9.setCell ⟨w.heap.size + 1, 5, none⟩ (.slice (some ⟨g9, 0, none⟩) 1 cap9)) := by
          have x5 := k9.cell (j := 5) rfl
          have y5 := k9.frozen 5
          go_simp
        refine step_store1 rfl _ _ _ rfl ⟨w.heap.size + 1, 5, none⟩ (.slice (some ⟨g9, 0, none⟩) 1 cap9) (put_same (by simp only [put_size, s3]; decide)) ((put_other (by decide)).trans ((put_other (by decide)).trans b119)) hst rfl ?_
        have hwk : w.heap.size + 1 ≠ wr.heap.size := by have := hgl; omega
        refine hK.out _ _ (rangeAt_grown hS9 (grown_set (World.grownBy.refl w9 (some (w.heap.size + 1))) 5 _) (by simp; omega)) (fun _ => ?_)
        clear hK K
        refine wpAnyH_done (by kernel_rfl) ?_ _
        obtain ⟨W10, hW10⟩ : ∃ W10, W10 = w9.setCell ⟨w.heap.size + 1, 5, none⟩ (.slice (some ⟨g9, 0, none⟩) 1 cap9) := ⟨_, rfl⟩
        have k10 : Holds W10 (w.heap.size + 1) 71 ({k with pv := .slice (some ⟨g9, 0, none⟩) 1 cap9}.cells (.slice (some ⟨g, 0, none⟩) k.inos.length cap)) := by rw [hW10]; exact k9.set 5 _
        have g10 : wr.grownBy W10 (some (w.heap.size + 1)) := by
          rw [hW10]
          refine grown_set (World.grownBy.trans (b := W8.drew.alloc (Obj.cells PP.toArray 83)) ?_ ⟨hgrow9.os, hgrow9.tape, hgrow9.output, hgrow9.size, fun i hi _ => hgrow9.block i hi (by simp [Value.ownBlock])⟩) 5 _
          refine World.grownBy.trans (b := W8.drew) ?_ (World.grownBy_alloc _ _ _)
          rw [unhide HW8]
          have hx := World.grownBy_alloc wr (Obj.cells proc1.toArray 83) (some (w.heap.size + 1))
          exact ⟨hx.os, hx.tape, hx.output, hx.size, hx.block⟩
        have o10 : W10.ownsRow (w.heap.size + 2) 83 31 (.slice (some ⟨g9, 0, none⟩) 1 cap9) 1 proc1 := by
          rw [hW10, ← unhide HPP]
          exact hown9.kept (grown_set (World.grownBy.refl w9 (some (w.heap.size + 1))) 5 _) (.inr (by show some g9 ≠ some (w.heap.size + 1); simp; omega))
        have c10 : W10.cell? ⟨w.heap.size + 1, 5, none⟩ = some (.slice (some ⟨g9, 0, none⟩) 1 cap9) := k10.cell rfl
        rw [← hW10]
        have hs9 := hgrow9.size
        have hs10 : w9.heap.size = W10.heap.size := by rw [hW10]; simp
        have hg9l : wr.heap.size ≤ g9 := by have := unhide HS8; omega
        have HEX := hide (boot_exec lp lf lo li lb FZ w wr hn (unhide HSUM) k cs g cap (unhide HBA) (W10.alloc (Obj.cells #[.string initArg] 9)) g9 cap9 (g10.trans (World.grownBy_alloc _ _ _)) (k10.alloc _) (o10.alloc _) hg9l W10.heap.size 1 (by simp) (by have := (Holds.new W10 9 [.string initArg]).cell (j := 0) rfl; exact this))
        rw [unhide HA3, unhide HA2, unhide HA1, unhide HA]
        simp only [Act.put, List.setIfInBounds_toArray, List.set_cons_zero, List.set_cons_succ]
        clear hgrow9 hat9 hlt9 hg9 hS9 hs9 hs10 k9 k10 g10 o10 hown9 hst hW10 HA HA1 HA2 HA3 s1 s2 s3 a112 a115 a117 a112' a116 a118 b112 b119 hS
        go_wp2_with fail
        refine (unhide HEX).mono ?_
        rintro e w11 ⟨c1, rfl, hb11, hne, hok⟩
        have HB11 := hide hb11
        have HNE := hide hne
        have HOK := hide hok
        clear hb11 hne hok HEX
        by_cases hz : c1 = 0
        · subst hz
          have HOK2 := hide (unhide HOK rfl)
          clear HOK HNE
          go_wp2
          go_ret2
          exact ⟨unhide HB11, .inr ⟨(unhide HOK2).1, rfl, (unhide HOK2).2⟩⟩
        · have hz2 : (c1 != 0) = true := by simpa using hz
          have HX := hide (unhide HNE hz)
          clear hz HOK HNE
          go_wp2
          go_ret2
          exact ⟨unhide HB11, .inl ⟨c1, unhide HX, rfl⟩⟩
end Go.Proofs.YtkokiefclmbgaaaGreatDoor
