import Derived.Test.YtkmbleboceedbaaGreatDoorBootsProofG15
import Derived.Test.YtkmbleboceedbaaGreatDoorBootsProofG17
import Derived.Deep.RegionHeld3
import Derived.Deep.RegionLaw
import Derived.Deep.AppendLies
import Derived.Test.YtkmbleboceedbaaGreatDoorBootsProofG14
import Derived.Test.YtkmbleboceedbaaGreatDoorBootsProofG10
/- exe.Load. -/
namespace Go.Proofs.YtkmbleboceedbaaGreatDoor
open Go.RowKit
set_option linter.unusedVariables false
set_option linter.unusedSimpArgs false

def noPlan : Value := .agg #[.int .u64 0, .slice none 0 0]
def errPlan (c : Int) : Ending := .returned (.tuple #[noPlan, .iface 45 (.int .i64 c)])
/-- How many segments the file tells of. -/
def segCount (B : List Int) : Nat := (numAt B 56 2).toNat
def AllOk (B : List Int) : Prop := ∀ i, i < segCount B → SegOk B (64 + 56 * i)
def Sorted (ss : List Seg) : Prop := ∀ i j, i < j → j < ss.length → (ss.getD i seg0).addr ≤ (ss.getD j seg0).addr
/-- The pages of all segments, in their order. -/
def allPgs (B : List Int) (ss : List Seg) : List Pg := ss.flatMap fun s => segPgs B s s.count
def LoadPost (B : List Int) (w : World) (e : Ending) (w' : World) : Prop :=
  (¬ HdrOk B ∧ e = errPlan 2 ∨ HdrOk B ∧ ¬ AllOk B ∧ e = errPlan 3 ∨
   HdrOk B ∧ AllOk B ∧ ∃ ss : List Seg, ss.Perm (segsUpTo B (segCount B)) ∧ Sorted ss ∧
     ((∃ i, i + 1 < ss.length ∧ ovAt ss i) ∧ e = errPlan 4 ∨
      (∀ i, i + 1 < ss.length → ¬ ovAt ss i) ∧ (¬ entOk (numAt B 24 8) ss ∧ e = errPlan 5 ∨
        entOk (numAt B 24 8) ss ∧ ∃ g gc, e = .returned (.tuple #[.agg #[.int .u64 (numAt B 24 8), .slice (some ⟨g, 0, none⟩) (allPgs B ss).length gc], .nilIface]) ∧ w'.ownsRow w.heap.size 87 258 (.slice (some ⟨g, 0, none⟩) (allPgs B ss).length gc) (allPgs B ss).length (apiRow (allPgs B ss))))) ∧ Below w.heap.size w w'

/-- The result's cell written with the empty plan: as it was. -/
theorem plan_set {W w : World} {p : Nat} (h : Holds W p 185 [.int .u64 0, .slice none 0 0]) (hb : Below p w W) :
    ((W.setCell ⟨p, 0, none⟩ (.int .u64 0)).setCell ⟨p, 1, none⟩ (.slice none 0 0)).cell? ⟨p, 0, none⟩ = some (.int .u64 0) ∧ ((W.setCell ⟨p, 0, none⟩ (.int .u64 0)).setCell ⟨p, 1, none⟩ (.slice none 0 0)).cell? ⟨p, 1, none⟩ = some (.slice none 0 0) ∧
    Below p w ((W.setCell ⟨p, 0, none⟩ (.int .u64 0)).setCell ⟨p, 1, none⟩ (.slice none 0 0)) :=
  have h2 := (h.set 0 (.int .u64 0)).set 1 (.slice none 0 0)
  ⟨h2.cell rfl, h2.cell rfl, (hb.setCell (p := ⟨p, 0, none⟩) (Nat.le_refl _) _).setCell (p := ⟨p, 1, none⟩) (Nat.le_refl _) _⟩
theorem segFit_of {B : List Int} (hB : IsBytes B) {p : Nat} (h : SegOk B p) : SegFit B (segAt B p) :=
  ⟨(numAt_8 hB _ _ (by omega)).1, (numAt_8 hB _ _ (by omega)).1, (numAt_8 hB _ _ (by omega)).1, h.2.2.1, h.2.2.2.1, h.2.2.2.2.1, h.2.2.2.2.2.2⟩
theorem fits_all {B : List Int} (hB : IsBytes B) {n : Nat} (h : ∀ i, i < n → SegOk B (64 + 56 * i)) {ss : List Seg} (hp : ss.Perm (segsUpTo B n)) : ∀ s ∈ ss, SegFit B s := by
  intro s hs
  have := hp.mem_iff.1 hs
  obtain ⟨i, hi, rfl⟩ := List.mem_map.1 this
  exact segFit_of hB (h i (by simpa using hi))
theorem allPgs_step (B : List Int) (ss : List Seg) (k : Nat) (s : Seg) (h : ss[k]? = some s) : allPgs B (ss.take (k + 1)) = allPgs B (ss.take k) ++ segPgs B s s.count := by
  have : ss.take (k + 1) = ss.take k ++ [s] := by rw [List.take_add_one, h]; rfl
  rw [this, allPgs, List.flatMap_append]; simp [allPgs]
theorem apiRow_append (a b : List Pg) : apiRow (a ++ b) = apiRow a ++ apiRow b := by simp [apiRow]
theorem count_pos {B : List Int} {s : Seg} (h : SegFit B s) : 1 ≤ s.count ∧ s.count ≤ 255 := by
  obtain ⟨a0, o0, i0, m1, hfm, hfit, htop⟩ := h
  unfold Seg.count Seg.last Seg.first
  omega
theorem allPgs_le {B : List Int} {ss : List Seg} (h : ∀ s ∈ ss, SegFit B s) : (allPgs B ss).length ≤ ss.length * 255 := by
  induction ss with
  | nil => simp [allPgs]
  | cons s r ih =>
    have h1 := ih (fun x hx => h x (List.mem_cons_of_mem _ hx))
    have h2 := (count_pos (h s List.mem_cons_self)).2
    have e : allPgs B (s :: r) = segPgs B s s.count ++ allPgs B r := by simp [allPgs]
    rw [e, List.length_append, segPgs_length, List.length_cons]
    omega
theorem own_below {W w7 : World} {base size n : Nat} {e : TypeId} {v : Value} {xs : List Value} (h : W.ownsRow base e size v n xs) (hb : Hid (Below W.heap.size W w7)) : w7.ownsRow base e size v n xs :=
  h.kept (row := none) ⟨(unhide hb).os, (unhide hb).tape, (unhide hb).output, (unhide hb).size, fun k hk _ => (unhide hb).block k hk⟩ (by
    cases hv : Value.ownBlock v with
    | none => exact .inl rfl
    | some q => exact .inr (by simp))
theorem step_call1 {P : Program} {ops : Array Oper} {o : Oper} {a : Act} {w : World} {K : Act → World → Prop} {Q : Exit → Act → World → Prop} {E : Prop} (hgd : o.guard = none) (f n : Nat) (t : TypeId)
    (ho : o.op = .call { callee := .value (.func f), args := #[.tmp n], argTypes := #[t] }) (val : Value) (hx : a.eval (.tmp n) = val)
    (he : ∀ args w, (callFunc f args).run P w = .ok (.enter f args) w) (r : Value) (post : World → Prop) (hc : Calls P f #[val] w fun e w' => e = .returned r ∧ post w')
    (h : ∀ w', post w' → K (a.put o.dst r) w') :
    if Region.wanted o (yielded ops a.tmps) = true then Oper.wp P o a w K Q else E := by
  have hw : Region.wanted o (yielded ops a.tmps) = true := by simp [Region.wanted, hgd]
  have hx' : a.tmps[n]?.getD undef = val := by rw [← hx]; simp [go_sem]
  rw [if_pos hw]
  unfold Oper.wp
  simp [execOp, ho, resolve, invoke, hx', Result.andThen, go_sem, he]
  refine hc.mono ?_
  rintro e w' ⟨rfl, hp⟩
  have := h w' hp
  simpa [go_sem] using this
theorem pagesEnter : ∀ args w, (callFunc 103 args).run Tryz.prog w = .ok (.enter 103 args) w := enters_of Tryz.func103 (by kernel_rfl) rfl
theorem own_base {W : World} {base base' size n : Nat} {e : TypeId} {v : Value} {xs : List Value} (h : W.ownsRow base e size v n xs) (hb : base' ≤ base) : W.ownsRow base' e size v n xs := by
  obtain ⟨h1, h2⟩ := h
  refine ⟨h1, ?_⟩
  rcases h2 with h2 | ⟨g, cap, cur, a, b, c⟩
  · exact .inl h2
  · exact .inr ⟨g, cap, cur, a, by omega, c⟩
theorem holds_news {W : World} {p : Nat} {t : TypeId} {news : List Value} (h : Hid (Holds W p t news)) : ∀ j u, news[j]? = some u → W.cell? ((⟨p, 0, none⟩ : Addr).add j) = some u := fun j u hj => by
  rw [addr_add, Nat.zero_add]; exact (unhide h).cell hj
theorem apiRow_one (PS : List Pg) : ∀ v ∈ apiRow PS, v.oneCell' = true := by
  intro v hv
  obtain ⟨p, _, hv⟩ := List.mem_flatMap.1 hv
  simp only [pageRow, List.mem_cons] at hv
  rcases hv with rfl | rfl | hv
  · rfl
  · rfl
  · exact bytesRow_one _ v hv

set_option maxRecDepth 100000 in
set_option maxHeartbeats 2000000 in
theorem load_exe (b off cap : Nat) (B : List Int) (w : World) (hB : IsBytes B) (hcap : B.length ≤ cap) (hlen : B.length ≤ 500000) (hv : BView w b off B) (hbw : b < w.heap.size) (ht : w.rangeAt 1 0 tblRow) (hgw : 1 < w.heap.size) :
    Calls Tryz.prog 66 #[.slice (some ⟨b, off, none⟩) B.length cap] w fun e w' => LoadPost B w e w' := by
  have hal := (Below.refl w.heap.size w).alloc (Nat.le_refl _) (.cells #[.int .u64 0, .slice none 0 0] 185)
  have HH := hide (readHeader_any b off cap B (w.alloc (.cells #[.int .u64 0, .slice none 0 0] 185)) hB (by omega) (by omega) (hv.below hal hbw) (by simp; omega) (fun j v hj => by rw [hal.cell (p := ⟨1, 0 + j, none⟩) hgw]; exact ht j v hj) (by simp; omega))
  have HB := hide hB
  have HV := hide hv
  have HNum := hide (And.intro hcap hlen)
  clear hB hv ht hal hcap hlen
  go_enter Tryz.func66, Tryz.ntmps66
  go_wp2_with fail
  refine (unhide HH).mono ?_
  rintro e w1 ⟨n, ok, rfl, hb1, hok, hn⟩
  have r1 := Holds.new w 185 [.int .u64 0, .slice none 0 0]
  have hR1 := r1.below hb1 (by simp)
  have hbl1 := ((Below.refl w.heap.size w).alloc (Nat.le_refl _) (.cells #[.int .u64 0, .slice none 0 0] 185)).trans (hb1.mono (by simp))
  have hs1 : w.heap.size < w1.heap.size := hR1.lt
  have HR1 := hide hR1
  have HBL1 := hide hbl1
  have HN := hide hn
  have HOK := hide hok
  clear r1 hb1 hR1 hbl1 hn hok HH
  cases ok
  · have c0 : w1.cell? ⟨w.heap.size, 0, none⟩ = some (.int .u64 0) := (unhide HR1).cell rfl
    have c1 : w1.cell? ⟨w.heap.size, 1, none⟩ = some (.slice none 0 0) := (unhide HR1).cell rfl
    have f0 := (unhide HR1).frozen 0
    have f1 := (unhide HR1).frozen 1
    obtain ⟨d0, d1, d2⟩ := plan_set (unhide HR1) (unhide HBL1)
    have D2 := hide d2
    clear d2
    go_wp2
    exact bodyPost_ret (v := .tuple #[noPlan, .iface 45 (.int .i64 2)]) (by simp [results, Tryz.results66, go_sem, noPlan, d0, d1]) rfl ⟨.inl ⟨fun h => by (have := (unhide HOK).2 h; cases this), rfl⟩, unhide D2⟩
  have hdr : HdrOk B := (unhide HOK).1 rfl
  have hnn : n = ((segCount B : Nat) : Int) := by
    have h1 := (unhide HN) hdr
    have h2 := hdr.2.2.2.2.2.2.2.2.1
    rw [h1, segCount]; omega
  have hc1 : 1 ≤ segCount B := by have h2 := hdr.2.2.2.2.2.2.2.2.1; rw [segCount]; omega
  have hc8 : segCount B ≤ 8 := by have h2 := hdr.2.2.2.2.2.2.2.2.2.1; rw [segCount]; omega
  have hcl : 64 + 56 * segCount B ≤ B.length := by (have h1 := hdr.2.2.2.2.2.2.2.2.1; have h2 := hdr.2.2.2.2.2.2.2.2.2.2; rw [segCount]; omega)
  subst hnn
  have HDR := hide hdr
  obtain ⟨N, hN⟩ : ∃ N, N = segCount B := ⟨_, rfl⟩
  rw [← hN] at hc1 hc8 hcl ⊢
  have HSC := hide hN
  have hv1 : BView w1 b off B := (unhide HV).below (unhide HBL1) hbw
  have HSG := hide (readSegments_any b off cap B N w1 (unhide HB) (unhide HNum).1 (unhide HNum).2 hv1 (by omega) hc1 hc8 hcl)
  clear hdr hN HN HOK hv1
  go_wp2_with fail
  refine (unhide HSG).mono ?_
  rintro e w2 ⟨(⟨aok, rfl, hho⟩ | ⟨nok, rfl⟩), hb2⟩
  case inr =>
    have hR2 := (unhide HR1).below hb2 hs1
    have hbl2 := (unhide HBL1).trans (hb2.mono (by omega))
    have c0 : w2.cell? ⟨w.heap.size, 0, none⟩ = some (.int .u64 0) := hR2.cell rfl
    have c1 : w2.cell? ⟨w.heap.size, 1, none⟩ = some (.slice none 0 0) := hR2.cell rfl
    have f0 := hR2.frozen 0
    have f1 := hR2.frozen 1
    obtain ⟨d0, d1, d2⟩ := plan_set hR2 hbl2
    have D2 := hide d2
    have NOK := hide nok
    clear d2 nok hR2 hbl2 hb2
    go_wp2
    exact bodyPost_ret (v := .tuple #[noPlan, .iface 45 (.int .i64 3)]) (by simp [results, Tryz.results66, go_sem, noPlan, d0, d1]) rfl ⟨.inr (.inl ⟨unhide HDR, fun h => unhide NOK (by rw [unhide HSC]; exact h), rfl⟩), unhide D2⟩
  have hR2 := (unhide HR1).below hb2 hs1
  have hbl2 := (unhide HBL1).trans (hb2.mono (by omega))
  have hsl : (segsUpTo B N).length = N := segsUpTo_length B N
  have HSO := hide (sort_any b off cap w1.heap.size N (segsUpTo B N) w2 hho (by omega))
  rw [hsl] at HSO
  have hs2 : w1.heap.size < w2.heap.size := hho.lt
  have HR2 := hide hR2
  have HBL2 := hide hbl2
  have AOK := hide aok
  clear hR2 hbl2 hb2 aok hho HR1 HBL1 HSG
  go_wp2_with fail
  refine (unhide HSO).mono ?_
  rintro e w3 ⟨rfl, ss, hperm, hsorted, hho3, hg3⟩
  have hR3 := (unhide HR2).grown hg3 (by simp; omega)
  have hbl3 := (unhide HBL2).trans (below_grown hg3 (by omega) (by omega))
  have hs3 := hho3.lt
  have hssl : ss.length = N := by rw [hperm.length_eq, hsl]
  have HPM := hide hperm
  have HST := hide hsorted
  have HR3 := hide hR3
  have HBL3 := hide hbl3
  have HHO3 := hide hho3
  have HOV := hide (overlap_any b off cap w1.heap.size N ss w3 hho3 (by omega) (by omega))
  rw [hssl] at HOV
  clear hperm hsorted hg3 hR3 hbl3 hho3 HR2 HBL2 HSO hsl
  go_wp2_with fail
  refine (unhide HOV).mono ?_
  rintro e w4 ⟨(⟨hov, rfl⟩ | ⟨nov, rfl⟩), hh4, hb4⟩
  case inl =>
    have hR4 := (unhide HR3).heap hh4
    have hbl4 := (unhide HBL3).trans (hb4.mono (unhide HBL3).size)
    have c0 : w4.cell? ⟨w.heap.size, 0, none⟩ = some (.int .u64 0) := hR4.cell rfl
    have c1 : w4.cell? ⟨w.heap.size, 1, none⟩ = some (.slice none 0 0) := hR4.cell rfl
    have f0 := hR4.frozen 0
    have f1 := hR4.frozen 1
    obtain ⟨d0, d1, d2⟩ := plan_set hR4 hbl4
    have D2 := hide d2
    have OV := hide hov
    clear d2 hov hR4 hbl4 hb4 hh4
    go_wp2
    exact bodyPost_ret (v := .tuple #[noPlan, .iface 45 (.int .i64 4)]) (by simp [results, Tryz.results66, go_sem, noPlan, d0, d1]) rfl ⟨.inr (.inr ⟨unhide HDR, by rw [AllOk, ← unhide HSC]; exact unhide AOK, ss, by rw [← unhide HSC]; exact unhide HPM, unhide HST, .inl ⟨by rw [hssl]; exact unhide OV, rfl⟩⟩), unhide D2⟩
  have hR4 := (unhide HR3).heap hh4
  have hbl4 := (unhide HBL3).trans (hb4.mono (unhide HBL3).size)
  have hho4 := (unhide HHO3).heap hh4
  have hv4 : BView w4 b off B := (unhide HV).below hbl4 hbw
  have HR4 := hide hR4
  have HBL4 := hide hbl4
  have HHO4 := hide hho4
  have NOV := hide nov
  have hs4 := hho4.lt
  have hl64 : 64 ≤ B.length := by omega
  have HNU := hide (number_any b off cap B 24 8 w4 (unhide HB) (by omega) (by omega) (by omega) (by have := (unhide HNum).1; omega) (by have := (unhide HNum).2; omega) hv4)
  have hE := (numAt_8 (unhide HB) 24 8 (by omega)).1
  obtain ⟨E, hEd⟩ : ∃ E, E = numAt B 24 8 := ⟨_, rfl⟩
  rw [← hEd] at hE HNU
  have HED := hide hEd
  have HEN := hide (isEntry_any b off cap w1.heap.size N E ss w4 hho4 (by omega) hE)
  rw [hssl] at HEN
  clear hR4 hbl4 hho4 hv4 nov hEd hb4 hh4 HR3 HBL3 HHO3 HOV
  go_wp2_with fail
  refine (unhide HNU).mono ?_
  rintro e w5 ⟨rfl, hw5⟩
  subst hw5
  go_wp2_with fail
  refine (unhide HEN).mono ?_
  rintro e w6 ⟨(⟨hen, rfl⟩ | ⟨nen, rfl⟩), hb6⟩
  case inr =>
    have hR6 := (unhide HR4).below hb6 (by omega)
    have hbl6 := (unhide HBL4).trans (hb6.mono (by omega))
    have c0 : w6.cell? ⟨w.heap.size, 0, none⟩ = some (.int .u64 0) := hR6.cell rfl
    have c1 : w6.cell? ⟨w.heap.size, 1, none⟩ = some (.slice none 0 0) := hR6.cell rfl
    have f0 := hR6.frozen 0
    have f1 := hR6.frozen 1
    obtain ⟨d0, d1, d2⟩ := plan_set hR6 hbl6
    have D2 := hide d2
    have NEN := hide nen
    clear d2 nen hR6 hbl6 hb6
    go_wp2
    exact bodyPost_ret (v := .tuple #[noPlan, .iface 45 (.int .i64 5)]) (by simp [results, Tryz.results66, go_sem, noPlan, d0, d1]) rfl ⟨.inr (.inr ⟨unhide HDR, by rw [AllOk, ← unhide HSC]; exact unhide AOK, ss, by rw [← unhide HSC]; exact unhide HPM, unhide HST, .inr ⟨by rw [hssl]; exact unhide NOV, .inl ⟨by rw [← unhide HED]; exact unhide NEN, rfl⟩⟩⟩), unhide D2⟩
  have hR6 := (unhide HR4).below hb6 (by omega)
  have hbl6 := (unhide HBL4).trans (hb6.mono (by omega))
  have hho6 := (unhide HHO4).below hb6 hs4
  have HR6 := hide hR6
  have HBL6 := hide hbl6
  have HHO6 := hide hho6
  have HENT := hide hen
  have hs6 := hho6.lt
  clear hR6 hbl6 hho6 hen hb6 HR4 HBL4 HHO4 HEN HNU
  have HFA := hide (fits_all (unhide HB) (unhide AOK) (unhide HPM))
  obtain ⟨ip, hip, hzz⟩ := Option.map_eq_some_iff.1 apiInfo
  simp only [Prod.mk.injEq] at hzz
  have HIP := hide (And.intro hip hzz)
  clear hip hzz
  go_wp2
  go_loopw [48] (fun i wr => ∃ k : Nat, k ≤ N ∧ i = .int .i64 k ∧ ∃ v : Value, Holds wr w6.heap.size 185 [.int .u64 E, v] ∧ Holds wr w.heap.size 185 [.int .u64 0, .slice none 0 0] ∧ Holds wr w1.heap.size 242 (segsRow b off cap ss) ∧
      wr.ownsRow (w6.heap.size + 1) 87 258 v (allPgs B (ss.take k)).length (apiRow (allPgs B (ss.take k))) ∧ Below w.heap.size w wr ∧ w6.heap.size + 1 ≤ wr.heap.size) (fun i _ => N - (intOf i).toNat)
  case atStart =>
    refine ⟨0, by omega, rfl, .slice none 0 0, Holds.new _ _ _, (unhide HR6).alloc _, (unhide HHO6).alloc _, World.ownsRow_nil _ _ _ _, (unhide HBL6).alloc (by omega) _, by simp⟩
  case round =>
    obtain ⟨k, hk, rfl, v, hpl, hre, hse, how, hbl, hsz⟩ := hrel
    have HPL := hide hpl
    have HRE := hide hre
    have HSE := hide hse
    have HOW := hide how
    have HBL := hide hbl
    by_cases hlt : k < N
    · obtain ⟨s, hs⟩ : ∃ s, s = ss.getD k seg0 := ⟨_, rfl⟩
      have hsk : ss[k]? = some s := by rw [hs, List.getD, List.getElem?_eq_getElem (by omega)]; rfl
      have hsf : SegFit B s := (unhide HFA) s (List.mem_of_getElem? hsk)
      have c0 : wr.cell? ⟨w1.heap.size, k * 5, none⟩ = some (.int .u8 s.perm) := by rw [hs]; exact seg_cell hse k (by omega) 0 _ (by omega) rfl
      have c1 : wr.cell? ⟨w1.heap.size, k * 5 + 1, none⟩ = some (.int .u64 s.addr) := by rw [hs]; exact seg_cell hse k (by omega) 1 _ (by omega) rfl
      have c2 : wr.cell? ⟨w1.heap.size, k * 5 + 2, none⟩ = some (.slice (some ⟨b, segPtr off cap s, none⟩) s.inFile.toNat (cap - s.offs.toNat)) := by rw [hs]; exact seg_cell hse k (by omega) 2 _ (by omega) rfl
      have c3 : wr.cell? ⟨w1.heap.size, k * 5 + 3, none⟩ = some (.int .i64 (s.addr / 256)) := by rw [hs]; exact seg_cell hse k (by omega) 3 _ (by omega) rfl
      have c4 : wr.cell? ⟨w1.heap.size, k * 5 + 4, none⟩ = some (.int .i64 ((s.addr + s.mem - 1) / 256)) := by rw [hs]; exact seg_cell hse k (by omega) 4 _ (by omega) rfl
      have HPA := hide (fun w' => pages_any b off cap B s w' hsf (unhide HNum).1 (unhide HNum).2)
      have hal := (Below.refl wr.heap.size wr).alloc (Nat.le_refl _) (.cells (segCells b off cap s).toArray 242)
      have hpl2 := hpl.alloc (.cells (segCells b off cap s).toArray 242)
      have p1 := hpl2.cell (j := 1) rfl
      have pf := hpl2.frozen 1
      have hk0 : (0 : Int) ≤ (k : Int) := by omega
      have hk1 : (k : Int) < (N : Int) := by omega
      have HSF := hide hsf
      have HSK := hide hsk
      unfold segVal at HPA
      unfold segCells at p1 pf
      generalize s.addr / 256 = F1 at c3 HPA p1 pf
      generalize (s.addr + s.mem - 1) / 256 = L1 at c4 HPA p1 pf
      generalize s.addr = AA at c1 HPA p1 pf
      generalize segPtr off cap s = SP at c2 HPA p1 pf
      generalize s.offs.toNat = OO at c2 HPA p1 pf
      generalize s.inFile.toNat = FF at c2 HPA p1 pf
      generalize s.perm = PP at c0 HPA p1 pf
      clear hpl hre hse how hbl hal hpl2 hsf hsk hs
      obtain ⟨W, hW⟩ : ∃ W, W = wr.alloc (.cells #[.int .u8 PP, .int .u64 AA, .slice (some ⟨b, SP, none⟩) FF (cap - OO), .int .i64 F1, .int .i64 L1] 242) := ⟨_, rfl⟩
      have HW := hide hW
      have q5 := Holds.new wr 242 [.int .u8 PP, .int .u64 AA, .slice (some ⟨b, SP, none⟩) FF (cap - OO), .int .i64 F1, .int .i64 L1]
      rw [← hW] at q5 p1 pf
      have hWs : W.heap.size = wr.heap.size + 1 := by rw [hW]; simp
      have HWB := hide (show Below wr.heap.size wr W from by rw [hW]; exact (Below.refl _ _).alloc (Nat.le_refl _) _)
      have q0 : W.cell? ⟨wr.heap.size, 0, none⟩ = some (.int .u8 PP) := q5.cell rfl
      have q1 : W.cell? ⟨wr.heap.size, 1, none⟩ = some (.int .u64 AA) := q5.cell rfl
      have q2 : W.cell? ⟨wr.heap.size, 2, none⟩ = some (.slice (some ⟨b, SP, none⟩) FF (cap - OO)) := q5.cell rfl
      have q3 : W.cell? ⟨wr.heap.size, 3, none⟩ = some (.int .i64 F1) := q5.cell rfl
      have q4 : W.cell? ⟨wr.heap.size, 4, none⟩ = some (.int .i64 L1) := q5.cell rfl
      obtain ⟨m, hm⟩ : ∃ m, m = s.count := ⟨_, rfl⟩
      obtain ⟨news, hnews⟩ : ∃ x, x = apiRow (segPgs B s m) := ⟨_, rfl⟩
      obtain ⟨G, hG⟩ : ∃ G, G = W.heap.size + 1 := ⟨_, rfl⟩
      have HPB : Hid (Calls Tryz.prog 103 #[.agg #[.int .u8 PP, .int .u64 AA, .slice (some ⟨b, SP, none⟩) FF (cap - OO), .int .i64 F1, .int .i64 L1]] W.drew fun e w'' => e = .returned (.slice (some ⟨G, 0, none⟩) m m) ∧ Hid (Holds w'' G 87 news) ∧ Hid (Below W.heap.size W w'')) := by
        have hbv : BView W.drew b off B := fun j hj => (((unhide HV).below (unhide HBL) hbw).below (unhide HWB) (by have := (unhide HBL).size; omega)) j hj
        have hbb : b < W.drew.heap.size := by show b < W.heap.size; rw [hWs]; have := (unhide HBL).size; omega
        refine hide ((unhide HPA W.drew hbv hbb).mono ?_)
        rintro e w'' ⟨he, h1, h2⟩
        rw [← hm] at he h1
        exact ⟨by rw [hG]; exact he, by rw [hnews, hG]; exact h1, ⟨h2.os, h2.tape, h2.output, h2.size, h2.block⟩⟩
      obtain ⟨M, hM⟩ : ∃ M, M = (allPgs B (ss.take k)).length := ⟨_, rfl⟩
      obtain ⟨xs, hxs⟩ : ∃ xs, xs = apiRow (allPgs B (ss.take k)) := ⟨_, rfl⟩
      rw [← hM, ← hxs] at HOW
      have HM := hide (And.intro hm (And.intro hnews (And.intro hM hxs)))
      have hm1 := (count_pos (unhide HSF)).1
      have hm2 := (count_pos (unhide HSF)).2
      have hM8 : M ≤ 8 * 255 := by
        have := allPgs_le (ss := ss.take k) (fun x hx => (unhide HFA) x (List.mem_of_mem_take hx))
        rw [← hM] at this
        have h9 : (ss.take k).length ≤ 8 := by simp; omega
        omega
      rw [← hm] at hm1 hm2
      have hnl : news.length = m * 258 := by rw [hnews, apiRow_length _ (segPgs_bytes B s m), segPgs_length]
      have hn1 : ∀ u ∈ news, u.oneCell' = true := by rw [hnews]; exact apiRow_one _
      have HNW := hide (And.intro hnl hn1)
      have hpb : w6.heap.size < wr.heap.size := by omega
      have KS7 : Hid (∀ w', Hid (Below W.heap.size W w') → w'.frozen? ⟨w6.heap.size, 1, none⟩ = false ∧ w'.cell? ⟨w6.heap.size, 1, none⟩ = some v ∧ w'.cell? ⟨wr.heap.size, 0, none⟩ = some (.int .u8 PP) ∧ w'.cell? ⟨wr.heap.size, 1, none⟩ = some (.int .u64 AA) ∧ w'.cell? ⟨wr.heap.size, 2, none⟩ = some (.slice (some ⟨b, SP, none⟩) FF (cap - OO)) ∧ w'.cell? ⟨wr.heap.size, 3, none⟩ = some (.int .i64 F1) ∧ w'.cell? ⟨wr.heap.size, 4, none⟩ = some (.int .i64 L1)) :=
        hide (fun w' hb => ⟨by rw [(unhide hb).frozen (p := ⟨w6.heap.size, 1, none⟩) (by show w6.heap.size < _; omega)]; exact pf, by rw [(unhide hb).cell (p := ⟨w6.heap.size, 1, none⟩) (by show w6.heap.size < _; omega)]; exact p1, by rw [(unhide hb).cell (p := ⟨wr.heap.size, 0, none⟩) (by show wr.heap.size < _; omega)]; exact q0, by rw [(unhide hb).cell (p := ⟨wr.heap.size, 1, none⟩) (by show wr.heap.size < _; omega)]; exact q1, by rw [(unhide hb).cell (p := ⟨wr.heap.size, 2, none⟩) (by show wr.heap.size < _; omega)]; exact q2, by rw [(unhide hb).cell (p := ⟨wr.heap.size, 3, none⟩) (by show wr.heap.size < _; omega)]; exact q3, by rw [(unhide hb).cell (p := ⟨wr.heap.size, 4, none⟩) (by show wr.heap.size < _; omega)]; exact q4⟩)
      have HOWW := hide (show W.ownsRow (w6.heap.size + 1) 87 258 v M xs from by rw [hW]; exact (unhide HOW).alloc _)
      have KS8 : Hid (∀ w7 w', Hid (Below W.heap.size W w7) → w7.grownBy w' v.ownBlock → w'.frozen? ⟨w6.heap.size, 1, none⟩ = false ∧ w'.cell? ⟨w6.heap.size, 1, none⟩ = some v ∧ w'.cell? ⟨wr.heap.size, 0, none⟩ = some (.int .u8 PP) ∧ w'.cell? ⟨wr.heap.size, 1, none⟩ = some (.int .u64 AA) ∧ w'.cell? ⟨wr.heap.size, 2, none⟩ = some (.slice (some ⟨b, SP, none⟩) FF (cap - OO)) ∧ w'.cell? ⟨wr.heap.size, 3, none⟩ = some (.int .i64 F1) ∧ w'.cell? ⟨wr.heap.size, 4, none⟩ = some (.int .i64 L1)) := by
        refine hide (fun w7 w' hb hg => ?_)
        have h7 := (unhide KS7) w7 hb
        have hs7 := (unhide hb).size
        have n1 : some w6.heap.size ≠ v.ownBlock := fun h => by have := (unhide HOW).lt _ h.symm; omega
        have n2 : some wr.heap.size ≠ v.ownBlock := fun h => by have := (unhide HOW).lt _ h.symm; omega
        refine ⟨?_, ?_, ?_, ?_, ?_, ?_, ?_⟩
        · rw [World.frozen?_of_block (a := ⟨w6.heap.size, 1, none⟩) (hg.block w6.heap.size (by omega) n1)]; exact h7.1
        · rw [World.cell?_of_block (a := ⟨w6.heap.size, 1, none⟩) (hg.block w6.heap.size (by omega) n1)]; exact h7.2.1
        · rw [World.cell?_of_block (a := ⟨wr.heap.size, 0, none⟩) (hg.block wr.heap.size (by omega) n2)]; exact h7.2.2.1
        · rw [World.cell?_of_block (a := ⟨wr.heap.size, 1, none⟩) (hg.block wr.heap.size (by omega) n2)]; exact h7.2.2.2.1
        · rw [World.cell?_of_block (a := ⟨wr.heap.size, 2, none⟩) (hg.block wr.heap.size (by omega) n2)]; exact h7.2.2.2.2.1
        · rw [World.cell?_of_block (a := ⟨wr.heap.size, 3, none⟩) (hg.block wr.heap.size (by omega) n2)]; exact h7.2.2.2.2.2.1
        · rw [World.cell?_of_block (a := ⟨wr.heap.size, 4, none⟩) (hg.block wr.heap.size (by omega) n2)]; exact h7.2.2.2.2.2.2
      have HWS := hide hWs
      have HG := hide hG
      clear hG
      clear hW hm hnews hM hxs hnl hn1 HPA hWs
      go_wp2
      rw [← unhide HW]
      clear c0 c1 c2 c3 c4
      go_region_law (first | (refine step_call1 (by rfl) 103 54 242 (by rfl) _ (by rfl) pagesEnter _ _ (unhide HPB) ?_; rintro w7 ⟨hn7, hb7⟩; obtain ⟨z0, z1, z2, z3, z4, z5, z6⟩ := unhide KS7 _ hb7) | (refine step_append_lies _ (by rfl) _ _ 76 (by rfl) (w6.heap.size + 1) 87 ip _ 258 272 Tryz.underlying76 (unhide HIP).1 (unhide HIP).2.1 (unhide HIP).2.2.1 (unhide HIP).2.2.2 (by show zeroRow.toArray.size = 258; simp [zeroRow_length]) (by decide) v M xs (by rfl) (own_below (unhide HOWW) hb7) ⟨G, 0, none⟩ m m news (by rfl) (unhide HNW).1 (holds_news hn7) (unhide HNW).2 (by omega) (by unfold maxLen; omega) (by omega) (by have := (unhide hb7).size; have := unhide HWS; omega) w7.heap.size (by rfl) ?_; intro g gc w8 hown8 hgrow8 hat8 hlt8; obtain ⟨x0, x1, x2, x3, x4, x5, x6⟩ := unhide KS8 _ _ hb7 hgrow8))
      all_goals
        have hown9 : (w8.setCell ⟨w6.heap.size, 1, none⟩ (.slice (some ⟨g, 0, none⟩) (M + m) gc)).ownsRow (w6.heap.size + 1) 87 258 (.slice (some ⟨g, 0, none⟩) (M + m) gc) (allPgs B (ss.take (k + 1))).length (apiRow (allPgs B (ss.take (k + 1)))) := by
          have hal := allPgs_step B ss k s (unhide HSK)
          obtain ⟨hm, hnews, hM, hxs⟩ := unhide HM
          rw [hal, apiRow_append, List.length_append, segPgs_length, ← hm, ← hM, ← hxs, ← hnews]
          exact hown8.kept (grown_set (w := w8) (wr := w8) (b := w6.heap.size) ⟨rfl, rfl, rfl, Nat.le_refl _, fun _ _ _ => rfl⟩ 1 _) (.inr (fun h => by have := hown8.lt _ h; omega))
        have hs7 := (unhide hb7).size
        have hws := unhide HWS
        have hgs := hgrow8.size
        have n0 : some w.heap.size ≠ v.ownBlock := fun h => by have := (unhide HOW).lt _ h.symm; omega
        have n1 : some w6.heap.size ≠ v.ownBlock := fun h => by have := (unhide HOW).lt _ h.symm; omega
        have n2 : some w1.heap.size ≠ v.ownBlock := fun h => by have := (unhide HOW).lt _ h.symm; omega
        have a1 := (((((unhide HPL).below (unhide HWB) (by omega)).below (unhide hb7) (by omega)).grown hgrow8 n1).set 1 (.slice (some ⟨g, 0, none⟩) (M + m) gc))
        have a2 := ((((unhide HRE).below (unhide HWB) (by omega)).below (unhide hb7) (by omega)).grown hgrow8 n0).set_other (c := w6.heap.size) (by omega) 1 (.slice (some ⟨g, 0, none⟩) (M + m) gc)
        have a3 := ((((unhide HSE).below (unhide HWB) (by omega)).below (unhide hb7) (by omega)).grown hgrow8 n2).set_other (c := w6.heap.size) (by omega) 1 (.slice (some ⟨g, 0, none⟩) (M + m) gc)
        have hbw8 : Below w.heap.size w w8 := (((unhide HBL).trans ((unhide HWB).mono (by omega))).trans ((unhide hb7).mono (by omega))).trans ⟨hgrow8.os, hgrow8.tape, hgrow8.output, hgrow8.size, fun q hq => hgrow8.block q (by omega) (fun h => by have := (unhide HOW).lt _ h.symm; omega)⟩
        have a4 := hbw8.setCell (p := ⟨w6.heap.size, 1, none⟩) (by show w.heap.size ≤ w6.heap.size; omega) (.slice (some ⟨g, 0, none⟩) (M + m) gc)
        have A0 := hide hown9
        have A1 := hide a1
        have A2 := hide a2
        have A3 := hide a3
        have A4 := hide a4
        have A5 : w6.heap.size + 1 ≤ (w8.setCell ⟨w6.heap.size, 1, none⟩ (.slice (some ⟨g, 0, none⟩) (M + m) gc)).heap.size := by simp [World.setCell]; omega
        clear hown9 a1 a2 a3 a4 hbw8
        go_wp2
        go_roundw
        case rel => exact ⟨k + 1, by omega, by go_num, _, unhide A1, unhide A2, unhide A3, unhide A0, unhide A4, A5⟩
        case measure => simp [intOf]; omega
    · have hkn : k = N := by omega
      subst hkn
      have htk : ss.take k = ss := List.take_of_length_le (by omega)
      rw [htk] at HOW
      have hpos : 0 < (allPgs B ss).length := by
        obtain ⟨s0, hs0⟩ : ∃ s0, ss[0]? = some s0 := ⟨_, List.getElem?_eq_getElem (by omega)⟩
        have h1 := allPgs_step B ss 0 s0 hs0
        have h2 := (count_pos ((unhide HFA) s0 (List.mem_of_getElem? hs0))).1
        have h3 : allPgs B ss = allPgs B (ss.take 1) ++ allPgs B (ss.drop 1) := by rw [allPgs, allPgs, allPgs, ← List.flatMap_append, List.take_append_drop]
        rw [h3, h1, List.length_append, List.length_append, segPgs_length]; omega
      obtain ⟨g, gc, rfl, hg1, hg2⟩ := (unhide HOW).form hpos
      have d0 := (unhide HPL).cell (j := 0) rfl
      have d1 := (unhide HPL).cell (j := 1) rfl
      have r0 := (unhide HRE).cell (j := 0) rfl
      have r1 := (unhide HRE).cell (j := 1) rfl
      have f0 := (unhide HRE).frozen 0
      have f1 := (unhide HRE).frozen 1
      have u2 := ((unhide HRE).set 0 (.int .u64 E)).set 1 (.slice (some ⟨g, 0, none⟩) (allPgs B ss).length gc)
      have u0 := u2.cell (j := 0) rfl
      have u1 := u2.cell (j := 1) rfl
      have u3 := ((unhide HBL).setCell (p := ⟨w.heap.size, 0, none⟩) (Nat.le_refl _) (.int .u64 E)).setCell (p := ⟨w.heap.size, 1, none⟩) (Nat.le_refl _) (.slice (some ⟨g, 0, none⟩) (allPgs B ss).length gc)
      have u4 := (unhide HOW).kept (grown_set (grown_set (w := wr) (wr := wr) (b := w.heap.size) ⟨rfl, rfl, rfl, Nat.le_refl _, fun _ _ _ => rfl⟩ 0 (.int .u64 E)) 1 (.slice (some ⟨g, 0, none⟩) (allPgs B ss).length gc)) (.inr (fun h => by simp [Value.ownBlock] at h; omega))
      have U3 := hide u3
      have U4 := hide (own_base (base' := w.heap.size) u4 (by omega))
      clear hpl hre hse how hbl u2 u3 u4
      go_wp2
      exact bodyPost_ret (v := .tuple #[.agg #[.int .u64 E, .slice (some ⟨g, 0, none⟩) (allPgs B ss).length gc], .nilIface]) (by simp [results, Tryz.results66, go_sem, u0, u1]) rfl ⟨.inr (.inr ⟨unhide HDR, by rw [AllOk, ← unhide HSC]; exact unhide AOK, ss, by rw [← unhide HSC]; exact unhide HPM, unhide HST, .inr ⟨by rw [hssl]; exact unhide NOV, .inr ⟨by rw [← unhide HED]; exact unhide HENT, g, gc, by rw [← unhide HED], unhide U4⟩⟩⟩), unhide U3⟩
end Go.Proofs.YtkmbleboceedbaaGreatDoor

/- Load: the mathematics between the two answers. -/
namespace Go.Proofs.YtkmbleboceedbaaGreatDoor
open Go.RowKit
set_option linter.unusedVariables false
set_option linter.unusedSimpArgs false

/-- Page p lies in the segment. -/
def cov (s : Seg) (p : Nat) : Bool := decide (s.first ≤ (p : Int) ∧ (p : Int) ≤ s.last)
theorem cov_true {s : Seg} {p : Nat} : cov s p = true ↔ s.first ≤ (p : Int) ∧ (p : Int) ≤ s.last := by simp [cov]
theorem cov_false {s : Seg} {p : Nat} : cov s p = false ↔ ¬ (s.first ≤ (p : Int) ∧ (p : Int) ≤ s.last) := by simp [cov]
theorem fit_pages {B : List Int} {s : Seg} (h : SegFit B s) : s.first = ((s.addr.toNat / 256 : Nat) : Int) ∧ s.last = ((s.addr.toNat / 256 + s.count : Nat) : Int) - 1 ∧ s.addr.toNat / 256 + s.count ≤ 254 ∧ 1 ≤ s.count := by
  have hc := count_pos h
  obtain ⟨a0, o0, i0, m1, hfm, hfit, htop⟩ := h
  unfold Seg.count Seg.last Seg.first at *
  omega
/-- No neighbours overlap: then no two do. -/
theorem noOv_strict {B : List Int} {ss : List Seg} (hf : ∀ s ∈ ss, SegFit B s) (hno : ∀ i, i + 1 < ss.length → ¬ ovAt ss i) : ∀ j i, i < j → j < ss.length → (ss.getD i seg0).last < (ss.getD j seg0).first
  | 0, i, h, _ => by omega
  | j + 1, i, h, hj => by
    have h1 : (ss.getD j seg0).last < (ss.getD (j + 1) seg0).first := by have := hno j hj; unfold ovAt at this; omega
    rcases Nat.lt_succ_iff_lt_or_eq.1 h with h2 | h2
    · have h3 := noOv_strict hf hno j i h2 (by omega)
      have hm : ss.getD j seg0 ∈ ss := by rw [List.getD, List.getElem?_eq_getElem (by omega)]; exact List.getElem_mem _
      have h4 := fit_pages (hf _ hm)
      omega
    · rw [h2]; exact h1
theorem strict_pairwise {ss : List Seg} (h : ∀ j i, i < j → j < ss.length → (ss.getD i seg0).last < (ss.getD j seg0).first) : ss.Pairwise (fun s t => s.last < t.first) := by
  rw [List.pairwise_iff_getElem]
  intro i j hi hj hij
  have := h j i hij hj
  simpa [List.getD, List.getElem?_eq_getElem hi, List.getElem?_eq_getElem hj] using this
theorem flat_congr {α β : Type} {l : List α} {f g : α → List β} (h : ∀ a ∈ l, f a = g a) : l.flatMap f = l.flatMap g := by
  induction l with
  | nil => rfl
  | cons a r ih => rw [List.flatMap_cons, List.flatMap_cons, h a List.mem_cons_self, ih (fun x hx => h x (List.mem_cons_of_mem _ hx))]
theorem flat_one {α β : Type} (l : List α) (f : α → β) : (l.flatMap fun a => [f a]) = l.map f := by
  induction l with
  | nil => rfl
  | cons a r ih => rw [List.flatMap_cons, ih]; rfl
/-- The pages in the order of their numbers are the pages of the segments in their order. -/
theorem pages_order (B : List Int) : ∀ (ss : List Seg) (lo : Nat), (∀ s ∈ ss, SegFit B s) → ss.Pairwise (fun s t => s.last < t.first) → (∀ s ∈ ss, (lo : Int) ≤ s.first) → lo ≤ 256 →
    (List.range' lo (256 - lo)).flatMap (fun p => (ss.filter (fun s => cov s p)).map (fun s => (⟨(p : Nat), s.perm, segPage B s p⟩ : Pg))) = allPgs B ss
  | [], lo, _, _, _, _ => by simp [allPgs]
  | s :: r, lo, hf, hp, hlo, h256 => by
    obtain ⟨e1, e2, e3, e4⟩ := fit_pages (hf s List.mem_cons_self)
    have hlo1 := hlo s List.mem_cons_self
    rw [List.pairwise_cons] at hp
    have ih := pages_order B r (s.addr.toNat / 256 + s.count) (fun t ht => hf t (List.mem_cons_of_mem _ ht)) hp.2 (fun t ht => by have := hp.1 t ht; omega) (by omega)
    have eall : allPgs B (s :: r) = segPgs B s s.count ++ allPgs B r := by simp [allPgs]
    unfold segPgs at eall
    generalize s.addr.toNat / 256 = f at *
    generalize s.count = n at *
    have hs1 : List.range' lo (256 - lo) = List.range' lo (f - lo) ++ (List.range' f n ++ List.range' (f + n) (256 - (f + n))) := by
      have a := List.range'_append_1 (s := f) (m := n) (n := 256 - (f + n))
      have b := List.range'_append_1 (s := lo) (m := f - lo) (n := n + (256 - (f + n)))
      rw [show lo + (f - lo) = f from by omega] at b
      rw [a, b]
      congr 1; omega
    rw [hs1, List.flatMap_append, List.flatMap_append, eall]
    have p1 : (List.range' lo (f - lo)).flatMap (fun p => ((s :: r).filter (fun s => cov s p)).map (fun s => (⟨(p : Nat), s.perm, segPage B s p⟩ : Pg))) = [] := by
      rw [List.flatMap_eq_nil_iff]
      intro p hp2
      rw [List.mem_range'_1] at hp2
      rw [List.map_eq_nil_iff, List.filter_eq_nil_iff]
      intro t ht
      rw [cov_true]
      rcases List.mem_cons.1 ht with rfl | ht
      · omega
      · have := hp.1 t ht; omega
    have p2 : (List.range' f n).flatMap (fun p => ((s :: r).filter (fun s => cov s p)).map (fun s => (⟨(p : Nat), s.perm, segPage B s p⟩ : Pg))) = (List.range n).map fun i => ⟨(f + i : Nat), s.perm, segPage B s (f + i)⟩ := by
      rw [List.range'_eq_map_range, List.flatMap_map]
      have : ∀ i ∈ List.range n, (((s :: r).filter (fun s => cov s (f + i))).map (fun s => (⟨((f + i : Nat) : Int), s.perm, segPage B s (f + i)⟩ : Pg))) = [⟨((f + i : Nat) : Int), s.perm, segPage B s (f + i)⟩] := by
        intro i hi
        rw [List.mem_range] at hi
        have c1 : cov s (f + i) = true := by rw [cov_true]; omega
        have c2 : r.filter (fun s => cov s (f + i)) = [] := by
          rw [List.filter_eq_nil_iff]
          intro t ht
          rw [cov_true]
          have := hp.1 t ht; omega
        rw [List.filter_cons, if_pos c1, c2]; rfl
      rw [flat_congr this, flat_one]
    have p3 : (List.range' (f + n) (256 - (f + n))).flatMap (fun p => ((s :: r).filter (fun s => cov s p)).map (fun s => (⟨(p : Nat), s.perm, segPage B s p⟩ : Pg))) = allPgs B r := by
      rw [← ih]
      refine flat_congr ?_
      intro p hp2
      rw [List.mem_range'_1] at hp2
      have c1 : cov s p = false := by rw [cov_false]; omega
      rw [List.filter_cons, if_neg (by rw [c1]; simp)]
    rw [p1, p2, p3, List.nil_append]
/-- Neighbours that overlap: some page lies in two segments. -/
theorem ov_two {B : List Int} {ss : List Seg} (hf : ∀ s ∈ ss, SegFit B s) (hs : Sorted ss) {i : Nat} (hi : i + 1 < ss.length) (ho : ovAt ss i) : ∃ p, p < 256 ∧ 1 < ss.countP (fun s => cov s p) := by
  have m0 : ss[i]? = some (ss.getD i seg0) := by rw [List.getD, List.getElem?_eq_getElem (by omega)]; rfl
  have m1 : ss[i + 1]? = some (ss.getD (i + 1) seg0) := by rw [List.getD, List.getElem?_eq_getElem hi]; rfl
  have f0 := fit_pages (hf _ (List.mem_of_getElem? m0))
  have f1 := fit_pages (hf _ (List.mem_of_getElem? m1))
  have h2 := hs i (i + 1) (by omega) hi
  have h3 : (ss.getD i seg0).first ≤ (ss.getD (i + 1) seg0).first := by unfold Seg.first; omega
  unfold ovAt at ho
  generalize ss.getD i seg0 = a at *
  generalize ss.getD (i + 1) seg0 = b at *
  have c0 : cov a (b.addr.toNat / 256) = true := by rw [cov_true]; omega
  have c1 : cov b (b.addr.toNat / 256) = true := by rw [cov_true]; omega
  refine ⟨b.addr.toNat / 256, by omega, ?_⟩
  have e : ss = ss.take i ++ (a :: b :: ss.drop (i + 2)) := by
    have h4 : ss.drop i = a :: ss.drop (i + 1) := by rw [List.drop_eq_getElem_cons (by omega)]; congr 1; rw [List.getElem?_eq_getElem (by omega)] at m0; exact Option.some.inj m0
    have h5 : ss.drop (i + 1) = b :: ss.drop (i + 2) := by rw [List.drop_eq_getElem_cons hi]; congr 1; rw [List.getElem?_eq_getElem hi] at m1; exact Option.some.inj m1
    rw [← h5, ← h4, List.take_append_drop]
  rw [e, List.countP_append, List.countP_cons, List.countP_cons, if_pos c0, if_pos c1]
  omega
/-- No neighbours overlap: no page lies in two. -/
theorem noOv_one {B : List Int} : ∀ {ss : List Seg}, (∀ s ∈ ss, SegFit B s) → ss.Pairwise (fun s t => s.last < t.first) → ∀ p, ss.countP (fun s => cov s p) ≤ 1
  | [], _, _, p => by simp
  | s :: r, hf, hp, p => by
    rw [List.pairwise_cons] at hp
    have ih := noOv_one (fun t ht => hf t (List.mem_cons_of_mem _ ht)) hp.2 p
    rw [List.countP_cons]
    by_cases c : cov s p = true
    · have h0 : r.countP (fun s => cov s p) = 0 := by
        rw [List.countP_eq_zero]
        intro t ht
        rw [cov_true] at c ⊢
        have := hp.1 t ht
        omega
      rw [h0]; split <;> omega
    · rw [if_neg c]; omega
end Go.Proofs.YtkmbleboceedbaaGreatDoor

/- Load: the entry, in both answers' words. -/
namespace Go.Proofs.YtkmbleboceedbaaGreatDoor
open Go.RowKit
set_option linter.unusedVariables false
set_option linter.unusedSimpArgs false

theorem and_one (P : Int) (h1 : 1 ≤ P) (h7 : P ≤ 7) : bits BinOp.and IntKind.u8 P 1 ≠ 0 ↔ bits BinOp.and IntKind.i64 P 1 = 1 := by
  have h : P = 1 ∨ P = 2 ∨ P = 3 ∨ P = 4 ∨ P = 5 ∨ P = 6 ∨ P = 7 := by omega
  rcases h with rfl | rfl | rfl | rfl | rfl | rfl | rfl <;> decide
theorem mem_allPgs {B : List Int} {ss : List Seg} {q : Pg} : q ∈ allPgs B ss ↔ ∃ s ∈ ss, ∃ i, i < s.count ∧ q = ⟨((s.addr.toNat / 256 + i : Nat) : Int), s.perm, segPage B s (s.addr.toNat / 256 + i)⟩ := by
  unfold allPgs segPgs
  constructor
  · intro h
    obtain ⟨s, hs, h⟩ := List.mem_flatMap.1 h
    obtain ⟨i, hi, rfl⟩ := List.mem_map.1 h
    exact ⟨s, hs, i, List.mem_range.1 hi, rfl⟩
  · rintro ⟨s, hs, i, hi, rfl⟩
    exact List.mem_flatMap.2 ⟨s, hs, List.mem_map.2 ⟨i, List.mem_range.2 hi, rfl⟩⟩
theorem entry_same {B : List Int} {ss : List Seg} (hf : ∀ s ∈ ss, SegFit B s) (hp : ∀ s ∈ ss, 1 ≤ s.perm ∧ s.perm ≤ 7) (E : Int) (h0 : 0 ≤ E) :
    entOk E ss ↔ E % 4 = 0 ∧ E < 65536 ∧ ∃ q ∈ allPgs B ss, q.num = E / 256 ∧ bits BinOp.and IntKind.i64 q.perm 1 = 1 := by
  constructor
  · rintro ⟨h1, h2, i, hi, h3, h4, h5⟩
    have hm : ss.getD i seg0 ∈ ss := by rw [List.getD, List.getElem?_eq_getElem hi]; exact List.getElem_mem _
    generalize ss.getD i seg0 = s at *
    obtain ⟨e1, e2, e3, e4⟩ := fit_pages (hf s hm)
    refine ⟨h1, by omega, _, mem_allPgs.2 ⟨s, hm, (E / 256).toNat - s.addr.toNat / 256, by omega, rfl⟩, ?_, (and_one _ (hp s hm).1 (hp s hm).2).1 h3⟩
    show ((s.addr.toNat / 256 + ((E / 256).toNat - s.addr.toNat / 256) : Nat) : Int) = E / 256
    omega
  · rintro ⟨h1, h2, q, hq, h3, h4⟩
    obtain ⟨s, hs, i, hi, rfl⟩ := mem_allPgs.1 hq
    obtain ⟨e1, e2, e3, e4⟩ := fit_pages (hf s hs)
    simp only at h3 h4
    obtain ⟨j, hj, rfl⟩ := List.mem_iff_getElem.1 hs
    refine ⟨h1, by omega, j, hj, ?_⟩
    have e : ss.getD j seg0 = ss[j] := by rw [List.getD, List.getElem?_eq_getElem hj]; rfl
    rw [e]
    exact ⟨(and_one _ (hp _ hs).1 (hp _ hs).2).2 h4, by omega, by omega⟩
theorem perms_all {B : List Int} {n : Nat} (h : ∀ i, i < n → SegOk B (64 + 56 * i)) {ss : List Seg} (hp : ss.Perm (segsUpTo B n)) : ∀ s ∈ ss, 1 ≤ s.perm ∧ s.perm ≤ 7 := by
  intro s hs
  have := hp.mem_iff.1 hs
  obtain ⟨i, hi, rfl⟩ := List.mem_map.1 this
  have hk := h i (by simpa using hi)
  exact ⟨hk.2.1.1, hk.2.1.2.1⟩
end Go.Proofs.YtkmbleboceedbaaGreatDoor

/- Load: the document's pages as lists. -/
namespace Go.Proofs.YtkmbleboceedbaaGreatDoor
open Go.RowKit
set_option linter.unusedVariables false
set_option linter.unusedSimpArgs false

/-- Byte t of page p lies in what the segment has in the file. -/
abbrev inSeg (s : Seg) (p t : Nat) : Prop := s.addr.toNat ≤ p * 256 + t ∧ p * 256 + t - s.addr.toNat < s.inFile.toNat
/-- Page p as one segment fills it over L, up to byte j. -/
def mixTo (B : List Int) (s : Seg) (p : Nat) (L : List Int) (j : Nat) : List Int :=
  (List.range 256).map fun t => if t < j ∧ inSeg s p t then B.getD (s.offs.toNat + (p * 256 + t - s.addr.toNat)) 0 else L.getD t 0
theorem mixTo_length (B : List Int) (s : Seg) (p : Nat) (L : List Int) (j : Nat) : (mixTo B s p L j).length = 256 := by simp [mixTo]
theorem mixTo_zero (B : List Int) (s : Seg) (p : Nat) (L : List Int) (h : L.length = 256) : mixTo B s p L 0 = L := by
  apply List.ext_getElem?
  intro j
  by_cases hj : j < 256
  · rw [mixTo, List.getElem?_map, List.getElem?_range hj]
    simp [List.getD, List.getElem?_eq_getElem (show j < L.length by omega)]
  · rw [List.getElem?_eq_none (by rw [mixTo_length]; omega), List.getElem?_eq_none (by omega)]
theorem mixTo_full (B : List Int) (s : Seg) (p : Nat) : mixTo B s p zero256 256 = segPage B s p := by
  apply List.ext_getElem?
  intro j
  by_cases hj : j < 256
  · rw [mixTo, segPage, List.getElem?_map, List.getElem?_map, List.getElem?_range hj]
    have hz : zero256.getD j 0 = 0 := by rw [List.getD, zero256_get, if_pos hj]; rfl
    simp only [Option.map_some]
    rw [hz]
    unfold segByte inSeg
    by_cases h : s.addr.toNat ≤ p * 256 + j ∧ p * 256 + j - s.addr.toNat < s.inFile.toNat
    · rw [if_pos ⟨hj, h⟩, if_pos h]
    · rw [if_neg (fun x => h x.2), if_neg h]
  · rw [List.getElem?_eq_none (by rw [mixTo_length]; omega), List.getElem?_eq_none (by rw [segPage_length]; omega)]
theorem mixTo_in {B : List Int} {s : Seg} {p : Nat} {L : List Int} {j : Nat} (h : inSeg s p j) (hj : j < 256) : (mixTo B s p L j).set j (B.getD (s.offs.toNat + (p * 256 + j - s.addr.toNat)) 0) = mixTo B s p L (j + 1) := by
  apply List.ext_getElem?
  intro t
  rw [List.getElem?_set, mixTo_length]
  by_cases ht : t < 256
  · by_cases e : j = t
    · subst e
      rw [if_pos rfl, if_pos hj, mixTo, List.getElem?_map, List.getElem?_range hj, Option.map_some, if_pos ⟨by omega, h⟩]
    · rw [if_neg e, mixTo, mixTo, List.getElem?_map, List.getElem?_map, List.getElem?_range ht, Option.map_some, Option.map_some]
      congr 1
      by_cases h2 : t < j ∧ inSeg s p t
      · rw [if_pos h2, if_pos ⟨by omega, h2.2⟩]
      · rw [if_neg h2, if_neg (fun x => h2 ⟨by omega, x.2⟩)]
  · rw [if_neg (by omega), List.getElem?_eq_none (by rw [mixTo_length]; omega), List.getElem?_eq_none (by rw [mixTo_length]; omega)]
theorem mixTo_out {B : List Int} {s : Seg} {p : Nat} {L : List Int} {j : Nat} (h : ¬ inSeg s p j) : mixTo B s p L j = mixTo B s p L (j + 1) := by
  unfold mixTo
  refine List.map_congr_left ?_
  intro t _
  by_cases h2 : t < j ∧ inSeg s p t
  · rw [if_pos h2, if_pos ⟨by omega, h2.2⟩]
  · rw [if_neg h2, if_neg]
    rintro ⟨x, y⟩
    rcases Nat.lt_succ_iff_lt_or_eq.1 x with x | x
    · exact h2 ⟨x, y⟩
    · subst x; exact h y

/-- The pages of the document's answer up to number n. -/
def refPgs (B : List Int) (ss : List Seg) (n : Nat) : List Pg := (List.range n).flatMap fun p => (ss.filter (fun s => cov s p)).map (fun s => (⟨(p : Nat), s.perm, segPage B s p⟩ : Pg))
def refRow (PS : List Pg) : List Value := PS.flatMap fun p => refPage p.num p.perm p.bytes
theorem refPgs_succ (B : List Int) (ss : List Seg) (n : Nat) : refPgs B ss (n + 1) = refPgs B ss n ++ (ss.filter (fun s => cov s n)).map (fun s => (⟨(n : Nat), s.perm, segPage B s n⟩ : Pg)) := by
  unfold refPgs
  rw [List.range_succ, List.flatMap_append]; simp
theorem refPgs_bytes (B : List Int) (ss : List Seg) (n : Nat) : ∀ q ∈ refPgs B ss n, q.bytes.length = 256 := by
  intro q hq
  obtain ⟨p, _, hq⟩ := List.mem_flatMap.1 hq
  obtain ⟨s, _, rfl⟩ := List.mem_map.1 hq
  exact segPage_length _ _ _
theorem refRow_append (a b : List Pg) : refRow (a ++ b) = refRow a ++ refRow b := by simp [refRow]
theorem refRow_one (q : Pg) : refRow [q] = refPage q.num q.perm q.bytes := by simp [refRow]
/-- What the page at hand is, when the segments before it were gone through. -/
def PgState (B : List Int) (ss : List Seg) (p : Nat) (perm : Int) (L : List Int) : Prop :=
  L.length = 256 ∧ (ss.filter (fun s => cov s p) = [] → perm = 0 ∧ L = zero256) ∧ (∀ s, ss.filter (fun s => cov s p) = [s] → perm = s.perm ∧ L = segPage B s p)
theorem pgState_nil (B : List Int) (p : Nat) : PgState B [] p 0 zero256 := ⟨zero256_length, fun _ => ⟨rfl, rfl⟩, fun s h => by simp at h⟩
theorem pgState_out {B : List Int} {ss : List Seg} {p : Nat} {perm : Int} {L : List Int} {s : Seg} (h : PgState B ss p perm L) (hc : cov s p = false) : PgState B (ss ++ [s]) p perm L := by
  have e : (ss ++ [s]).filter (fun s => cov s p) = ss.filter (fun s => cov s p) := by simp [List.filter_append, hc]
  unfold PgState
  rw [e]; exact h
theorem pgState_in {B : List Int} {ss : List Seg} {p : Nat} {perm : Int} {L : List Int} {s : Seg} (h : PgState B ss p perm L) (hc : cov s p = true) : PgState B (ss ++ [s]) p s.perm (mixTo B s p L 256) := by
  have e : (ss ++ [s]).filter (fun s => cov s p) = ss.filter (fun s => cov s p) ++ [s] := by simp [List.filter_append, hc]
  refine ⟨mixTo_length _ _ _ _ _, fun h2 => by rw [e] at h2; simp at h2, fun t ht => ?_⟩
  rw [e] at ht
  have e2 : ss.filter (fun s => cov s p) = [] := by
    cases hx : ss.filter (fun s => cov s p) with
    | nil => rfl
    | cons a r => rw [hx] at ht; simp at ht
  rw [e2] at ht
  have : s = t := by simpa using ht
  subst this
  rw [(h.2.1 e2).2]
  exact ⟨rfl, mixTo_full _ _ _⟩
theorem countP_snoc (ss : List Seg) (s : Seg) (p : Nat) : (ss ++ [s]).countP (fun s => cov s p) = ss.countP (fun s => cov s p) + (if cov s p = true then 1 else 0) := by simp [List.countP_append, List.countP_cons]
theorem filter_none {ss : List Seg} {p : Nat} (h : ss.countP (fun s => cov s p) = 0) : ss.filter (fun s => cov s p) = [] := by
  rw [List.countP_eq_length_filter] at h
  exact List.eq_nil_of_length_eq_zero h
theorem filter_one {ss : List Seg} {p : Nat} (h : ss.countP (fun s => cov s p) = 1) : ∃ s, ss.filter (fun s => cov s p) = [s] := by
  rw [List.countP_eq_length_filter] at h
  exact List.length_eq_one_iff.1 h
/-- The document's pages are the program's. -/
theorem refPgs_all {B : List Int} {ss fs : List Seg} (hp : ss.Perm fs) (hf : ∀ s ∈ ss, SegFit B s) (hno : ∀ i, i + 1 < ss.length → ¬ ovAt ss i) : refPgs B fs 256 = allPgs B ss := by
  have hst := strict_pairwise (noOv_strict hf hno)
  rw [← pages_order B ss 0 hf hst (fun s hs => by have := fit_pages (hf s hs); omega) (by omega)]
  unfold refPgs
  rw [List.range_eq_range']
  refine flat_congr ?_
  intro p _
  have h1 := noOv_one hf hst p
  have h2 : (ss.filter (fun s => cov s p)).Perm (fs.filter (fun s => cov s p)) := hp.filter _
  rw [List.countP_eq_length_filter] at h1
  have h3 : fs.filter (fun s => cov s p) = ss.filter (fun s => cov s p) := by
    cases hx : ss.filter (fun s => cov s p) with
    | nil => rw [hx] at h2; exact h2.nil_eq.symm
    | cons a r =>
      rw [hx] at h1 h2
      have hr : r = [] := by simpa using h1
      subst hr
      exact List.perm_singleton.1 h2.symm
  rw [h3]
/-- An overlap in the one answer is one in the other. -/
theorem ov_same {B : List Int} {ss fs : List Seg} (hp : ss.Perm fs) (hf : ∀ s ∈ ss, SegFit B s) (hs : Sorted ss) :
    (∃ i, i + 1 < ss.length ∧ ovAt ss i) ↔ ∃ p, p < 256 ∧ 1 < fs.countP (fun s => cov s p) := by
  constructor
  · rintro ⟨i, hi, ho⟩
    obtain ⟨p, h1, h2⟩ := ov_two hf hs hi ho
    exact ⟨p, h1, by rw [← hp.countP_eq]; exact h2⟩
  · rintro ⟨p, h1, h2⟩
    apply Classical.byContradiction
    intro hn
    have hno : ∀ i, i + 1 < ss.length → ¬ ovAt ss i := fun i hi ho => hn ⟨i, hi, ho⟩
    have := noOv_one hf (strict_pairwise (noOv_strict hf hno)) p
    rw [hp.countP_eq] at this
    omega
end Go.Proofs.YtkmbleboceedbaaGreatDoor

/- Stack: more on what the pages hold. -/
namespace Go.Proofs.YtkmbleboceedbaaGreatDoor
open Go.RowKit
def intsRow (L : List Int) : List Value := L.map (Value.int .i64)
theorem intsRow_length (L : List Int) : (intsRow L).length = L.length := by simp [intsRow]
theorem room_low : ∀ ss, total ss ≤ 512 → ∀ j, j < 512 - total ss → (room ss)[j]? = some 0
  | [], _, j, hj => by
    unfold room zeroRoom
    rw [List.getElem?_replicate]
    simp [total] at hj
    simp [hj]
  | s :: r, h, j, hj => by
    have hr : total r ≤ 512 := by unfold total at h; omega
    unfold room
    have hl : 512 - total (s :: r) + (strInts s).length ≤ (room r).length := by rw [room_length r hr, strInts_length]; unfold total at h ⊢; omega
    rw [splice_get _ _ _ hl, if_pos hj]
    exact room_low r hr j (by unfold total at hj; omega)
theorem splice_zero_ext (L : List Int) (off : Nat) (xs : List Int) (m : Nat) (hl : off + xs.length + m ≤ L.length) (h : ∀ j, off + xs.length ≤ j → j < off + xs.length + m → L[j]? = some 0) :
    splice L off (xs ++ List.replicate m 0) = splice L off xs := by
  apply List.ext_getElem?
  intro j
  rw [splice_get _ _ _ (by simp; omega), splice_get _ _ _ (by omega)]
  simp only [List.length_append, List.length_replicate]
  by_cases a : j < off
  · simp [a]
  · by_cases c : j < off + xs.length
    · rw [if_neg a, if_pos (by omega), if_neg a, if_pos c, List.getElem?_append_left (by omega)]
    · by_cases d : j < off + xs.length + m
      · rw [if_neg a, if_pos (by omega), if_neg a, if_neg c, List.getElem?_append_right (by omega), List.getElem?_replicate, if_pos (by omega), h j (by omega) d]
      · rw [if_neg a, if_neg (by omega), if_neg a, if_neg c]
theorem words8_append (xs ys : List Int) : words8 (xs ++ ys) = words8 xs ++ words8 ys := by simp [words8]
theorem words8_one (x : Int) : words8 [x] = bytes8 x := by simp [words8]
theorem bytes8_zero : bytes8 0 = List.replicate 8 0 := by decide
theorem heads_take_last (ss : List ByteArray) : (heads ss).take (ss.length + 1) = ((ss.length : Nat) : Int) :: addrs ss := by
  unfold heads
  rw [List.take_succ_cons, List.take_append_of_le_length (by rw [addrs_length]; omega), List.take_of_length_le (by rw [addrs_length]; omega)]
theorem heads_eq (ss : List ByteArray) : heads ss = (heads ss).take (ss.length + 1) ++ [0] := by
  rw [heads_take_last]; simp [heads]
theorem heads_get (ss : List ByteArray) (k : Nat) (h : k < ss.length) : (heads ss)[k + 1]? = some ((addrs ss).getD k 0) := by
  unfold heads
  rw [List.getElem?_cons_succ, List.getElem?_append_left (by rw [addrs_length]; exact h)]
  simp [List.getD, List.getElem?_eq_getElem (show k < (addrs ss).length by rw [addrs_length]; exact h)]
theorem words8_take_succ (ws : List Int) (k : Nat) (x : Int) (h : ws[k]? = some x) : words8 (ws.take (k + 1)) = words8 (ws.take k) ++ bytes8 x := by
  obtain ⟨hk, e⟩ := List.getElem?_eq_some_iff.1 h
  rw [List.take_succ_eq_append_getElem hk, words8_append, e, words8_one]
theorem put_step (ss : List ByteArray) (X k : Nat) (h : k < ss.length) (hl : (room ss).length = 512) (hX : X + 8 * (ss.length + 2) ≤ 512) :
    splice (splice (room ss) X (words8 ((heads ss).take (k + 1)))) (0 + (X + 8 + 8 * k)) (bytes8 ((addrs ss).getD k 0)) = splice (room ss) X (words8 ((heads ss).take (k + 1 + 1))) := by
  have hw : (words8 ((heads ss).take (k + 1))).length = 8 * (k + 1) := by rw [words8_length, List.length_take, heads_length]; omega
  rw [words8_take_succ (heads ss) (k + 1) _ (heads_get ss k h), ← splice_splice _ _ _ _ (by rw [hw, bytes8_length, hl]; omega), hw]
  congr 1; omega
theorem put_last (ss : List ByteArray) (X : Nat) (hok : okArgs ss = true) (hX : X = spOff ss) : splice (room ss) X (words8 ((heads ss).take (ss.length + 1))) = stackRoom ss := by
  have ht : total ss ≤ 248 := by have := total_drop_le hok 0; simpa using this
  have h8 := (ok_all hok).1
  have hl := room_length ss (by omega)
  have hw : (words8 ((heads ss).take (ss.length + 1))).length = 8 * (ss.length + 1) := by rw [words8_length, List.length_take, heads_length]; omega
  have hs : X + 8 * (ss.length + 2) ≤ 512 - total ss := by rw [hX, spOff]; omega
  rw [stackRoom, ← hX]
  conv => rhs; rw [heads_eq ss, words8_append, words8_one, bytes8_zero]
  rw [splice_zero_ext _ _ _ _ (by rw [hw, hl]; omega) (fun j h1 h2 => room_low ss (by omega) j (by rw [hw] at h2; omega))]
theorem rev_get (ss : List ByteArray) (k : Nat) (h : k < ss.length) : (intsRow (addrs ss).reverse)[ss.length - 1 - k]? = some (.int .i64 ((addrs ss).getD k 0)) := by
  have hl := addrs_length ss
  unfold intsRow
  rw [List.getElem?_map, List.getElem?_reverse (by omega), hl, show ss.length - 1 - (ss.length - 1 - k) = k from by omega, List.getD, List.getElem?_eq_getElem (by omega)]
  rfl
theorem addrs_bd : ∀ (ss : List ByteArray) (k : Nat), k < ss.length → 0 ≤ (addrs ss).getD k 0 ∧ (addrs ss).getD k 0 ≤ 65536
  | [], k, h => by simp at h
  | s :: r, 0, h => by simp [addrs]; omega
  | s :: r, k + 1, h => by
    have := addrs_bd r k (by simpa using h)
    simpa [addrs] using this
end Go.Proofs.YtkmbleboceedbaaGreatDoor

/- The program's Count of an address space. -/
namespace Go.Proofs.YtkmbleboceedbaaGreatDoor
open Go Go.RowKit
set_option linter.unusedVariables false
set_option linter.unusedSimpArgs false

theorem permAt_found {PS : List Pg} (h : PgsOk PS) (j : Nat) : permAt PS j = 0 ∧ PS.find? (fun p => p.num == (j : Int)) = none ∨ 1 ≤ permAt PS j ∧ ∃ p, p ∈ PS ∧ PS.find? (fun p => p.num == (j : Int)) = some p ∧ permAt PS j = p.perm := by
  unfold permAt
  cases hf : PS.find? (fun p => p.num == (j : Int)) with
  | none => exact .inl ⟨rfl, rfl⟩
  | some p => exact .inr ⟨(h.each p (List.mem_of_find?_eq_some hf)).2.2.1, p, List.mem_of_find?_eq_some hf, rfl, rfl⟩
set_option maxRecDepth 100000 in
set_option maxHeartbeats 1000000 in
theorem count_any (pb so : Nat) (PS : List Pg) (w : World) (hok : PgsOk PS) (hc : ∀ j : Nat, j < 256 → w.cell? ⟨pb, so + j * 257, none⟩ = some (.int .u8 (permAt PS j))) :
    Calls Tryz.prog 71 #[.pointer (some ⟨pb, so, none⟩)] w fun e w' => e = .returned (.int .i64 (PS.length : Nat)) ∧ w' = w := by
  have HC := hide hc
  have HOK := hide hok
  clear hc hok
  go_enter Tryz.func71, Tryz.ntmps71
  go_wp2
  go_loopw [3, 5] (fun c i wr => ∃ j : Nat, j ≤ 256 ∧ i = .int .i64 j ∧ c = .int .i64 ((pgsTo PS j).length : Nat) ∧ wr = w) (fun _ i _ => 256 - (intOf i).toNat)
  case atStart => exact ⟨0, by omega, rfl, rfl, rfl⟩
  case round =>
    obtain ⟨j, hj, rfl, rfl, rfl⟩ := hrel
    by_cases hlt : j < 256
    · have hcell := unhide HC j hlt
      have hj0 : (0 : Int) ≤ (j : Int) := by omega
      have hj1 : (j : Int) < 256 := by omega
      have hl := pgsTo_len PS j
      have hs := pgsTo_succ PS j
      obtain ⟨n, hn⟩ : ∃ n, n = (pgsTo PS j).length := ⟨_, rfl⟩
      obtain ⟨v, hv⟩ : ∃ v, v = permAt PS j := ⟨_, rfl⟩
      rw [← hn] at hl ⊢
      rw [← hv] at hcell
      have hn2 : (n : Int) ≤ 256 := by omega
      rcases permAt_found (unhide HOK) j with ⟨h1, h2⟩ | ⟨h1, p, _, h2, _⟩
      · have HE := hide (show (pgsTo PS (j + 1)).length = n by rw [hs, h2, hn]; simp)
        have k0 : v = 0 := by omega
        subst k0
        clear hs hn hv h1 h2 hl
        go_wp2
        exact ⟨⟨j + 1, by omega, by simp, by rw [unhide HE], trivial⟩, by simp only [intOf]; omega⟩
      · have HE := hide (show (pgsTo PS (j + 1)).length = n + 1 by rw [hs, h2, hn]; simp)
        have k0 : (v == 0) = false := by simp; omega
        clear hs hn h1 h2 hl
        clear hv
        go_wp2
        exact ⟨⟨j + 1, by omega, by simp, by rw [unhide HE]; simp, trivial⟩, by simp only [intOf]; omega⟩
    · have : j = 256 := by omega
      subst this
      rw [pgsTo_all (unhide HOK)]
      go_wp2
      go_ret
      exact ⟨rfl, rfl⟩
end Go.Proofs.YtkmbleboceedbaaGreatDoor

/- Great structs of the program: what is built, laid, loaded. -/
namespace Go.Proofs.YtkmbleboceedbaaGreatDoor
open Go Go.RowKit
set_option linter.unusedVariables false
set_option linter.unusedSimpArgs false

theorem splice_cons {α : Type} (L : List α) (o : Nat) (v : α) (r : List α) (h : o + (r.length + 1) ≤ L.length) : splice (L.set o v) (o + 1) r = splice L o (v :: r) := by
  have a := splice_set L o [v] 0 v rfl (by simp; omega)
  simp only [List.take_zero, splice_nil, Nat.add_zero, Nat.zero_add] at a
  rw [a, show (List.take 1 [v]) = [v] from rfl]
  exact splice_splice L o [v] r (by simp; omega)
theorem fold_splice (off : Nat) : ∀ (vs : List Value) (k : Nat) (L : List Value), off + k + vs.length ≤ L.length → (vs.zipIdx k).foldl (fun cs (x : Value × Nat) => cs.setIfInBounds (off + x.2) x.1) L.toArray = (splice L (off + k) vs).toArray
  | [], k, L, _ => by rw [splice_nil]; rfl
  | v :: r, k, L, h => by
    have h' : off + k + (r.length + 1) ≤ L.length := h
    rw [List.zipIdx_cons, List.foldl_cons]
    show (r.zipIdx (k + 1)).foldl _ (L.toArray.setIfInBounds (off + k) v) = _
    rw [List.setIfInBounds_toArray, fold_splice off r (k + 1) (L.set (off + k) v) (by rw [List.length_set]; omega), ← Nat.add_assoc, splice_cons L (off + k) v r h']
/-- One part more of a struct that is built. -/
theorem fill_part (place : Nat → Option (Nat × Nat)) (L : List Value) (i off size : Nat) (v : Value) (rest : List (Nat × Value)) (hp : place i = some (off, size)) (hs : v.cells.size = size) (hle : off + size ≤ L.length) :
    Instr.fill place L.toArray ((i, v) :: rest) = Instr.fill place (splice L off v.cells.toList).toArray rest := by
  rw [Instr.fill]
  simp only [hp]
  rw [if_neg (by simp [hs]; omega)]
  congr 1
  have h := fold_splice off v.cells.toList 0 L (by rw [Array.length_toList, hs]; omega)
  rw [Nat.add_zero] at h
  rw [← h, ← Array.foldl_toList, Array.toList_zipIdx]
theorem page_fields (w : World) : ((#[{ name := "perm", type := 84, offset := 0, embedded := false, tag := "", pkgPath := "tinyos/mem", byteOffset := 0 }, { name := "bytes", type := 85, offset := 1, embedded := false, tag := "", pkgPath := "tinyos/mem", byteOffset := 1 }] : Array Field).mapM fun f => (do pure (f.offset, ← sizeOf f.type) : Sem (Nat × Nat))).run Tryz.prog w = .ok #[(0, 1), (1, 256)] w := by kernel_rfl
theorem page_built (perm : Int) (bytes : List Int) (hb : bytes.length = 256) (w : World) : (Instr.build 173 #[(0, .int .u8 perm), (1, .agg (bytesRow bytes).toArray)]).run Tryz.prog w = .ok (.agg (pageCells ⟨0, perm, bytes⟩).toArray) w := by
  have hzv := Tryz.zeroValue173 w
  have hl : Tryz.zeroCells173.toList.length = 257 := by rw [Array.length_toList]; exact Tryz.zeroCells173_size
  generalize Tryz.zeroCells173 = ZA at hzv hl
  obtain ⟨Z⟩ := ZA
  have hl : Z.length = 257 := hl
  have hff : Instr.fill (fun i => (#[(0, 1), (1, 256)] : Array (Nat × Nat))[i]?) (Value.agg Z.toArray).cells [(0, Value.int .u8 perm), (1, Value.agg (bytesRow bytes).toArray)] = some (pageCells ⟨0, perm, bytes⟩).toArray := by
    show Instr.fill _ Z.toArray _ = _
    rw [fill_part _ _ 0 0 1 _ _ rfl rfl (by rw [hl]; omega), fill_part _ _ 1 1 256 _ _ rfl (by simp [Value.cells, bytesRow_length, hb]) (by rw [splice_length _ _ _ (by simp [Value.cells, hl])]; omega)]
    refine congrArg some (congrArg List.toArray ?_)
    cases Z with
    | nil => simp at hl
    | cons z r =>
      have hr : r.length = 256 := by simpa using hl
      unfold splice pageCells
      simp [Value.cells, bytesRow_length, hb, hr]
  unfold Instr.build
  simp only [Sem.run_bind, hzv, Result.andThen_ok, run_underlying Tryz.underlying173, page_fields, hff]
  rfl
/-- What the walk makes of a page that is built. -/
theorem page_fold (p : Pg) (hb : p.bytes.length = 256) : List.foldl (fun (cs : Array Value) (x : Value × Nat) => cs.setIfInBounds (1 + x.snd) x.fst) (Tryz.zeroCells173.setIfInBounds 0 (.int .u8 p.perm)) (bytesRow p.bytes).zipIdx = (pageCells p).toArray := by
  have hl : Tryz.zeroCells173.toList.length = 257 := by rw [Array.length_toList]; exact Tryz.zeroCells173_size
  generalize Tryz.zeroCells173 = ZA at hl
  obtain ⟨Z⟩ := ZA
  have hl : Z.length = 257 := hl
  rw [List.setIfInBounds_toArray, fold_splice 1 (bytesRow p.bytes) 0 _ (by rw [List.length_set, bytesRow_length, hb, hl]; omega)]
  refine congrArg List.toArray ?_
  cases Z with
  | nil => simp at hl
  | cons z r =>
    have hr : r.length = 256 := by simpa using hl
    unfold splice pageCells
    simp [bytesRow_length, hb, hr]
end Go.Proofs.YtkmbleboceedbaaGreatDoor
