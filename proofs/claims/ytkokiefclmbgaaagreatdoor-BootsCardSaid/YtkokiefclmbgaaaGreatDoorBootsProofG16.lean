import Derived.Test.YtkokiefclmbgaaaGreatDoorBootsProofG15
import Derived.Test.YtkokiefclmbgaaaGreatDoorBootsProofG13
import Derived.Deep.RegionHeld3
import Derived.Deep.RegionLaw
import Derived.Deep.AppendLies
/- exe.Load. -/
namespace Go.Proofs.YtkokiefclmbgaaaGreatDoor
open Go.RowKit
set_option linter.unusedVariables false
set_option linter.unusedSimpArgs false

def noPlan : Value := .agg #[.int .u64 0, .slice none 0 0]
def errPlan (c : Int) : Ending := .returned (.tuple #[noPlan, .iface 45 (.int .i64 c)])
/-- How many segments the file tells of. -/
def segCount (B : List Int) : Nat := (numAt B 56 2).toNat
def AllOk (B : List Int) : Prop := ∀ i, i < segCount B → SegOk B (64 + 56 * i)
def Sorted (ss : List Seg) : Prop := ∀ i j, i < j → j < ss.length → (ss.getD i seg0).addr ≤ (ss.getD j seg0).addr
/-- The pages of all segments, in their order. -/
def allPgs (B : List Int) (ss : List Seg) : List Pg := ss.flatMap fun s => segPgs B s s.count
def LoadPost (B : List Int) (w : World) (e : Ending) (w' : World) : Prop :=
  (¬ HdrOk B ∧ e = errPlan 2 ∨ HdrOk B ∧ ¬ AllOk B ∧ e = errPlan 3 ∨
   HdrOk B ∧ AllOk B ∧ ∃ ss : List Seg, ss.Perm (segsUpTo B (segCount B)) ∧ Sorted ss ∧
     ((∃ i, i + 1 < ss.length ∧ ovAt ss i) ∧ e = errPlan 4 ∨
      (∀ i, i + 1 < ss.length → ¬ ovAt ss i) ∧ (¬ entOk (numAt B 24 8) ss ∧ e = errPlan 5 ∨
        entOk (numAt B 24 8) ss ∧ ∃ g gc, e = .returned (.tuple #[.agg #[.int .u64 (numAt B 24 8), .slice (some ⟨g, 0, none⟩) (allPgs B ss).length gc], .nilIface]) ∧ w'.ownsRow w.heap.size 87 258 (.slice (some ⟨g, 0, none⟩) (allPgs B ss).length gc) (allPgs B ss).length (apiRow (allPgs B ss))))) ∧ Below w.heap.size w w'

/-- The result's cell written with the empty plan: as it was. -/
theorem plan_set {W w : World} {p : Nat} (h : Holds W p 187 [.int .u64 0, .slice none 0 0]) (hb : Below p w W) :
    ((W.setCell ⟨p, 0, none⟩ (.int .u64 0)).setCell ⟨p, 1, none⟩ (.slice none 0 0)).cell? ⟨p, 0, none⟩ = some (.int .u64 0) ∧ ((W.setCell ⟨p, 0, none⟩ (.int .u64 0)).setCell ⟨p, 1, none⟩ (.slice none 0 0)).cell? ⟨p, 1, none⟩ = some (.slice none 0 0) ∧
    Below p w ((W.setCell ⟨p, 0, none⟩ (.int .u64 0)).setCell ⟨p, 1, none⟩ (.slice none 0 0)) :=
  have h2 := (h.set 0 (.int .u64 0)).set 1 (.slice none 0 0)
  ⟨h2.cell rfl, h2.cell rfl, (hb.setCell (p := ⟨p, 0, none⟩) (Nat.le_refl _) _).setCell (p := ⟨p, 1, none⟩) (Nat.le_refl _) _⟩
theorem segFit_of {B : List Int} (hB : IsBytes B) {p : Nat} (h : SegOk B p) : SegFit B (segAt B p) :=
  ⟨(numAt_8 hB _ _ (by omega)).1, (numAt_8 hB _ _ (by omega)).1, (numAt_8 hB _ _ (by omega)).1, h.2.2.1, h.2.2.2.1, h.2.2.2.2.1, h.2.2.2.2.2.2⟩
theorem fits_all {B : List Int} (hB : IsBytes B) {n : Nat} (h : ∀ i, i < n → SegOk B (64 + 56 * i)) {ss : List Seg} (hp : ss.Perm (segsUpTo B n)) : ∀ s ∈ ss, SegFit B s := by
  intro s hs
  have := hp.mem_iff.1 hs
  obtain ⟨i, hi, rfl⟩ := List.mem_map.1 this
  exact segFit_of hB (h i (by simpa using hi))
theorem allPgs_step (B : List Int) (ss : List Seg) (k : Nat) (s : Seg) (h : ss[k]? = some s) : allPgs B (ss.take (k + 1)) = allPgs B (ss.take k) ++ segPgs B s s.count := by
  have : ss.take (k + 1) = ss.take k ++ [s] := by rw [List.take_add_one, h]; rfl
  rw [this, allPgs, List.flatMap_append]; simp [allPgs]
theorem apiRow_append (a b : List Pg) : apiRow (a ++ b) = apiRow a ++ apiRow b := by simp [apiRow]
theorem count_pos {B : List Int} {s : Seg} (h : SegFit B s) : 1 ≤ s.count ∧ s.count ≤ 255 := by
  obtain ⟨a0, o0, i0, m1, hfm, hfit, htop⟩ := h
  unfold Seg.count Seg.last Seg.first
  omega
theorem allPgs_le {B : List Int} {ss : List Seg} (h : ∀ s ∈ ss, SegFit B s) : (allPgs B ss).length ≤ ss.length * 255 := by
  induction ss with
  | nil => simp [allPgs]
  | cons s r ih =>
    have h1 := ih (fun x hx => h x (List.mem_cons_of_mem _ hx))
    have h2 := (count_pos (h s List.mem_cons_self)).2
    have e : allPgs B (s :: r) = segPgs B s s.count ++ allPgs B r := by simp [allPgs]
    rw [e, List.length_append, segPgs_length, List.length_cons]
    omega
theorem step_call1 {P : Program} {ops : Array Oper} {o : Oper} {a : Act} {w : World} {K : Act → World → Prop} {Q : Exit → Act → World → Prop} {E : Prop} (hgd : o.guard = none) (f n : Nat) (t : TypeId)
    (ho : o.op = .call { callee := .value (.func f), args := #[.tmp n], argTypes := #[t] }) (val : Value) (hx : a.eval (.tmp n) = val)
    (he : ∀ args w, (callFunc f args).run P w = .ok (.enter f args) w) (r : Value) (post : World → Prop) (hc : Calls P f #[val] w fun e w' => e = .returned r ∧ post w')
    (h : ∀ w', post w' → K (a.put o.dst r) w') :
    if Region.wanted o (yielded ops a.tmps) = true then Oper.wp P o a w K Q else E := by
  have hw : Region.wanted o (yielded ops a.tmps) = true := by simp [Region.wanted, hgd]
  have hx' : a.tmps[n]?.getD undef = val := by rw [← hx]; simp [go_sem]
  rw [if_pos hw]
  unfold Oper.wp
  simp [execOp, ho, resolve, invoke, hx', Result.andThen, go_sem, he]
  refine hc.mono ?_
  rintro e w' ⟨rfl, hp⟩
  have := h w' hp
  simpa [go_sem] using this
theorem pagesEnter : ∀ args w, (callFunc 105 args).run Tryz.prog w = .ok (.enter 105 args) w := enters_of Tryz.func105 (by kernel_rfl) rfl
theorem own_base {W : World} {base base' size n : Nat} {e : TypeId} {v : Value} {xs : List Value} (h : W.ownsRow base e size v n xs) (hb : base' ≤ base) : W.ownsRow base' e size v n xs := by
  obtain ⟨h1, h2⟩ := h
  refine ⟨h1, ?_⟩
  rcases h2 with h2 | ⟨g, cap, cur, a, b, c⟩
  · exact .inl h2
  · exact .inr ⟨g, cap, cur, a, by omega, c⟩
theorem holds_news {W : World} {p : Nat} {t : TypeId} {news : List Value} (h : Hid (Holds W p t news)) : ∀ j u, news[j]? = some u → W.cell? ((⟨p, 0, none⟩ : Addr).add j) = some u := fun j u hj => by
  rw [addr_add, Nat.zero_add]; exact (unhide h).cell hj
theorem apiRow_one (PS : List Pg) : ∀ v ∈ apiRow PS, v.oneCell' = true := by
  intro v hv
  obtain ⟨p, _, hv⟩ := List.mem_flatMap.1 hv
  simp only [pageRow, List.mem_cons] at hv
  rcases hv with rfl | rfl | hv
  · rfl
  · rfl
  · exact bytesRow_one _ v hv

set_option maxRecDepth 100000 in
set_option maxHeartbeats 2000000 in
theorem load_exe (b off cap : Nat) (B : List Int) (w : World) (hB : IsBytes B) (hcap : B.length ≤ cap) (hlen : B.length ≤ 500000) (hv : BView w b off B) (hbw : b < w.heap.size) (ht : w.rangeAt 1 0 tblRow) (hgw : 1 < w.heap.size) :
    Calls Tryz.prog 67 #[.slice (some ⟨b, off, none⟩) B.length cap] w fun e w' => LoadPost B w e w' := by
  have hal := (Below.refl w.heap.size w).alloc (Nat.le_refl _) (.cells #[.int .u64 0, .slice none 0 0] 187)
  have HH := hide (readHeader_any b off cap B (w.alloc (.cells #[.int .u64 0, .slice none 0 0] 187)) hB (by omega) (by omega) (hv.below hal hbw) (by simp; omega) (fun j v hj => by rw [hal.cell (p := ⟨1, 0 + j, none⟩) hgw]; exact ht j v hj) (by simp; omega))
  have HB := hide hB
  have HV := hide hv
  have HNum := hide (And.intro hcap hlen)
  clear hB hv ht hal hcap hlen
  go_enter Tryz.func67, Tryz.ntmps67
  go_wp2_with fail
  refine (unhide HH).mono ?_
  rintro e w1 ⟨n, ok, rfl, hb1, hok, hn⟩
  have r1 := Holds.new w 187 [.int .u64 0, .slice none 0 0]
  have hR1 := r1.below hb1 (by simp)
  have hbl1 := ((Below.refl w.heap.size w).alloc (Nat.le_refl _) (.cells #[.int .u64 0, .slice none 0 0] 187)).trans (hb1.mono (by simp))
  have hs1 : w.heap.size < w1.heap.size := hR1.lt
  have HR1 := hide hR1
  have HBL1 := hide hbl1
  have HN := hide hn
  have HOK := hide hok
  clear r1 hb1 hR1 hbl1 hn hok HH
  cases ok
  · have c0 : w1.cell? ⟨w.heap.size, 0, none⟩ = some (.int .u64 0) := (unhide HR1).cell rfl
    have c1 : w1.cell? ⟨w.heap.size, 1, none⟩ = some (.slice none 0 0) := (unhide HR1).cell rfl
    have f0 := (unhide HR1).frozen 0
    have f1 := (unhide HR1).frozen 1
    obtain ⟨d0, d1, d2⟩ := plan_set (unhide HR1) (unhide HBL1)
    have D2 := hide d2
    clear d2
    go_wp2
    exact bodyPost_ret (v := .tuple #[noPlan, .iface 45 (.int .i64 2)]) (by simp [results, Tryz.results67, go_sem, noPlan, d0, d1]) rfl ⟨.inl ⟨fun h => by (have := (unhide HOK).2 h; cases this), rfl⟩, unhide D2⟩
  have hdr : HdrOk B := (unhide HOK).1 rfl
  have hnn : n = ((segCount B : Nat) : Int) := by
    have h1 := (unhide HN) hdr
    have h2 := hdr.2.2.2.2.2.2.2.2.1
    rw [h1, segCount]; omega
  have hc1 : 1 ≤ segCount B := by have h2 := hdr.2.2.2.2.2.2.2.2.1; rw [segCount]; omega
  have hc8 : segCount B ≤ 8 := by have h2 := hdr.2.2.2.2.2.2.2.2.2.1; rw [segCount]; omega
  have hcl : 64 + 56 * segCount B ≤ B.length := by (have h1 := hdr.2.2.2.2.2.2.2.2.1; have h2 := hdr.2.2.2.2.2.2.2.2.2.2; rw [segCount]; omega)
  subst hnn
  have HDR := hide hdr
  obtain ⟨N, hN⟩ : ∃ N, N = segCount B := ⟨_, rfl⟩
  rw [← hN] at hc1 hc8 hcl ⊢
  have HSC := hide hN
  have hv1 : BView w1 b off B := (unhide HV).below (unhide HBL1) hbw
  have HSG := hide (readSegments_any b off cap B N w1 (unhide HB) (unhide HNum).1 (unhide HNum).2 hv1 (by omega) hc1 hc8 hcl)
  clear hdr hN HN HOK hv1
  go_wp2_with fail
  refine (unhide HSG).mono ?_
  rintro e w2 ⟨(⟨aok, rfl, hho⟩ | ⟨nok, rfl⟩), hb2⟩
  case inr =>
    have hR2 := (unhide HR1).below hb2 hs1
    have hbl2 := (unhide HBL1).trans (hb2.mono (by omega))
    have c0 : w2.cell? ⟨w.heap.size, 0, none⟩ = some (.int .u64 0) := hR2.cell rfl
    have c1 : w2.cell? ⟨w.heap.size, 1, none⟩ = some (.slice none 0 0) := hR2.cell rfl
    have f0 := hR2.frozen 0
    have f1 := hR2.frozen 1
    obtain ⟨d0, d1, d2⟩ := plan_set hR2 hbl2
    have D2 := hide d2
    have NOK := hide nok
    clear d2 nok hR2 hbl2 hb2
    go_wp2
    exact bodyPost_ret (v := .tuple #[noPlan, .iface 45 (.int .i64 3)]) (by simp [results, Tryz.results67, go_sem, noPlan, d0, d1]) rfl ⟨.inr (.inl ⟨unhide HDR, fun h => unhide NOK (by rw [unhide HSC]; exact h), rfl⟩), unhide D2⟩
  have hR2 := (unhide HR1).below hb2 hs1
  have hbl2 := (unhide HBL1).trans (hb2.mono (by omega))
  have hsl : (segsUpTo B N).length = N := segsUpTo_length B N
  have HSO := hide (sort_any b off cap w1.heap.size N (segsUpTo B N) w2 hho (by omega))
  rw [hsl] at HSO
  have hs2 : w1.heap.size < w2.heap.size := hho.lt
  have HR2 := hide hR2
  have HBL2 := hide hbl2
  have AOK := hide aok
  clear hR2 hbl2 hb2 aok hho HR1 HBL1 HSG
  go_wp2_with fail
  refine (unhide HSO).mono ?_
  rintro e w3 ⟨rfl, ss, hperm, hsorted, hho3, hg3⟩
  have hR3 := (unhide HR2).grown hg3 (by simp; omega)
  have hbl3 := (unhide HBL2).trans (below_grown hg3 (by omega) (by omega))
  have hs3 := hho3.lt
  have hssl : ss.length = N := by rw [hperm.length_eq, hsl]
  have HPM := hide hperm
  have HST := hide hsorted
  have HR3 := hide hR3
  have HBL3 := hide hbl3
  have HHO3 := hide hho3
  have HOV := hide (overlap_any b off cap w1.heap.size N ss w3 hho3 (by omega) (by omega))
  rw [hssl] at HOV
  clear hperm hsorted hg3 hR3 hbl3 hho3 HR2 HBL2 HSO hsl
  go_wp2_with fail
  refine (unhide HOV).mono ?_
  rintro e w4 ⟨(⟨hov, rfl⟩ | ⟨nov, rfl⟩), hh4, hb4⟩
  case inl =>
    have hR4 := (unhide HR3).heap hh4
    have hbl4 := (unhide HBL3).trans (hb4.mono (unhide HBL3).size)
    have c0 : w4.cell? ⟨w.heap.size, 0, none⟩ = some (.int .u64 0) := hR4.cell rfl
    have c1 : w4.cell? ⟨w.heap.size, 1, none⟩ = some (.slice none 0 0) := hR4.cell rfl
    have f0 := hR4.frozen 0
    have f1 := hR4.frozen 1
    obtain ⟨d0, d1, d2⟩ := plan_set hR4 hbl4
    have D2 := hide d2
    have OV := hide hov
    clear d2 hov hR4 hbl4 hb4 hh4
    go_wp2
    exact bodyPost_ret (v := .tuple #[noPlan, .iface 45 (.int .i64 4)]) (by simp [results, Tryz.results67, go_sem, noPlan, d0, d1]) rfl ⟨.inr (.inr ⟨unhide HDR, by rw [AllOk, ← unhide HSC]; exact unhide AOK, ss, by rw [← unhide HSC]; exact unhide HPM, unhide HST, .inl ⟨by rw [hssl]; exact unhide OV, rfl⟩⟩), unhide D2⟩
  have hR4 := (unhide HR3).heap hh4
  have hbl4 := (unhide HBL3).trans (hb4.mono (unhide HBL3).size)
  have hho4 := (unhide HHO3).heap hh4
  have hv4 : BView w4 b off B := (unhide HV).below hbl4 hbw
  have HR4 := hide hR4
  have HBL4 := hide hbl4
  have HHO4 := hide hho4
  have NOV := hide nov
  have hs4 := hho4.lt
  have hl64 : 64 ≤ B.length := by omega
  have HNU := hide (number_any b off cap B 24 8 w4 (unhide HB) (by omega) (by omega) (by omega) (by have := (unhide HNum).1; omega) (by have := (unhide HNum).2; omega) hv4)
  have hE := (numAt_8 (unhide HB) 24 8 (by omega)).1
  obtain ⟨E, hEd⟩ : ∃ E, E = numAt B 24 8 := ⟨_, rfl⟩
  rw [← hEd] at hE HNU
  have HED := hide hEd
  have HEN := hide (isEntry_any b off cap w1.heap.size N E ss w4 hho4 (by omega) hE)
  rw [hssl] at HEN
  clear hR4 hbl4 hho4 hv4 nov hEd hb4 hh4 HR3 HBL3 HHO3 HOV
  go_wp2_with fail
  refine (unhide HNU).mono ?_
  rintro e w5 ⟨rfl, hw5⟩
  subst hw5
  go_wp2_with fail
  refine (unhide HEN).mono ?_
  rintro e w6 ⟨(⟨hen, rfl⟩ | ⟨nen, rfl⟩), hb6⟩
  case inr =>
    have hR6 := (unhide HR4).below hb6 (by omega)
    have hbl6 := (unhide HBL4).trans (hb6.mono (by omega))
    have c0 : w6.cell? ⟨w.heap.size, 0, none⟩ = some (.int .u64 0) := hR6.cell rfl
    have c1 : w6.cell? ⟨w.heap.size, 1, none⟩ = some (.slice none 0 0) := hR6.cell rfl
    have f0 := hR6.frozen 0
    have f1 := hR6.frozen 1
    obtain ⟨d0, d1, d2⟩ := plan_set hR6 hbl6
    have D2 := hide d2
    have NEN := hide nen
    clear d2 nen hR6 hbl6 hb6
    go_wp2
    exact bodyPost_ret (v := .tuple #[noPlan, .iface 45 (.int .i64 5)]) (by simp [results, Tryz.results67, go_sem, noPlan, d0, d1]) rfl ⟨.inr (.inr ⟨unhide HDR, by rw [AllOk, ← unhide HSC]; exact unhide AOK, ss, by rw [← unhide HSC]; exact unhide HPM, unhide HST, .inr ⟨by rw [hssl]; exact unhide NOV, .inl ⟨by rw [← unhide HED]; exact unhide NEN, rfl⟩⟩⟩), unhide D2⟩
  have hR6 := (unhide HR4).below hb6 (by omega)
  have hbl6 := (unhide HBL4).trans (hb6.mono (by omega))
  have hho6 := (unhide HHO4).below hb6 hs4
  have HR6 := hide hR6
  have HBL6 := hide hbl6
  have HHO6 := hide hho6
  have HENT := hide hen
  have hs6 := hho6.lt
  clear hR6 hbl6 hho6 hen hb6 HR4 HBL4 HHO4 HEN HNU
  have HFA := hide (fits_all (unhide HB) (unhide AOK) (unhide HPM))
  obtain ⟨ip, hip, hzz⟩ := Option.map_eq_some_iff.1 apiInfo
  simp only [Prod.mk.injEq] at hzz
  have HIP := hide (And.intro hip hzz)
  clear hip hzz
  go_wp2
  go_loopw [48] (fun i wr => ∃ k : Nat, k ≤ N ∧ i = .int .i64 k ∧ ∃ v : Value, Holds wr w6.heap.size 187 [.int .u64 E, v] ∧ Holds wr w.heap.size 187 [.int .u64 0, .slice none 0 0] ∧ Holds wr w1.heap.size 245 (segsRow b off cap ss) ∧
      wr.ownsRow (w6.heap.size + 1) 87 258 v (allPgs B (ss.take k)).length (apiRow (allPgs B (ss.take k))) ∧ Below w.heap.size w wr ∧ w6.heap.size + 1 ≤ wr.heap.size) (fun i _ => N - (intOf i).toNat)
  case atStart =>
    refine ⟨0, by omega, rfl, .slice none 0 0, Holds.new _ _ _, (unhide HR6).alloc _, (unhide HHO6).alloc _, World.ownsRow_nil _ _ _ _, (unhide HBL6).alloc (by omega) _, by simp⟩
  case round =>
    obtain ⟨k, hk, rfl, v, hpl, hre, hse, how, hbl, hsz⟩ := hrel
    have HPL := hide hpl
    have HRE := hide hre
    have HSE := hide hse
    have HOW := hide how
    have HBL := hide hbl
    by_cases hlt : k < N
    · obtain ⟨s, hs⟩ : ∃ s, s = ss.getD k seg0 := ⟨_, rfl⟩
      have hsk : ss[k]? = some s := by rw [hs, List.getD, List.getElem?_eq_getElem (by omega)]; rfl
      have hsf : SegFit B s := (unhide HFA) s (List.mem_of_getElem? hsk)
      have c0 : wr.cell? ⟨w1.heap.size, k * 5, none⟩ = some (.int .u8 s.perm) := by rw [hs]; exact seg_cell hse k (by omega) 0 _ (by omega) rfl
      have c1 : wr.cell? ⟨w1.heap.size, k * 5 + 1, none⟩ = some (.int .u64 s.addr) := by rw [hs]; exact seg_cell hse k (by omega) 1 _ (by omega) rfl
      have c2 : wr.cell? ⟨w1.heap.size, k * 5 + 2, none⟩ = some (.slice (some ⟨b, segPtr off cap s, none⟩) s.inFile.toNat (cap - s.offs.toNat)) := by rw [hs]; exact seg_cell hse k (by omega) 2 _ (by omega) rfl
      have c3 : wr.cell? ⟨w1.heap.size, k * 5 + 3, none⟩ = some (.int .i64 (s.addr / 256)) := by rw [hs]; exact seg_cell hse k (by omega) 3 _ (by omega) rfl
      have c4 : wr.cell? ⟨w1.heap.size, k * 5 + 4, none⟩ = some (.int .i64 ((s.addr + s.mem - 1) / 256)) := by rw [hs]; exact seg_cell hse k (by omega) 4 _ (by omega) rfl
      have HPA := hide (fun w' => pages_any b off cap B s w' hsf (unhide HNum).1 (unhide HNum).2)
      have hal := (Below.refl wr.heap.size wr).alloc (Nat.le_refl _) (.cells (segCells b off cap s).toArray 245)
      have hpl2 := hpl.alloc (.cells (segCells b off cap s).toArray 245)
      have p1 := hpl2.cell (j := 1) rfl
      have pf := hpl2.frozen 1
      have hk0 : (0 : Int) ≤ (k : Int) := by omega
      have hk1 : (k : Int) < (N : Int) := by omega
      have HSF := hide hsf
      have HSK := hide hsk
      unfold segVal at HPA
      unfold segCells at p1 pf
      generalize s.addr / 256 = F1 at c3 HPA p1 pf
      generalize (s.addr + s.mem - 1) / 256 = L1 at c4 HPA p1 pf
      generalize s.addr = AA at c1 HPA p1 pf
      generalize segPtr off cap s = SP at c2 HPA p1 pf
      generalize s.offs.toNat = OO at c2 HPA p1 pf
      generalize s.inFile.toNat = FF at c2 HPA p1 pf
      generalize s.perm = PP at c0 HPA p1 pf
      clear hpl hre hse how hbl hal hpl2 hsf hsk hs
      obtain ⟨W, hW⟩ : ∃ W, W = wr.alloc (.cells #[.int .u8 PP, .int .u64 AA, .slice (some ⟨b, SP, none⟩) FF (cap - OO), .int .i64 F1, .int .i64 L1] 245) := ⟨_, rfl⟩
      have HW := hide hW
      have q5 := Holds.new wr 245 [.int .u8 PP, .int .u64 AA, .slice (some ⟨b, SP, none⟩) FF (cap - OO), .int .i64 F1, .int .i64 L1]
      rw [← hW] at q5 p1 pf
      have hWs : W.heap.size = wr.heap.size + 1 := by rw [hW]; simp
      have HWB := hide (show Below wr.heap.size wr W from by rw [hW]; exact (Below.refl _ _).alloc (Nat.le_refl _) _)
      have q0 : W.cell? ⟨wr.heap.size, 0, none⟩ = some (.int .u8 PP) := q5.cell rfl
      have q1 : W.cell? ⟨wr.heap.size, 1, none⟩ = some (.int .u64 AA) := q5.cell rfl
      have q2 : W.cell? ⟨wr.heap.size, 2, none⟩ = some (.slice (some ⟨b, SP, none⟩) FF (cap - OO)) := q5.cell rfl
      have q3 : W.cell? ⟨wr.heap.size, 3, none⟩ = some (.int .i64 F1) := q5.cell rfl
      have q4 : W.cell? ⟨wr.heap.size, 4, none⟩ = some (.int .i64 L1) := q5.cell rfl
      obtain ⟨m, hm⟩ : ∃ m, m = s.count := ⟨_, rfl⟩
      obtain ⟨news, hnews⟩ : ∃ x, x = apiRow (segPgs B s m) := ⟨_, rfl⟩
      obtain ⟨G, hG⟩ : ∃ G, G = W.heap.size + 1 := ⟨_, rfl⟩
      have HPB : Hid (Calls Tryz.prog 105 #[.agg #[.int .u8 PP, .int .u64 AA, .slice (some ⟨b, SP, none⟩) FF (cap - OO), .int .i64 F1, .int .i64 L1]] W.drew fun e w'' => e = .returned (.slice (some ⟨G, 0, none⟩) m m) ∧ Hid (Holds w'' G 87 news) ∧ Hid (Below W.heap.size W w'')) := by
        have hbv : BView W.drew b off B := fun j hj => (((unhide HV).below (unhide HBL) hbw).below (unhide HWB) (by have := (unhide HBL).size; omega)) j hj
        have hbb : b < W.drew.heap.size := by show b < W.heap.size; rw [hWs]; have := (unhide HBL).size; omega
        refine hide ((unhide HPA W.drew hbv hbb).mono ?_)
        rintro e w'' ⟨he, h1, h2⟩
        rw [← hm] at he h1
        exact ⟨by rw [hG]; exact he, by rw [hnews, hG]; exact h1, ⟨h2.os, h2.tape, h2.output, h2.size, h2.block⟩⟩
      obtain ⟨M, hM⟩ : ∃ M, M = (allPgs B (ss.take k)).length := ⟨_, rfl⟩
      obtain ⟨xs, hxs⟩ : ∃ xs, xs = apiRow (allPgs B (ss.take k)) := ⟨_, rfl⟩
      rw [← hM, ← hxs] at HOW
      have HM := hide (And.intro hm (And.intro hnews (And.intro hM hxs)))
      have hm1 := (count_pos (unhide HSF)).1
      have hm2 := (count_pos (unhide HSF)).2
      have hM8 : M ≤ 8 * 255 := by
        have := allPgs_le (ss := ss.take k) (fun x hx => (unhide HFA) x (List.mem_of_mem_take hx))
        rw [← hM] at this
        have h9 : (ss.take k).length ≤ 8 := by simp; omega
        omega
      rw [← hm] at hm1 hm2
      have hnl : news.length = m * 258 := by rw [hnews, apiRow_length _ (segPgs_bytes B s m), segPgs_length]
      have hn1 : ∀ u ∈ news, u.oneCell' = true := by rw [hnews]; exact apiRow_one _
      have HNW := hide (And.intro hnl hn1)
      have hpb : w6.heap.size < wr.heap.size := by omega
      have KS7 : Hid (∀ w', Hid (Below W.heap.size W w') → w'.frozen? ⟨w6.heap.size, 1, none⟩ = false ∧ w'.cell? ⟨w6.heap.size, 1, none⟩ = some v ∧ w'.cell? ⟨wr.heap.size, 0, none⟩ = some (.int .u8 PP) ∧ w'.cell? ⟨wr.heap.size, 1, none⟩ = some (.int .u64 AA) ∧ w'.cell? ⟨wr.heap.size, 2, none⟩ = some (.slice (some ⟨b, SP, none⟩) FF (cap - OO)) ∧ w'.cell? ⟨wr.heap.size, 3, none⟩ = some (.int .i64 F1) ∧ w'.cell? ⟨wr.heap.size, 4, none⟩ = some (.int .i64 L1)) :=
        hide (fun w' hb => ⟨by rw [(unhide hb).frozen (p := ⟨w6.heap.size, 1, none⟩) (by show w6.heap.size < _; omega)]; exact pf, by rw [(unhide hb).cell (p := ⟨w6.heap.size, 1, none⟩) (by show w6.heap.size < _; omega)]; exact p1, by rw [(unhide hb).cell (p := ⟨wr.heap.size, 0, none⟩) (by show wr.heap.size < _; omega)]; exact q0, by rw [(unhide hb).cell (p := ⟨wr.heap.size, 1, none⟩) (by show wr.heap.size < _; omega)]; exact q1, by rw [(unhide hb).cell (p := ⟨wr.heap.size, 2, none⟩) (by show wr.heap.size < _; omega)]; exact q2, by rw [(unhide hb).cell (p := ⟨wr.heap.size, 3, none⟩) (by show wr.heap.size < _; omega)]; exact q3, by rw [(unhide hb).cell (p := ⟨wr.heap.size, 4, none⟩) (by show wr.heap.size < _; omega)]; exact q4⟩)
      have HOWW := hide (show W.ownsRow (w6.heap.size + 1) 87 258 v M xs from by rw [hW]; exact (unhide HOW).alloc _)
      have KS8 : Hid (∀ w7 w', Hid (Below W.heap.size W w7) → w7.grownBy w' v.ownBlock → w'.frozen? ⟨w6.heap.size, 1, none⟩ = false ∧ w'.cell? ⟨w6.heap.size, 1, none⟩ = some v ∧ w'.cell? ⟨wr.heap.size, 0, none⟩ = some (.int .u8 PP) ∧ w'.cell? ⟨wr.heap.size, 1, none⟩ = some (.int .u64 AA) ∧ w'.cell? ⟨wr.heap.size, 2, none⟩ = some (.slice (some ⟨b, SP, none⟩) FF (cap - OO)) ∧ w'.cell? ⟨wr.heap.size, 3, none⟩ = some (.int .i64 F1) ∧ w'.cell? ⟨wr.heap.size, 4, none⟩ = some (.int .i64 L1)) := by
        refine hide (fun w7 w' hb hg => ?_)
        have h7 := (unhide KS7) w7 hb
        have hs7 := (unhide hb).size
        have n1 : some w6.heap.size ≠ v.ownBlock := fun h => by have := (unhide HOW).lt _ h.symm; omega
        have n2 : some wr.heap.size ≠ v.ownBlock := fun h => by have := (unhide HOW).lt _ h.symm; omega
        refine ⟨?_, ?_, ?_, ?_, ?_, ?_, ?_⟩
        · rw [World.frozen?_of_block (a := ⟨w6.heap.size, 1, none⟩) (hg.block w6.heap.size (by omega) n1)]; exact h7.1
        · rw [World.cell?_of_block (a := ⟨w6.heap.size, 1, none⟩) (hg.block w6.heap.size (by omega) n1)]; exact h7.2.1
        · rw [World.cell?_of_block (a := ⟨wr.heap.size, 0, none⟩) (hg.block wr.heap.size (by omega) n2)]; exact h7.2.2.1
        · rw [World.cell?_of_block (a := ⟨wr.heap.size, 1, none⟩) (hg.block wr.heap.size (by omega) n2)]; exact h7.2.2.2.1
        · rw [World.cell?_of_block (a := ⟨wr.heap.size, 2, none⟩) (hg.block wr.heap.size (by omega) n2)]; exact h7.2.2.2.2.1
        · rw [World.cell?_of_block (a := ⟨wr.heap.size, 3, none⟩) (hg.block wr.heap.size (by omega) n2)]; exact h7.2.2.2.2.2.1
        · rw [World.cell?_of_block (a := ⟨wr.heap.size, 4, none⟩) (hg.block wr.heap.size (by omega) n2)]; exact h7.2.2.2.2.2.2
      have HWS := hide hWs
      have HG := hide hG
      clear hG
      clear hW hm hnews hM hxs hnl hn1 HPA hWs
      go_wp2
      rw [← unhide HW]
      clear c0 c1 c2 c3 c4
      go_region_law (first | (refine step_call1 (by rfl) 105 54 245 (by rfl) _ (by rfl) pagesEnter _ _ (unhide HPB) ?_; rintro w7 ⟨hn7, hb7⟩; obtain ⟨z0, z1, z2, z3, z4, z5, z6⟩ := unhide KS7 _ hb7) | (refine step_append_lies _ (by rfl) _ _ 76 (by rfl) (w6.heap.size + 1) 87 ip _ 258 272 Tryz.underlying76 (unhide HIP).1 (unhide HIP).2.1 (unhide HIP).2.2.1 (unhide HIP).2.2.2 (by show zeroRow.toArray.size = 258; simp [zeroRow_length]) (by decide) v M xs (by rfl) (own_below (unhide HOWW) hb7) ⟨G, 0, none⟩ m m news (by rfl) (unhide HNW).1 (holds_news hn7) (unhide HNW).2 (by omega) (by unfold maxLen; omega) (by omega) (by have := (unhide hb7).size; have := unhide HWS; omega) w7.heap.size (by rfl) ?_; intro g gc w8 hown8 hgrow8 hat8 hlt8; obtain ⟨x0, x1, x2, x3, x4, x5, x6⟩ := unhide KS8 _ _ hb7 hgrow8))
      all_goals
        have hown9 : (w8.setCell ⟨w6.heap.size, 1, none⟩ (.slice (some ⟨g, 0, none⟩) (M + m) gc)).ownsRow (w6.heap.size + 1) 87 258 (.slice (some ⟨g, 0, none⟩) (M + m) gc) (allPgs B (ss.take (k + 1))).length (apiRow (allPgs B (ss.take (k + 1)))) := by
          have hal := allPgs_step B ss k s (unhide HSK)
          obtain ⟨hm, hnews, hM, hxs⟩ := unhide HM
          rw [hal, apiRow_append, List.length_append, segPgs_length, ← hm, ← hM, ← hxs, ← hnews]
          exact hown8.kept (grown_set (w := w8) (wr := w8) (b := w6.heap.size) ⟨rfl, rfl, rfl, Nat.le_refl _, fun _ _ _ => rfl⟩ 1 _) (.inr (fun h => by have := hown8.lt _ h; omega))
        have hs7 := (unhide hb7).size
        have hws := unhide HWS
        have hgs := hgrow8.size
        have n0 : some w.heap.size ≠ v.ownBlock := fun h => by have := (unhide HOW).lt _ h.symm; omega
        have n1 : some w6.heap.size ≠ v.ownBlock := fun h => by have := (unhide HOW).lt _ h.symm; omega
        have n2 : some w1.heap.size ≠ v.ownBlock := fun h => by have := (unhide HOW).lt _ h.symm; omega
        have a1 := (((((unhide HPL).below (unhide HWB) (by omega)).below (unhide hb7) (by omega)).grown hgrow8 n1).set 1 (.slice (some ⟨g, 0, none⟩) (M + m) gc))
        have a2 := ((((unhide HRE).below (unhide HWB) (by omega)).below (unhide hb7) (by omega)).grown hgrow8 n0).set_other (c := w6.heap.size) (by omega) 1 (.slice (some ⟨g, 0, none⟩) (M + m) gc)
        have a3 := ((((unhide HSE).below (unhide HWB) (by omega)).below (unhide hb7) (by omega)).grown hgrow8 n2).set_other (c := w6.heap.size) (by omega) 1 (.slice (some ⟨g, 0, none⟩) (M + m) gc)
        have hbw8 : Below w.heap.size w w8 := (((unhide HBL).trans ((unhide HWB).mono (by omega))).trans ((unhide hb7).mono (by omega))).trans ⟨hgrow8.os, hgrow8.tape, hgrow8.output, hgrow8.size, fun q hq => hgrow8.block q (by omega) (fun h => by have := (unhide HOW).lt _ h.symm; omega)⟩
        have a4 := hbw8.setCell (p := ⟨w6.heap.size, 1, none⟩) (by show w.heap.size ≤ w6.heap.size; omega) (.slice (some ⟨g, 0, none⟩) (M + m) gc)
        have A0 := hide hown9
        have A1 := hide a1
        have A2 := hide a2
        have A3 := hide a3
        have A4 := hide a4
        have A5 : w6.heap.size + 1 ≤ (w8.setCell ⟨w6.heap.size, 1, none⟩ (.slice (some ⟨g, 0, none⟩) (M + m) gc)).heap.size := by simp [World.setCell]; omega
        clear hown9 a1 a2 a3 a4 hbw8
        go_wp2
        go_roundw
        case rel => exact ⟨k + 1, by omega, by go_num, _, unhide A1, unhide A2, unhide A3, unhide A0, unhide A4, A5⟩
        case measure => simp [intOf]; omega
    · have hkn : k = N := by omega
      subst hkn
      have htk : ss.take k = ss := List.take_of_length_le (by omega)
      rw [htk] at HOW
      have hpos : 0 < (allPgs B ss).length := by
        obtain ⟨s0, hs0⟩ : ∃ s0, ss[0]? = some s0 := ⟨_, List.getElem?_eq_getElem (by omega)⟩
        have h1 := allPgs_step B ss 0 s0 hs0
        have h2 := (count_pos ((unhide HFA) s0 (List.mem_of_getElem? hs0))).1
        have h3 : allPgs B ss = allPgs B (ss.take 1) ++ allPgs B (ss.drop 1) := by rw [allPgs, allPgs, allPgs, ← List.flatMap_append, List.take_append_drop]
        rw [h3, h1, List.length_append, List.length_append, segPgs_length]; omega
      obtain ⟨g, gc, rfl, hg1, hg2⟩ := (unhide HOW).form hpos
      have d0 := (unhide HPL).cell (j := 0) rfl
      have d1 := (unhide HPL).cell (j := 1) rfl
      have r0 := (unhide HRE).cell (j := 0) rfl
      have r1 := (unhide HRE).cell (j := 1) rfl
      have f0 := (unhide HRE).frozen 0
      have f1 := (unhide HRE).frozen 1
      have u2 := ((unhide HRE).set 0 (.int .u64 E)).set 1 (.slice (some ⟨g, 0, none⟩) (allPgs B ss).length gc)
      have u0 := u2.cell (j := 0) rfl
      have u1 := u2.cell (j := 1) rfl
      have u3 := ((unhide HBL).setCell (p := ⟨w.heap.size, 0, none⟩) (Nat.le_refl _) (.int .u64 E)).setCell (p := ⟨w.heap.size, 1, none⟩) (Nat.le_refl _) (.slice (some ⟨g, 0, none⟩) (allPgs B ss).length gc)
      have u4 := (unhide HOW).kept (grown_set (grown_set (w := wr) (wr := wr) (b := w.heap.size) ⟨rfl, rfl, rfl, Nat.le_refl _, fun _ _ _ => rfl⟩ 0 (.int .u64 E)) 1 (.slice (some ⟨g, 0, none⟩) (allPgs B ss).length gc)) (.inr (fun h => by simp [Value.ownBlock] at h; omega))
      have U3 := hide u3
      have U4 := hide (own_base (base' := w.heap.size) u4 (by omega))
      clear hpl hre hse how hbl u2 u3 u4
      go_wp2
      exact bodyPost_ret (v := .tuple #[.agg #[.int .u64 E, .slice (some ⟨g, 0, none⟩) (allPgs B ss).length gc], .nilIface]) (by simp [results, Tryz.results67, go_sem, u0, u1]) rfl ⟨.inr (.inr ⟨unhide HDR, by rw [AllOk, ← unhide HSC]; exact unhide AOK, ss, by rw [← unhide HSC]; exact unhide HPM, unhide HST, .inr ⟨by rw [hssl]; exact unhide NOV, .inr ⟨by rw [← unhide HED]; exact unhide HENT, g, gc, by rw [← unhide HED], unhide U4⟩⟩⟩), unhide U3⟩
end Go.Proofs.YtkokiefclmbgaaaGreatDoor
