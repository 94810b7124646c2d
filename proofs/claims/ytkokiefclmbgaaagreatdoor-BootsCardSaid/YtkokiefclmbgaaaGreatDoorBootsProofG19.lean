import Derived.Test.YtkokiefclmbgaaaGreatDoorBootsProofG17
import Derived.Test.YtkokiefclmbgaaaGreatDoorBootsProofG12
import Derived.Test.YtkokiefclmbgaaaGreatDoorBootsProofG18
import Derived.Deep.RegionHeld3
import Derived.Deep.RegionLaw
import Derived.Deep.AppendLies
/- tinyosref.Load. -/
namespace Go.Proofs.YtkokiefclmbgaaaGreatDoor
open Go.RowKit
set_option linter.unusedVariables false
set_option linter.unusedSimpArgs false

def refErr (c : Int) : Ending := .returned (.tuple #[.slice none 0 0, .int .u64 0, .int .i64 c])
def refSegCells (s : Seg) : List Value := [.int .i64 s.perm, .int .u64 s.offs, .int .u64 s.addr, .int .u64 s.inFile, .int .u64 s.mem]
def refSegsRow (ss : List Seg) : List Value := ss.flatMap refSegCells
theorem refSegInfo : (Tryz.prog.info? 214).map (fun i => (i.zero, i.size, i.bytes)) = some (some (.agg #[.int .i64 0, .int .u64 0, .int .u64 0, .int .u64 0, .int .u64 0]), 5, 40) := by kernel_rfl
/-- The segments in the file's order. -/
def fileSegs (B : List Int) : List Seg := segsUpTo B (segCount B)
def refEnt (E : Int) (PS : List Pg) : Prop := E % 4 = 0 ∧ E < 65536 ∧ ∃ q ∈ PS, q.num = E / 256 ∧ bits BinOp.and IntKind.i64 q.perm 1 = 1
def RefLoadPost (B : List Int) (w : World) (e : Ending) (w' : World) : Prop :=
  (¬ HdrOk B ∧ e = refErr 2 ∨ HdrOk B ∧ ¬ AllOk B ∧ e = refErr 3 ∨ HdrOk B ∧ AllOk B ∧
    ((∃ p, p < 256 ∧ 1 < (fileSegs B).countP (fun s => cov s p)) ∧ e = refErr 4 ∨
     (∀ p, p < 256 → (fileSegs B).countP (fun s => cov s p) ≤ 1) ∧ (¬ refEnt (numAt B 24 8) (refPgs B (fileSegs B) 256) ∧ e = refErr 5 ∨
       refEnt (numAt B 24 8) (refPgs B (fileSegs B) 256) ∧ ∃ g gc, e = .returned (.tuple #[.slice (some ⟨g, 0, none⟩) (refPgs B (fileSegs B) 256).length gc, .int .u64 (numAt B 24 8), .int .i64 0]) ∧
         w'.ownsRow w.heap.size 155 258 (.slice (some ⟨g, 0, none⟩) (refPgs B (fileSegs B) 256).length gc) (refPgs B (fileSegs B) 256).length (refRow (refPgs B (fileSegs B) 256))))) ∧ Below w.heap.size w w'
theorem segsUpTo_succ (B : List Int) (k : Nat) : segsUpTo B (k + 1) = segsUpTo B k ++ [segAt B (64 + 56 * k)] := by simp [segsUpTo, List.range_succ]
theorem refSegsRow_succ (B : List Int) (k : Nat) : refSegsRow (segsUpTo B (k + 1)) = refSegsRow (segsUpTo B k) ++ refSegCells (segAt B (64 + 56 * k)) := by
  rw [segsUpTo_succ, refSegsRow, refSegsRow, List.flatMap_append]; simp

set_option maxRecDepth 100000 in
theorem buildPage0 (n : Int) (w : World) : (Instr.build 155 #[(0, .int .i64 n)]).run Tryz.prog w = .ok (.agg (refPage n 0 zero256).toArray) w := by kernel_rfl
theorem seg_wrap (x : Int) (h0 : 0 ≤ x) (h1 : x < 1000000) : wrap64 (IntKind.u64.wrap x) = x := by
  rw [show IntKind.u64.wrap x = x from by rw [IntKind.wrap_u64]; omega]
  unfold wrap64; omega
theorem refPage_get (a b : Int) (L : List Int) (m : Nat) (h : m < L.length) : (refPage a b L)[2 + m]? = some (.int .u8 (L.getD m 0)) := by
  rw [show 2 + m = m + 2 from by omega]; exact bytesRow_get L m h
theorem refPage_set (a b : Int) (L : List Int) (m : Nat) (x : Int) : (refPage a b L).set (2 + m) (.int .u8 x) = refPage a b (L.set m x) := by
  rw [show 2 + m = m + 2 from by omega]
  show .int .i64 a :: .int .i64 b :: (bytesRow L).set m (.int .u8 x) = _
  rw [bytesRow_set]; rfl
theorem refSegs_get : ∀ (fs : List Seg) (j i : Nat) (s : Seg) (v : Value), fs[j]? = some s → i < 5 → (refSegCells s)[i]? = some v → (refSegsRow fs)[j * 5 + i]? = some v
  | [], j, i, s, v, h, _, _ => by simp at h
  | a :: r, 0, i, s, v, h, hi, hv => by
    have e : a = s := by simpa using h
    subst e
    rw [refSegsRow, List.flatMap_cons, List.getElem?_append_left (by simp [refSegCells]; omega), Nat.zero_mul, Nat.zero_add]; exact hv
  | a :: r, j + 1, i, s, v, h, hi, hv => by
    have ih := refSegs_get r j i s v (by simpa using h) hi hv
    rw [refSegsRow, List.flatMap_cons, List.getElem?_append_right (by simp [refSegCells]; omega)]
    rw [refSegsRow] at ih
    rw [← ih]
    congr 1
    simp [refSegCells]; omega
theorem refPgs_pos {B : List Int} {fs : List Seg} (h0 : 0 < fs.length) (hf : ∀ s ∈ fs, SegFit B s) : 0 < (refPgs B fs 256).length := by
  obtain ⟨s, hs⟩ : ∃ s, s ∈ fs := ⟨fs[0], List.getElem_mem _⟩
  obtain ⟨e1, e2, e3, e4⟩ := fit_pages (hf s hs)
  have hc : cov s (s.addr.toNat / 256) = true := by rw [cov_true]; omega
  refine List.length_pos_of_mem (a := ⟨((s.addr.toNat / 256 : Nat) : Int), s.perm, segPage B s (s.addr.toNat / 256)⟩) ?_
  unfold refPgs
  refine List.mem_flatMap.2 ⟨s.addr.toNat / 256, List.mem_range.2 (by omega), List.mem_map.2 ⟨s, List.mem_filter.2 ⟨hs, hc⟩, rfl⟩⟩
theorem refRow_get : ∀ (PS : List Pg) (j i : Nat) (q : Pg), (∀ p ∈ PS, p.bytes.length = 256) → PS[j]? = some q → i < 258 → ∀ v, (refPage q.num q.perm q.bytes)[i]? = some v → (refRow PS)[j * 258 + i]? = some v
  | [], j, i, q, _, h, _, v, _ => by simp at h
  | a :: r, 0, i, q, hb, h, hi, v, hv => by
    have e : a = q := by simpa using h
    subst e
    rw [refRow, List.flatMap_cons, List.getElem?_append_left (by rw [refPage_length, hb _ List.mem_cons_self]; omega), Nat.zero_mul, Nat.zero_add]; exact hv
  | a :: r, j + 1, i, q, hb, h, hi, v, hv => by
    have ih := refRow_get r j i q (fun p hp => hb p (List.mem_cons_of_mem _ hp)) (by simpa using h) hi v hv
    have hl := hb a List.mem_cons_self
    have e : (j + 1) * 258 + i - (256 + 2) = j * 258 + i := by omega
    have e2 : refRow (a :: r) = refPage a.num a.perm a.bytes ++ refRow r := by rw [refRow, List.flatMap_cons]; rfl
    rw [e2, List.getElem?_append_right (by rw [refPage_length, hl]; omega), refPage_length, hl, e]
    exact ih
theorem refPgs_len {B : List Int} {ss : List Seg} : ∀ {p : Nat}, (∀ q, q < p → ss.countP (fun s => cov s q) ≤ 1) → (refPgs B ss p).length ≤ p
  | 0, _ => by simp [refPgs]
  | p + 1, h => by
    have h1 := refPgs_len (B := B) (p := p) (fun q hq => h q (by omega))
    have h2 := h p (by omega)
    rw [List.countP_eq_length_filter] at h2
    rw [refPgs_succ, List.length_append, List.length_map]; omega

set_option maxRecDepth 100000 in
set_option maxHeartbeats 4000000 in
theorem load_ref (b off cap : Nat) (B : List Int) (w : World) (hB : IsBytes B) (hcap : B.length ≤ cap) (hlen : B.length ≤ 500000) (hv : BView w b off B) (hbw : b < w.heap.size) :
    Calls Tryz.prog 49 #[.slice (some ⟨b, off, none⟩) B.length cap] w fun e w' => RefLoadPost B w e w' := by
  have HH := hide (refHeader_any b off cap B w hB hcap (by omega) hv)
  have HB := hide hB
  have HV := hide hv
  have HNum := hide (And.intro hcap hlen)
  clear hB hv hcap hlen
  go_enter Tryz.func49, Tryz.ntmps49
  go_wp2_with fail
  refine (unhide HH).mono ?_
  rintro e w1 ⟨n, ok, rfl, hw1, hok, hn⟩
  subst hw1
  have HOK := hide hok
  have HN := hide hn
  clear hok hn HH
  cases ok
  · go_wp2
    exact bodyPost_ret (v := .tuple #[.slice none 0 0, .int .u64 0, .int .i64 2]) (by simp [results, Tryz.results49, go_sem]) rfl ⟨.inl ⟨fun h => by (have := (unhide HOK).2 h; cases this), rfl⟩, Below.refl _ _⟩
  have hdr : HdrOk B := (unhide HOK).1 rfl
  have hnn : n = ((segCount B : Nat) : Int) := by
    have h1 := (unhide HN) hdr
    have h2 := hdr.2.2.2.2.2.2.2.2.1
    rw [h1, segCount]; omega
  have hc1 : 1 ≤ segCount B := by have h2 := hdr.2.2.2.2.2.2.2.2.1; rw [segCount]; omega
  have hc8 : segCount B ≤ 8 := by have h2 := hdr.2.2.2.2.2.2.2.2.2.1; rw [segCount]; omega
  have hcl : 64 + 56 * segCount B ≤ B.length := by (have h1 := hdr.2.2.2.2.2.2.2.2.1; have h2 := hdr.2.2.2.2.2.2.2.2.2.2; rw [segCount]; omega)
  subst hnn
  have HDR := hide hdr
  obtain ⟨N, hN⟩ : ∃ N, N = segCount B := ⟨_, rfl⟩
  rw [← hN] at hc1 hc8 hcl ⊢
  have HSC := hide hN
  obtain ⟨is, his, hz0, hz1, hz2⟩ := info_parts refSegInfo
  have HIS := hide (And.intro his (And.intro hz0 (And.intro hz1 hz2)))
  clear hdr hN HN HOK his hz0 hz1 hz2
  go_wp2
  go_loopw [7, 8] (fun l k wr => ∃ j : Nat, j ≤ N ∧ k = .int .i64 j ∧ Hid (∀ i, i < j → SegOk B (64 + 56 * i)) ∧ Hid (wr.ownsRow w1.heap.size 214 5 l j (refSegsRow (segsUpTo B j))) ∧ Hid (Below w1.heap.size w1 wr)) (fun _ k _ => N - (intOf k).toNat)
  case atStart => exact ⟨0, by omega, rfl, hide (fun i hi => by omega), hide (World.ownsRow_nil _ _ _ _), hide (Below.refl _ _)⟩
  case round =>
    obtain ⟨k, hk, rfl, HA, HOW, HBL⟩ := hrel
    by_cases hlt : k < N
    · have hv1 : BView wr b off B := (unhide HV).below (unhide HBL) hbw
      have hbw1 : b < wr.heap.size := by have := (unhide HBL).size; omega
      have HSG := hide (refReadSegment_any b off cap B k wr (unhide HB) (unhide HNum).1 (by have := unhide HNum; omega) hv1 hbw1 (by omega) (by omega))
      clear hv1
      go_wp2_with fail
      refine (unhide HSG).mono ?_
      rintro e w2 ⟨(⟨hsok, rfl⟩ | ⟨nok, x0, x1, x2, x3, x4, rfl⟩), hb2⟩
      case inr =>
        have NOK := hide nok
        have HB2 := hide ((unhide HBL).trans (hb2.mono (unhide HBL).size))
        clear nok hb2
        go_wp2
        exact bodyPost_ret (v := .tuple #[.slice none 0 0, .int .u64 0, .int .i64 3]) (by simp [results, Tryz.results49, go_sem]) rfl ⟨.inr (.inl ⟨unhide HDR, fun h => unhide NOK (h k (by have := unhide HSC; omega)), rfl⟩), (unhide HB2).alloc (by have := (unhide HB2).size; omega) _⟩
      have SOK := hide hsok
      have HB2 := hide hb2
      have hs2 := hb2.size
      obtain ⟨s, hs⟩ : ∃ s, s = segAt B (64 + 56 * k) := ⟨_, rfl⟩
      rw [← hs]
      have HS := hide hs
      have HOW2 := hide (own_below (unhide HOW) (hide hb2))
      have HBW2 := hide ((unhide HBL).trans (hb2.mono (unhide HBL).size))
      obtain ⟨o, ho⟩ : ∃ o, o = Obj.cells (refSegCells s).toArray 214 := ⟨_, rfl⟩
      have hnw : ∀ j u, (refSegCells s)[j]? = some u → ((w2.alloc o).alloc o).cell? ((⟨w2.heap.size + 1, 0, none⟩ : Addr).add j) = some u := by
        have h := Holds.new (w2.alloc o) 214 (refSegCells s)
        rw [← ho] at h
        intro j u hj
        rw [addr_add, Nat.zero_add]
        have := h.cell hj
        simpa using this
      have HNW := hide hnw
      have HO := hide ho
      have hsz1 : w1.heap.size ≤ wr.heap.size := (unhide HBL).size
      have hk8 : k ≤ 8 := by omega
      clear hsok hb2 hs hnw ho
      unfold refSegVal
      go_wp2_with (at_builtin; refine wpList_append_lies _ (by rfl) _ _ 212 (by rfl) w1.heap.size 214 is _ 5 40 Tryz.underlying212 (unhide HIS).1 (unhide HIS).2.1 (unhide HIS).2.2.1 (unhide HIS).2.2.2 rfl (by decide) _ _ _ (by rfl) (((unhide HOW2).alloc _).alloc _) ⟨w2.heap.size + 1, 0, none⟩ 1 1 (refSegCells s) (by rfl) (by rfl) (by have h := unhide HNW; rw [unhide HO] at h; exact h) (by intro u hu; simp only [refSegCells, List.mem_cons, List.not_mem_nil, or_false] at hu; rcases hu with rfl | rfl | rfl | rfl | rfl <;> rfl) (by omega) (by unfold maxLen; omega) (by omega) (by simp; omega) (w2.heap.size + 2) (by simp) ?_; intro g cap5 w5 hown5 hgrow5 hat5 hlt5)
      have q1 : w5.ownsRow w1.heap.size 214 5 (.slice (some ⟨g, 0, none⟩) (k + 1) cap5) (k + 1) (refSegsRow (segsUpTo B (k + 1))) := by rw [refSegsRow_succ, ← unhide HS]; exact hown5
      have q2 : Below w1.heap.size w1 w5 := (((unhide HBW2).alloc (by omega) _).alloc (by simp; omega) _).grown hgrow5 (by simp; omega) (by intro q h; have := (unhide HOW2).lt q h; omega)
      have Q1 := hide q1
      have Q2 := hide q2
      clear hown5 hgrow5 hat5 q1 q2
      go_roundw
      case rel => exact ⟨k + 1, by omega, by go_num, hide (fun i hi => by rcases Nat.lt_succ_iff_lt_or_eq.1 hi with h | h; exact unhide HA i h; rw [h]; exact unhide SOK), Q1, Q2⟩
      case measure => simp [intOf]; omega
    · have hkn : k = N := by omega
      subst hkn
      obtain ⟨W2, hW2⟩ : ∃ W2, W2 = wr := ⟨_, rfl⟩
      subst hW2
      obtain ⟨gl, cl, hu7, hg1, hg2⟩ := (unhide HOW).form (by omega)
      subst hu7
      obtain ⟨fs, hfs⟩ : ∃ fs, fs = segsUpTo B k := ⟨_, rfl⟩
      rw [← hfs] at HOW
      have hfl : fs.length = k := by rw [hfs, segsUpTo_length]
      have HFIT := hide (show ∀ s ∈ fs, SegFit B s from fits_all (unhide HB) (unhide HA) (by rw [hfs]))
      have HFF := hide (show fs = fileSegs B from by rw [hfs, fileSegs, ← unhide HSC])
      have HAO := hide (show AllOk B from fun i hi => unhide HA i (by rw [unhide HSC]; exact hi))
      have hsz1 : w1.heap.size ≤ W2.heap.size := (unhide HBL).size
      obtain ⟨ip, hip, hpz0, hpz1, hpz2⟩ := info_parts pageInfo
      have HIP := hide (And.intro hip (And.intro hpz0 (And.intro hpz1 hpz2)))
      clear hfs HA HSC HIS hip hpz0 hpz1 hpz2
      go_wp2
      go_loopw [11, 12] (fun v i wr => ∃ p : Nat, p ≤ 256 ∧ i = .int .i64 p ∧ Hid (∀ q, q < p → fs.countP (fun s => cov s q) ≤ 1) ∧ Hid (wr.ownsRow W2.heap.size 155 258 v (refPgs B fs p).length (refRow (refPgs B fs p))) ∧ Hid (Below W2.heap.size W2 wr)) (fun _ i _ => 256 - (intOf i).toNat)
      case atStart => exact ⟨0, by omega, rfl, hide (fun q hq => by omega), hide (World.ownsRow_nil _ _ _ _), hide (Below.refl _ _)⟩
      case round =>
        obtain ⟨p, hp, rfl, HC, HPO, HBL2⟩ := hrel
        by_cases hplt : p < 256
        · obtain ⟨W3, hW3⟩ : ∃ W3, W3 = wr := ⟨_, rfl⟩
          subst hW3
          have hsz3 : W2.heap.size ≤ W3.heap.size := (unhide HBL2).size
          go_wp2_with (first | (refine wpList_build_big rfl 155 _ rfl #[(0, .int .i64 p)] rfl (.agg (refPage p 0 zero256).toArray) (buildPage0 p) ?_) | (refine wpList_alloc_big rfl 155 rfl (refPage 0 0 zero256).toArray allocPage ?_) | (refine wpList_store_hold rfl 155 _ _ rfl W3.heap.size (refPage p 0 zero256) (by rfl) (by rfl) 155 (refPage 0 0 zero256) (Holds.new _ _ _) (by rw [pageSize, refPage_length, zero256_length]) (by rw [refPage_length, refPage_length]) (refPage_one _ _ _) ?_; intro w6 hp6 hg6))
          have HB6 := hide (show Below W3.heap.size W3 w6 from ((Below.refl W3.heap.size W3).alloc (Nat.le_refl _) _).trans (below_grown hg6 (Nat.le_refl _) (by simp)))
          clear hg6
          go_loopw [14, 15] (fun c i wk => ∃ j : Nat, ∃ perm : Int, ∃ L : List Int, j ≤ k ∧ i = .int .i64 j ∧ c = .int .i64 ((fs.take j).countP (fun s => cov s p) : Nat) ∧ Hid (PgState B (fs.take j) p perm L) ∧ Hid (Holds wk W3.heap.size 155 (refPage p perm L)) ∧ Hid (Below W3.heap.size W3 wk)) (fun _ i _ => k - (intOf i).toNat)
          case atStart => exact ⟨0, 0, zero256, by omega, rfl, rfl, hide (pgState_nil B p), hp6, HB6⟩
          case round =>
            obtain ⟨j, perm, L, hj, rfl, rfl, HST, HPG, HB7⟩ := hrel
            obtain ⟨W4, hW4⟩ : ∃ W4, W4 = wr := ⟨_, rfl⟩
            subst hW4
            have hsz4 := (unhide HB7).size
            obtain ⟨c, hc⟩ : ∃ c, c = (fs.take j).countP (fun s => cov s p) := ⟨_, rfl⟩
            rw [← hc]
            have hc8 : c ≤ 8 := by rw [hc]; have h1 := List.countP_le_length (p := fun s => cov s p) (l := fs.take j); have h2 := List.length_take_le j fs; omega
            have HCC := hide hc
            clear hc
            by_cases hjk : j < k
            · obtain ⟨s, hs⟩ : ∃ s, s = fs.getD j seg0 := ⟨_, rfl⟩
              have hsj : fs[j]? = some s := by rw [hs, List.getD, List.getElem?_eq_getElem (by omega)]; rfl
              have htk : fs.take (j + 1) = fs.take j ++ [s] := by rw [List.take_add_one, hsj]; rfl
              have hfit := unhide HFIT s (List.mem_of_getElem? hsj)
              have hbel : Below W2.heap.size W2 W4 := (unhide HBL2).trans ((unhide HB7).mono hsz3)
              have cc : ∀ i v, i < 5 → (refSegCells s)[i]? = some v → W4.cell? ⟨gl, j * 5 + i, none⟩ = some v := fun i v hi hv => by
                rw [hbel.cell (p := ⟨gl, j * 5 + i, none⟩) hg2, (unhide HOW).cellAt _ (by omega)]; exact refSegs_get fs j i s v hsj hi hv
              have HS := hide (And.intro hsj htk)
              clear hsj htk hs hbel
              obtain ⟨P, O, A, F, M⟩ := s
              obtain ⟨A0, O0, F0, M1, hFM, hOF, hAM⟩ := hfit
              simp only at A0 O0 F0 M1 hFM hOF hAM
              have c0 : W4.cell? ⟨gl, j * 5, none⟩ = some (.int .i64 P) := cc 0 _ (by omega) rfl
              have c1 : W4.cell? ⟨gl, j * 5 + 1, none⟩ = some (.int .u64 O) := cc 1 _ (by omega) rfl
              have c2 : W4.cell? ⟨gl, j * 5 + 2, none⟩ = some (.int .u64 A) := cc 2 _ (by omega) rfl
              have c3 : W4.cell? ⟨gl, j * 5 + 3, none⟩ = some (.int .u64 F) := cc 3 _ (by omega) rfl
              have c4 : W4.cell? ⟨gl, j * 5 + 4, none⟩ = some (.int .u64 M) := cc 4 _ (by omega) rfl
              clear cc
              obtain ⟨o, ho⟩ : ∃ o, o = Obj.cells #[.int .i64 P, .int .u64 O, .int .u64 A, .int .u64 F, .int .u64 M] 214 := ⟨_, rfl⟩
              have hpA := (unhide HPG).alloc o
              have HPA := hide hpA
              have HBA := hide ((unhide HB7).alloc hsz4 o)
              have HSA := hide (show Holds (W4.alloc o) W4.heap.size 214 (refSegCells ⟨P, O, A, F, M⟩) from by rw [ho]; exact Holds.new W4 214 (refSegCells ⟨P, O, A, F, M⟩))
              have p1 : (W4.alloc o).cell? ⟨W3.heap.size, 1, none⟩ = some (.int .i64 perm) := hpA.cell rfl
              have pf := hpA.frozen 1
              rw [ho] at p1 pf
              have hpl := (unhide HPG).lt
              have HO := hide ho
              obtain ⟨FI, hFI⟩ : ∃ x, x = A / 256 := ⟨_, rfl⟩
              obtain ⟨LA, hLA⟩ : ∃ x, x = (A + M - 1) / 256 := ⟨_, rfl⟩
              have y1 : wrap64 (IntKind.u64.wrap (A.tdiv 256)) = FI := by rw [hFI, Int.tdiv_eq_ediv_of_nonneg A0]; exact seg_wrap _ (by omega) (by omega)
              have y2 : IntKind.u64.wrap (A + M) = A + M := by rw [IntKind.wrap_u64]; omega
              have y3 : IntKind.u64.wrap (A + M - 1) = A + M - 1 := by rw [IntKind.wrap_u64]; omega
              have y4 : wrap64 (IntKind.u64.wrap ((A + M - 1).tdiv 256)) = LA := by rw [hLA, Int.tdiv_eq_ediv_of_nonneg (by omega)]; exact seg_wrap _ (by omega) (by omega)
              have hcov : cov ⟨P, O, A, F, M⟩ p = true ↔ FI ≤ (p : Int) ∧ (p : Int) ≤ LA := by rw [cov_true, hFI, hLA]; rfl
              have HCV := hide hcov
              have hj0 : (0 : Int) ≤ (j : Int) := by omega
              have hj1 : (j : Int) < (k : Int) := by omega
              have HNUM := hide (And.intro A0 (And.intro O0 (And.intro F0 (And.intro M1 (And.intro hFM (And.intro hOF hAM))))))
              clear hpA ho hFI hLA hcov hFM hOF hAM M1 O0 F0 A0
              by_cases t1 : (p : Int) < FI
              · go_wp2
                go_roundw
                case rel =>
                  have hcf : cov ⟨P, O, A, F, M⟩ p = false := by rw [Bool.eq_false_iff]; intro h; have := (unhide HCV).1 h; omega
                  refine ⟨j + 1, perm, L, by omega, by go_num, ?_, hide ?_, ?_, ?_⟩
                  · rw [(unhide HS).2, countP_snoc, hcf, ← unhide HCC]; simp
                  · rw [(unhide HS).2]; exact pgState_out (unhide HST) hcf
                  · have := HPA; rw [unhide HO] at this; exact this
                  · have := HBA; rw [unhide HO] at this; exact this
                case measure => simp [intOf]; omega
              by_cases t2 : LA < (p : Int)
              · go_wp2
                go_roundw
                case rel =>
                  have hcf : cov ⟨P, O, A, F, M⟩ p = false := by rw [Bool.eq_false_iff]; intro h; have := (unhide HCV).1 h; omega
                  refine ⟨j + 1, perm, L, by omega, by go_num, ?_, hide ?_, ?_, ?_⟩
                  · rw [(unhide HS).2, countP_snoc, hcf, ← unhide HCC]; simp
                  · rw [(unhide HS).2]; exact pgState_out (unhide HST) hcf
                  · have := HPA; rw [unhide HO] at this; exact this
                  · have := HBA; rw [unhide HO] at this; exact this
                case measure => simp [intOf]; omega
              have HCT := hide (show cov ⟨P, O, A, F, M⟩ p = true from (unhide HCV).2 ⟨by omega, by omega⟩)
              have HPS := hide (show Holds ((W4.setCell ⟨W3.heap.size, 1, none⟩ (.int .i64 P)).alloc o) W3.heap.size 155 (refPage p P L) from ((unhide HPG).set 1 (.int .i64 P)).alloc o)
              have hss4 : (W4.setCell ⟨W3.heap.size, 1, none⟩ (.int .i64 P)).heap.size = W4.heap.size := by simp [World.setCell]
              have HBS := hide (((unhide HB7).setCell (p := ⟨W3.heap.size, 1, none⟩) (Nat.le_refl _) (.int .i64 P)).alloc (by rw [hss4]; exact hsz4) o)
              have HSS := hide (show Holds ((W4.setCell ⟨W3.heap.size, 1, none⟩ (.int .i64 P)).alloc o) W4.heap.size 214 (refSegCells ⟨P, O, A, F, M⟩) from by
                have h := Holds.new (W4.setCell ⟨W3.heap.size, 1, none⟩ (.int .i64 P)) 214 (refSegCells ⟨P, O, A, F, M⟩)
                rw [hss4] at h
                rw [unhide HO]; exact h)
              clear hss4
              rw [unhide HO] at HPS HBS HSS
              go_wp2
              clear c0 c1 c2 c3 c4 p1 pf y1 y2 y3 y4 HSA HPA HBA
              go_loopw [19] (fun t wj => ∃ m : Nat, m ≤ 256 ∧ t = .int .i64 m ∧ Hid (Holds wj W3.heap.size 155 (refPage p P (mixTo B ⟨P, O, A, F, M⟩ p L m))) ∧ Hid (Holds wj W4.heap.size 214 (refSegCells ⟨P, O, A, F, M⟩)) ∧ Hid (Below W3.heap.size W3 wj)) (fun t _ => 256 - (intOf t).toNat)
              case atStart => exact ⟨0, by omega, rfl, by rw [mixTo_zero _ _ _ _ (unhide HST).1]; exact HPS, HSS, HBS⟩
              case round =>
                obtain ⟨m, hm, rfl, HP8, HS8, HB8⟩ := hrel
                by_cases hm256 : m < 256
                · have d1 : wr.cell? ⟨W4.heap.size, 1, none⟩ = some (.int .u64 O) := (unhide HS8).cell rfl
                  have d2 : wr.cell? ⟨W4.heap.size, 2, none⟩ = some (.int .u64 A) := (unhide HS8).cell rfl
                  have d3 : wr.cell? ⟨W4.heap.size, 3, none⟩ = some (.int .u64 F) := (unhide HS8).cell rfl
                  obtain ⟨A0, O0, F0, M1, hFM, hOF, hAM⟩ := unhide HNUM
                  have hlb : B.length ≤ 500000 := by have := unhide HNum; omega
                  obtain ⟨T, hT⟩ : ∃ T, T = p * 256 + m := ⟨_, rfl⟩
                  have e1 : (p : Int) * 256 + (m : Int) = (T : Int) := by omega
                  have hT5 : (T : Int) < 65536 := by omega
                  have e2 : IntKind.u64.wrap (T : Int) = (T : Int) := by rw [IntKind.wrap_u64]; omega
                  have hin : inSeg ⟨P, O, A, F, M⟩ p m ↔ A ≤ (T : Int) ∧ (T : Int) - A < F := by
                    unfold inSeg; simp only; omega
                  have HIN := hide hin
                  by_cases h1 : A ≤ (T : Int)
                  · have e3 : IntKind.u64.wrap ((T : Int) - A) = (T : Int) - A := by rw [IntKind.wrap_u64]; omega
                    by_cases h2 : (T : Int) - A < F
                    · obtain ⟨X, hX⟩ : ∃ X, X = O.toNat + (p * 256 + m - A.toNat) := ⟨_, rfl⟩
                      have e4 : IntKind.u64.wrap (O + (T : Int)) = O + (T : Int) := by rw [IntKind.wrap_u64]; omega
                      have e5 : O + (T : Int) - A = (X : Int) := by omega
                      have e6 : IntKind.u64.wrap (X : Int) = (X : Int) := by rw [IntKind.wrap_u64]; omega
                      have hXB : X < B.length := by omega
                      have hXI : (X : Int) < (B.length : Int) := by omega
                      have hbv := ((unhide HV).below (unhide HBL) hbw)
                      have d4 : wr.cell? ⟨b, off + X, none⟩ = some (.int .u8 (B.getD X 0)) := by
                        rw [((unhide HBL2).trans ((unhide HB8).mono hsz3)).cell (p := ⟨b, off + X, none⟩) (by show b < _; omega)]
                        exact hbv X hXB
                      obtain ⟨y, hy⟩ : ∃ y, y = B.getD X 0 := ⟨_, rfl⟩
                      rw [← hy] at d4
                      have hml : m < (mixTo B ⟨P, O, A, F, M⟩ p L m).length := by rw [mixTo_length]; omega
                      have d5 : wr.cell? ⟨W3.heap.size, 2 + m, none⟩ = some (.int .u8 ((mixTo B ⟨P, O, A, F, M⟩ p L m).getD m 0)) := (unhide HP8).cell (refPage_get _ _ _ _ hml)
                      have d6 := (unhide HP8).frozen (2 + m)
                      have n1 := (unhide HP8).set (2 + m) (.int .u8 y)
                      rw [refPage_set, hy, hX, mixTo_in ((unhide HIN).2 ⟨h1, h2⟩) hm256, ← hX, ← hy] at n1
                      have N1 := hide n1
                      have N2 := hide ((unhide HS8).set_other (c := W3.heap.size) (by omega) (2 + m) (.int .u8 y))
                      have N3 := hide ((unhide HB8).setCell (p := ⟨W3.heap.size, 2 + m, none⟩) (Nat.le_refl _) (.int .u8 y))
                      generalize (mixTo B ⟨P, O, A, F, M⟩ p L m).getD m 0 = z at d5
                      have hX0 : (0 : Int) ≤ (X : Int) := by omega
                      have hm0 : (0 : Int) ≤ (m : Int) := by omega
                      have hm1 : (m : Int) < 256 := by omega
                      clear n1 hbv hy hX hT hin A0 O0 F0 M1 hFM hOF hAM hml
                      go_wp2
                      go_roundw
                      case rel => exact ⟨m + 1, by omega, by go_num, N1, N2, N3⟩
                      case measure => simp [intOf]; omega
                    · have hno : ¬ inSeg ⟨P, O, A, F, M⟩ p m := fun h => h2 ((unhide HIN).1 h).2
                      have N1 := HP8
                      rw [mixTo_out hno] at N1
                      have hm0 : (0 : Int) ≤ (m : Int) := by omega
                      have hm1 : (m : Int) < 256 := by omega
                      clear hT hin hlb A0 O0 F0 M1 hFM hOF hAM d1 hno
                      go_wp2
                      go_roundw
                      case rel => exact ⟨m + 1, by omega, by go_num, N1, HS8, HB8⟩
                      case measure => simp [intOf]; omega
                  · have hno : ¬ inSeg ⟨P, O, A, F, M⟩ p m := fun h => h1 ((unhide HIN).1 h).1
                    have N1 := HP8
                    rw [mixTo_out hno] at N1
                    have hm0 : (0 : Int) ≤ (m : Int) := by omega
                    have hm1 : (m : Int) < 256 := by omega
                    clear hT hin hlb A0 O0 F0 M1 hFM hOF hAM d1 hno
                    go_wp2
                    go_roundw
                    case rel => exact ⟨m + 1, by omega, by go_num, N1, HS8, HB8⟩
                    case measure => simp [intOf]; omega
                · have hmm : m = 256 := by omega
                  subst hmm
                  go_wp2
                  go_roundw
                  case rel =>
                    refine ⟨j + 1, P, mixTo B ⟨P, O, A, F, M⟩ p L 256, by omega, by go_num, ?_, hide ?_, HP8, HB8⟩
                    · rw [(unhide HS).2, countP_snoc, unhide HCT, ← unhide HCC]; simp
                    · rw [(unhide HS).2]; exact pgState_in (unhide HST) (unhide HCT)
                  case measure => simp [intOf]; omega
            · have hjk2 : j = k := by omega
              subst hjk2
              have htk : fs.take j = fs := List.take_of_length_le (by omega)
              rw [htk] at HST HCC
              have HBW4 := hide ((unhide HBL).trans (((unhide HBL2).trans ((unhide HB7).mono hsz3)).mono hsz1))
              by_cases h1 : 1 < c
              · go_wp2
                exact bodyPost_ret (v := .tuple #[.slice none 0 0, .int .u64 0, .int .i64 4]) (by simp [results, Tryz.results49, go_sem]) rfl ⟨.inr (.inr ⟨unhide HDR, unhide HAO, .inl ⟨⟨p, hplt, by rw [← unhide HFF, ← unhide HCC]; exact h1⟩, rfl⟩⟩), unhide HBW4⟩
              have hcnt : ∀ q, q < p + 1 → fs.countP (fun s => cov s q) ≤ 1 := fun q hq => by
                rcases Nat.lt_succ_iff_lt_or_eq.1 hq with h | h
                · exact unhide HC q h
                · rw [h, ← unhide HCC]; omega
              have HCN := hide hcnt
              clear hcnt
              have E1 := own_below (unhide HPO) HB7
              have hBel := (unhide HBL2).trans ((unhide HB7).mono hsz3)
              by_cases h2 : c = 1
              · subst h2
                obtain ⟨s, hs⟩ := filter_one (unhide HCC).symm
                obtain ⟨hpe, hLe⟩ := (unhide HST).2.2 s hs
                obtain ⟨PP, hPP⟩ : ∃ PP, PP = refPage p perm L := ⟨_, rfl⟩
                have hPl : PP.length = 258 := by rw [hPP, refPage_length, (unhide HST).1]
                have hone : ∀ v ∈ PP, v.oneCell' = true := by rw [hPP]; exact refPage_one _ _ _
                have E0 := HPG
                rw [← hPP] at E0
                have hnl := refPgs_len (B := B) (unhide HC)
                have hsuc : refPgs B fs (p + 1) = refPgs B fs p ++ [⟨(p : Nat), perm, L⟩] := by rw [refPgs_succ, hs, hpe, hLe]; rfl
                have hrow : refRow (refPgs B fs (p + 1)) = refRow (refPgs B fs p) ++ PP := by rw [hsuc, refRow_append, refRow_one, hPP]
                have hlen : (refPgs B fs (p + 1)).length = (refPgs B fs p).length + 1 := by rw [hsuc, List.length_append]; rfl
                have HROW := hide (And.intro hrow hlen)
                obtain ⟨n, hn⟩ : ∃ n, n = (refPgs B fs p).length := ⟨_, rfl⟩
                obtain ⟨xs, hxs⟩ : ∃ xs, xs = refRow (refPgs B fs p) := ⟨_, rfl⟩
                rw [← hn, ← hxs] at E1
                rw [← hn] at hnl
                rw [← hn, ← hxs] at HROW
                have HE1 := hide E1
                have HPL := hide hPl
                have HONE := hide hone
                have HBE := hide hBel
                clear hs hpe hLe hPP hPl hone hsuc hrow hlen hn hxs E1 hBel HPO
                go_wp2_with (first | (refine wpList_load_mid rfl 155 _ rfl W3.heap.size 0 (by rfl) PP _ (unhide E0).range Tryz.underlying155 rfl (by rw [pageSize, unhide HPL]) ?_) | (refine wpList_slice1 rfl 80 155 _ rfl PP (by rfl) ip _ Tryz.underlying80 (unhide HIP).1 (unhide HIP).2.1 (by rw [(unhide HIP).2.2.1, unhide HPL]) (by rw [unhide HPL]; omega) (by rw [unhide HPL]; omega) ?_) | (at_builtin; refine wpList_append_lies _ (by rfl) _ _ 80 (by rfl) W2.heap.size 155 ip _ 258 272 Tryz.underlying80 (unhide HIP).1 (unhide HIP).2.1 (unhide HIP).2.2.1 (unhide HIP).2.2.2 (by simp [Value.cells, refPage_length, zero256_length]) (by decide) u11 n xs (by rfl) ((unhide HE1).alloc _) ⟨W4.heap.size, 0, none⟩ 1 1 PP (by rfl) (by rw [unhide HPL]) (by have := World.news_of_block (cs := PP.toArray) (t := 155) (fr := (0, 0)) (heap_alloc_new W4 _); simpa using this) (unhide HONE) (by omega) (by unfold maxLen; omega) (by omega) (by simp; omega) (W4.heap.size + 1) (by simp) ?_; intro g cap5 w8 hown8 hgrow8 hat8 hlt8))
                have f1 : w8.ownsRow W2.heap.size 155 258 (.slice (some ⟨g, 0, none⟩) (n + 1) cap5) (refPgs B fs (p + 1)).length (refRow (refPgs B fs (p + 1))) := by rw [(unhide HROW).1, (unhide HROW).2]; exact hown8
                have f2 : Below W2.heap.size W2 w8 := ((unhide HBE).alloc (by omega) _).grown hgrow8 (by simp; omega) (by intro q h; have := (unhide HE1).lt q h; omega)
                have F1 := hide f1
                have F2 := hide f2
                clear hown8 hgrow8 hat8 f1 f2
                go_roundw
                case rel => exact ⟨p + 1, by omega, by go_num, HCN, F1, F2⟩
                case measure => simp [intOf]; omega
              · have h0 : c = 0 := by omega
                subst h0
                have hs := filter_none (unhide HCC).symm
                have hsuc : refPgs B fs (p + 1) = refPgs B fs p := by rw [refPgs_succ, hs]; simp
                rw [← hsuc] at E1
                have F1 := hide E1
                have F2 := hide hBel
                clear hs hsuc E1 hBel HPO
                go_wp2
                go_roundw
                case rel => exact ⟨p + 1, by omega, by go_num, HCN, F1, F2⟩
                case measure => simp [intOf]; omega
        · have hp256 : p = 256 := by omega
          subst hp256
          obtain ⟨W5, hW5⟩ : ∃ W5, W5 = wr := ⟨_, rfl⟩
          subst hW5
          have hsz5 : W2.heap.size ≤ W5.heap.size := (unhide HBL2).size
          have HBW5 := hide ((unhide HBL).trans ((unhide HBL2).mono hsz1))
          have hv5 : BView W5 b off B := (unhide HV).below (unhide HBW5) hbw
          have h64 : 64 ≤ B.length := by omega
          obtain ⟨E, hE⟩ : ∃ E, E = numAt B 24 8 := ⟨_, rfl⟩
          have hE8 := numAt_8 (unhide HB) 24 8 (by omega)
          have HNU := hide (refNumber_any b (off + 24) 8 (cap - 24) B 24 W5 (unhide HB) (by omega) (fun j hj => by rw [Nat.add_assoc]; exact hv5 (24 + j) (by omega)))
          rw [← hE] at HNU hE8
          have ne24 : ¬ cap = 24 := by have := (unhide HNum).1; omega
          have h32 : (32 : Int) ≤ (cap : Int) := by have := (unhide HNum).1; omega
          obtain ⟨hE0, hE9⟩ := hE8
          have HE := hide hE
          have hpos := refPgs_pos (B := B) (fs := fs) (by omega) (unhide HFIT)
          obtain ⟨g, gc, hu11, hgl, hgs⟩ := (unhide HPO).form hpos
          subst hu11
          obtain ⟨PS, hPS⟩ : ∃ PS, PS = refPgs B fs 256 := ⟨_, rfl⟩
          have hby := refPgs_bytes B fs 256
          have hnl := refPgs_len (B := B) (unhide HC)
          have hPSF : PS = refPgs B (fileSegs B) 256 := by rw [hPS, unhide HFF]
          rw [← hPS] at HPO hby hnl
          rw [← hPS]
          have HPSF := hide hPSF
          have HBY := hide hby
          have HNO := hide (show ∀ p, p < 256 → (fileSegs B).countP (fun s => cov s p) ≤ 1 from by rw [← unhide HFF]; exact unhide HC)
          clear hE hv5 hpos hPS hPSF hby hE9 HC HFF HFIT
          go_wp2_with fail
          refine (unhide HNU).mono ?_
          rintro e w9 ⟨rfl, hw9⟩
          subst hw9
          by_cases t1 : E % 4 = 0
          case neg =>
            have f1 : (E % 4 != 0) = true := by simpa using t1
            have T1 := hide t1
            clear t1
            go_wp2
            exact bodyPost_ret (v := .tuple #[.slice none 0 0, .int .u64 0, .int .i64 5]) (by simp [results, Tryz.results49, go_sem]) rfl ⟨.inr (.inr ⟨unhide HDR, unhide HAO, .inr ⟨unhide HNO, .inl ⟨fun h => unhide T1 (by rw [unhide HE]; exact h.1), rfl⟩⟩⟩), unhide HBW5⟩
          have f1 : (E % 4 != 0) = false := by simpa using t1
          have T1 := hide t1
          clear t1
          by_cases t2 : E < 65536
          case neg =>
            go_wp2
            exact bodyPost_ret (v := .tuple #[.slice none 0 0, .int .u64 0, .int .i64 5]) (by simp [results, Tryz.results49, go_sem]) rfl ⟨.inr (.inr ⟨unhide HDR, unhide HAO, .inr ⟨unhide HNO, .inl ⟨fun h => by (have h9 := h.2.1; rw [← unhide HE] at h9; omega), rfl⟩⟩⟩), unhide HBW5⟩
          obtain ⟨Q, hQ⟩ : ∃ Q, Q = E / 256 := ⟨_, rfl⟩
          have y1 : wrap64 (IntKind.u64.wrap (E.tdiv 256)) = Q := by rw [hQ, Int.tdiv_eq_ediv_of_nonneg hE0]; exact seg_wrap _ (by omega) (by omega)
          have y2 : wrap64 (E / 256) = Q := by rw [hQ]; unfold wrap64; omega
          have y3 : IntKind.i64.wrap (E / 256) = Q := by rw [hQ]; exact wrap_small _ (by omega) (by omega)
          have HQ := hide hQ
          clear hQ
          go_wp2
          go_loopw [22] (fun i wr => ∃ m : Nat, m ≤ PS.length ∧ i = .int .i64 m ∧ Hid (∀ q ∈ PS.take m, ¬ (q.num = Q ∧ bits BinOp.and IntKind.i64 q.perm 1 = 1)) ∧ Hid (wr.heap = w9.heap) ∧ Hid (Below w1.heap.size w1 wr)) (fun i _ => PS.length - (intOf i).toNat)
          case atStart => exact ⟨0, by omega, rfl, hide (fun q hq => by simp at hq), hide rfl, HBW5⟩
          case round =>
            obtain ⟨m, hm, rfl, HNE, HHE, HBR⟩ := hrel
            by_cases hml : m < PS.length
            · obtain ⟨q, hq⟩ : ∃ q, PS[m]? = some q := ⟨_, List.getElem?_eq_getElem hml⟩
              have hcells : ∀ a, wr.cell? a = w9.cell? a := fun a => by unfold World.cell?; rw [unhide HHE]
              have c0 : wr.cell? ⟨g, m * 258, none⟩ = some (.int .i64 q.num) := by
                rw [hcells, (unhide HPO).cellAt _ (by omega)]; exact refRow_get PS m 0 q (unhide HBY) hq (by omega) _ rfl
              have c1 : wr.cell? ⟨g, m * 258 + 1, none⟩ = some (.int .i64 q.perm) := by
                rw [hcells, (unhide HPO).cellAt _ (by omega)]; exact refRow_get PS m 1 q (unhide HBY) hq (by omega) _ rfl
              have htk : PS.take (m + 1) = PS.take m ++ [q] := by rw [List.take_add_one, hq]; rfl
              have HTK := hide htk
              have HQM := hide (List.mem_of_getElem? hq)
              obtain ⟨n1, n2, n3⟩ := q
              simp only at c0 c1
              obtain ⟨X, hX⟩ : ∃ X, X = bits BinOp.and IntKind.i64 n2 1 := ⟨_, rfl⟩
              have hX' := hX.symm
              have HX := hide hX
              have hm0 : (0 : Int) ≤ (m : Int) := by omega
              have hm1 : (m : Int) < (PS.length : Int) := by omega
              clear hcells htk hq hX
              by_cases t3 : n1 = Q
              · have g1 : (n1 == Q) = true := by simpa using t3
                have T3 := hide t3
                by_cases t4 : X = 1
                · have g2 : (X == 1) = true := by simpa using t4
                  have T4 := hide t4
                  have HOWR := hide (show wr.ownsRow w1.heap.size 155 258 (.slice (some ⟨g, 0, none⟩) PS.length gc) PS.length (refRow PS) from by
                    refine own_base ?_ hsz1
                    have h := unhide HPO
                    unfold World.ownsRow at h ⊢
                    rw [unhide HHE]; exact h)
                  clear t3 t4
                  go_wp2
                  refine bodyPost_ret (v := .tuple #[.slice (some ⟨g, 0, none⟩) PS.length gc, .int .u64 E, .int .i64 0]) (by simp [results, Tryz.results49, go_sem]) rfl ⟨.inr (.inr ⟨unhide HDR, unhide HAO, .inr ⟨unhide HNO, .inr ⟨?_, g, gc, ?_, ?_⟩⟩⟩), unhide HBR⟩
                  · rw [← unhide HE, ← unhide HPSF]
                    exact ⟨unhide T1, t2, _, unhide HQM, by rw [← unhide HQ]; exact unhide T3, by rw [← unhide HX]; exact unhide T4⟩
                  · rw [← unhide HE, ← unhide HPSF]
                  · rw [← unhide HPSF]; exact unhide HOWR
                · have g2 : (X == 1) = false := by simpa using t4
                  have T4 := hide t4
                  clear t3 t4
                  go_wp2
                  go_roundw
                  case rel => exact ⟨m + 1, by omega, by go_num, hide (fun q hq => by
                    rw [unhide HTK, List.mem_append] at hq
                    rcases hq with hq | hq
                    · exact unhide HNE q hq
                    · have e := List.mem_singleton.1 hq
                      subst e
                      exact fun h => unhide T4 (by rw [unhide HX]; exact h.2)), HHE, HBR⟩
                  case measure => simp [intOf]; omega
              · have g1 : (n1 == Q) = false := by simpa using t3
                have T3 := hide t3
                clear t3
                go_wp2
                go_roundw
                case rel => exact ⟨m + 1, by omega, by go_num, hide (fun q hq => by
                  rw [unhide HTK, List.mem_append] at hq
                  rcases hq with hq | hq
                  · exact unhide HNE q hq
                  · have e := List.mem_singleton.1 hq
                    subst e
                    exact fun h => unhide T3 h.1), HHE, HBR⟩
                case measure => simp [intOf]; omega
            · have hmm : m = PS.length := by omega
              subst hmm
              go_wp2
              exact bodyPost_ret (v := .tuple #[.slice none 0 0, .int .u64 0, .int .i64 5]) (by simp [results, Tryz.results49, go_sem]) rfl ⟨.inr (.inr ⟨unhide HDR, unhide HAO, .inr ⟨unhide HNO, .inl ⟨fun h => by
                obtain ⟨_, _, q, hq, h3, h4⟩ := h
                rw [← unhide HPSF] at hq
                exact unhide HNE q (by rw [List.take_length]; exact hq) ⟨by rw [h3, ← unhide HE, ← unhide HQ], h4⟩, rfl⟩⟩⟩), unhide HBR⟩
end Go.Proofs.YtkokiefclmbgaaaGreatDoor
