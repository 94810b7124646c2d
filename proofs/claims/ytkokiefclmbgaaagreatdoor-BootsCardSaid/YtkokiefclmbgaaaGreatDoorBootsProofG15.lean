import Derived.Test.YtkokiefclmbgaaaGreatDoorBootsProofG06
import Derived.Test.YtkokiefclmbgaaaGreatDoorBootsProofG14
import Derived.Test.YtkokiefclmbgaaaGreatDoorBootsProofG09
import Derived.Laws.MakeOwn
import Derived.Test.YtkokiefclmbgaaaGreatDoorBootsProofG05
import Derived.Test.YtkokiefclmbgaaaGreatDoorBootsProofG11
/- Load: the pages of a segment as plain lists. -/
namespace Go.Proofs.YtkokiefclmbgaaaGreatDoor
open Go.RowKit
set_option linter.unusedVariables false
set_option linter.unusedSimpArgs false

/-- The byte at an address, by one segment: out of the file, or 0. -/
def segByte (B : List Int) (s : Seg) (at_ : Nat) : Int := if s.addr.toNat ≤ at_ ∧ at_ - s.addr.toNat < s.inFile.toNat then B.getD (s.offs.toNat + (at_ - s.addr.toNat)) 0 else 0
/-- Page p as one segment fills it. -/
def segPage (B : List Int) (s : Seg) (p : Nat) : List Int := (List.range 256).map fun j => segByte B s (p * 256 + j)
theorem segPage_length (B : List Int) (s : Seg) (p : Nat) : (segPage B s p).length = 256 := by simp [segPage]
/-- The pages of a segment. -/
def segPgs (B : List Int) (s : Seg) (n : Nat) : List Pg := (List.range n).map fun i => ⟨(s.addr.toNat / 256 + i : Nat), s.perm, segPage B s (s.addr.toNat / 256 + i)⟩
def apiRow (PS : List Pg) : List Value := PS.flatMap fun p => pageRow p.num p.perm p.bytes
def zeroRow : List Value := pageRow 0 0 zero256
theorem zeroRow_length : zeroRow.length = 258 := by rw [zeroRow, pageRow_length, zero256_length]
/-- n pages, k of them filled. -/
def pgFill (B : List Int) (s : Seg) (n k : Nat) : List Value := apiRow (segPgs B s k) ++ (List.replicate (n - k) zeroRow).flatten
theorem apiRow_length (PS : List Pg) (h : ∀ p ∈ PS, p.bytes.length = 256) : (apiRow PS).length = PS.length * 258 := by
  unfold apiRow
  induction PS with
  | nil => rfl
  | cons p r ih =>
    rw [List.flatMap_cons, List.length_append, ih (fun q hq => h q (List.mem_cons_of_mem _ hq)), pageRow_length, h p List.mem_cons_self, List.length_cons]
    omega
theorem segPgs_bytes (B : List Int) (s : Seg) (n : Nat) : ∀ p ∈ segPgs B s n, p.bytes.length = 256 := by
  intro p hp
  obtain ⟨i, _, rfl⟩ := List.mem_map.1 hp
  exact segPage_length _ _ _
theorem segPgs_length (B : List Int) (s : Seg) (n : Nat) : (segPgs B s n).length = n := by simp [segPgs]
theorem zeroRows_length (m : Nat) : (List.replicate m zeroRow).flatten.length = m * 258 := by
  induction m with
  | zero => rfl
  | succ m ih => rw [List.replicate_succ, List.flatten_cons, List.length_append, ih, zeroRow_length]; omega
theorem pgFill_length (B : List Int) (s : Seg) (n k : Nat) (h : k ≤ n) : (pgFill B s n k).length = n * 258 := by
  rw [pgFill, List.length_append, apiRow_length _ (segPgs_bytes B s k), segPgs_length, zeroRows_length]; omega
theorem pgFill_full (B : List Int) (s : Seg) (n : Nat) : pgFill B s n n = apiRow (segPgs B s n) := by rw [pgFill, Nat.sub_self]; simp
theorem pgFill_none (B : List Int) (s : Seg) (n : Nat) : pgFill B s n 0 = (List.replicate n zeroRow).flatten := by rw [pgFill, Nat.sub_zero]; rfl
/-- How many bytes of the file are laid ahead of the k-th page. -/
def eaten (s : Seg) (k : Nat) : Nat := if k = 0 then 0 else Nat.min s.inFile.toNat (k * 256 - s.addr.toNat % 256)
def startAt (s : Seg) (k : Nat) : Nat := if k = 0 then s.addr.toNat % 256 else 0
/-- What is copied into the k-th page. -/
def chunk (B : List Int) (s : Seg) (k : Nat) : List Int := (List.range (Nat.min (s.inFile.toNat - eaten s k) (256 - startAt s k))).map fun j => B.getD (s.offs.toNat + eaten s k + j) 0
theorem chunk_length (B : List Int) (s : Seg) (k : Nat) : (chunk B s k).length = Nat.min (s.inFile.toNat - eaten s k) (256 - startAt s k) := by simp [chunk]
theorem startAt_lt (s : Seg) (k : Nat) : startAt s k < 256 := by
  unfold startAt
  have := Nat.mod_lt s.addr.toNat (show 256 > 0 by omega)
  split <;> omega
theorem eaten_le (s : Seg) (k : Nat) : eaten s k ≤ s.inFile.toNat := by
  unfold eaten
  simp only [Nat.min_def]
  split
  · omega
  · split <;> omega
theorem min_or (a b : Nat) : (Nat.min a b = a ∧ a ≤ b) ∨ (Nat.min a b = b ∧ b ≤ a) := by simp only [Nat.min_def]; split <;> omega
theorem start_key (s : Seg) (k : Nat) : (k = 0 ∧ startAt s k = s.addr.toNat % 256 ∧ eaten s k = 0) ∨ (0 < k ∧ startAt s k = 0 ∧ (eaten s k = k * 256 - s.addr.toNat % 256 ∧ eaten s k ≤ s.inFile.toNat ∨ eaten s k = s.inFile.toNat ∧ s.inFile.toNat ≤ k * 256 - s.addr.toNat % 256)) := by
  rcases k with _ | k
  · exact .inl ⟨rfl, rfl, rfl⟩
  · refine .inr ⟨by omega, rfl, ?_⟩
    have e : eaten s (k + 1) = Nat.min s.inFile.toNat ((k + 1) * 256 - s.addr.toNat % 256) := by rw [eaten, if_neg (by omega)]
    have := min_or s.inFile.toNat ((k + 1) * 256 - s.addr.toNat % 256)
    omega
theorem eaten_step (s : Seg) (k : Nat) : eaten s (k + 1) = eaten s k + Nat.min (s.inFile.toNat - eaten s k) (256 - startAt s k) := by
  have a := start_key s k
  have b := start_key s (k + 1)
  have c := min_or (s.inFile.toNat - eaten s k) (256 - startAt s k)
  have r := Nat.mod_lt s.addr.toNat (show 256 > 0 by omega)
  omega
theorem zero256_get (j : Nat) : zero256[j]? = if j < 256 then some 0 else none := by rw [zero256, List.getElem?_replicate]
theorem page_chunk (B : List Int) (s : Seg) (k : Nat) : splice zero256 (startAt s k) (chunk B s k) = segPage B s (s.addr.toNat / 256 + k) := by
  have hcl := chunk_length B s k
  have hck : ∀ i, i < Nat.min (s.inFile.toNat - eaten s k) (256 - startAt s k) → (chunk B s k)[i]? = some (B.getD (s.offs.toNat + eaten s k + i) 0) := fun i hi => by
    rw [chunk, List.getElem?_map, List.getElem?_range hi]; rfl
  have hM := min_or (s.inFile.toNat - eaten s k) (256 - startAt s k)
  have hK := start_key s k
  have hs := startAt_lt s k
  have he := eaten_le s k
  have hr := Nat.mod_lt s.addr.toNat (show 256 > 0 by omega)
  have hd := Nat.div_add_mod s.addr.toNat 256
  generalize Nat.min (s.inFile.toNat - eaten s k) (256 - startAt s k) = M at *
  generalize startAt s k = S at *
  generalize eaten s k = Ea at *
  have hfit : S + (chunk B s k).length ≤ zero256.length := by rw [hcl, zero256_length]; omega
  apply List.ext_getElem?
  intro j
  rw [splice_get _ _ _ hfit, hcl, zero256_get]
  by_cases hj : j < 256
  · have hp : (segPage B s (s.addr.toNat / 256 + k))[j]? = some (segByte B s ((s.addr.toNat / 256 + k) * 256 + j)) := by
      rw [segPage, List.getElem?_map, List.getElem?_range hj]; rfl
    rw [if_pos hj, hp]
    unfold segByte
    generalize s.addr.toNat = A at *
    generalize s.inFile.toNat = F at *
    by_cases h1 : j < S
    · rw [if_pos h1, if_neg (by omega)]
    · rw [if_neg h1]
      by_cases h2 : j < S + M
      · rw [if_pos h2, hck _ (by omega), if_pos (by omega)]
        congr 2
        omega
      · rw [if_neg h2, if_neg (by omega)]
  · rw [if_neg hj, if_neg (by omega), if_neg (by omega)]
    rw [segPage, List.getElem?_map, List.getElem?_eq_none (by simp; omega)]; rfl
theorem splice_in (pre Z post xs : List Value) (a b x y : Value) (o : Nat) (hz : o + xs.length ≤ Z.length) :
    splice (((pre ++ (a :: b :: (Z ++ post))).set pre.length x).set (pre.length + 1) y) (pre.length + 2 + o) xs = pre ++ (x :: y :: (splice Z o xs ++ post)) := by
  have e1 : (pre ++ (a :: b :: (Z ++ post))).set pre.length x = pre ++ (x :: b :: (Z ++ post)) := by
    rw [List.set_append_right _ _ (Nat.le_refl _)]; simp
  have e2 : (pre ++ (x :: b :: (Z ++ post))).set (pre.length + 1) y = pre ++ (x :: y :: (Z ++ post)) := by
    rw [List.set_append_right _ _ (by omega)]; simp
  rw [e1, e2]
  unfold splice
  have e3 : (pre ++ (x :: y :: (Z ++ post))).take (pre.length + 2 + o) = pre ++ (x :: y :: Z.take o) := by
    rw [List.take_append, List.take_of_length_le (by omega), show pre.length + 2 + o - pre.length = o + 2 from by omega]
    simp only [List.take_succ_cons]
    rw [List.take_append_of_le_length (by omega)]
  have e4 : (pre ++ (x :: y :: (Z ++ post))).drop (pre.length + 2 + o + xs.length) = Z.drop (o + xs.length) ++ post := by
    rw [List.drop_append, List.drop_of_length_le (by omega), show pre.length + 2 + o + xs.length - pre.length = o + xs.length + 2 from by omega]
    simp only [List.drop_succ_cons, List.nil_append]
    rw [List.drop_append_of_le_length (by omega)]
  rw [e3, e4]; simp
theorem pgFill_step (B : List Int) (s : Seg) (n k : Nat) (h : k < n) :
    splice (((pgFill B s n k).set (k * 258) (.int .i64 (s.addr.toNat / 256 + k : Nat))).set (k * 258 + 1) (.int .u8 s.perm)) (k * 258 + 2 + startAt s k) (bytesRow (chunk B s k)) = pgFill B s n (k + 1) := by
  have hl : (apiRow (segPgs B s k)).length = k * 258 := by rw [apiRow_length _ (segPgs_bytes B s k), segPgs_length]
  have e1 : n - k = (n - (k + 1)) + 1 := by omega
  have e2 : segPgs B s (k + 1) = segPgs B s k ++ [⟨(s.addr.toNat / 256 + k : Nat), s.perm, segPage B s (s.addr.toNat / 256 + k)⟩] := by simp [segPgs, List.range_succ]
  have hfit : startAt s k + (bytesRow (chunk B s k)).length ≤ (bytesRow zero256).length := by
    rw [bytesRow_length, bytesRow_length, chunk_length, zero256_length]
    have := startAt_lt s k
    simp only [Nat.min_def]; split <;> omega
  have hst := splice_in (apiRow (segPgs B s k)) (bytesRow zero256) (List.replicate (n - (k + 1)) zeroRow).flatten (bytesRow (chunk B s k)) (.int .i64 0) (.int .u8 0) (.int .i64 (s.addr.toNat / 256 + k : Nat)) (.int .u8 s.perm) (startAt s k) hfit
  rw [hl] at hst
  have e3 : pgFill B s n k = apiRow (segPgs B s k) ++ (.int .i64 0 :: .int .u8 0 :: (bytesRow zero256 ++ (List.replicate (n - (k + 1)) zeroRow).flatten)) := by
    rw [pgFill, e1, List.replicate_succ, List.flatten_cons]; rfl
  rw [e3, hst, bytesRow_splice, page_chunk, pgFill, e2, apiRow, apiRow, List.flatMap_append]
  simp [pageRow]
end Go.Proofs.YtkokiefclmbgaaaGreatDoor

/- exe.segment.pages. -/
namespace Go.Proofs.YtkokiefclmbgaaaGreatDoor
open Go.RowKit
set_option linter.unusedVariables false
set_option linter.unusedSimpArgs false

theorem rep_get {α : Type} (Z : List α) : ∀ (n t : Nat), t < n * Z.length → (List.replicate n Z).flatten[t]? = Z[t % Z.length]?
  | 0, t, h => by simp at h
  | n + 1, t, h => by
    rw [List.replicate_succ, List.flatten_cons]
    by_cases h1 : t < Z.length
    · rw [List.getElem?_append_left h1, Nat.mod_eq_of_lt h1]
    · rw [List.getElem?_append_right (by omega), rep_get Z n (t - Z.length) (by rw [Nat.add_mul] at h; omega), ← Nat.mod_eq_sub_mod (by omega)]
set_option maxRecDepth 100000 in
theorem apiInfo : (Tryz.prog.info? 87).map (fun i => (i.zero, i.size, i.bytes)) = some (some (.agg zeroRow.toArray), 258, 272) := by kernel_rfl
theorem made_rep (Z : List Value) (m n : Nat) (hZ : Z.length = m) (hm : 0 < m) : madeCells Z.toArray (n * m) = (List.replicate n Z).flatten.toArray := by
  have hfl : (List.replicate n Z).flatten.length = n * m := by simp [hZ]
  apply Array.ext
  · rw [size_madeCells]; simp only [List.size_toArray]; rw [hfl]
  · intro i h1 h2
    rw [size_madeCells] at h1
    have hmi : i % m < Z.length := by rw [hZ]; exact Nat.mod_lt _ hm
    have h := rep_get Z n i (by rw [hZ]; exact h1)
    rw [hZ, List.getElem?_eq_getElem hmi] at h
    have h2' : i < (List.replicate n Z).flatten.length := by rw [hfl]; exact h1
    rw [List.getElem?_eq_getElem h2'] at h
    have h3 := Option.some.inj h
    simp only [madeCells, Array.getElem_map, Array.getElem_range, List.size_toArray, hZ, List.getElem_toArray, h3]
    rw [getElem!_pos Z.toArray (i % m) (by simpa using hmi)]
    rfl
theorem made_api (n : Nat) : madeCells zeroRow.toArray (n * 258) = (List.replicate n zeroRow).flatten.toArray := made_rep zeroRow 258 n zeroRow_length (by omega)
theorem makeApi (w : World) (n : Nat) (h : n ≤ 100000) : (Instr.makeSlice 76 (.int .i64 n) (.int .i64 n)).run Tryz.prog w = .ok (.slice (some ⟨w.heap.size, 0, none⟩) n n) (w.alloc (.cells (List.replicate n zeroRow).flatten.toArray 87)) := by
  obtain ⟨i, hi, hzz⟩ := Option.map_eq_some_iff.1 apiInfo
  simp only [Prod.mk.injEq] at hzz
  obtain ⟨hz, hs, hb⟩ := hzz
  have hr := run_make (P := Tryz.prog) w 76 87 i _ Tryz.underlying76 hi hz .i64 .i64 n n (by omega) (Int.le_refl _) (by rw [hb]; omega) (by omega)
  rw [hs, Int.toNat_natCast, show (Value.agg zeroRow.toArray).cells = zeroRow.toArray from rfl, made_api] at hr
  exact hr

/-- What is asked of a segment. -/
structure SegFit (B : List Int) (s : Seg) : Prop where
  addr0 : 0 ≤ s.addr
  offs0 : 0 ≤ s.offs
  file0 : 0 ≤ s.inFile
  mem1 : 1 ≤ s.mem
  file : s.inFile ≤ s.mem
  fits : s.offs + s.inFile ≤ (B.length : Int)
  top : s.addr + s.mem ≤ 65024
/-- How many pages a segment has. -/
def Seg.count (s : Seg) : Nat := (s.last - s.first + 1).toNat

theorem chunk_src {w : World} {b off : Nat} {B : List Int} {s : Seg} (hv : BView w b off B) (hf : SegFit B s) (k : Nat) : ∀ j v, (bytesRow (chunk B s k))[j]? = some v → w.cell? ⟨b, off + s.offs.toNat + eaten s k + j, none⟩ = some v := by
  intro j v hj
  have hl := (List.getElem?_eq_some_iff.1 hj).1
  rw [bytesRow_length] at hl
  rw [bytesRow_get _ _ hl] at hj
  have hl2 := hl
  rw [chunk_length] at hl2
  have hm := min_or (s.inFile.toNat - eaten s k) (256 - startAt s k)
  have he := eaten_le s k
  obtain ⟨_, h2, h3, _, _, h6, _⟩ := hf
  have := hv (s.offs.toNat + eaten s k + j) (by omega)
  rw [show off + (s.offs.toNat + eaten s k + j) = off + s.offs.toNat + eaten s k + j from by omega] at this
  rw [this, ← hj]
  have hc : (chunk B s k)[j]? = some (B.getD (s.offs.toNat + eaten s k + j) 0) := by rw [chunk, List.getElem?_map, List.getElem?_range hl2]; rfl
  simp only [List.getD, hc, Option.getD_some]

set_option maxRecDepth 100000 in
set_option maxHeartbeats 2000000 in
theorem pages_any (b off cap : Nat) (B : List Int) (s : Seg) (w : World) (hf : SegFit B s) (hcap : B.length ≤ cap) (hlen : B.length ≤ 500000) (hv : BView w b off B) (hbw : b < w.heap.size) :
    Calls Tryz.prog 105 #[segVal b off cap s] w fun e w' => e = .returned (.slice (some ⟨w.heap.size + 1, 0, none⟩) s.count s.count) ∧ Holds w' (w.heap.size + 1) 87 (apiRow (segPgs B s s.count)) ∧ Below w.heap.size w w' := by
  have HF := hide hf
  have HV := hide hv
  obtain ⟨a0, o0, i0, m1, hfm, hfit, htop⟩ := hf
  obtain ⟨N, hN⟩ : ∃ N, N = s.count := ⟨_, rfl⟩
  rw [← hN]
  have e0 : (s.addr + s.mem - 1) / 256 - s.addr / 256 + 1 = (N : Int) := by rw [hN, Seg.count, Seg.last, Seg.first]; omega
  have hN1 : N ≤ 255 := by omega
  have e5 : s.addr % 256 = ((startAt s 0 : Nat) : Int) := by show _ = ((s.addr.toNat % 256 : Nat) : Int); omega
  have hmk := fun w => makeApi w N (by omega)
  have hfz : s.addr / 256 = ((s.addr.toNat / 256 : Nat) : Int) := by omega
  have HFZ := hide hfz
  have HN := hide hN
  have hcells : segCells b off cap s = [.int .u8 s.perm, .int .u64 s.addr, .slice (some ⟨b, segPtr off cap s, none⟩) s.inFile.toNat (cap - s.offs.toNat), .int .i64 (s.addr / 256), .int .i64 ((s.addr + s.mem - 1) / 256)] := rfl
  have HCE := hide hcells
  have HNum := hide (And.intro hcap (And.intro hlen (And.intro hfit (And.intro o0 (And.intro i0 (And.intro htop (And.intro a0 m1)))))))
  unfold segVal
  clear hv hN hfz hcells a0 o0 i0 m1 hfm hfit htop hcap hlen
  generalize s.addr / 256 = F1 at *
  generalize (s.addr + s.mem - 1) / 256 = L1 at *
  have y1 : (L1 - F1 + 1 : Int) = (N : Int) := e0
  have hN2 : (N : Int) ≤ 255 := by omega
  have y2 : L1 - F1 = (N : Int) - 1 := by omega
  have y3 : (N : Int) - 1 + 1 = (N : Int) := by omega
  clear e0
  go_enter Tryz.func105, Tryz.ntmps105
  go_wp2
  go_loopw [4, 5, 22] (fun rest at_ i wr => ∃ k : Nat, k ≤ N ∧ i = .int .i64 k ∧ at_ = .int .u64 (startAt s k : Nat) ∧ (∃ X : Nat, rest = .slice (some ⟨b, X, none⟩) (s.inFile.toNat - eaten s k) (cap - s.offs.toNat - eaten s k) ∧ (0 < s.inFile.toNat - eaten s k → X = off + s.offs.toNat + eaten s k)) ∧
      Holds wr w.heap.size 245 (segCells b off cap s) ∧ Holds wr (w.heap.size + 1) 87 (pgFill B s N k) ∧ Below w.heap.size w wr) (fun _ _ i _ => N - (intOf i).toNat)
  case atStart =>
    refine ⟨0, by omega, rfl, ?_, ⟨segPtr off cap s, ?_, fun h => ?_⟩, ?_, ?_, ?_⟩
    · rw [Int.tmod_eq_emod_of_nonneg (unhide HNum).2.2.2.2.2.2.1, e5]
    · rfl
    · have hnm := unhide HNum
      unfold segPtr
      rw [if_neg (by have : eaten s 0 = 0 := rfl; omega)]
      rfl
    · rw [unhide HCE]; exact (Holds.new _ _ _).alloc _
    · rw [pgFill_none]
      have := Holds.new (w.alloc (.cells (segCells b off cap s).toArray 245)) 87 (List.replicate N zeroRow).flatten
      rw [unhide HCE] at this
      simpa using this
    · exact ((Below.refl _ _).alloc (Nat.le_refl _) _).alloc (by simp) _
  case round =>
    obtain ⟨k, hk, rfl, rfl, ⟨X, rfl, hX⟩, hbox, hpg, hbl⟩ := hrel
    have HX := hide hX
    clear hX
    have HBX := hide hbox
    have HPG := hide hpg
    have HBL := hide hbl
    by_cases hlt : k < N
    · have bx0 : wr.cell? ⟨w.heap.size, 0, none⟩ = some (.int .u8 s.perm) := hbox.cell (by rw [unhide HCE]; rfl)
      have bx3 : wr.cell? ⟨w.heap.size, 3, none⟩ = some (.int .i64 F1) := hbox.cell (by rw [unhide HCE]; rfl)
      have hL := pgFill_length B s N k hk
      have c0 : wr.cell? ⟨w.heap.size + 1, k * 258, none⟩ = some ((pgFill B s N k).getD (k * 258) .nilIface) := hpg.cell (by rw [List.getD, List.getElem?_eq_getElem (by rw [hL]; omega)]; rfl)
      have f0 := hpg.frozen (k * 258)
      obtain ⟨fk, hfk⟩ : ∃ fk : Nat, fk = s.addr.toNat / 256 + k := ⟨_, rfl⟩
      have z1 : F1 + (k : Int) = (fk : Int) := by have := unhide HFZ; omega
      have hfk9 : (fk : Int) ≤ 1000 := by have := unhide HNum; omega
      have hp1 := hpg.set (k * 258) (.int .i64 (fk : Int))
      have c1 : (wr.setCell ⟨w.heap.size + 1, k * 258, none⟩ (.int .i64 (fk : Int))).cell? ⟨w.heap.size + 1, k * 258 + 1, none⟩ = some (((pgFill B s N k).set (k * 258) (.int .i64 (fk : Int))).getD (k * 258 + 1) .nilIface) := hp1.cell (by rw [List.getD, List.getElem?_eq_getElem (by rw [List.length_set, hL]; omega)]; rfl)
      have f1 := hp1.frozen (k * 258 + 1)
      have bx1 : (wr.setCell ⟨w.heap.size + 1, k * 258, none⟩ (.int .i64 (fk : Int))).cell? ⟨w.heap.size, 0, none⟩ = some (.int .u8 s.perm) := (hbox.set_other (c := w.heap.size + 1) (by omega) (k * 258) (.int .i64 (fk : Int))).cell (by rw [unhide HCE]; rfl)
      have hp2 := hp1.set (k * 258 + 1) (.int .u8 s.perm)
      have hbox2 := (hbox.set_other (c := w.heap.size + 1) (by omega) (k * 258) (.int .i64 (fk : Int))).set_other (c := w.heap.size + 1) (by omega) (k * 258 + 1) (.int .u8 s.perm)
      have hbl2 := (hbl.setCell (p := ⟨w.heap.size + 1, k * 258, none⟩) (by show w.heap.size ≤ w.heap.size + 1; omega) (.int .i64 (fk : Int))).setCell (p := ⟨w.heap.size + 1, k * 258 + 1, none⟩) (by show w.heap.size ≤ w.heap.size + 1; omega) (.int .u8 s.perm)
      have HP2 := hide hp2
      have HX2 := hide hbox2
      have HB2 := hide hbl2
      generalize (pgFill B s N k).getD (k * 258) .nilIface = v0 at c0
      generalize ((pgFill B s N k).set (k * 258) (.int .i64 (fk : Int))).getD (k * 258 + 1) .nilIface = v1 at c1
      obtain ⟨S, hS⟩ : ∃ S, S = startAt s k := ⟨_, rfl⟩
      have hS9 := startAt_lt s k
      rw [← hS] at hS9
      obtain ⟨Ea, hEa⟩ : ∃ E, E = eaten s k := ⟨_, rfl⟩
      have hEl := eaten_le s k
      rw [← hS, ← hEa]
      rw [← hEa] at hEl
      have HFK := hide hfk
      have HS := hide hS
      have HEA := hide hEa
      have HL := hide hL
      have hS0 : (0 : Int) ≤ (S : Int) := by omega
      have hS1 : (S : Int) ≤ 256 := by omega
      have hS2 : ¬ 256 = S := by omega
      have hS3 : (S : Int) < 256 := by omega
      have hk0 : (0 : Int) ≤ (k : Int) := by omega
      have hk1 : (k : Int) < (N : Int) := by omega
      obtain ⟨R, hR⟩ : ∃ R, R = s.inFile.toNat - Ea := ⟨_, rfl⟩
      obtain ⟨C, hC⟩ : ∃ C, C = cap - s.offs.toNat - Ea := ⟨_, rfl⟩
      rw [← hR, ← hC]
      obtain ⟨m, hm⟩ : ∃ m, m = (bytesRow (chunk B s k)).length := ⟨_, rfl⟩
      have hm2 : m = Nat.min R (256 - S) := by rw [hm, bytesRow_length, chunk_length, ← hS, ← hEa, ← hR]
      have hmo := min_or R (256 - S)
      have hRC : R ≤ C := by have := unhide HNum; omega
      have hXv : 0 < R → X = off + s.offs.toNat + Ea := by rw [hR, hEa]; exact unhide HX
      have hfit : k * 258 + 2 + S + (bytesRow (chunk B s k)).length ≤ (((pgFill B s N k).set (k * 258) (.int .i64 (fk : Int))).set (k * 258 + 1) (.int .u8 s.perm)).length := by
        rw [List.length_set, List.length_set, hL, ← hm]; omega
      have hsrc : 0 < (bytesRow (chunk B s k)).length → (some ⟨w.heap.size + 1, k * 258 + 2 + S, none⟩ : Option Addr) = some ⟨w.heap.size + 1, k * 258 + 2 + S, none⟩ ∧ ∃ ad, (some ⟨b, X, none⟩ : Option Addr) = some ad ∧ ∀ j v, (bytesRow (chunk B s k))[j]? = some v → ((wr.setCell ⟨w.heap.size + 1, k * 258, none⟩ (.int .i64 (fk : Int))).setCell ⟨w.heap.size + 1, k * 258 + 1, none⟩ (.int .u8 s.perm)).cell? (ad.add j) = some v :=
        fun hpos => ⟨rfl, ⟨b, X, none⟩, rfl, fun j v hj => by
          rw [hXv (by omega), addr_add, hEa]
          exact chunk_src ((unhide HV).below hbl2 hbw) (unhide HF) k j v hj⟩
      have hstep : splice (((pgFill B s N k).set (k * 258) (.int .i64 (fk : Int))).set (k * 258 + 1) (.int .u8 s.perm)) (k * 258 + 2 + S) (bytesRow (chunk B s k)) = pgFill B s N (k + 1) := by
        rw [hfk, hS]; exact pgFill_step B s N k hlt
      have hrest : eaten s (k + 1) = Ea + m := by rw [hm2, hR, hEa, hS]; exact eaten_step s k
      have hcn : (bytesRow (chunk B s k)).length = Nat.min R (256 - S) := by rw [← hm, hm2]
      have hg2 : w.heap.size + 1 < ((wr.setCell ⟨w.heap.size + 1, k * 258, none⟩ (.int .i64 (fk : Int))).setCell ⟨w.heap.size + 1, k * 258 + 1, none⟩ (.int .u8 s.perm)).heap.size := hp2.lt
      have HM := hide hm
      have HSRC := hide hsrc
      have HST := hide hstep
      have HRS := hide hrest
      have HFT := hide hfit
      have HCN := hide hcn
      have HR := hide hR
      have HC := hide hC
      have n1 : (m : Int) ≤ (R : Int) := by omega
      have n2 : (m : Int) ≤ (C : Int) := by omega
      obtain ⟨Y, hY1, hY2⟩ : ∃ Y : Nat, (C = m → Y = X) ∧ (¬ C = m → Y = X + m) := by
        by_cases q : C = m
        · exact ⟨X, fun _ => rfl, fun h => absurd q h⟩
        · exact ⟨X + m, fun h => absurd h q, fun _ => rfl⟩
      have HYV := hide (show 0 < R - m → Y = off + s.offs.toNat + (Ea + m) from fun h => by
        rw [hY2 (by omega), hXv (by omega)]; omega)
      have n4 : (0 : Int) ≤ (m : Int) := by omega
      have n5 : m ≤ R := by omega
      have n6 : m ≤ C := by omega
      have n7 : (R : Int) ≤ (C : Int) := by omega
      have n8 : R ≤ C := by omega
      clear hbox hpg hbl hp1 hp2 hbox2 hbl2 hL hfk hS hEa hm hsrc hstep hrest hfit hcn hR hC hm2 hmo hRC hXv
      have HG2 := hide hg2
      clear hg2
      by_cases n3 : C = m
      all_goals (
        go_wp2_with (
          refine wpList_copy_splice rfl (.tmp 44) (.tmp 45) 32 32 rfl 5 Tryz.underlying32 u8size (some ⟨w.heap.size + 1, k * 258 + 2 + S, none⟩) (some ⟨b, X, none⟩) (256 - S) (256 - S) R C (by rfl) (by rfl) (w.heap.size + 1) (k * 258 + 2 + S) _ 87 (unhide HP2) (bytesRow (chunk B s k)) (unhide HCN) (unhide HSRC) (unhide HFT) (bytesRow_one _) (w.heap.size + 1) _ (Below.refl _ _) (Nat.le_refl _) ?_
          intro w3 H3 hb3
          have hp3 : Holds w3 (w.heap.size + 1) 87 (pgFill B s N (k + 1)) := by rw [← unhide HST]; exact unhide H3
          have hx3 := (unhide HX2).below hb3 (by omega)
          have hbl3 := (unhide HB2).trans (hb3.mono (Nat.le_succ _))
          have HP3 := hide hp3
          have HX3 := hide hx3
          have HB3 := hide hbl3
          clear hp3 hx3 hbl3 hb3 H3
          rw [← unhide HM])
        go_roundw
        case rel =>
          refine ⟨k + 1, by omega, by go_num, rfl, ⟨Y, ?_, ?_⟩, unhide HX3, unhide HP3, unhide HB3⟩
          · rw [unhide HRS, Nat.sub_add_eq, Nat.sub_add_eq, ← unhide HR, ← unhide HC]
            first
              | (rw [hY1 n3]; done)
              | (rw [hY2 n3]; done)
              | (simp [hY1 n3, n3]; done)
              | (simp [hY2 n3, n3]; done)
          · rw [unhide HRS, Nat.sub_add_eq, ← unhide HR]; exact unhide HYV
        case measure => simp [intOf]; omega)
    · have hkn : k = N := by omega
      subst hkn
      clear hbox hpg hbl
      go_wp2
      go_ret
      exact ⟨rfl, by rw [← pgFill_full]; exact unhide HPG, unhide HBL⟩
end Go.Proofs.YtkokiefclmbgaaaGreatDoor

/- A process of the document's kernel as it lies. -/
namespace Go.Proofs.YtkokiefclmbgaaaGreatDoor
open Go Go.RowKit
set_option linter.unusedVariables false
set_option linter.unusedSimpArgs false

def refProc (pid par st su le pc : Int) (R : List Int) (pv : Value) (F : List Int) : List Value := [.int .i64 pid, .int .i64 par, .int .i64 st, .int .i64 su, .int .i64 le, .int .u64 pc, .int .u64 (R[0]?.getD 0), .int .u64 (R[1]?.getD 0), .int .u64 (R[2]?.getD 0), .int .u64 (R[3]?.getD 0), .int .u64 (R[4]?.getD 0), .int .u64 (R[5]?.getD 0), .int .u64 (R[6]?.getD 0), .int .u64 (R[7]?.getD 0), .int .u64 (R[8]?.getD 0), .int .u64 (R[9]?.getD 0), .int .u64 (R[10]?.getD 0), .int .u64 (R[11]?.getD 0), .int .u64 (R[12]?.getD 0), .int .u64 (R[13]?.getD 0), .int .u64 (R[14]?.getD 0), .int .u64 (R[15]?.getD 0), pv, .int .i64 (F[0]?.getD 0), .int .i64 (F[1]?.getD 0), .int .i64 (F[2]?.getD 0), .int .i64 (F[3]?.getD 0), .int .i64 (F[4]?.getD 0), .int .i64 (F[5]?.getD 0), .int .i64 (F[6]?.getD 0), .int .i64 (F[7]?.getD 0)]
/-- A process, as both kernels have it. -/
structure AP where
  pid : Int
  par : Int
  st : Int
  su : Int
  le : Int
  pc : Int
  R : List Int
  PS : List Pg
  F : List Int
structure APOk (p : AP) : Prop where
  regs : p.R.length = 16
  pages : ∀ q ∈ p.PS, 0 ≤ q.perm ∧ q.perm ≤ 255 ∧ q.bytes.length = 256
  count : p.PS.length ≤ 1000
theorem rangeAt_set {w : World} {b o : Nat} {cs : List Value} (h : w.rangeAt b o cs) {j : Nat} (hj : j < cs.length) (v : Value) : (w.setCell ⟨b, o + j, none⟩ v).rangeAt b o (cs.set j v) := by
  intro i x hx
  by_cases e : j = i
  · subst e
    rw [List.getElem?_set_self hj] at hx
    obtain rfl := Option.some.inj hx
    exact World.cell?_setCell_same _ _ _ (h j _ (List.getElem?_eq_getElem hj))
  · rw [List.getElem?_set_ne e] at hx
    have := h i x hx
    have ho : o + i ≠ o + j := by omega
    rw [World.cell?_setCell_other _ _ _ _ (by simp)]
    exact this
theorem refProc_len (pid par st su le pc : Int) (R : List Int) (pv : Value) (F : List Int) : (refProc pid par st su le pc R pv F).length = 31 := rfl
theorem refProc_reg (pid par st su le pc : Int) (R : List Int) (pv : Value) (F : List Int) : ∀ r : Nat, r < 16 → (refProc pid par st su le pc R pv F)[6 + r]? = some (.int .u64 (R[r]?.getD 0))
  | 0, _ => rfl
  | 1, _ => rfl
  | 2, _ => rfl
  | 3, _ => rfl
  | 4, _ => rfl
  | 5, _ => rfl
  | 6, _ => rfl
  | 7, _ => rfl
  | 8, _ => rfl
  | 9, _ => rfl
  | 10, _ => rfl
  | 11, _ => rfl
  | 12, _ => rfl
  | 13, _ => rfl
  | 14, _ => rfl
  | 15, _ => rfl
  | n + 16, h => by omega
theorem refProc_set (pid par st su le pc v : Int) (pv : Value) (F R : List Int) (h : R.length = 16) (r : Nat) (hr : r < 16) : refProc pid par st su le pc (R.set r v) pv F = (refProc pid par st su le pc R pv F).set (6 + r) (.int .u64 v) := by
  match R, h with
  | [a0, a1, a2, a3, a4, a5, a6, a7, a8, a9, a10, a11, a12, a13, a14, a15], _ =>
    match r, hr with
    | 0, _ => rfl
    | 1, _ => rfl
    | 2, _ => rfl
    | 3, _ => rfl
    | 4, _ => rfl
    | 5, _ => rfl
    | 6, _ => rfl
    | 7, _ => rfl
    | 8, _ => rfl
    | 9, _ => rfl
    | 10, _ => rfl
    | 11, _ => rfl
    | 12, _ => rfl
    | 13, _ => rfl
    | 14, _ => rfl
    | 15, _ => rfl
    | n + 16, hr => omega
/-- A process of the document's, at an offset of the row of them. -/
structure RefP (w : World) (gp o : Nat) (p : AP) (aa : Option Addr) (ga ca : Nat) : Prop where
  row : w.rangeAt gp o (refProc p.pid p.par p.st p.su p.le p.pc p.R (.slice aa p.PS.length ca) p.F)
  aa : 0 < p.PS.length → aa = some ⟨ga, 0, none⟩
  pages : RefAt w ga p.PS
  fz : ∀ i, w.frozen? ⟨ga, i, none⟩ = false
  fp : ∀ i, w.frozen? ⟨gp, i, none⟩ = false
  apart : ga ≠ gp
  regs : p.R.length = 16
theorem RefP.reg {w : World} {gp o : Nat} {p : AP} {aa : Option Addr} {ga ca : Nat} (h : RefP w gp o p aa ga ca) {r : Nat} (hr : r < 16) : w.cell? ⟨gp, o + (6 + r), none⟩ = some (.int .u64 (p.R.getD r 0)) := by
  rw [List.getD_eq_getElem?_getD]
  exact h.row (6 + r) _ (refProc_reg _ _ _ _ _ _ _ _ _ r hr)
theorem RefP.setReg {w : World} {gp o : Nat} {p : AP} {aa : Option Addr} {ga ca : Nat} (h : RefP w gp o p aa ga ca) {r : Nat} (hr : r < 16) (v : Int) : RefP (w.setCell ⟨gp, o + (6 + r), none⟩ (.int .u64 v)) gp o {p with R := p.R.set r v} aa ga ca := by
  refine ⟨?_, h.aa, ?_, fun i => by simpa using h.fz i, fun i => by simpa using h.fp i, h.apart, by rw [List.length_set]; exact h.regs⟩
  · show (w.setCell ⟨gp, o + (6 + r), none⟩ (.int .u64 v)).rangeAt gp o (refProc p.pid p.par p.st p.su p.le p.pc (p.R.set r v) (.slice aa p.PS.length ca) p.F)
    rw [refProc_set _ _ _ _ _ _ _ _ _ _ h.regs r hr]
    exact rangeAt_set h.row (by rw [refProc_len]; omega) _
  · intro i q hq
    have hg := grown_set (World.grownBy.refl w (some gp)) (o + (6 + r)) (.int .u64 v)
    obtain ⟨a, b, c⟩ := h.pages i q hq
    have hne : some ga ≠ some gp := by simpa using h.apart
    exact ⟨hg.cell a hne, hg.cell b hne, fun j x hx => hg.cell (c j x hx) hne⟩
theorem RefP.setPC {w : World} {gp o : Nat} {p : AP} {aa : Option Addr} {ga ca : Nat} (h : RefP w gp o p aa ga ca) (v : Int) : RefP (w.setCell ⟨gp, o + 5, none⟩ (.int .u64 v)) gp o {p with pc := v} aa ga ca := by
  refine ⟨?_, h.aa, ?_, fun i => by simpa using h.fz i, fun i => by simpa using h.fp i, h.apart, h.regs⟩
  · exact rangeAt_set h.row (j := 5) (by rw [refProc_len]; omega) (.int .u64 v)
  · intro i q hq
    have hg := grown_set (World.grownBy.refl w (some gp)) (o + 5) (.int .u64 v)
    obtain ⟨a, b, c⟩ := h.pages i q hq
    have hne : some ga ≠ some gp := by simpa using h.apart
    exact ⟨hg.cell a hne, hg.cell b hne, fun j x hx => hg.cell (c j x hx) hne⟩
theorem RefP.below {w w' : World} {gp o : Nat} {p : AP} {aa : Option Addr} {ga ca : Nat} (h : RefP w gp o p aa ga ca) (hb : Below w.heap.size w w') (hl : ga < w.heap.size) : RefP w' gp o p aa ga ca := by
  have hpl : gp < w.heap.size := World.block_lt_of_cell? w _ (h.row 0 _ rfl)
  have hc : ∀ b i v, w.cell? ⟨b, i, none⟩ = some v → w'.cell? ⟨b, i, none⟩ = some v := fun b i v hv => by rw [hb.cell (p := ⟨b, i, none⟩) (World.block_lt_of_cell? w _ hv)]; exact hv
  have hf : ∀ b i, b < w.heap.size → w.frozen? ⟨b, i, none⟩ = false → w'.frozen? ⟨b, i, none⟩ = false := fun b i hbl hv => by unfold World.frozen? at hv ⊢; rw [hb.block b hbl]; exact hv
  refine ⟨fun j v hv => hc _ _ _ (h.row j v hv), h.aa, fun i q hq => ?_, fun i => hf _ _ hl (h.fz i), fun i => hf _ _ hpl (h.fp i), h.apart, h.regs⟩
  obtain ⟨a, b, c⟩ := h.pages i q hq
  exact ⟨hc _ _ _ a, hc _ _ _ b, fun j v hv => hc _ _ _ (c j v hv)⟩
end Go.Proofs.YtkokiefclmbgaaaGreatDoor

/- The program's address spaces: the cells of one, Count. -/
namespace Go.Proofs.YtkokiefclmbgaaaGreatDoor
open Go Go.RowKit
set_option linter.unusedVariables false
set_option linter.unusedSimpArgs false

def isZ : Value → Bool
  | .int .u8 0 => true
  | _ => false
def allZ : List Value → Bool
  | [] => true
  | v :: r => match isZ v with | true => allZ r | false => false
theorem isZ_eq {v : Value} (h : isZ v = true) : v = .int .u8 0 := by
  unfold isZ at h
  split at h
  · rfl
  · cases h
theorem allZ_rep : ∀ (l : List Value), allZ l = true → l = List.replicate l.length (.int .u8 0)
  | [], _ => rfl
  | v :: r, h => by
    unfold allZ at h
    split at h
    · rename_i hv
      rw [isZ_eq hv, List.length_cons, List.replicate_succ, ← allZ_rep r h]
    · cases h
set_option maxRecDepth 1000000 in
theorem space_z : allZ Tryz.zeroCells176.toList = true := by kernel_rfl
def zeroSpace : List Value := List.replicate 65792 (.int .u8 0)
theorem space_zero : Tryz.zeroCells176 = zeroSpace.toArray := by
  have h := allZ_rep _ space_z
  have hl : Tryz.zeroCells176.toList.length = 65792 := by rw [Array.length_toList]; exact Tryz.zeroCells176_size
  rw [hl] at h
  unfold zeroSpace
  rw [← h]

/-! ### Rows of rows -/
theorem flat_congr' {α : Type} {l : List Nat} {f g : Nat → List α} (h : ∀ a ∈ l, f a = g a) : l.flatMap f = l.flatMap g := by
  induction l with
  | nil => rfl
  | cons a r ih => rw [List.flatMap_cons, List.flatMap_cons, h a (by simp), ih (fun b hb => h b (by simp [hb]))]
theorem range_split (n N : Nat) (h : n < N) : List.range N = List.range n ++ n :: List.range' (n + 1) (N - n - 1) := by
  rw [List.range_eq_range', List.range_eq_range', show N = n + (N - n - 1 + 1) by omega, ← List.range'_append_1, Nat.zero_add, List.range'_succ]
  congr 3
  omega
theorem flat_len {α : Type} (f : Nat → List α) (m : Nat) : ∀ (l : List Nat), (∀ j ∈ l, (f j).length = m) → (l.flatMap f).length = l.length * m
  | [], _ => by simp
  | a :: r, h => by
    rw [List.flatMap_cons, List.length_append, h a (by simp), flat_len f m r (fun j hj => h j (by simp [hj])), List.length_cons, Nat.succ_mul, Nat.add_comm]
theorem flat_get {α : Type} (f : Nat → List α) (m N : Nat) (hf : ∀ j, j < N → (f j).length = m) (j k : Nat) (hj : j < N) (hk : k < m) : ((List.range N).flatMap f)[j * m + k]? = (f j)[k]? := by
  rw [range_split j N hj, List.flatMap_append, List.flatMap_cons]
  have hl : ((List.range j).flatMap f).length = j * m := by rw [flat_len f m _ (fun i hi => hf i (by have := List.mem_range.1 hi; omega)), List.length_range]
  rw [List.getElem?_append_right (by omega), hl, Nat.add_sub_cancel_left, List.getElem?_append_left (by rw [hf j hj]; exact hk)]
theorem flat_splice {α : Type} (f g : Nat → List α) (m N n : Nat) (r : List α) (hf : ∀ j, j < N → (f j).length = m) (hr : r.length = m) (hn : n < N) (hg : g n = r) (ho : ∀ j, j < N → j ≠ n → g j = f j) : splice ((List.range N).flatMap f) (n * m) r = (List.range N).flatMap g := by
  rw [range_split n N hn, List.flatMap_append, List.flatMap_cons, List.flatMap_append, List.flatMap_cons]
  have hl : ((List.range n).flatMap f).length = n * m := by rw [flat_len f m _ (fun i hi => hf i (by have := List.mem_range.1 hi; omega)), List.length_range]
  have e1 : (List.range n).flatMap g = (List.range n).flatMap f := by
    refine flat_congr' (fun j hj => ho j ?_ ?_) <;> have := List.mem_range.1 hj <;> omega
  have e2 : (List.range' (n + 1) (N - n - 1)).flatMap g = (List.range' (n + 1) (N - n - 1)).flatMap f := by
    refine flat_congr' (fun j hj => ho j ?_ ?_) <;> have := List.mem_range'_1.1 hj <;> omega
  rw [e1, e2, hg]
  unfold splice
  rw [List.take_left' hl, hr]
  congr 2
  rw [← List.append_assoc, List.drop_left' (by rw [List.length_append, hl, hf n hn])]

/-! ### A space -/
def pageCells (p : Pg) : List Value := .int .u8 p.perm :: bytesRow p.bytes
def noPage : List Value := List.replicate 257 (.int .u8 0)
def spacePage (PS : List Pg) (j : Nat) : List Value := match PS.find? (fun p => p.num == (j : Int)) with | some p => pageCells p | none => noPage
/-- The cells of an address space with these pages. -/
def spaceRow (PS : List Pg) : List Value := (List.range 256).flatMap (spacePage PS)
/-- Pages by their numbers, all below 256, which may be used for something, of 256 bytes. -/
structure PgsOk (PS : List Pg) : Prop where
  sorted : PS.Pairwise (fun p q => p.num < q.num)
  each : ∀ p ∈ PS, 0 ≤ p.num ∧ p.num < 256 ∧ 1 ≤ p.perm ∧ p.perm ≤ 255 ∧ p.bytes.length = 256
theorem PgsOk.pre {PS QS : List Pg} (h : PgsOk (PS ++ QS)) : PgsOk PS := ⟨(List.pairwise_append.1 h.sorted).1, fun p hp => h.each p (List.mem_append_left _ hp)⟩
theorem pageCells_length {p : Pg} (h : p.bytes.length = 256) : (pageCells p).length = 257 := by unfold pageCells; rw [List.length_cons, bytesRow_length, h]
theorem spacePage_length {PS : List Pg} (h : ∀ p ∈ PS, p.bytes.length = 256) (j : Nat) : (spacePage PS j).length = 257 := by
  unfold spacePage
  split
  · rename_i p hp
    exact pageCells_length (h p (List.mem_of_find?_eq_some hp))
  · unfold noPage; exact List.length_replicate
theorem spaceRow_length {PS : List Pg} (h : ∀ p ∈ PS, p.bytes.length = 256) : (spaceRow PS).length = 65792 := by
  unfold spaceRow
  rw [flat_len _ 257 _ (fun j _ => spacePage_length h j), List.length_range]
theorem flat_const (z : Value) (m : Nat) : ∀ (l : List Nat), (l.flatMap fun _ => List.replicate m z) = List.replicate (l.length * m) z
  | [] => by simp
  | a :: r => by rw [List.flatMap_cons, flat_const z m r, List.length_cons, Nat.succ_mul, Nat.add_comm (r.length * m), List.replicate_append_replicate]
theorem space_nil : spaceRow [] = zeroSpace := by
  show (List.range 256).flatMap (fun _ => List.replicate 257 (Value.int .u8 0)) = zeroSpace
  rw [flat_const, List.length_range]
  rfl
theorem space_get {PS : List Pg} (h : ∀ p ∈ PS, p.bytes.length = 256) (j k : Nat) (hj : j < 256) (hk : k < 257) : (spaceRow PS)[j * 257 + k]? = (spacePage PS j)[k]? := flat_get _ 257 256 (fun j _ => spacePage_length h j) j k hj hk
theorem space_step {PS : List Pg} {p : Pg} (h : PgsOk (PS ++ [p])) (n : Nat) (hn : p.num = n) : splice (spaceRow PS) (n * 257) (pageCells p) = spaceRow (PS ++ [p]) := by
  have hp := h.each p (by simp)
  have hb : ∀ q ∈ PS, q.bytes.length = 256 := fun q hq => (h.each q (by simp [hq])).2.2.2.2
  have hlt : ∀ q ∈ PS, q.num < p.num := fun q hq => (List.pairwise_append.1 h.sorted).2.2 q hq p (by simp)
  refine flat_splice _ _ 257 256 n _ (fun j _ => spacePage_length hb j) (pageCells_length hp.2.2.2.2) (by omega) ?_ (fun j hj hne => ?_)
  · unfold spacePage
    rw [List.find?_append, show PS.find? (fun q => q.num == (n : Int)) = none from List.find?_eq_none.2 (fun q hq => by have := hlt q hq; simp; omega)]
    simp [hn]
  · unfold spacePage
    rw [List.find?_append]
    cases hf : PS.find? (fun q => q.num == (j : Int)) with
    | some q => rfl
    | none =>
      have : ([p].find? (fun q => q.num == (j : Int))) = none := List.find?_eq_none.2 (fun q hq => by simp at hq; subst hq; simp; omega)
      rw [this]; rfl
/-- The pages below a number. -/
def pgsTo (PS : List Pg) (n : Nat) : List Pg := (List.range n).filterMap (fun j : Nat => PS.find? (fun p => p.num == (j : Int)))
theorem pgsTo_succ (PS : List Pg) (n : Nat) : pgsTo PS (n + 1) = pgsTo PS n ++ (PS.find? (fun p => p.num == (n : Int))).toList := by
  unfold pgsTo
  rw [List.range_succ, List.filterMap_append]
  cases h : PS.find? (fun p => p.num == (n : Int)) <;> simp [h]
theorem pgsTo_take {PS : List Pg} (h : PgsOk PS) : ∀ n : Nat, pgsTo PS n = PS.filter (fun p => decide (p.num < (n : Int)))
  | 0 => by
    unfold pgsTo
    simp only [List.range_zero, List.filterMap_nil]
    symm
    rw [List.filter_eq_nil_iff]
    intro p hp
    have := (h.each p hp).1
    simp; omega
  | n + 1 => by
    rw [pgsTo_succ, pgsTo_take h n]
    clear pgsTo_take
    have hs := h.sorted
    have h0 : ∀ p ∈ PS, 0 ≤ p.num := fun p hp => (h.each p hp).1
    clear h
    induction PS with
    | nil => rfl
    | cons a r ih =>
      obtain ⟨ha, hr⟩ := List.pairwise_cons.1 hs
      have ih := ih hr (fun p hp => h0 p (by simp [hp]))
      by_cases hlt : a.num < (n : Int)
      · rw [List.filter_cons_of_pos (by simpa using hlt), List.filter_cons_of_pos (by simp; omega), List.find?_cons_of_neg (by simp; omega), List.cons_append, ih]
      · have hrn : ∀ q ∈ r, ¬ q.num < (n : Int) := fun q hq => by have := ha q hq; omega
        by_cases heq : a.num = (n : Int)
        · rw [List.filter_cons_of_neg (by simpa using hlt), List.filter_cons_of_pos (by simp; omega), List.find?_cons_of_pos (by simpa using heq)]
          have e1 : r.filter (fun p => decide (p.num < (n : Int))) = [] := List.filter_eq_nil_iff.2 (fun q hq => by have := hrn q hq; simpa using this)
          have e2 : r.filter (fun p => decide (p.num < ((n + 1 : Nat) : Int))) = [] := List.filter_eq_nil_iff.2 (fun q hq => by have := ha q hq; simp; omega)
          rw [e1, e2]; rfl
        · rw [List.filter_cons_of_neg (by simpa using hlt), List.filter_cons_of_neg (by simp; omega), List.find?_cons_of_neg (by simpa using heq)]
          exact ih
theorem pgsTo_all {PS : List Pg} (h : PgsOk PS) : pgsTo PS 256 = PS := by
  rw [pgsTo_take h]
  exact List.filter_eq_self.2 (fun p hp => by have := (h.each p hp).2.1; simp; omega)
theorem pgsTo_len (PS : List Pg) : ∀ n, (pgsTo PS n).length ≤ n
  | 0 => by simp [pgsTo]
  | n + 1 => by
    have := pgsTo_len PS n
    rw [pgsTo_succ, List.length_append]
    cases h : PS.find? (fun p => p.num == (n : Int)) <;> simp <;> omega
def permAt (PS : List Pg) (j : Nat) : Int := match PS.find? (fun p => p.num == (j : Int)) with | some p => p.perm | none => 0
theorem spacePage_perm (PS : List Pg) (j : Nat) : (spacePage PS j)[0]? = some (.int .u8 (permAt PS j)) := by
  unfold spacePage permAt
  split <;> rfl
end Go.Proofs.YtkokiefclmbgaaaGreatDoor
