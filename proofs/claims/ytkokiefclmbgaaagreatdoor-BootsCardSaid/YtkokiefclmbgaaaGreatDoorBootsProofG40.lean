import Derived.Test.YtkokiefclmbgaaaGreatDoorBootsProofG36
import Derived.Test.YtkokiefclmbgaaaGreatDoorBootsProofG39
import Derived.Test.YtkokiefclmbgaaaGreatDoorBootsProofG23
/- What Boot leaves, for the law. -/
namespace Go.Proofs.YtkokiefclmbgaaaGreatDoor
open Go.RowKit
set_option linter.unusedVariables false
set_option linter.unusedSimpArgs false

theorem erase_id (x : Ino) : (erase x).id = x.id := rfl
theorem pathGo_erase (xs : List Ino) : ∀ (n : Nat) (id : Int) (t : ByteArray), pathGo (xs.map erase) n id t = pathGo xs n id t
  | 0, _, _ => rfl
  | n + 1, id, t => by
    unfold pathGo
    split
    · rfl
    · rw [List.find?_map, show (fun x : Ino => x.id == id) ∘ erase = (fun x : Ino => x.id == id) from rfl]
      cases xs.find? (fun x => x.id == id) with
      | none => rfl
      | some x => exact pathGo_erase xs n x.parent _
theorem pathOf_erase (xs : List Ino) (id : Int) : pathOf (xs.map erase) id = pathOf xs id := pathGo_erase xs _ _ _
theorem countTo_erase (xs : List Ino) (n : Nat) : countTo (xs.map erase) n = countTo xs n := by
  unfold countTo
  rw [← List.map_take, List.filter_map, List.length_map]
  rfl
theorem tells_erase {xs : List Ino} {cs : List (List Int)} {FL : List PFile} (h : Tells (xs.map erase) cs FL) : Tells xs cs FL := by
  refine ⟨fun i x c hx hc hp => ?_, ?_, h.sorted⟩
  · obtain ⟨J, h1, h2⟩ := h.each i (erase x) c (by rw [List.getElem?_map, hx]; rfl) hc hp
    rw [pathOf_erase] at h1 h2
    exact ⟨J, h1, h2⟩
  · have := h.count
    rw [List.length_map, countTo_erase] at this
    exact this
theorem treeInv_erase {xs : List Ino} (h : TreeInv (xs.map erase)) : TreeInv xs := by
  refine ⟨fun x hx => h.down (erase x) (List.mem_map.2 ⟨x, hx, rfl⟩), fun x hx hp => ?_, fun x hx => h.names (erase x) (List.mem_map.2 ⟨x, hx, rfl⟩)⟩
  obtain ⟨y, hy, he⟩ := h.there (erase x) (List.mem_map.2 ⟨x, hx, rfl⟩) hp
  obtain ⟨z, hz, rfl⟩ := List.mem_map.1 hy
  exact ⟨z, hz, he⟩
def twoPgs (R : List Int) : List Pg := [⟨254, 6, R.take 256⟩, ⟨255, 6, R.drop 256⟩]
theorem twoPgs_ok (R : List Int) (h : R.length = 512) : ∀ p ∈ twoPgs R, 0 ≤ p.perm ∧ p.perm ≤ 255 ∧ p.bytes.length = 256 := by
  intro p hp
  simp only [twoPgs, List.mem_cons, List.mem_nil_iff, or_false] at hp
  rcases hp with rfl | rfl
  · exact ⟨show (0 : Int) ≤ 6 by decide, show (6 : Int) ≤ 255 by decide, by simp [h]⟩
  · exact ⟨show (0 : Int) ≤ 6 by decide, show (6 : Int) ≤ 255 by decide, by simp [h]⟩
/-- Process 1 behind Boot. -/
def initProc (p : PK) : AP := ⟨1, 0, 0, 0, 0, numAt (p.fileOf initPath) 24 8, List.replicate 15 0 ++ [65024 + (spOff [initArg] : Int)], outPgs (p.fileOf initPath) ++ twoPgs (stackRoom [initArg]), [-1, -1, -1, 0, 0, 0, 0, 0]⟩
theorem refRow_two (PS : List Pg) (R : List Int) : refRow (PS ++ twoPgs R) = refRow PS ++ refPagesTo R 2 := by
  unfold refRow
  rw [List.flatMap_append]
  congr 1
  show refPage 254 6 (R.take 256) ++ (refPage 255 6 (R.drop 256) ++ []) = refPage 254 6 (R.take 256) ++ refPage 255 6 (R.drop 256)
  rw [List.append_nil]
theorem initProc_row (E : Int) (sp : Int) (pv : Value) : procExec proc1 0 pv E sp = refProc 1 0 0 0 0 E (List.replicate 15 0 ++ [sp]) pv [-1, -1, -1, 0, 0, 0, 0, 0] := rfl
theorem initProc_ok {p : PK} (h : p.ExecOk [0] 0 initPath [initArg]) (hl : (outPgs (p.fileOf initPath)).length ≤ 256) : APOk (initProc p) := by
  refine ⟨by simp [initProc], fun q hq => ?_, ?_⟩
  · rcases List.mem_append.1 hq with h1 | h1
    · exact outPgs_ok h.2.2.2.1 q h1
    · exact twoPgs_ok _ (stackRoom_length h.2.2.2.2.1) q h1
  · simp [initProc, twoPgs]; omega
theorem booted_procs {p : PK} {w w' : World} {k : RK} {cs : List (List Int)} {g cap gp pc gn cn : Nat} (h : BootedAt p w w' k cs g cap gp pc gn cn) : RefProcs w' w'.heap.size gp [initProc p] := by
  have hgp := h.procs.lt gp rfl
  have hgn := h.pages.lt gn rfl
  refine ⟨fun _ => hgp.2, fun i q hq => ?_⟩
  have hi := (List.getElem?_eq_some_iff.1 hq).1
  have hi0 : i = 0 := by simp at hi; omega
  subst hi0
  have e : initProc p = q := by simpa using hq
  subst e
  have hlen : (outPgs (p.fileOf initPath) ++ twoPgs (stackRoom [initArg])).length = (outPgs (p.fileOf initPath)).length + 2 := by simp [twoPgs]
  refine ⟨some ⟨gn, 0, none⟩, gn, cn, fun j v hv => ?_, fun _ => ⟨rfl, hgn.2⟩, ?_⟩
  · have hj := (List.getElem?_eq_some_iff.1 hv).1
    have hr := h.procs
    rw [initProc_row] at hr
    rw [Nat.zero_mul, Nat.zero_add, hr.cellAt j (by exact hj)]
    have : (initProc p).PS.length = (outPgs (p.fileOf initPath)).length + 2 := hlen
    rw [this] at hv
    exact hv
  · refine ref_at (fun q hq => ?_) (base := w.heap.size + 2) (gc := cn) ?_
    · rcases List.mem_append.1 hq with h1 | h1
      · exact (outPgs_ok h.ok.2.2.2.1 q h1).2.2
      · exact (twoPgs_ok _ (stackRoom_length h.ok.2.2.2.2.1) q h1).2.2
    · show w'.ownsRow _ _ _ (.slice (some ⟨gn, 0, none⟩) (outPgs (p.fileOf initPath) ++ twoPgs (stackRoom [initArg])).length cn) (outPgs (p.fileOf initPath) ++ twoPgs (stackRoom [initArg])).length (refRow (outPgs (p.fileOf initPath) ++ twoPgs (stackRoom [initArg])))
      rw [hlen, refRow_two]
      exact h.pages
theorem outPgs_len {B : List Int} (h : Good B) : (outPgs B).length ≤ 256 := refPgs_len (fun q hq => h.2.2.1 q hq)
def pagesOf (p : PK) : List Nat := [(outPgs (p.fileOf initPath)).length + 2]
/-- What the program's calls on a kernel that Boot gave must answer. -/
structure ProgApi (KR : World → Nat → Addr → PK → Prop) : Prop where
  stable : Stable KR
  procs : ∀ (w : World) (B : Nat) (kp : Addr) (p : PK), KR w B kp p → p.ExecOk [0] 0 initPath [initArg] → Calls Tryz.prog 18 #[.pointer (some kp)] w (ProcsPost w [] [initProc p])
  files : ∀ (w : World) (B : Nat) (kp : Addr) (p : PK), KR w B kp p → ∃ FL, Calls Tryz.prog 20 #[.pointer (some kp)] w (FilesPost w FL) ∧ Tells p.xs p.cs FL ∧ ∀ f ∈ FL, f.bytes.length ≤ 1000000
  used : ∀ (w : World) (B : Nat) (kp : Addr) (p : PK), KR w B kp p → p.ExecOk [0] 0 initPath [initArg] → Calls Tryz.prog 23 #[.pointer (some kp)] w fun e w2 => e = .returned (.agg (limRow (pagesOf p).length (pagesOf p).sum 0 p.xs.length (usedOf p.cs)).toArray) ∧ Below w.heap.size w w2
  console : ∀ (w : World) (B : Nat) (kp : Addr) (p : PK), KR w B kp p → Calls Tryz.prog 9 #[.pointer (some kp)] w fun e w2 => (∃ a c, e = .returned (.slice a 0 c)) ∧ Below w.heap.size w w2
theorem booted_pages {p : PK} {w w' : World} {k : RK} {cs : List (List Int)} {g cap gp pc gn cn : Nat} (h : BootedAt p w w' k cs g cap gp pc gn cn) : PagesAt w' k.pv (pagesOf p) :=
  pages_at (PR := procExec proc1 0 (.slice (some ⟨gn, 0, none⟩) ((outPgs (p.fileOf initPath)).length + 2) cn) (numAt (p.fileOf initPath) 24 8) (65024 + (spOff [initArg] : Int))) ⟨rfl, fun j n hn => by
    match j, hn with
    | 0, hn =>
      have e : (outPgs (p.fileOf initPath)).length + 2 = n := by simpa [pagesOf] using hn
      subst e
      exact ⟨some ⟨gn, 0, none⟩, cn, rfl⟩⟩ h.pv h.procs
theorem small_sum {FZ : List PFile} (h : isSmall FZ = true) : FZ.length ≤ 100 ∧ (FZ.map (fun f => f.bytes.length)).sum ≤ 200000 := by
  unfold isSmall at h
  simp only [Bool.and_eq_true, decide_eq_true_eq] at h
  refine ⟨h.1, Nat.le_trans ?_ h.2⟩
  clear h
  induction FZ with
  | nil => simp
  | cons a r ih => simp [fileWeight] at ih ⊢; omega
end Go.Proofs.YtkokiefclmbgaaaGreatDoor

/- tinyoslaw: Boots, out of what the program's calls answer. -/
namespace Go.Proofs.YtkokiefclmbgaaaGreatDoor
open Go.RowKit
set_option linter.unusedVariables false
set_option linter.unusedSimpArgs false

set_option maxRecDepth 100000 in
set_option maxHeartbeats 8000000 in
theorem boots_law (lp lf lo li lb : Int) (fa : Option Addr) (fb foff fcap : Nat) (FZ : List PFile) (LS : List FLoc) (w : World) (hfa : 0 < FZ.length → fa = some ⟨fb, foff, none⟩ ∧ fb < w.heap.size) (hf : FilesInL w fb foff FZ LS) (hb : ∀ f ∈ FZ, f.path.size ≤ 140737488355328 ∧ f.bytes.length ≤ 140737488355328) (hl : FZ.length ≤ 140737488355328) (hby : ∀ f ∈ FZ, IsBytes f.bytes)
    (hg : w.cell? ⟨0, 0, none⟩ = some (.iface 194 (.agg #[.pointer (some ⟨5, 40, none⟩)]))) (hge : 0 < w.heap.size) (KR : World → Nat → Addr → PK → Prop) (api : ProgApi KR)
    (hlives : ∀ w', Below w.heap.size w w' → Calls Tryz.prog 4 #[] w' fun e w'' => e = .returned (.bool true) ∧ Below w'.heap.size w' w'')
    (hprog : FZ.length ≤ 100 → (FZ.map (fun f => f.bytes.length)).sum ≤ 200000 → ∀ (w' : World) (va : Option Addr) (vb vcap : Nat) (LS' : List FLoc), Below w.heap.size w w' → (0 < FZ.length → va = some ⟨vb, 0, none⟩ ∧ vb < w'.heap.size) → FilesInL w' vb 0 FZ LS' → Calls Tryz.prog 10 #[.agg #[.int .i64 lp, .int .i64 lf, .int .i64 lo, .int .i64 li, .int .i64 lb], .slice va FZ.length vcap] w' (ProgBoot lp lf lo li lb FZ KR w'))
    (htree : TreeInv ((boot0 lp lf lo li lb).puts FZ).2.xs) :
    Calls Tryz.prog 3 #[.agg #[.int .i64 lp, .int .i64 lf, .int .i64 lo, .int .i64 li, .int .i64 lb, .slice fa FZ.length fcap]] w fun e w' => e = .returned (.bool true) ∧ Below w.heap.size w w' := by
  obtain ⟨W0, hW0⟩ : ∃ W0, W0 = w.alloc (Obj.cells #[.int .i64 lp, .int .i64 lf, .int .i64 lo, .int .i64 li, .int .i64 lb, .slice fa FZ.length fcap] 26) := ⟨_, rfl⟩
  have hb0 : Below w.heap.size w W0 := by rw [hW0]; exact (Below.refl _ _).alloc (Nat.le_refl _) _
  have hs0 : Holds W0 w.heap.size 26 [.int .i64 lp, .int .i64 lf, .int .i64 lo, .int .i64 li, .int .i64 lb, .slice fa FZ.length fcap] := by rw [hW0]; exact Holds.new w 26 _
  have HFB := hide (show ∀ w', Below w.heap.size w w' → FilesInL w' fb foff FZ LS from fun w' h => ⟨hf.len, fun i f l hi hli => by
    obtain ⟨x0, x1, x2, x3, x4⟩ := hf.at_ i f l hi hli
    have h0 : 0 < FZ.length := by have := (List.getElem?_eq_some_iff.1 hi).1; omega
    have hfb := (hfa h0).2
    refine ⟨by rw [h.cell (p := ⟨fb, foff + i * 3, none⟩) hfb]; exact x0, by rw [h.cell (p := ⟨fb, foff + i * 3 + 1, none⟩) hfb]; exact x1, by rw [h.cell (p := ⟨fb, foff + i * 3 + 2, none⟩) hfb]; exact x2, fun q => ⟨(x3 q).1, by have := (x3 q).2; have := h.size; omega⟩, fun j hj => ?_⟩
    rw [h.cell (p := ⟨l.q, l.o + j, none⟩) (x3 (by omega)).2]; exact x4 j hj⟩)
  have HFA := hide (show ∀ w', Below w.heap.size w w' → 0 < FZ.length → fa = some ⟨fb, foff, none⟩ ∧ fb < w'.heap.size from fun w' h h0 => ⟨(hfa h0).1, by have := (hfa h0).2; have := h.size; omega⟩)
  have HBB := hide hb
  have HBY := hide hby
  have HG := hide hg
  have HPR := hide hprog
  have HTR := hide htree
  have HAPI := hide api
  have HLV := hide hlives
  have HB0 := hide hb0
  have HS0 := hide hs0
  have HW0 := hide hW0
  clear hf hfa hb hby hg hprog htree api hlives hb0 hs0 hW0
  go_enter Tryz.func3, Tryz.ntmps3
  go_upto_region 1 with fail
  rw [← unhide HW0]
  go_wp2_with fail
  refine (unhide HLV W0 (unhide HB0)).mono ?_
  rintro e w1 ⟨rfl, hb1⟩
  have HS1 := hide ((unhide HS0).below hb1 (unhide HS0).lt)
  have HB1 := hide ((unhide HB0).trans (hb1.mono (unhide HB0).size))
  have c0 := (unhide HS1).cell (j := 0) rfl
  have c1 := (unhide HS1).cell (j := 1) rfl
  have c2 := (unhide HS1).cell (j := 2) rfl
  have c3 := (unhide HS1).cell (j := 3) rfl
  have c4 := (unhide HS1).cell (j := 4) rfl
  have c5 := (unhide HS1).cell (j := 5) rfl
  have HSM := hide (small_nil lp lf lo li lb fa fb foff fcap FZ w1 (fun h => (unhide HFA w1 (unhide HB1) h).1) (fun h => (unhide HFA w1 (unhide HB1) h).2) (unhide HFB w1 (unhide HB1)).in (unhide HBB) hl)
  clear hb1 HLV
  go_wp2_with fail
  refine (unhide HSM).mono ?_
  rintro e w2 ⟨rfl, hb2⟩
  have HS2 := hide ((unhide HS1).below hb2 (unhide HS1).lt)
  have HB2 := hide ((unhide HB1).trans (hb2.mono (unhide HB1).size))
  clear c0 c1 c2 c3 c4 c5 hb2 HSM
  cases hsm : isSmall FZ with
  | false =>
    go_wp2
    go_ret
    exact ⟨rfl, unhide HB2⟩
  | true =>
    obtain ⟨hn, hsum⟩ := small_sum hsm
    have c0 := (unhide HS2).cell (j := 0) rfl
    have c1 := (unhide HS2).cell (j := 1) rfl
    have c2 := (unhide HS2).cell (j := 2) rfl
    have c3 := (unhide HS2).cell (j := 3) rfl
    have c4 := (unhide HS2).cell (j := 4) rfl
    have c5 := (unhide HS2).cell (j := 5) rfl
    have HBT := hide (boot_law lp lf lo li lb fa fb foff fcap FZ LS w2 (unhide HFA w2 (unhide HB2)) (unhide HFB w2 (unhide HB2)) hn hsum (fun f hf => ⟨by have := (unhide HBB f hf).1; unfold maxLen; omega, unhide HBY f hf⟩) (by rw [(unhide HB2).cell (p := ⟨0, 0, none⟩) hge]; exact unhide HG) (by have := (unhide HB2).size; omega) KR (unhide HAPI).stable (fun w' va vb vcap LS' h => unhide HPR hn hsum w' va vb vcap LS' ((unhide HB2).trans (h.mono (unhide HB2).size))))
    clear hsm
    go_wp2_with fail
    refine (unhide HBT).mono ?_
    rintro e w3 ⟨hb3, (⟨c, wp, hc, rfl⟩ | ⟨hgood, wb, B, kp, W, k, cs, g, cap, gp, pc, gn, cn, rfl, hwb, hwr, hkr, hWs, hbt, -, -, -, -, -⟩)⟩
    · have HB3 := hide ((unhide HB2).trans (hb3.mono (unhide HB2).size))
      have hc0 : (c != 0) = true := by simpa using hc
      clear hc hb3 c0 c1 c2 c3 c4 c5
      go_wp2
      go_ret
      exact ⟨rfl, unhide HB3⟩
    · have hok := hbt.ok
      have hwl := hwr.lt
      have HB3 := hide ((unhide HB2).trans (hb3.mono (unhide HB2).size))
      have HPX := hide (procs_any wb (W.heap.size + 1) (some kp) (some ⟨gp, 0, none⟩) gp pc none 0 0 [] [initProc ((boot0 lp lf lo li lb).puts FZ).2] w3 (hwr.cell (j := 0) rfl) (hwr.cell (j := 1) rfl) (by have := hbt.rep.1.cell (j := 5) rfl; rw [hbt.pv] at this; exact this) (fun _ => rfl) (booted_procs hbt) (by have := hbt.rep.1.cell (j := 6) rfl; rw [hbt.nils.1] at this; exact this) (fun h => by simp at h) (fun j v hv => by simp [obRow] at hv) (by simp) (by simp) (fun q hq => by
        have : q = initProc ((boot0 lp lf lo li lb).puts FZ).2 := by simpa using hq
        subst this
        exact initProc_ok hok (outPgs_len hok.2.2.2.1)) hwl hbt.rep.1.lt ((unhide HAPI).procs w3 B kp _ hkr hok))
      have HWR := hide hwr
      have HKR := hide hkr
      have HBTT := hide hbt
      have HOK := hide hok
      clear hwr hkr hbt hb3 hgood hwb hWs hok c0 c1 c2 c3 c4 c5
      go_wp2_with fail
      refine (unhide HPX).mono ?_
      rintro e w4 ⟨rfl, hb4⟩
      have hst := (unhide HAPI).stable
      have hkr4 := hst _ _ _ _ _ (unhide HKR) hb4.size (fun q _ hq => hb4.block q hq)
      have hbt4 := (unhide HBTT).below hb4
      have hwr4 := (unhide HWR).below hb4 hwl
      obtain ⟨FL, hfl, htl, hfs⟩ := (unhide HAPI).files w4 B kp _ hkr4
      have hP := hbt4.toP
      have hxs : ((boot0 lp lf lo li lb).puts FZ).2.xs = k.inos.map erase := by rw [← hP]; rfl
      have hcs : ((boot0 lp lf lo li lb).puts FZ).2.cs = cs := by rw [← hP]; rfl
      rw [hxs, hcs] at htl
      have htr := unhide HTR
      rw [hxs] at htr
      have hin := hbt4.inos
      have hla := hbt4.last
      have HFX := hide (files_any wb (W.heap.size + 2) (W.heap.size + 1) g cap (some kp) k cs (pagesOf ((boot0 lp lf lo li lb).puts FZ).2) none 0 0 FL w4 (hwr4.cell (j := 0) rfl) (hwr4.cell (j := 1) rfl) hwr4.lt hbt4.rep hbt4.cont (treeInv_erase htr) (by omega) (fun x hx => by have := hbt4.inv.1 x hx; omega) (by have := hbt4.used; omega) hfl (tells_erase htl) hfs (booted_pages hbt4) hbt4.nils.1 (by simp [pagesOf]) (by have := outPgs_len (unhide HOK).2.2.2.1; simp [pagesOf]; omega) (fun w' h => by
        have hu := (unhide HAPI).used w' B kp _ (hst _ _ _ _ _ hkr4 h.size (fun q _ hq => h.block q hq)) (unhide HOK)
        rw [hxs, hcs, List.length_map] at hu
        exact hu))
      have HB4 := hide ((unhide HB3).trans (hb4.mono (unhide HB3).size))
      have HKR4 := hide hkr4
      have HWR4 := hide hwr4
      clear hb4 hkr4 hbt4 hwr4 hfl htl hfs hP hxs hcs htr hin hla hst HPX HBTT HKR HWR
      go_wp2_with fail
      refine (unhide HFX).mono ?_
      rintro e w5 ⟨rfl, hb5⟩
      have hwr5 := (unhide HWR4).below hb5 (unhide HWR4).lt
      have hkr5 := (unhide HAPI).stable _ _ _ _ _ (unhide HKR4) hb5.size (fun q _ hq => hb5.block q hq)
      have HB5 := hide ((unhide HB4).trans (hb5.mono (unhide HB4).size))
      have x0 := hwr5.cell (j := 0) rfl
      have HCX := hide ((unhide HAPI).console w5 B kp _ hkr5)
      clear hb5 hwr5 hkr5 HFX
      go_wp2_with fail
      refine (unhide HCX).mono ?_
      rintro e w6 ⟨⟨a6, c6, rfl⟩, hb6⟩
      have HB6 := hide ((unhide HB5).trans (hb6.mono (unhide HB5).size))
      clear hb6 x0 HCX
      go_wp2
      go_ret
      exact ⟨rfl, unhide HB6⟩
end Go.Proofs.YtkokiefclmbgaaaGreatDoor

/- tinyoslaw: lives: a kernel boots at tiny. -/
namespace Go.Proofs.YtkokiefclmbgaaaGreatDoor
open Go Go.RowKit
set_option linter.unusedVariables false
set_option linter.unusedSimpArgs false

def tinyF : PFile := ⟨initPath, false, tinyB⟩
theorem init_names : namesOf initPath = some [initArg] := by kernel_rfl
theorem root_child : childOf [root] 1 initArg = 0 := by kernel_rfl
theorem tiny_walk0 : walkOf [root] initPath = ⟨1, initArg, 0, 0⟩ := by
  unfold walkOf
  rw [init_names]
  show follow [root] 1 [initArg] = _
  unfold follow
  rw [root_child]
def tinyP : PK := ⟨2, 10, 2, 3, 1000, 2, [root, newIno 2 1 initArg false], [[], tinyB]⟩
theorem tiny_len : tinyB.length = 260 := by kernel_rfl
theorem tiny_code : ((boot0 2 10 2 3 1000).put tinyF).1 = 0 := by kernel_rfl
theorem tiny_out : ((boot0 2 10 2 3 1000).put tinyF).2 = tinyP := by kernel_rfl
theorem tiny_puts : (boot0 2 10 2 3 1000).puts [tinyF] = (0, tinyP) := by
  unfold PK.puts
  rw [if_neg (by rw [tiny_code]; decide), tiny_out]
  rfl
theorem tiny_walk1 : walkOf tinyP.xs initPath = ⟨1, initArg, 2, 0⟩ := by
  unfold walkOf
  rw [init_names]
  kernel_rfl
theorem tiny_dir : dirOf tinyP.xs 2 = false := by kernel_rfl
theorem tiny_file : tinyP.fileOf initPath = tinyB := by
  unfold PK.fileOf
  rw [tiny_walk1]
  rfl
theorem tiny_magic : magicOk tinyB := by
  unfold magicOk
  kernel_rfl
theorem tiny_nums : numAt tinyB 16 2 = 2 ∧ numAt tinyB 18 2 = 243 ∧ numAt tinyB 20 4 = 1 ∧ numAt tinyB 32 8 = 64 ∧ numAt tinyB 52 2 = 64 ∧ numAt tinyB 54 2 = 56 ∧ numAt tinyB 56 2 = 1 ∧ numAt tinyB 24 8 = 256 := ⟨by kernel_rfl, by kernel_rfl, by kernel_rfl, by kernel_rfl, by kernel_rfl, by kernel_rfl, by kernel_rfl, by kernel_rfl⟩
theorem tiny_hdr : HdrOk tinyB := by
  obtain ⟨a, b, c, d, e, f, g, h⟩ := tiny_nums
  refine ⟨by rw [tiny_len]; decide, tiny_magic, a, b, c, d, e, f, ?_⟩
  rw [g, tiny_len]
  decide
theorem tiny_count : segCount tinyB = 1 := by kernel_rfl
theorem tiny_segAt : segAt tinyB 64 = ⟨5, 256, 256, 4, 4⟩ := by
  unfold segAt
  kernel_rfl
theorem tiny_seg : SegOk tinyB 64 := by
  unfold SegOk
  rw [tiny_segAt, tiny_len]
  exact ⟨by kernel_rfl, ⟨by decide, by decide, by decide⟩, by decide, by decide, by decide, by decide, by decide⟩
theorem tiny_segs : fileSegs tinyB = [⟨5, 256, 256, 4, 4⟩] := by kernel_rfl
theorem tiny_pgs : (outPgs tinyB).length = 1 := by kernel_rfl
theorem tiny_good : Good tinyB := by
  refine ⟨tiny_hdr, fun i hi => ?_, fun p hp => ?_, ?_⟩
  · rw [tiny_count] at hi
    have : i = 0 := by omega
    subst this
    exact tiny_seg
  · rw [tiny_segs]
    exact List.countP_le_length
  · rw [tiny_nums.2.2.2.2.2.2.2]
    refine ⟨by decide, by decide, ⟨1, 5, segPage tinyB ⟨5, 256, 256, 4, 4⟩ 1⟩, ?_, by decide, by decide⟩
    unfold outPgs refPgs
    rw [tiny_segs]
    exact List.mem_flatMap.2 ⟨1, List.mem_range.2 (by decide), by
      rw [show List.filter (fun s => cov s 1) [(⟨5, 256, 256, 4, 4⟩ : Seg)] = [⟨5, 256, 256, 4, 4⟩] from by kernel_rfl]
      exact List.mem_singleton.2 rfl⟩
theorem tiny_bytes : IsBytes tinyB := by
  refine isBytes_mem.2 ?_
  have h : tinyB.all (fun x => decide (0 ≤ x) && decide (x ≤ 255)) = true := by kernel_rfl
  intro x hx
  have := List.all_eq_true.1 h x hx
  simpa using this
theorem init_ok : okArgs [initArg] = true := by kernel_rfl
theorem tiny_exec : tinyP.ExecOk [0] 0 initPath [initArg] := by
  unfold PK.ExecOk
  rw [tiny_walk1, tiny_file, tiny_pgs]
  exact ⟨rfl, by decide, tiny_dir, tiny_good, init_ok, by decide⟩
theorem tiny_boots : BootGood 2 10 2 3 1000 [tinyF] := by
  refine ⟨by unfold limsOk; decide, by decide, ?_, ?_⟩
  · rw [tiny_puts]
  · rw [tiny_puts]; exact tiny_exec
set_option maxRecDepth 100000 in
set_option maxHeartbeats 4000000 in
theorem lives_law (w : World) (KR : World → Nat → Addr → PK → Prop)
    (hprog : ∀ (w' : World) (va : Option Addr) (vb vcap : Nat) (LS' : List FLoc), Below w.heap.size w w' → (0 < [tinyF].length → va = some ⟨vb, 0, none⟩ ∧ vb < w'.heap.size) → FilesInL w' vb 0 [tinyF] LS' → Calls Tryz.prog 10 #[.agg #[.int .i64 2, .int .i64 10, .int .i64 2, .int .i64 3, .int .i64 1000], .slice va [tinyF].length vcap] w' (ProgBoot 2 10 2 3 1000 [tinyF] KR w')) :
    Calls Tryz.prog 4 #[] w fun e w' => e = .returned (.bool true) ∧ Below w.heap.size w w' := by
  have HPR := hide hprog
  have HT := hide (tiny_any w)
  clear hprog
  go_enter Tryz.func4, Tryz.ntmps4
  go_wp2_with fail
  refine (unhide HT).mono ?_
  rintro e w1 ⟨rfl, hh1, hb1⟩
  obtain ⟨W2, hW2⟩ : ∃ W2, W2 = w1.alloc (Obj.cells #[.string initPath, .bool false, .slice (some ⟨w.heap.size, 0, none⟩) 260 260] 44) := ⟨_, rfl⟩
  have hb2 : Below w1.heap.size w1 W2 := by rw [hW2]; exact (Below.refl _ _).alloc (Nat.le_refl _) _
  have hn2 : Holds W2 w1.heap.size 44 [.string initPath, .bool false, .slice (some ⟨w.heap.size, 0, none⟩) 260 260] := by rw [hW2]; exact Holds.new w1 44 _
  have hh2 : Holds W2 w.heap.size 5 (bytesRow tinyB) := hh1.below hb2 hh1.lt
  have hbw2 : Below w.heap.size w W2 := hb1.trans (hb2.mono hb1.size)
  have HPC := hide (unhide HPR W2 (some ⟨w1.heap.size, 0, none⟩) w1.heap.size 1 [⟨some ⟨w.heap.size, 0, none⟩, w.heap.size, 0, 260⟩] hbw2 (fun _ => ⟨rfl, hn2.lt⟩) ⟨rfl, fun i f l hf hl => by
    have hi := (List.getElem?_eq_some_iff.1 hf).1
    have hi0 : i = 0 := by simp at hi; omega
    subst hi0
    have e1 : tinyF = f := by simpa using hf
    have e2 : (⟨some ⟨w.heap.size, 0, none⟩, w.heap.size, 0, 260⟩ : FLoc) = l := by simpa using hl
    subst e1 e2
    refine ⟨hn2.cell (j := 0) rfl, hn2.cell (j := 1) rfl, ?_, fun _ => ⟨rfl, hh2.lt⟩, fun j hj => ?_⟩
    · rw [show tinyF.bytes.length = 260 from tiny_len]; exact hn2.cell (j := 2) rfl
    · rw [Nat.zero_add]; exact hh2.bytes j hj⟩)
  have HB2 := hide hbw2
  have HW2 := hide hW2
  unfold initPath at hW2
  have HW2' := hide hW2
  clear hh1 hb1 hb2 hn2 hh2 hbw2 hW2 HT HPR
  go_wp2_with fail
  rw [← unhide HW2']
  refine (unhide HPC).mono ?_
  rintro e w3 ⟨hb3, (⟨c, hc, rfl⟩ | ⟨_, kp, rfl, _⟩)⟩
  · exact (bootBad_not hc tiny_boots).elim
  · have HB3 := hide ((unhide HB2).trans (hb3.mono (unhide HB2).size))
    have HTN := hide (tell_nil w3)
    clear hb3 HPC
    go_wp2_with fail
    refine (unhide HTN).mono ?_
    rintro e w4 ⟨rfl, hb4⟩
    have HB4 := hide ((unhide HB3).trans (hb4.mono (unhide HB3).size))
    clear hb4 HTN
    go_wp2
    go_ret
    exact ⟨rfl, unhide HB4⟩
end Go.Proofs.YtkokiefclmbgaaaGreatDoor
