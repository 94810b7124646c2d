import Derived.Test.YtkokiefclmbgaaaGreatDoorBootsProofG10
import Derived.Test.YtkokiefclmbgaaaGreatDoorBootsProofG08
import Derived.Test.YtkokiefclmbgaaaGreatDoorBootsProofG23
import Derived.Test.YtkokiefclmbgaaaGreatDoorBootsProofG09
import Derived.Test.YtkokiefclmbgaaaGreatDoorBootsProofG24
import Derived.Deep.RegionWith
import Derived.Deep.QuietTactic
import Derived.Laws.Cover1
/- tinyoslaw: files, where what the two kernels tell is the same. -/
namespace Go.Proofs.YtkokiefclmbgaaaGreatDoor
open Go.RowKit
set_option linter.unusedVariables false
set_option linter.unusedSimpArgs false

theorem pathEnter : ∀ args w, (callFunc 21 args).run Tryz.prog w = .ok (.enter 21 args) w := enters_of Tryz.func21 (by kernel_rfl) rfl
theorem sameBEnter : ∀ args w, (callFunc 22 args).run Tryz.prog w = .ok (.enter 22 args) w := enters_of Tryz.func22 (by kernel_rfl) rfl
/-- Where a file that Files told has its bytes. -/
structure FLoc where
  a : Option Addr
  q : Nat
  o : Nat
  c : Nat
structure FileCell (w : World) (B ag i : Nat) (f : PFile) (l : FLoc) : Prop where
  path : w.cell? ⟨ag, i * 3, none⟩ = some (.string f.path)
  dir : w.cell? ⟨ag, i * 3 + 1, none⟩ = some (.bool f.dir)
  bytes : w.cell? ⟨ag, i * 3 + 2, none⟩ = some (.slice l.a f.bytes.length l.c)
  loc : 0 < f.bytes.length → l.a = some ⟨l.q, l.o, none⟩ ∧ B ≤ l.q ∧ l.q < w.heap.size ∧ l.q ≠ ag
  view : BView w l.q l.o f.bytes
  free : ∀ k, k < f.bytes.length → w.frozen? ⟨l.q, l.o + k, none⟩ = false
/-- What Files told, from the n-th on. -/
structure FileCells (w : World) (B ag n : Nat) (FL : List PFile) (LS : List FLoc) : Prop where
  len : LS.length = FL.length
  at_ : ∀ (i : Nat) (f : PFile) (l : FLoc), n ≤ i → FL[i]? = some f → LS[i]? = some l → FileCell w B ag i f l
  apart : ∀ (i j : Nat) (f : PFile) (l m : FLoc), FL[i]? = some f → LS[i]? = some l → LS[j]? = some m → i ≠ j → 0 < f.bytes.length → l.q ≠ m.q
theorem FileCell.other {w w' : World} {B ag i : Nat} {f : PFile} {l : FLoc} {row : Option Nat} (h : FileCell w B ag i f l) (hg : w.grownBy w' row) (h1 : some ag ≠ row) (h2 : 0 < f.bytes.length → some l.q ≠ row) : FileCell w' B ag i f l := by
  have hs := hg.size
  refine ⟨hg.cell h.path h1, hg.cell h.dir h1, hg.cell h.bytes h1, fun h0 => ?_, fun j hj => hg.cell (h.view j hj) (h2 (by omega)), fun k hk => ?_⟩
  · obtain ⟨a, b, c, d⟩ := h.loc h0
    exact ⟨a, b, by omega, d⟩
  · rw [hg.frozen_far _ (h.loc (by omega)).2.2.1 (h2 (by omega))]; exact h.free k hk
theorem FileCells.below {w w' : World} {B ag n : Nat} {FL : List PFile} {LS : List FLoc} (h : FileCells w B ag n FL LS) (hb : Below w.heap.size w w') : FileCells w' B ag n FL LS :=
  ⟨h.len, fun i f l hi hf hl => (h.at_ i f l hi hf hl).other (row := none) ⟨hb.os, hb.tape, hb.output, hb.size, fun k hk _ => hb.block k hk⟩ (by simp) (fun _ => by simp), h.apart⟩
theorem FileCells.next {w : World} {B ag n : Nat} {FL : List PFile} {LS : List FLoc} (h : FileCells w B ag n FL LS) : FileCells w B ag (n + 1) FL LS := ⟨h.len, fun i f l hi => h.at_ i f l (by omega), h.apart⟩
theorem FileCells.rest {w w' : World} {B ag n : Nat} {FL : List PFile} {LS : List FLoc} (h : FileCells w B ag n FL LS) {f : PFile} {l : FLoc} (hf : FL[n]? = some f) (hl : LS[n]? = some l) (h0 : 0 < f.bytes.length) (hg : w.grownBy w' (some l.q)) : FileCells w' B ag (n + 1) FL LS := by
  have hn := h.at_ n f l (Nat.le_refl _) hf hl
  refine ⟨h.len, fun i g m hi hg' hm => ?_, h.apart⟩
  exact (h.at_ i g m (by omega) hg' hm).other hg (by simp; exact fun e => (hn.loc h0).2.2.2 e.symm) (fun _ => by simp; exact fun e => h.apart n i f l m hf hl hm (by omega) h0 e.symm)
/-- What the program's Files must tell. -/
def FilesPost (w : World) (FL : List PFile) (e : Ending) (w' : World) : Prop :=
  ∃ aa ag ac LS, e = .returned (.slice aa FL.length ac) ∧ (0 < FL.length → aa = some ⟨ag, 0, none⟩ ∧ ag < w'.heap.size) ∧ Below w.heap.size w w' ∧ FileCells w' w.heap.size ag 0 FL LS
def inTree (x : Ino) : Bool := !(x.parent == 0)
def countTo (xs : List Ino) (n : Nat) : Nat := ((xs.take n).filter inTree).length
theorem countTo_succ {xs : List Ino} {n : Nat} {x : Ino} (h : xs[n]? = some x) : countTo xs (n + 1) = countTo xs n + if inTree x = true then 1 else 0 := by
  unfold countTo
  rw [List.take_add_one, h, List.filter_append, List.length_append]
  cases hx : inTree x <;> simp [hx]
theorem countTo_le (xs : List Ino) (n : Nat) : countTo xs n ≤ n := by
  unfold countTo
  have h1 := List.length_filter_le inTree (xs.take n)
  have h2 := List.length_take_le n xs
  omega
def lastOf (FL : List PFile) : Nat → ByteArray
  | 0 => ByteArray.empty
  | n + 1 => match FL[n]? with | some f => f.path | none => ByteArray.empty
/-- The list that Files must tell of these inodes with these bytes. -/
structure Tells (xs : List Ino) (cs : List (List Int)) (FL : List PFile) : Prop where
  each : ∀ (i : Nat) (x : Ino) (c : List Int), xs[i]? = some x → cs[i]? = some c → x.parent ≠ 0 → ∃ J : Nat, FL[J]? = some ⟨pathOf xs x.id, x.dir, c⟩ ∧ ∀ (j : Nat) (f : PFile), FL[j]? = some f → (f.path.toList == (pathOf xs x.id).toList) = true → j = J
  count : countTo xs xs.length = FL.length
  sorted : ∀ (m : Nat) (f : PFile), FL[m]? = some f → Op.bytesLess f.path.toList (lastOf FL m).toList = false ∧ (f.path.toList == (lastOf FL m).toList) = false

theorem PagesAt.below {w w' : World} {v : Value} {PL : List Nat} (h : PagesAt w v PL) (hb : Below w.heap.size w w') : PagesAt w' v PL := by
  obtain ⟨a, c, hv, hp⟩ := h
  refine ⟨a, c, hv, fun i n hn => ?_⟩
  obtain ⟨gp, b, d, ha, hl, hc⟩ := hp i n hn
  exact ⟨gp, b, d, ha, by have := hb.size; omega, by rw [hb.cell (p := ⟨gp, i * 31 + 22, none⟩) hl]; exact hc⟩
theorem same_file {w w1 : World} (wr : World) {l : FLoc} {c : List Int} {xa : Option Addr} {xd : Nat} (hv : BView w1 l.q l.o c) (hla : 0 < c.length → l.a = some ⟨l.q, l.o, none⟩) (hll : 0 < c.length → l.q < w1.heap.size)
    (hcell : ∀ b o, b < w1.heap.size → wr.cell? ⟨b, o, none⟩ = w1.cell? ⟨b, o, none⟩) (hfa : FileAt w (.slice xa c.length xd) c) (hb1 : Below w.heap.size w w1) (hcl : c.length ≤ 1000000) :
    ∀ (lc : Nat) (w' : World), w'.heap = wr.heap → Calls Tryz.prog 22 #[.slice l.a c.length lc, .slice xa c.length xd] w' fun e w2 => e = .returned (.bool true) ∧ w2.heap = w'.heap ∧ Below w'.heap.size w' w2 := by
  intro lc w' hw'
  have hc' : ∀ a, w'.cell? a = wr.cell? a := fun a => by unfold World.cell?; rw [hw']
  obtain ⟨q, o, hq, hv2⟩ : ∃ q o, (0 < c.length → xa = some ⟨q, o, none⟩) ∧ BView w' q o c := by
    rcases hfa with ⟨h0, _⟩ | ⟨_, q, hq, hh⟩
    · subst h0
      exact ⟨0, 0, fun h => by simp at h, fun j hj => by simp at hj⟩
    · simp only [Value.slice.injEq] at hq
      refine ⟨q, 0, fun _ => hq.1, fun j hj => ?_⟩
      have hql := hh.lt
      rw [hc', hcell _ _ (by have := hb1.size; omega), hb1.cell (p := ⟨q, 0 + j, none⟩) hql, Nat.zero_add]
      exact hh.bytes j hj
  exact same_any l.a xa l.q l.o lc q o xd c w' hla hq (fun j hj => by rw [hc', hcell _ _ (hll (by omega))]; exact hv j hj) hv2 hcl
set_option maxRecDepth 100000 in
set_option maxHeartbeats 8000000 in
theorem files_any (wb base kb g cap : Nat) (kp : Option Addr) (k : RK) (cs : List (List Int)) (PL : List Nat) (oa : Option Addr) (on oc : Nat) (FL : List PFile) (w : World)
    (hw0 : w.cell? ⟨wb, 0, none⟩ = some (.pointer kp)) (hw1 : w.cell? ⟨wb, 1, none⟩ = some (.pointer (some ⟨kb, 0, none⟩))) (hwl : wb < w.heap.size)
    (hr : RepK w base kb g cap k) (hc : ContAt w k.inos cs) (ht : TreeInv k.inos) (hin : k.inos.length ≤ 10000) (hla : ∀ x ∈ k.inos, x.id ≤ 1000000) (hcs : usedOf cs ≤ 1000000)
    (hf : Calls Tryz.prog 20 #[.pointer kp] w (FilesPost w FL)) (htl : Tells k.inos cs FL) (hsz : ∀ f ∈ FL, f.bytes.length ≤ 1000000)
    (hP : PagesAt w k.pv PL) (hO : k.ov = .slice oa on oc) (hpl : PL.length ≤ 100000) (hps : PL.sum ≤ 10000000)
    (hu : ∀ w', Below w.heap.size w w' → Calls Tryz.prog 23 #[.pointer kp] w' fun e w2 => e = .returned (.agg (limRow PL.length PL.sum on k.inos.length (usedOf cs)).toArray) ∧ Below w'.heap.size w' w2) :
    Calls Tryz.prog 8 #[.pointer (some ⟨wb, 0, none⟩)] w fun e w' => e = .returned (.bool true) ∧ Below w.heap.size w w' := by
  have hkl := hr.1.lt
  have hgl := (hr.2.lt g rfl).2
  have hfl : FL.length ≤ 10000 := by have h1 := htl.count; have h2 := countTo_le k.inos k.inos.length; omega
  have HF := hide hf
  have HR := hide hr
  have HC := hide hc
  have HT := hide ht
  have HLA := hide hla
  have HTL := hide htl
  have HSZ := hide hsz
  have HU := hide hu
  have HP := hide hP
  have HO := hide hO
  clear hf hr hc ht hla htl hsz hu hP hO
  go_enter Tryz.func8, Tryz.ntmps8
  go_wp2_with fail
  refine (unhide HF).mono ?_
  rintro e w1 ⟨aa, ag, ac, LS, rfl, hag, hb1, hps⟩
  have HAG := hide hag
  have HB1 := hide hb1
  have HPS := hide hps
  have hs1 := hb1.size
  clear HF hag hb1 hps
  go_wp2
  go_loopw [4, 6] (fun n i wr => ∃ j : Nat, j ≤ k.inos.length ∧ i = .int .i64 j ∧ n = .int .i64 (countTo k.inos j) ∧ Hid (Below w1.heap.size w1 wr)) (fun _ i _ => k.inos.length - (intOf i).toNat)
  case atStart => exact ⟨0, by omega, rfl, rfl, hide (Below.refl _ _)⟩
  case round =>
    obtain ⟨j, hj, rfl, rfl, HB⟩ := hrel
    have hsr := (unhide HB).size
    have hcell : ∀ b o, b < w.heap.size → wr.cell? ⟨b, o, none⟩ = w.cell? ⟨b, o, none⟩ := fun b o hb => by rw [(unhide HB).cell (p := ⟨b, o, none⟩) (by show b < w1.heap.size; omega), (unhide HB1).cell (p := ⟨b, o, none⟩) hb]
    have d1 : wr.cell? ⟨wb, 1, none⟩ = some (.pointer (some ⟨kb, 0, none⟩)) := by rw [hcell _ _ hwl]; exact hw1
    have d7 : wr.cell? ⟨kb, 7, none⟩ = some (.slice (some ⟨g, 0, none⟩) k.inos.length cap) := by rw [hcell _ _ hkl]; exact (unhide HR).1.cell rfl
    have hcn := countTo_le k.inos j
    by_cases hlt : j < k.inos.length
    · obtain ⟨x, hx⟩ : ∃ x, k.inos[j]? = some x := ⟨_, List.getElem?_eq_getElem hlt⟩
      have hxc : ∀ i v, i < 5 → (inoCells x)[i]? = some v → wr.cell? ⟨g, j * 5 + i, none⟩ = some v := fun i v hi hv => by rw [hcell _ _ hgl]; exact (unhide HR).at.cell hx hi hv
      have x0 : wr.cell? ⟨g, j * 5, none⟩ = some (.int .i64 x.id) := by have := hxc 0 _ (by omega) rfl; rwa [Nat.add_zero] at this
      have x1 := hxc 1 _ (by omega) rfl
      have x2 := hxc 2 _ (by omega) rfl
      have x3 := hxc 3 _ (by omega) rfl
      have x4 := hxc 4 _ (by omega) rfl
      obtain ⟨c, hcj⟩ : ∃ c, cs[j]? = some c := ⟨_, List.getElem?_eq_getElem (by rw [(unhide HC).1]; exact hlt)⟩
      have hfa := (unhide HC).2 j x c hx hcj
      obtain ⟨xa, xd, hxb⟩ := hfa.len
      rw [hxb] at x4
      have hj0 : (0 : Int) ≤ (j : Int) := by omega
      have hj1 : (j : Int) < (k.inos.length : Int) := by omega
      have hcs := countTo_succ hx
      by_cases hp : x.parent = 0
      · have HCS := hide (show countTo k.inos (j + 1) = countTo k.inos j from by rw [hcs, if_neg (show ¬ inTree x = true from by simp [inTree, hp])]; rfl)
        have HB2 := hide ((unhide HB).alloc (by omega) (Obj.cells #[.int .i64 x.id, .int .i64 0, .string x.name, .bool x.dir, .slice xa c.length xd] 90))
        rw [hp] at x1
        generalize hxi : x.id = XI at x0 HB2
        generalize hxn : x.name = XN at x2 HB2
        generalize hxd : x.dir = XD at x3 HB2
        generalize c.length = CL at x4 HB2
        clear hcell hxc hcs hp hx hxi hxn hxd hxb hfa hcj
        go_wp2
        go_roundw
        case rel => exact ⟨j + 1, by omega, by go_num, by rw [unhide HCS], HB2⟩
        case measure => simp [intOf]; omega
      · have hp2 : (x.parent == 0) = false := by simpa using hp
        have HCS := hide (hcs.trans (by rw [if_pos (show inTree x = true from by simp [inTree, hp])]))
        obtain ⟨J, hJ, hJu⟩ := (unhide HTL).each j x c hx hcj hp
        have hJl := (List.getElem?_eq_some_iff.1 hJ).1
        obtain rfl := (unhide HAG (by omega)).1
        have hag := (unhide HAG (by omega)).2
        have hxm := List.mem_of_getElem? hx
        have HPT := hide (fun (w' : World) (h : Below w.heap.size w w') => refPath_any kb g cap k.inos x.id w' ((unhide HR).at.below h hkl hgl) (by omega) (unhide HT) (fun _ => ⟨x, hxm, rfl⟩) (unhide HLA x hxm))
        obtain ⟨PT, hPT⟩ : ∃ PT, PT = pathOf k.inos x.id := ⟨_, rfl⟩
        rw [← hPT] at hJ hJu HPT
        have HJ := hide hJ
        have HJU := hide hJu
        have HFA := hide hfa
        have HB2 := hide ((unhide HB).alloc (by omega) (Obj.cells #[.int .i64 x.id, .int .i64 x.parent, .string x.name, .bool x.dir, .slice xa c.length xd] 90))
        have HN2 := hide (Holds.new wr 90 [.int .i64 x.id, .int .i64 x.parent, .string x.name, .bool x.dir, .slice xa c.length xd])
        obtain ⟨W2, hW2⟩ : ∃ W2, W2 = wr.alloc (Obj.cells #[.int .i64 x.id, .int .i64 x.parent, .string x.name, .bool x.dir, .slice xa c.length xd] 90) := ⟨_, rfl⟩
        rw [← hW2] at HB2
        have HN3 := hide (show Holds W2 wr.heap.size 90 [.int .i64 x.id, .int .i64 x.parent, .string x.name, .bool x.dir, .slice xa c.length xd] from by rw [hW2]; exact unhide HN2)
        have HXB := hide hxb
        have HCJ := hide hcj
        have HDIR : ∃ D, D = x.dir := ⟨_, rfl⟩
        obtain ⟨XD, hXD⟩ := HDIR
        rw [← hXD] at x3 HJ HN3 hW2
        generalize x.id = XI at x0 HN3 hW2 HPT
        generalize x.parent = XP at x1 HN3 hW2 hp2
        generalize x.name = XN at x2 HN3 hW2
        have HW2 := hide hW2
        have hcell2 : ∀ b o, b < w1.heap.size → W2.cell? ⟨b, o, none⟩ = w1.cell? ⟨b, o, none⟩ := fun b o hb => (unhide HB2).cell (p := ⟨b, o, none⟩) hb
        have z0 := (unhide HN3).cell (j := 0) rfl
        have z1 := (unhide HN3).cell (j := 1) rfl
        have z3 := (unhide HN3).cell (j := 3) rfl
        have z4 := (unhide HN3).cell (j := 4) rfl
        obtain ⟨XW, hXW⟩ : ∃ XW, XW = wr.heap.size := ⟨_, rfl⟩
        have HX7 := hide (show ∀ A : Act, A.eval (.tmp 7) = .pointer (some ⟨wr.heap.size, 0, none⟩) → A.eval (.tmp 7) = .pointer (some ⟨XW, 0, none⟩) from fun A h => by rw [hXW]; exact h)
        have HZL := hide (show ∀ w', Below W2.heap.size W2 w' → ∀ w'', Below w'.heap.size w' w'' → (Instr.loadAt 32 (.pointer (some ⟨XW, 4, none⟩))).run Tryz.prog w'' = .ok (.slice xa c.length xd) w'' from fun w' h w'' h2 => by
          rw [hXW]
          have hl := (unhide HN3).lt
          have cc : w''.cell? ⟨wr.heap.size, 4, none⟩ = some (.slice xa c.length xd) := by rw [h2.cell (p := ⟨wr.heap.size, 4, none⟩) (by have := h.size; show wr.heap.size < w'.heap.size; omega), h.cell (p := ⟨wr.heap.size, 4, none⟩) hl]; exact z4
          go_simp)
        clear hXW
        have HZ := hide (show ∀ w', Below W2.heap.size W2 w' → w'.cell? ⟨wr.heap.size, 3, none⟩ = some (.bool XD) ∧ w'.cell? ⟨wr.heap.size, 4, none⟩ = some (.slice xa c.length xd) from fun w' h => by
          have hl := (unhide HN3).lt
          exact ⟨by rw [h.cell (p := ⟨wr.heap.size, 3, none⟩) hl]; exact z3, by rw [h.cell (p := ⟨wr.heap.size, 4, none⟩) hl]; exact z4⟩)
        have y1 : W2.cell? ⟨wb, 1, none⟩ = some (.pointer (some ⟨kb, 0, none⟩)) := by rw [hcell2 _ _ (by omega), (unhide HB1).cell (p := ⟨wb, 1, none⟩) hwl]; exact hw1
        have hbw : Below w.heap.size w W2.drew := (unhide HB1).trans (show Below w.heap.size w1 W2.drew from ⟨(unhide HB2).os, (unhide HB2).tape, (unhide HB2).output, (unhide HB2).size, fun q hq => (unhide HB2).block q (by omega)⟩)
        have HPC := hide (unhide HPT W2.drew hbw)
        clear hcell hxc hcs hp hx hxm hxb hfa hcj hJ hJu hPT hW2 HN2 HPT hcell2 hbw hXD
        go_upto_region 8 with fail
        rw [← unhide HW2]
        clear x0 x1 x2 x3 x4 d1 d7
        go_upto_region 10 with fail
        have L1 := hide (show ∀ w', Below W2.heap.size W2 w' → (Instr.loadAt 34 (.pointer (some ⟨wb, 1, none⟩))).run Tryz.prog w' = .ok (.pointer (some ⟨kb, 0, none⟩)) w' from fun w' h => by
          have hwl2 : wb < W2.heap.size := by have := (unhide HB2).size; omega
          have c : w'.cell? ⟨wb, 1, none⟩ = some (.pointer (some ⟨kb, 0, none⟩)) := by rw [h.cell (p := ⟨wb, 1, none⟩) hwl2]; exact y1
          go_simp)
        have L2 := hide (show ∀ w', Below W2.heap.size W2 w' → (Instr.loadAt 3 (.pointer (some ⟨wr.heap.size, 0, none⟩))).run Tryz.prog w' = .ok (.int .i64 XI) w' from fun w' h => by
          have c : w'.cell? ⟨wr.heap.size, 0, none⟩ = some (.int .i64 XI) := by rw [h.cell (p := ⟨wr.heap.size, 0, none⟩) (unhide HN3).lt]; exact z0
          go_simp)
        have S0 : Below W2.heap.size W2 W2.drew := ⟨rfl, rfl, rfl, Nat.le_refl _, fun _ _ => rfl⟩
        refine act_gen ?_
        intro A hA
        have e0 : A.eval (.tmp 0) = .pointer (some ⟨wb, 0, none⟩) := by rw [hA]; rfl
        have e7 : A.eval (.tmp 7) = .pointer (some ⟨wr.heap.size, 0, none⟩) := by rw [hA]; rfl
        have esz : A.tmps.size = 180 := by rw [hA]; rfl
        have HA := hide hA
        clear hA
        refine wp_region_held_drew (S := fun w' => Below W2.heap.size W2 w') (by kernel_rfl) S0 (fun hS => ?_)
        refine takeH (i := 0) (some 48) rfl rfl (by kernel_rfl) (by kernel_rfl) (by kernel_rfl) (fun _ _ _ h => h) (yields_move rfl _ rfl (.pointer (some ⟨wb, 0, none⟩)) (by simp [put_eval, put_size, esz, e0, e7])) hS ?_
        refine takeH (i := 1) (some 49) rfl rfl (by kernel_rfl) (by kernel_rfl) (by kernel_rfl) (fun _ _ _ h => h) (yields_nil rfl _ rfl ⟨wb, 0, none⟩ (by simp [put_eval, put_size, esz, e0, e7])) hS ?_
        refine takeH (i := 2) (some 50) rfl rfl (by kernel_rfl) (by kernel_rfl) (by kernel_rfl) (fun _ _ _ h => h) (yields_field rfl _ _ _ rfl (.pointer (some ⟨wb, 0, none⟩)) (by simp [put_eval, put_size, esz, e0, e7]) (.pointer (some ⟨wb, 1, none⟩)) (fun w' => by go_simp)) hS ?_
        refine takeH (i := 3) (some 51) rfl rfl (by kernel_rfl) (by kernel_rfl) (by kernel_rfl) (fun _ _ _ h => h) (yields_load1 rfl _ _ rfl ⟨wb, 1, none⟩ (by simp [put_eval, put_size, esz, e0, e7]) (.pointer (some ⟨kb, 0, none⟩)) (unhide L1)) hS ?_
        refine takeH (i := 4) (some 52) rfl rfl (by kernel_rfl) (by kernel_rfl) (by kernel_rfl) (fun _ _ _ h => h) (yields_field rfl _ _ _ rfl (.pointer (some ⟨wr.heap.size, 0, none⟩)) (by simp [put_eval, put_size, esz, e0, e7]) (.pointer (some ⟨wr.heap.size, 0, none⟩)) (fun w' => by go_simp)) hS ?_
        refine takeH (i := 5) (some 53) rfl rfl (by kernel_rfl) (by kernel_rfl) (by kernel_rfl) (fun _ _ _ h => h) (yields_load1 rfl _ _ rfl ⟨wr.heap.size, 0, none⟩ (by simp [put_eval, put_size, esz, e0, e7]) (.int .i64 XI) (unhide L2)) hS ?_
        refine wpAnyH_ready (rs := [6]) (by kernel_rfl) (by simp) (AllReadyH.cons rfl (fun K hK => ?_) AllReadyH.nil)
        refine step_call2 rfl 21 51 53 _ _ rfl (.pointer (some ⟨kb, 0, none⟩)) (.int .i64 XI) (by simp [put_eval, put_size, esz, e0, e7]) (by simp [put_eval, put_size, esz, e0, e7]) pathEnter _ (.string PT) (fun e w' h => h.1) (unhide HPC) (some 54) rfl ?_
        rintro w3 ⟨_, rfl⟩
        refine hK.out _ _ S0 (fun _ => ?_)
        clear hK K
        refine takeH (i := 7) (some 8) rfl rfl (by kernel_rfl) (by kernel_rfl) (by kernel_rfl) (fun _ _ _ h => h) (yields_run rfl (v := .string PT) (fun w' _ => by simp only [execOp]; simp [put_eval, put_size, esz])) S0 ?_
        refine wpAnyH_done (by kernel_rfl) ?_ _
        rw [unhide HA]
        simp only [Act.put, List.setIfInBounds_toArray, List.set_cons_zero, List.set_cons_succ]
        clear HA e0 e7 esz L1 L2 S0 hS
        clear z0 z1 z3 z4 y1 HPC HB
        go_wp2
        go_loopw [9, 10] (fun th jj wq => ∃ m : Nat, m ≤ FL.length ∧ jj = .int .i64 m ∧ th = .bool (decide (J < m)) ∧ Hid (Below W2.heap.size W2 wq)) (fun _ jj _ => FL.length - (intOf jj).toNat)
        case atStart => exact ⟨0, by omega, rfl, by simp, hide ⟨rfl, rfl, rfl, Nat.le_refl _, fun _ _ => rfl⟩⟩
        case round =>
          obtain ⟨m, hm, rfl, rfl, HBQ⟩ := hrel
          have hsq := (unhide HBQ).size
          have hsw := (unhide HB2).size
          by_cases hml : m < FL.length
          · obtain ⟨f, hf⟩ : ∃ f, FL[m]? = some f := ⟨_, List.getElem?_eq_getElem hml⟩
            obtain ⟨l, hl⟩ : ∃ l, LS[m]? = some l := ⟨_, List.getElem?_eq_getElem (by rw [(unhide HPS).len]; exact hml)⟩
            have hfc := (unhide HPS).at_ m f l (Nat.zero_le _) hf hl
            have hcellq : ∀ b o, b < w1.heap.size → wr.cell? ⟨b, o, none⟩ = w1.cell? ⟨b, o, none⟩ := fun b o hb => by rw [(unhide HBQ).cell (p := ⟨b, o, none⟩) (by show b < W2.heap.size; omega), (unhide HB2).cell (p := ⟨b, o, none⟩) hb]
            have p0 : wr.cell? ⟨ag, m * 3, none⟩ = some (.string f.path) := by rw [hcellq _ _ hag]; exact hfc.path
            have p1 : wr.cell? ⟨ag, m * 3 + 1, none⟩ = some (.bool f.dir) := by rw [hcellq _ _ hag]; exact hfc.dir
            have p2 : wr.cell? ⟨ag, m * 3 + 2, none⟩ = some (.slice l.a f.bytes.length l.c) := by rw [hcellq _ _ hag]; exact hfc.bytes
            have hm0 : (0 : Int) ≤ (m : Int) := by omega
            have hm1 : (m : Int) < (FL.length : Int) := by omega
            by_cases hmJ : m = J
            · subst hmJ
              rw [unhide HJ] at hf
              obtain rfl := Option.some.inj hf
              have heq : (PT.toList == PT.toList) = true := by simp
              have hcl : c.length ≤ 1000000 := by have h1 := used_ge (unhide HCJ); omega
              have HSM := hide (same_file wr (l := l) (c := c) (xa := xa) (xd := xd) hfc.view (fun h0 => (hfc.loc h0).1) (fun h0 => (hfc.loc h0).2.2.1) (fun b o hb => hcellq b o hb) (by have h := unhide HFA; rw [unhide HXB] at h; exact h) (unhide HB1) hcl)
              have HD := hide (show decide (m < m + 1) = true from decide_eq_true (by omega))
              obtain ⟨z3', z4'⟩ := unhide HZ wr (unhide HBQ)
              simp only at p0 p1 p2
              clear hcellq hfc hl hf
              go_upto_region 16 with fail
              have S0 : Below wr.heap.size wr wr.drew := ⟨rfl, rfl, rfl, Nat.le_refl _, fun _ _ => rfl⟩
              have M1 := hide (show ∀ w', Below wr.heap.size wr w' → (Instr.loadAt 32 (.pointer (some ⟨ag, m * 3 + 2, none⟩))).run Tryz.prog w' = .ok (.slice l.a c.length l.c) w' from fun w' h => by
                have hagw : ag < wr.heap.size := by omega
                have cc : w'.cell? ⟨ag, m * 3 + 2, none⟩ = some (.slice l.a c.length l.c) := by rw [h.cell (p := ⟨ag, m * 3 + 2, none⟩) hagw]; exact p2
                go_simp)
              have M2 := hide (unhide HZL wr (unhide HBQ))
              refine act_gen ?_
              intro A hA
              have e3 : A.eval (.tmp 3) = .slice (some ⟨ag, 0, none⟩) FL.length ac := by rw [hA]; rfl
              have e10 : A.eval (.tmp 10) = .int .i64 m := by rw [hA]; rfl
              have e7 := unhide HX7 A (by rw [hA]; rfl)
              have esz : A.tmps.size = 180 := by rw [hA]; rfl
              have HA := hide hA
              clear hA
              refine wp_region_held_drew (S := fun w' => Below wr.heap.size wr w') (by kernel_rfl) S0 (fun hS => ?_)
              refine takeH (i := 0) (some 68) rfl rfl (by kernel_rfl) (by kernel_rfl) (by kernel_rfl) (fun _ _ _ h => h) (yields_move rfl _ rfl (.slice (some ⟨ag, 0, none⟩) FL.length ac) (by simp [put_eval, put_size, esz, e3, e7, e10])) hS ?_
              refine takeH (i := 1) (some 69) rfl rfl (by kernel_rfl) (by kernel_rfl) (by kernel_rfl) (fun _ _ _ h => h) (yields_move rfl _ rfl (.int .i64 m) (by simp [put_eval, put_size, esz, e3, e7, e10])) hS ?_
              refine takeH (i := 2) (some 70) rfl rfl (by kernel_rfl) (by kernel_rfl) (by kernel_rfl) (fun _ _ _ h => h) (yields_index rfl _ _ _ rfl (.slice (some ⟨ag, 0, none⟩) FL.length ac) (.int .i64 m) (by simp [put_eval, put_size, esz, e3, e7, e10]) (by simp [put_eval, put_size, esz, e3, e7, e10]) (.pointer (some ⟨ag, m * 3, none⟩)) (fun w' => by go_simp)) hS ?_
              refine takeH (i := 3) (some 71) rfl rfl (by kernel_rfl) (by kernel_rfl) (by kernel_rfl) (fun _ _ _ h => h) (yields_field rfl _ _ _ rfl (.pointer (some ⟨ag, m * 3, none⟩)) (by simp [put_eval, put_size, esz, e3, e7, e10]) (.pointer (some ⟨ag, m * 3 + 2, none⟩)) (fun w' => by go_simp)) hS ?_
              refine takeH (i := 4) (some 72) rfl rfl (by kernel_rfl) (by kernel_rfl) (by kernel_rfl) (fun _ _ _ h => h) (yields_load1 rfl _ _ rfl ⟨ag, m * 3 + 2, none⟩ (by simp [put_eval, put_size, esz, e3, e7, e10]) (.slice l.a c.length l.c) (unhide M1)) hS ?_
              refine takeH (i := 5) (some 73) rfl rfl (by kernel_rfl) (by kernel_rfl) (by kernel_rfl) (fun _ _ _ h => h) (yields_field rfl _ _ _ rfl (.pointer (some ⟨XW, 0, none⟩)) (by simp [put_eval, put_size, esz, e3, e7, e10]) (.pointer (some ⟨XW, 4, none⟩)) (fun w' => by go_simp)) hS ?_
              refine takeH (i := 6) (some 74) rfl rfl (by kernel_rfl) (by kernel_rfl) (by kernel_rfl) (fun _ _ _ h => h) (yields_load1 rfl _ _ rfl ⟨XW, 4, none⟩ (by simp [put_eval, put_size, esz, e3, e7, e10]) (.slice xa c.length xd) (unhide M2)) hS ?_
              refine wpAnyH_ready (rs := [7]) (by kernel_rfl) (by simp) (AllReadyH.cons rfl (fun K hK => ?_) AllReadyH.nil)
              refine step_call2 rfl 22 72 74 _ _ rfl (.slice l.a c.length l.c) (.slice xa c.length xd) (by simp [put_eval, put_size, esz, e3, e7, e10]) (by simp [put_eval, put_size, esz, e3, e7, e10]) sameBEnter _ (.bool true) (fun e w' h => h.1) (unhide HSM l.c wr.drew rfl) (some 75) rfl ?_
              rintro w4 ⟨_, hh4, hb4⟩
              have S4 : Below wr.heap.size wr w4 := S0.trans hb4
              refine hK.out _ _ S4 (fun _ => ?_)
              clear hK K
              refine takeH (i := 8) (some 11) rfl rfl (by kernel_rfl) (by kernel_rfl) (by kernel_rfl) (fun _ _ _ h => h) (yields_run rfl (v := .bool true) (fun w' _ => by simp only [execOp]; simp [put_eval, put_size, esz])) S4 ?_
              refine wpAnyH_done (by kernel_rfl) ?_ _
              rw [unhide HA]
              simp only [Act.put, List.setIfInBounds_toArray, List.set_cons_zero, List.set_cons_succ]
              have HH4 := hide hh4
              have HS4 := hide S4
              clear hh4 hb4 S4 HA e3 e7 e10 esz M1 M2 S0 hS
              have hce : ∀ a, w4.cell? a = wr.cell? a := fun a => by unfold World.cell?; rw [unhide HH4]; rfl
              have q1 : w4.cell? ⟨ag, m * 3 + 1, none⟩ = some (.bool XD) := by rw [hce]; exact p1
              have q3 := z3'
              rw [← hce] at q3
              have HBQ4 := hide (show Below W2.heap.size W2 w4 from (unhide HBQ).trans ((unhide HS4).mono hsq))
              clear hce p0 p1 p2 z3' z4'
              go_wp2
              go_quiet (fail)
              go_wp2
              go_roundw
              case rel => exact ⟨m + 1, by omega, by go_num, by rw [unhide HD], hide ⟨(unhide HBQ4).os, (unhide HBQ4).tape, (unhide HBQ4).output, (unhide HBQ4).size, (unhide HBQ4).block⟩⟩
              case measure => simp [intOf]; omega
            · have hne : (f.path.toList == PT.toList) = false := by
                cases h : (f.path.toList == PT.toList) with
                | false => rfl
                | true => exact absurd (unhide HJU m f hf h) hmJ
              have HD := hide (show decide (J < m) = decide (J < m + 1) from decide_eq_decide.2 (by omega))
              generalize f.path = FP at p0 hne
              clear hcellq hfc hf hl hmJ p1 p2
              go_wp2
              go_roundw
              case rel => exact ⟨m + 1, by omega, by go_num, by rw [unhide HD], HBQ⟩
              case measure => simp [intOf]; omega
          · have hme : m = FL.length := by omega
            subst hme
            have hdt : decide (J < FL.length) = true := decide_eq_true hJl
            rw [hdt]
            have HBN := hide (show Below w1.heap.size w1 wr from (unhide HB2).trans ((unhide HBQ).mono hsw))
            clear hdt
            go_wp2
            go_roundw
            case rel => exact ⟨j + 1, by omega, by go_num, by rw [unhide HCS]; go_num, HBN⟩
            case measure => simp [intOf]; omega
    · have hje : j = k.inos.length := by omega
      subst hje
      rw [(unhide HTL).count]
      have HFC := hide ((unhide HPS).below (unhide HB))
      have HBW := hide (show Below w.heap.size w wr from (unhide HB1).trans ((unhide HB).mono hs1))
      have HAW := hide (show 0 < FL.length → ag < wr.heap.size from fun h => by have := (unhide HAG h).2; omega)
      clear hcell hcn HB
      go_wp2
      clear d1 d7 hlt
      go_loopw [5, 12] (fun la jj wq => ∃ m : Nat, m ≤ FL.length ∧ jj = .int .i64 m ∧ la = .string (lastOf FL m) ∧ Hid (FileCells wq w.heap.size ag m FL LS) ∧ Hid (Below w.heap.size w wq) ∧ Hid (0 < FL.length → ag < wq.heap.size)) (fun _ jj _ => FL.length - (intOf jj).toNat)
      case atStart => exact ⟨0, by omega, rfl, rfl, HFC, HBW, HAW⟩
      case round =>
        obtain ⟨m, hm, rfl, rfl, HFC, HBW, HAW⟩ := hrel
        have hsw := (unhide HBW).size
        by_cases hml : m < FL.length
        · obtain ⟨f, hf⟩ : ∃ f, FL[m]? = some f := ⟨_, List.getElem?_eq_getElem hml⟩
          obtain ⟨l, hl⟩ : ∃ l, LS[m]? = some l := ⟨_, List.getElem?_eq_getElem (by rw [(unhide HPS).len]; exact hml)⟩
          have hfc := (unhide HFC).at_ m f l (Nat.le_refl _) hf hl
          have hag := unhide HAW (by omega)
          obtain rfl := (unhide HAG (by omega)).1
          have p0 := hfc.path
          have p2 := hfc.bytes
          have hm0 : (0 : Int) ≤ (m : Int) := by omega
          have hm1 : (m : Int) < (FL.length : Int) := by omega
          obtain ⟨so1, so2⟩ := (unhide HTL).sorted m f hf
          have HLA := hide (show lastOf FL (m + 1) = f.path from by show (match FL[m]? with | some f => f.path | none => ByteArray.empty) = _; rw [hf])
          have HFC0 := hide hfc
          obtain ⟨FP, hFP⟩ : ∃ FP, FP = f.path := ⟨_, rfl⟩
          rw [← hFP] at p0 so1 so2 HLA
          generalize lastOf FL m = LP at so1 so2 ⊢
          obtain ⟨BL, hBL⟩ : ∃ BL, BL = f.bytes.length := ⟨_, rfl⟩
          rw [← hBL] at p2
          have HBL := hide hBL
          have HHL := hide (And.intro hf hl)
          obtain ⟨ρ, hρ1, hρ0⟩ : ∃ ρ : Option Nat, (0 < BL → ρ = some l.q) ∧ (¬ 0 < BL → ρ = none) := by
            by_cases h0 : 0 < BL
            · exact ⟨some l.q, fun _ => rfl, fun h => absurd h0 h⟩
            · exact ⟨none, fun h => absurd h h0, fun _ => rfl⟩
          have HRO := hide (And.intro hρ1 hρ0)
          have HLOC := hide (show 0 < BL → l.a = some ⟨l.q, l.o, none⟩ ∧ w.heap.size ≤ l.q ∧ l.q < wr.heap.size ∧ l.q ≠ ag from fun h => hfc.loc (by rw [← hBL]; exact h))
          have HV0 := hide (show ∀ b, b < BL → (∃ x : Int, wr.cell? ⟨l.q, l.o + b, none⟩ = some (.int .u8 x)) ∧ wr.frozen? ⟨l.q, l.o + b, none⟩ = false from fun b hb => ⟨⟨_, hfc.view b (by rw [← hBL]; exact hb)⟩, hfc.free b (by rw [← hBL]; exact hb)⟩)
          have hbl : BL ≤ 1000000 := by rw [hBL]; exact unhide HSZ f (List.mem_of_getElem? hf)
          clear hfc hf hl hFP hBL hρ1 hρ0
          go_wp2
          obtain ⟨wr', hwr'⟩ : ∃ v : World, v = wr := ⟨_, rfl⟩
          rw [← hwr'] at HFC HBW hsw hag HLOC HV0 p2 ⊢
          have HWR := hide hwr'
          clear hwr'
          go_loopw [13] (fun i wq => ∃ b : Nat, b ≤ BL ∧ i = .int .i64 b ∧ Hid (∀ b, b < BL → (∃ x : Int, wq.cell? ⟨l.q, l.o + b, none⟩ = some (.int .u8 x)) ∧ wq.frozen? ⟨l.q, l.o + b, none⟩ = false) ∧ Hid (wr'.grownBy wq ρ) ∧ Hid (wq.cell? ⟨ag, m * 3 + 2, none⟩ = some (.slice l.a BL l.c))) (fun i _ => BL - (intOf i).toNat)
          case atStart => exact ⟨0, by omega, rfl, HV0, hide (World.grownBy.refl _ _), hide p2⟩
          case round =>
            obtain ⟨b, hb, rfl, HV, HG, HC⟩ := hrel
            have x2 := unhide HC
            by_cases hbl2 : b < BL
            · obtain ⟨hla, hBq, hql, hqa⟩ := unhide HLOC (by omega)
              rw [hla] at x2
              obtain ⟨⟨X, v0⟩, v1⟩ := unhide HV b hbl2
              have hb0 : (0 : Int) ≤ (b : Int) := by omega
              have hb1 : (b : Int) < (BL : Int) := by omega
              have HN := hide (fun Y : Int => show (∀ c, c < BL → (∃ x : Int, (wr.setCell ⟨l.q, l.o + b, none⟩ (.int .u8 Y)).drew.cell? ⟨l.q, l.o + c, none⟩ = some (.int .u8 x)) ∧ (wr.setCell ⟨l.q, l.o + b, none⟩ (.int .u8 Y)).drew.frozen? ⟨l.q, l.o + c, none⟩ = false) ∧ wr'.grownBy (wr.setCell ⟨l.q, l.o + b, none⟩ (.int .u8 Y)).drew ρ ∧ (wr.setCell ⟨l.q, l.o + b, none⟩ (.int .u8 Y)).drew.cell? ⟨ag, m * 3 + 2, none⟩ = some (.slice l.a BL l.c) from by
                refine ⟨fun c hc => ?_, ?_, ?_⟩
                · obtain ⟨⟨x, u0⟩, u1⟩ := unhide HV c hc
                  refine ⟨?_, (World.frozen?_setCell wr _ _ _).trans u1⟩
                  by_cases e : c = b
                  · subst e
                    exact ⟨Y, World.cell?_setCell_same wr _ _ u0⟩
                  · exact ⟨x, (World.cell?_setCell_other wr _ _ _ (by simp)).trans u0⟩
                · have hg := unhide HG
                  rw [(unhide HRO).1 (by omega)] at hg ⊢
                  have h := grown_set hg (l.o + b) (.int .u8 Y)
                  exact ⟨h.os, h.tape, h.output, h.size, h.block⟩
                · rw [hla]
                  exact (World.cell?_setCell_far wr _ _ _ (by simpa using hqa)).trans x2)
              go_wp2
              go_region
              clear x2 v0 v1
              go_wp2
              go_roundw
              case rel => exact ⟨b + 1, by omega, by go_num, hide (unhide HN _).1, hide (unhide HN _).2.1, hide (unhide HN _).2.2⟩
              case measure => simp [intOf]; omega
            · have HNX := hide (show FileCells wr w.heap.size ag (m + 1) FL LS ∧ Below w.heap.size w wr from by
                obtain ⟨hf, hl⟩ := unhide HHL
                by_cases h0 : 0 < BL
                · have hg := unhide HG
                  rw [(unhide HRO).1 h0] at hg
                  have hBq := (unhide HLOC h0).2.1
                  exact ⟨(unhide HFC).rest hf hl (by rw [← unhide HBL]; exact h0) hg, (unhide HBW).trans ⟨hg.os, hg.tape, hg.output, hg.size, fun k hk => hg.block k (by omega) (by simp; omega)⟩⟩
                · have hg := unhide HG
                  rw [(unhide HRO).2 h0] at hg
                  have hbb : Below wr'.heap.size wr' wr := ⟨hg.os, hg.tape, hg.output, hg.size, fun k hk => hg.block k hk (by simp)⟩
                  exact ⟨((unhide HFC).below hbb).next, (unhide HBW).trans (hbb.mono hsw)⟩)
              have HAN := hide (show 0 < FL.length → ag < wr.heap.size from fun _ => by have := (unhide HG).size; omega)
              go_wp2
              go_roundw
              case rel => exact ⟨m + 1, by omega, by go_num, by rw [unhide HLA], hide (unhide HNX).1, hide (unhide HNX).2, HAN⟩
              case measure => simp [intOf]; omega
        · have u1 : wr.cell? ⟨wb, 0, none⟩ = some (.pointer kp) := by rw [(unhide HBW).cell (p := ⟨wb, 0, none⟩) hwl]; exact hw0
          have HUC := hide (unhide HU wr (unhide HBW))
          clear HU HFC HAW
          go_wp2_with fail
          refine (unhide HUC).mono ?_
          rintro e w5 ⟨rfl, hb5⟩
          have hb5' : Below w.heap.size w w5 := (unhide HBW).trans (hb5.mono hsw)
          have HB5 := hide hb5'
          have hs5 := hb5'.size
          clear hb5 hb5' u1 HUC HBW
          unfold limRow
          obtain ⟨W6, hW6⟩ : ∃ W6, W6 = w5.alloc (Obj.cells #[.int .i64 PL.length, .int .i64 PL.sum, .int .i64 on, .int .i64 k.inos.length, .int .i64 (usedOf cs)] 23) := ⟨_, rfl⟩
          have hb6 : Below w.heap.size w W6 := by rw [hW6]; exact (unhide HB5).alloc hs5 _
          have hn6 : Holds W6 w5.heap.size 23 [.int .i64 PL.length, .int .i64 PL.sum, .int .i64 on, .int .i64 k.inos.length, .int .i64 (usedOf cs)] := by rw [hW6]; exact Holds.new w5 23 _
          have v1 : W6.cell? ⟨wb, 1, none⟩ = some (.pointer (some ⟨kb, 0, none⟩)) := by rw [hb6.cell (p := ⟨wb, 1, none⟩) hwl]; exact hw1
          have HRU := hide (refUsed_any base kb g cap k PL (cs.map List.length) oa on oc W6 ((unhide HR).below hb6) ((unhide HP).below hb6) (unhide HO) (unhide HC).lens (by omega) hpl hps (by have : usedOf cs = (cs.map List.length).sum := rfl; omega))
          have HN6 := hide hn6
          have HB6 := hide hb6
          have HW6 := hide hW6
          clear hW6 hb6 hn6
          go_upto_region 33 with fail
          rw [← unhide HW6]
          go_wp2_with fail
          refine (unhide HRU).mono ?_
          rintro e w7 ⟨rfl, hb7⟩
          have hs6 := (unhide HN6).lt
          have hn7 := (unhide HN6).below hb7 hs6
          have HB7 := hide ((unhide HB6).trans (hb7.mono (unhide HB6).size))
          have HU0 := hide (show (List.map List.length cs).sum = usedOf cs from rfl)
          rw [unhide HU0]
          unfold limRow
          obtain ⟨W8, hW8⟩ : ∃ W8, W8 = w7.alloc (Obj.cells #[.int .i64 PL.length, .int .i64 PL.sum, .int .i64 on, .int .i64 k.inos.length, .int .i64 (usedOf cs)] 59) := ⟨_, rfl⟩
          have hn8 : Holds W8 w7.heap.size 59 [.int .i64 PL.length, .int .i64 PL.sum, .int .i64 on, .int .i64 k.inos.length, .int .i64 (usedOf cs)] := by rw [hW8]; exact Holds.new w7 59 _
          have hn9 : Holds W8 w5.heap.size 23 [.int .i64 PL.length, .int .i64 PL.sum, .int .i64 on, .int .i64 k.inos.length, .int .i64 (usedOf cs)] := by rw [hW8]; exact hn7.alloc _
          have HB8 := hide (show Below w.heap.size w W8 from by rw [hW8]; exact (unhide HB7).alloc (unhide HB7).size _)
          have s0 := hn8.cell (j := 0) rfl
          have s1 := hn8.cell (j := 1) rfl
          have s2 := hn8.cell (j := 2) rfl
          have s3 := hn8.cell (j := 3) rfl
          have s4 := hn8.cell (j := 4) rfl
          have t0 := hn9.cell (j := 0) rfl
          have t1 := hn9.cell (j := 1) rfl
          have t2 := hn9.cell (j := 2) rfl
          have t3 := hn9.cell (j := 3) rfl
          have t4 := hn9.cell (j := 4) rfl
          have HW8 := hide hW8
          generalize PL.sum = PSUM at *
          generalize usedOf cs = USUM at *
          clear hb7 hn7 hn8 hn9 hW8 v1
          go_upto_region 34 with fail
          rw [← unhide HW8]
          go_wp2
          go_ret
          exact ⟨rfl, unhide HB8⟩
end Go.Proofs.YtkokiefclmbgaaaGreatDoor
