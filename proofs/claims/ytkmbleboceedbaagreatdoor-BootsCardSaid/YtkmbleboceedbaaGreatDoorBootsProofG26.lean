import Derived.Test.YtkmbleboceedbaaGreatDoorBootsProofG24
import Derived.Test.YtkmbleboceedbaaGreatDoorBootsProofG04
/- The program's Follow. -/
namespace Go.Proofs.YtkmbleboceedbaaGreatDoor
open Go Go.RowKit Go.Maps
set_option linter.unusedVariables false
set_option linter.unusedSimpArgs false

def placeErr (e : Int) : Ending := .returned (.tuple #[.agg #[.pointer none, .string ByteArray.empty], .iface 45 (.int .i64 e)])
def placeAt (b : Nat) (name : ByteArray) : Ending := .returned (.tuple #[.agg #[.pointer (some ⟨b, 0, none⟩), .string name], .nilIface])
/-- Where a path leads to. -/
def PlaceIs (xs : List Ino) (NB : List Nat) (ab : Nat) (s : ByteArray) (b : Nat) (name : ByteArray) : Prop :=
  namesOf s = some [] ∧ b = ab ∧ name = ByteArray.empty ∨ (∃ a r, namesOf s = some (a :: r)) ∧ NodeIs xs NB (walkOf xs s).dir b ∧ dirOf xs (walkOf xs s).dir = true ∧ name = (walkOf xs s).name
def FollowPost (xs : List Ino) (NB : List Nat) (ab : Nat) (s : ByteArray) (w : World) (e : Ending) (w' : World) : Prop :=
  Below w.heap.size w w' ∧ ((walkOf xs s).e ≠ 0 ∧ e = placeErr (walkOf xs s).e ∨ (walkOf xs s).e = 0 ∧ ∃ b name, PlaceIs xs NB ab s b name ∧ e = placeAt b name)
theorem TreeRep.below {w w' : World} {B tb ab am : Nat} {li lb used : Int} {xs : List Ino} {NB MB : List Nat} {V : List Value} (h : TreeRep w B tb ab am li lb used xs NB MB V) (hb : Below w.heap.size w w') : TreeRep w' B tb ab am li lb used xs NB MB V := by
  have hg : w.grownBy w' none := ⟨hb.os, hb.tape, hb.output, hb.size, fun k hk _ => hb.block k hk⟩
  refine ⟨h.tree.grown hg (by simp), h.above.grown hg (by simp), h.amap.kept hg (by simp), h.len, fun i x b m hx hb hm => ?_, h.root, h.vlen, h.apart, h.low.1, h.low.2.1, h.low.2.2.1, h.low.2.2.2.1, fun m hm => ⟨(h.low.2.2.2.2 m hm).1, by have := (h.low.2.2.2.2 m hm).2; have := hb.size; omega⟩⟩
  obtain ⟨v, mv, h1, h2, h3⟩ := h.node i x b m hx hb hm
  exact ⟨v, mv, h1.grown hg (by simp), fun hd => ⟨(h2 hd).1, (h2 hd).2.kept hg (by simp)⟩, h3⟩

theorem names_small {s : ByteArray} {l : List ByteArray} (h : namesOf s = some l) {a : ByteArray} (ha : a ∈ l) : a.size ≤ maxLen := by
  unfold namesOf at h
  split at h
  · cases h
  · split at h
    · obtain rfl := Option.some.inj h
      simp at ha
    · split at h
      · rename_i hall
        rw [← Option.some.inj h] at ha
        have := List.all_eq_true.1 hall a ha
        unfold nameOk at this
        simp only [Bool.and_eq_true, decide_eq_true_eq] at this
        have := this.1.1.1.2
        unfold maxLen
        omega
      · cases h
theorem holds2_cells {W : World} {b : Nat} {t : TypeId} {x y : Value} (h : Holds W b t [x, y]) (u v : Value) : ((W.setCell ⟨b, 0, none⟩ u).setCell ⟨b, 1, none⟩ v).cell? ⟨b, 0, none⟩ = some u ∧ ((W.setCell ⟨b, 0, none⟩ u).setCell ⟨b, 1, none⟩ v).cell? ⟨b, 1, none⟩ = some v := by
  have h2 := (h.set 0 u).set 1 v
  exact ⟨h2.cell (j := 0) rfl, h2.cell (j := 1) rfl⟩
theorem place_below {w w1 : World} (h : Below w.heap.size w w1) (u v : Value) : Below w.heap.size w ((w1.setCell ⟨w.heap.size, 0, none⟩ u).setCell ⟨w.heap.size, 1, none⟩ v) := (h.setCell (p := ⟨w.heap.size, 0, none⟩) (Nat.le_refl _) u).setCell (p := ⟨w.heap.size, 1, none⟩) (Nat.le_refl _) v
set_option maxRecDepth 100000 in
set_option maxHeartbeats 8000000 in
theorem fsFollow_any (B tb ab am : Nat) (li lb used : Int) (xs : List Ino) (NB MB : List Nat) (V : List Value) (s : ByteArray) (m : Int) (w : World) (hr : TreeRep w B tb ab am li lb used xs NB MB V) (hne : namesOf s ≠ some [] → xs ≠ []) (hid : ∀ x ∈ xs, 1 ≤ x.id) (hinc : xs.Pairwise (fun x y => x.id < y.id)) (hs : s.size ≤ maxLen) (hm : w.cell? ⟨2, 0, none⟩ = some (.int .i64 m)) (hml : 2 < w.heap.size) :
    Calls Tryz.prog 62 #[.pointer (some ⟨tb, 0, none⟩), .string s] w (FollowPost xs NB ab s w) := by
  obtain ⟨W0, hW0⟩ : ∃ W0, W0 = w.alloc (Obj.cells #[.pointer none, .string ⟨#[]⟩] 166) := ⟨_, rfl⟩
  have hb0 : Below w.heap.size w W0 := by rw [hW0]; exact (Below.refl _ _).alloc (Nat.le_refl _) _
  have hp0 : Holds W0 w.heap.size 166 [.pointer none, .string ⟨#[]⟩] := by rw [hW0]; exact Holds.new w 166 _
  have HNM := hide (fsNames_any s m W0 hs (by rw [hb0.cell (p := ⟨2, 0, none⟩) hml]; exact hm))
  have HR := hide hr
  have HID := hide hid
  have HNE := hide hne
  clear hne
  have HINC := hide hinc
  have HB0 := hide hb0
  have HP0 := hide hp0
  have HW0 := hide hW0
  clear hr hid hinc hb0 hp0 hW0 hm
  go_enter Tryz.func62, Tryz.ntmps62
  go_upto_region 1 with fail
  rw [← unhide HW0]
  go_wp2_with fail
  refine (unhide HNM).mono ?_
  rintro e w1 ⟨hb1, (⟨hno, rfl⟩ | ⟨l, hl, hl100, rfl, hrow⟩)⟩
  · have hp1 := (unhide HP0).below hb1 (unhide HP0).lt
    have x0 := hp1.cell (j := 0) rfl
    have x1 := hp1.cell (j := 1) rfl
    have f0 := hp1.frozen 0
    have f1 := hp1.frozen 1
    have HWK := hide (show walkOf xs s = walkErr 8 by unfold walkOf; rw [hno])
    have HB1 := hide ((unhide HB0).trans (hb1.mono (unhide HB0).size))
    have hp1' := hp1
    clear hno hb1 hp1 HNM
    have hz := holds2_cells hp1' (.pointer none) (.string ⟨#[]⟩)
    have d0 := hz.1
    have d1 := hz.2
    have HBZ := hide (place_below (unhide HB1) (.pointer none) (.string ⟨#[]⟩))
    clear hz hp1'
    go_wp2
    exact bodyPost_ret (v := .tuple #[.agg #[.pointer none, .string ⟨#[]⟩], .iface 45 (.int .i64 8)]) (by simp [results, Tryz.results62, go_sem, d0, d1]) rfl ⟨unhide HBZ, .inl (by rw [unhide HWK]; exact ⟨show (8 : Int) ≠ 0 by decide, rfl⟩)⟩
  · have HB1 := hide ((unhide HB0).trans (hb1.mono (unhide HB0).size))
    have HR1 := hide ((unhide HR).below (unhide HB1))
    have hp1 := (unhide HP0).below hb1 (unhide HP0).lt
    have HP1 := hide hp1
    have HROW := hide hrow
    have HL := hide hl
    obtain ⟨RB, hRB⟩ : ∃ RB, RB = W0.heap.size := ⟨_, rfl⟩
    rw [← hRB] at HROW ⊢
    have t0 : w1.cell? ⟨tb, 0, none⟩ = some (.pointer (some ⟨ab, 0, none⟩)) := (unhide HR1).tree.cell rfl
    have k1 : (l.length : Int) + 1 - 1 = (l.length : Int) := by omega
    have k2 : (0 : Int) ≤ (l.length : Int) := by omega
    clear hb1 hp1 hrow hl HNM hRB
    have q0 : w1.cell? ⟨w.heap.size, 0, none⟩ = some (.pointer none) := (unhide HP1).cell (j := 0) rfl
    have q1 : w1.cell? ⟨w.heap.size, 1, none⟩ = some (.string ⟨#[]⟩) := (unhide HP1).cell (j := 1) rfl
    have r0 := (unhide HP1).frozen 0
    have r1 := (unhide HP1).frozen 1
    go_wp2
    go_loop [9, 33] (fun dv i => ∃ (k d : Nat), k ≤ l.length ∧ i = .int .i64 k ∧ dv = .pointer (some ⟨d, 0, none⟩) ∧ Hid (k = 0 ∧ d = ab ∨ 1 ≤ k ∧ ∃ id, NodeIs xs NB id d ∧ dirOf xs id = true ∧ walkOf xs s = follow xs id (l.drop (k - 1)))) (fun _ i => l.length - (intOf i).toNat)
    case atStart => exact ⟨0, ab, by omega, rfl, rfl, hide (.inl ⟨rfl, rfl⟩)⟩
    case round =>
      obtain ⟨k, d, hk, rfl, rfl, HD⟩ := hrel
      by_cases hlt : k < l.length
      · have hk0 : (0 : Int) ≤ (k : Int) := by omega
        have hk1 : (k : Int) < (l.length : Int) := by omega
        rcases unhide HD with ⟨rfl, rfl⟩ | ⟨hk2, id, ⟨i, x, hx, hxi, hb⟩, hdir, hw⟩
        · -- the root
          have c0 : w1.cell? ⟨RB, 0, none⟩ = some (.string ByteArray.empty) := (unhide HROW).cell (j := 0) rfl
          obtain ⟨x, hx, hxi, hxd⟩ := (unhide HR1).root ((unhide HNE) (by rw [unhide HL]; intro h; injection h with h; rw [h] at hlt; simp at hlt))
          have hxl := (List.getElem?_eq_some_iff.1 hx).1
          obtain ⟨b, hb⟩ : ∃ b, NB[0]? = some b := ⟨_, List.getElem?_eq_getElem (by rw [(unhide HR1).len.1]; exact hxl)⟩
          obtain ⟨mm, hmm⟩ : ∃ mm, MB[0]? = some mm := ⟨_, List.getElem?_eq_getElem (by rw [(unhide HR1).len.2]; exact hxl)⟩
          have a2 : w1.cell? ⟨d, 2, none⟩ = some (.map (some am)) := (unhide HR1).above.cell rfl
          have hlk := (unhide HR1).amap.look ByteArray.empty (by decide)
          rw [if_pos (show ByteArray.empty.data.toList = [] from rfl), hb] at hlk
          obtain ⟨v, mv, hnode, _⟩ := (unhide HR1).node 0 x b mm hx hb hmm
          rw [hxd] at hnode
          have n0 : w1.cell? ⟨b, 0, none⟩ = some (.bool true) := hnode.cell rfl
          have HNX := hide (show NodeIs xs NB 1 b ∧ dirOf xs 1 = true ∧ walkOf xs s = follow xs 1 (l.drop (0 + 1 - 1)) from by
            refine ⟨⟨0, x, hx, hxi, hb⟩, ?_, ?_⟩
            · have := dirOf_at (unhide HINC) hx
              rw [hxi, hxd] at this; exact this
            · unfold walkOf
              rw [unhide HL]
              cases l with
              | nil => simp at hlt
              | cons a r => rfl)
          unfold nodePtr at hlk
          clear hx hxi hxd hxl hb hmm hnode
          go_wp2
          go_round
          case rel => exact ⟨1, b, by omega, rfl, rfl, hide (.inr ⟨Nat.le_refl 1, 1, unhide HNX⟩)⟩
          case measure => simp [intOf]; omega
        · -- a name
          obtain ⟨a, ha⟩ : ∃ a, l[k - 1]? = some a := ⟨_, List.getElem?_eq_getElem (by omega)⟩
          have c0 : w1.cell? ⟨RB, k, none⟩ = some (.string a) := (unhide HROW).cell (by
            rw [show k = (k - 1) + 1 by omega]
            show (strsRow l)[k - 1]? = _
            simp [strsRow, ha])
          obtain ⟨a', b', r, ha', hd1, hd2⟩ := drop_two (l := l) (k := k - 1) (by omega)
          rw [ha] at ha'
          obtain rfl := Option.some.inj ha'
          rw [show k - 1 + 1 = k by omega] at hd2
          rw [hd1] at hw
          unfold follow at hw
          have hxl := (List.getElem?_eq_some_iff.1 hx).1
          obtain ⟨mm, hmm⟩ : ∃ mm, MB[i]? = some mm := ⟨_, List.getElem?_eq_getElem (by rw [(unhide HR1).len.2]; exact hxl)⟩
          obtain ⟨v, mv, hnode, hkids, _⟩ := (unhide HR1).node i x d mm hx hb hmm
          have hxd : x.dir = true := by rw [← dirOf_at (unhide HINC) hx, hxi]; exact hdir
          obtain ⟨rfl, hdict⟩ := hkids hxd
          rw [hxi] at hdict
          have n2 : w1.cell? ⟨d, 2, none⟩ = some (.map (some mm)) := hnode.cell rfl
          have hlk := hdict.look a (names_small (unhide HL) (List.mem_of_getElem? ha))
          by_cases hz : childOf xs id a = 0
          · rw [kid_none (unhide HID) hz] at hlk
            unfold nodePtr at hlk
            rw [if_pos hz] at hw
            have HWK := hide hw
            obtain ⟨d0, d1⟩ := holds2_cells (unhide HP1) (.pointer none) (.string ⟨#[]⟩)
            have HBZ := hide (place_below (unhide HB1) (.pointer none) (.string ⟨#[]⟩))
            clear hx hxi hb hdir hw ha hd1 hd2 hxl hmm hnode hkids hxd hdict hz
            go_wp2
            exact bodyPost_ret (v := .tuple #[.agg #[.pointer none, .string ⟨#[]⟩], .iface 45 (.int .i64 9)]) (by simp [results, Tryz.results62, go_sem, d0, d1]) rfl ⟨unhide HBZ, .inl (by rw [unhide HWK]; exact ⟨show (9 : Int) ≠ 0 by decide, rfl⟩)⟩
          · obtain ⟨i2, x2, b2, hx2, hxi2, hb2, hk2'⟩ := kid_some (NB := NB) (unhide HR1).len.1 hz
            rw [hk2'] at hlk
            unfold nodePtr at hlk
            rw [if_neg hz] at hw
            have hxl2 := (List.getElem?_eq_some_iff.1 hx2).1
            obtain ⟨m2, hm2⟩ : ∃ m2, MB[i2]? = some m2 := ⟨_, List.getElem?_eq_getElem (by rw [(unhide HR1).len.2]; exact hxl2)⟩
            obtain ⟨v2, mv2, hnode2, _⟩ := (unhide HR1).node i2 x2 b2 m2 hx2 hb2 hm2
            have hdi2 := dirOf_at (unhide HINC) hx2
            rw [hxi2] at hdi2
            have n0 : w1.cell? ⟨b2, 0, none⟩ = some (.bool x2.dir) := hnode2.cell rfl
            cases hdd : x2.dir with
            | false =>
              rw [hdd] at n0 hdi2
              rw [if_neg (by rw [hdi2]; decide)] at hw
              have HWK := hide hw
              obtain ⟨d0, d1⟩ := holds2_cells (unhide HP1) (.pointer none) (.string ⟨#[]⟩)
              have HBZ := hide (place_below (unhide HB1) (.pointer none) (.string ⟨#[]⟩))
              clear hx hxi hb hdir hw ha hd1 hd2 hxl hmm hnode hkids hxd hdict hz hx2 hxi2 hb2 hk2' hxl2 hm2 hnode2 hdi2 hdd
              go_wp2
              exact bodyPost_ret (v := .tuple #[.agg #[.pointer none, .string ⟨#[]⟩], .iface 45 (.int .i64 11)]) (by simp [results, Tryz.results62, go_sem, d0, d1]) rfl ⟨unhide HBZ, .inl (by rw [unhide HWK]; exact ⟨show (11 : Int) ≠ 0 by decide, rfl⟩)⟩
            | true =>
              rw [hdd] at n0 hdi2
              rw [if_pos hdi2, ← hd2] at hw
              have HNX := hide (show 1 ≤ k + 1 ∧ ∃ id, NodeIs xs NB id b2 ∧ dirOf xs id = true ∧ walkOf xs s = follow xs id (l.drop (k + 1 - 1)) from ⟨by omega, childOf xs id a, ⟨i2, x2, hx2, hxi2, hb2⟩, hdi2, hw⟩)
              clear hx hxi hb hdir hw ha hd1 hd2 hxl hmm hnode hkids hxd hdict hz hx2 hxi2 hb2 hk2' hxl2 hm2 hnode2 hdi2 hdd
              go_wp2
              go_round
              case rel => exact ⟨k + 1, b2, by omega, by go_num, rfl, hide (.inr (unhide HNX))⟩
              case measure => simp [intOf]; omega
      · have hke : k = l.length := by omega
        subst hke
        obtain ⟨NA, hNA, HPI⟩ : ∃ NA, w1.cell? ⟨RB, l.length, none⟩ = some (.string NA) ∧ Hid ((walkOf xs s).e = 0 ∧ PlaceIs xs NB ab s d NA) := by
          rcases unhide HD with ⟨h0, rfl⟩ | ⟨hk2, id, hnd, hdir, hw⟩
          · have hl0 : l = [] := List.eq_nil_of_length_eq_zero h0
            subst hl0
            refine ⟨ByteArray.empty, (unhide HROW).cell (j := 0) rfl, hide ⟨?_, .inl ⟨unhide HL, rfl, rfl⟩⟩⟩
            unfold walkOf
            rw [unhide HL]
          · obtain ⟨a, ha⟩ : ∃ a, l[l.length - 1]? = some a := ⟨_, List.getElem?_eq_getElem (by omega)⟩
            have hdr : l.drop (l.length - 1) = [a] := by
              have hkl : l.length - 1 < l.length := by omega
              rw [List.drop_eq_getElem_cons hkl, List.drop_eq_nil_of_le (by omega)]
              rw [List.getElem?_eq_getElem hkl] at ha
              rw [Option.some.inj ha]
            rw [hdr] at hw
            have hw' : walkOf xs s = ⟨id, a, childOf xs id a, 0⟩ := hw
            refine ⟨a, (unhide HROW).cell ?_, hide ⟨by rw [hw'], .inr ⟨?_, by rw [hw']; exact hnd, by rw [hw']; exact hdir, by rw [hw']⟩⟩⟩
            · rw [show l.length = (l.length - 1) + 1 by omega]
              show (strsRow l)[l.length - 1]? = _
              simp [strsRow, ha]
            · rw [unhide HL]
              cases l with
              | nil => simp at hk2
              | cons a r => exact ⟨a, r, rfl⟩
        obtain ⟨d0, d1⟩ := holds2_cells (unhide HP1) (.pointer (some ⟨d, 0, none⟩)) (.string NA)
        have HBZ := hide (place_below (unhide HB1) (.pointer (some ⟨d, 0, none⟩)) (.string NA))
        have k3 : (l.length : Int) < (l.length : Int) + 1 := by omega
        go_wp2
        exact bodyPost_ret (v := .tuple #[.agg #[.pointer (some ⟨d, 0, none⟩), .string NA], .nilIface]) (by simp [results, Tryz.results62, go_sem, d0, d1]) rfl ⟨unhide HBZ, .inr ⟨(unhide HPI).1, d, NA, (unhide HPI).2, rfl⟩⟩
end Go.Proofs.YtkmbleboceedbaaGreatDoor

/- tinyosref: Boot: the exec of /init. -/
namespace Go.Proofs.YtkmbleboceedbaaGreatDoor
open Go.RowKit
set_option linter.unusedVariables false
set_option linter.unusedSimpArgs false

def initPath : ByteArray := ⟨#[47, 105, 110, 105, 116]⟩
def initArg : ByteArray := ⟨#[105, 110, 105, 116]⟩
/-- Process 1 as Boot lays it, ahead of Exec. -/
def proc1 : List Value := [.int .i64 1, .int .i64 0, .int .i64 0, .int .i64 0, .int .i64 0, .int .u64 0] ++ regs0 ++ [.slice none 0 0, .int .i64 (-1), .int .i64 (-1), .int .i64 (-1), .int .i64 0, .int .i64 0, .int .i64 0, .int .i64 0, .int .i64 0]
def BootErr (lp lf lo li lb : Int) (FZ : List PFile) (c : Int) : Prop :=
  ((boot0 lp lf lo li lb).puts FZ).1 ≠ 0 ∧ c = ((boot0 lp lf lo li lb).puts FZ).1 ∨ ((boot0 lp lf lo li lb).puts FZ).1 = 0 ∧ ((boot0 lp lf lo li lb).puts FZ).2.ExecErr [0] 0 initPath [initArg] c
/-- The kernel that Boot answers. -/
structure BootedAt (p : PK) (w w' : World) (k : RK) (cs : List (List Int)) (g cap gp pc gn cn : Nat) : Prop where
  toP : k.toP cs = p
  rep : RepK w' (w.heap.size + 2) (w.heap.size + 1) g cap k
  cont : ContAt w' k.inos cs
  inv : InvK k
  bytes : AllBytes cs
  used : usedOf cs ≤ 200000
  inos : k.inos.length ≤ 101
  last : k.last ≤ 101
  pv : k.pv = .slice (some ⟨gp, 0, none⟩) 1 pc
  nils : k.ov = .slice none 0 0 ∧ k.cv = .slice none 0 0 ∧ k.tv = .slice none 0 0 ∧ k.uv = .slice none 0 0 ∧ k.mv = .slice none 0 0
  ok : p.ExecOk [0] 0 initPath [initArg]
  pages : w'.ownsRow (w.heap.size + 2) 155 258 (.slice (some ⟨gn, 0, none⟩) ((outPgs (p.fileOf initPath)).length + 2) cn) ((outPgs (p.fileOf initPath)).length + 2) (refRow (outPgs (p.fileOf initPath)) ++ refPagesTo (stackRoom [initArg]) 2)
  procs : w'.ownsRow (w.heap.size + 2) 83 31 (.slice (some ⟨gp, 0, none⟩) 1 pc) 1 (procExec proc1 0 (.slice (some ⟨gn, 0, none⟩) ((outPgs (p.fileOf initPath)).length + 2) cn) (numAt (p.fileOf initPath) 24 8) (65024 + (spOff [initArg] : Int)))
  apart : g ≠ gp ∧ g ≠ gn ∧ gp ≠ gn
def kernelAt (w : World) : Ending := .returned (.tuple #[.pointer (some ⟨w.heap.size + 1, 0, none⟩), .int .i64 0])
def BootPost (lp lf lo li lb : Int) (FZ : List PFile) (w : World) (e : Ending) (w' : World) : Prop :=
  Below w.heap.size w w' ∧ ((∃ c, BootErr lp lf lo li lb FZ c ∧ e = noKernel c) ∨ (((boot0 lp lf lo li lb).puts FZ).1 = 0 ∧ e = kernelAt w ∧ ∃ k cs g cap gp pc gn cn, BootedAt ((boot0 lp lf lo li lb).puts FZ).2 w w' k cs g cap gp pc gn cn))
def proc0 : List Value := [.int .i64 0, .int .i64 0, .int .i64 0, .int .i64 0, .int .i64 0, .int .u64 0] ++ regs0 ++ [.slice none 0 0, .int .i64 0, .int .i64 0, .int .i64 0, .int .i64 0, .int .i64 0, .int .i64 0, .int .i64 0, .int .i64 0]
theorem procInfo : (Tryz.prog.info? 83).map (fun i => (i.zero, i.size, i.bytes)) = some (some (.agg proc0.toArray), 31, 264) := by kernel_rfl
theorem procSize : (Tryz.prog.info? 83).map (·.size) = some proc1.length := by kernel_rfl
theorem proc1_one : ∀ u ∈ proc1, u.oneCell' = true := by
  intro u hu
  simp only [proc1, regs0, List.replicate, List.cons_append, List.nil_append, List.mem_cons, List.not_mem_nil, or_false] at hu
  rcases hu with rfl | rfl | rfl | rfl | rfl | rfl | rfl | rfl | rfl | rfl | rfl | rfl | rfl | rfl | rfl | rfl | rfl | rfl | rfl | rfl | rfl | rfl | rfl | rfl | rfl | rfl | rfl | rfl | rfl | rfl | rfl <;> rfl
theorem proc1_lens : PLens proc1 [0] := ⟨rfl, fun j n h => by
  match j, h with
  | 0, h =>
    have : n = 0 := by simpa using h.symm
    subst this
    exact ⟨none, 0, rfl⟩⟩

theorem bad_ne {B : List Int} {c : Int} (h : Bad B c) : c ≠ 0 := by
  rcases h with ⟨_, rfl⟩ | ⟨_, _, rfl⟩ | ⟨_, _, (⟨_, rfl⟩ | ⟨_, _, rfl⟩)⟩ <;> decide
theorem execErr_ne {k : RK} {cs : List (List Int)} {PL : List Nat} {i : Nat} {s : ByteArray} {ss : List ByteArray} {c : Int} (h : ExecErr k cs PL i s ss c) : c ≠ 0 := by
  rcases h with ⟨h, rfl⟩ | ⟨_, (⟨_, rfl⟩ | ⟨_, (⟨_, rfl⟩ | ⟨_, (h | ⟨_, (⟨_, rfl⟩ | ⟨_, _, rfl⟩)⟩)⟩)⟩)⟩
  · exact h
  · decide
  · decide
  · exact bad_ne h
  · decide
  · decide
theorem all_used {cs : List (List Int)} {n : Nat} (h : AllBytes cs) (hu : usedOf cs ≤ n) : ∀ c ∈ cs, IsBytes c ∧ c.length ≤ n := fun c hc => by
  obtain ⟨i, hi⟩ := List.mem_iff_getElem?.1 hc
  exact ⟨h c hc, Nat.le_trans (used_ge hi) hu⟩

theorem proc_apart {w : World} {base n g cap : Nat} {xs : List Value} (h : w.ownsRow base 83 31 (.slice (some ⟨g, 0, none⟩) n cap) n xs) : ∀ vs, ¬ Holds w g 5 vs := fun vs hv => by
  rcases h.2 with ⟨h', _⟩ | ⟨g', cap', cur, h', _, hg, _⟩
  · simp at h'
  · simp only [Value.slice.injEq, Option.some.injEq, Addr.mk.injEq, and_true, true_and] at h'
    obtain ⟨rfl, _⟩ := h'
    unfold Holds at hv
    rw [hg] at hv
    simp at hv
theorem boot_exec (lp lf lo li lb : Int) (FZ : List PFile) (w wr : World) (hn : FZ.length ≤ 100) (hsum : (FZ.map (fun f => f.bytes.length)).sum ≤ 200000) (k : RK) (cs : List (List Int)) (g cap : Nat) (h : BootAt lp lf lo li lb w FZ FZ.length wr k cs g cap)
    (wX : World) (gp pc : Nat) (hG : wr.grownBy wX (some (w.heap.size + 1))) (hk : Holds wX (w.heap.size + 1) 71 ({k with pv := .slice (some ⟨gp, 0, none⟩) 1 pc}.cells (.slice (some ⟨g, 0, none⟩) k.inos.length cap)))
    (hown : wX.ownsRow (w.heap.size + 2) 83 31 (.slice (some ⟨gp, 0, none⟩) 1 pc) 1 proc1) (hgp : wr.heap.size ≤ gp) (ab acap : Nat) (hab : ab < wX.heap.size) (hac : wX.cell? ⟨ab, 0, none⟩ = some (.string initArg)) :
    Calls Tryz.prog 30 #[.pointer (some ⟨w.heap.size + 1, 0, none⟩), .pointer (some ⟨gp, 0, none⟩), .string initPath, .slice (some ⟨ab, 0, none⟩) 1 acap] wX fun e w' => ∃ c : Int, e = .returned (.tuple #[.int .i64 0, .int .i64 c]) ∧ Below w.heap.size w w' ∧ (c ≠ 0 → BootErr lp lf lo li lb FZ c) ∧
      (c = 0 → ((boot0 lp lf lo li lb).puts FZ).1 = 0 ∧ ∃ k cs g cap gp pc gn cn, BootedAt ((boot0 lp lf lo li lb).puts FZ).2 w w' k cs g cap gp pc gn cn) := by
  have hgl := h.rep.2.lt g rfl
  have hkl := h.rep.1.lt
  have hsz := h.below.size
  have hGs := hG.size
  have hgp2 := hown.lt gp rfl
  have hus := h.used
  have hput := h.puts
  rw [List.take_length] at hus hput
  have hpv : ({k with pv := .slice (some ⟨gp, 0, none⟩) 1 pc} : RK).toP cs = k.toP cs := rfl
  have hr : RepK wX (w.heap.size + 2) (w.heap.size + 1) g cap {k with pv := .slice (some ⟨gp, 0, none⟩) 1 pc} := ⟨hk, h.rep.2.kept hG (.inr (by show some g ≠ some (w.heap.size + 1); simp; omega))⟩
  have hfr : FrameK wr wX (w.heap.size + 1) (w.heap.size + 1) := ⟨hG.os, hG.tape, hG.output, hG.size, fun b hb h1 _ => hG.block b hb (by simpa using h1)⟩
  have hc : ContAt wX k.inos cs := h.cont.frame hfr h.rep.apart.1 h.rep.apart.1
  have hbX : Below w.heap.size w wX := h.below.trans (hfr.below (by omega) (by omega) (by omega))
  have hcs : (cs.map List.length).sum ≤ 1000000 := by have : usedOf cs = (cs.map List.length).sum := rfl; omega
  have hin := h.inos
  have hla := h.last
  have hex := refExec_any (w.heap.size + 2) (w.heap.size + 1) g cap gp 1 pc 0 {k with pv := .slice (some ⟨gp, 0, none⟩) 1 pc} cs [0] proc1 0 0 none initPath (some ⟨ab, 0, none⟩) ab 0 acap [initArg] wX hr hc h.inv (fun c hc => by have := all_used h.bytes hus c hc; exact ⟨this.1, by omega⟩) rfl hown proc1_lens (by omega) h.nils.ov (by omega) (by omega) (show k.inos.length ≤ 10000 by omega) (by decide) hcs (by omega) (by decide) (by decide) (fun _ => rfl) hab (fun j hj => by
    have : j = 0 := by simp at hj; omega
    subst this; exact hac) (fun x hx => by
    have : x = initArg := by simpa using hx
    subst this; decide)
  refine hex.mono ?_
  rintro e w' (⟨c, he, rfl, hb⟩ | ⟨hok, rfl, hg, gn, cn, hpg, hpr⟩)
  · refine ⟨c, rfl, hbX.trans (hb.mono (by omega)), fun _ => .inr ?_, fun h0 => absurd h0 (execErr_ne he)⟩
    rw [hput]
    exact ⟨rfl, execErr_toP he⟩
  · have hgn := hpg.lt gn rfl
    refine ⟨0, rfl, hbX.trans ⟨hg.os, hg.tape, hg.output, hg.size, fun b hb => hg.block b (by omega) (by simp; omega)⟩, fun h0 => absurd rfl h0, fun _ => ?_⟩
    rw [hput]
    refine ⟨rfl, {k with pv := .slice (some ⟨gp, 0, none⟩) 1 pc}, cs, g, cap, gp, pc, gn, cn, ⟨hpv, ⟨hr.1.grown hg (by simp; omega), hr.2.kept hg (.inr (by show some g ≠ some gp; simp; omega))⟩, ?_, h.inv, h.bytes, by omega, show k.inos.length ≤ 101 by omega, show k.last ≤ 101 by omega, rfl, ?_, execOk_toP hok, ?_, ?_, ⟨by omega, by omega, by omega⟩⟩⟩
    · have hfr2 : FrameK wX w' gp gp := ⟨hg.os, hg.tape, hg.output, hg.size, fun b hb h1 _ => hg.block b hb (by simpa using h1)⟩
      have hap := proc_apart hown
      exact hc.frame hfr2 hap hap
    · have h1 := h.nils
      exact ⟨congrArg RK.ov h1, congrArg RK.cv h1, congrArg RK.tv h1, congrArg RK.uv h1, congrArg RK.mv h1⟩
    · rw [fileOf_toP]
      exact own_base hpg (by omega)
    · rw [fileOf_toP]
      exact hpr
end Go.Proofs.YtkmbleboceedbaaGreatDoor
