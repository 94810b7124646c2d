import Derived.Test.YtkokiefclmbgaaaGreatDoorBootsProofG33
import Derived.Test.YtkokiefclmbgaaaGreatDoorBootsProofG35
/- tinyoslaw: boot. -/
namespace Go.Proofs.YtkokiefclmbgaaaGreatDoor
open Go.RowKit
set_option linter.unusedVariables false
set_option linter.unusedSimpArgs false

theorem pexecErr_ne {p : PK} {PL : List Nat} {i : Nat} {s : ByteArray} {ss : List ByteArray} {c : Int} (h : p.ExecErr PL i s ss c) : c ≠ 0 := by
  rcases h with ⟨h, rfl⟩ | ⟨_, (⟨_, rfl⟩ | ⟨_, (⟨_, rfl⟩ | ⟨_, (h | ⟨_, (⟨_, rfl⟩ | ⟨_, _, rfl⟩)⟩)⟩)⟩)⟩
  · exact h
  · decide
  · decide
  · exact bad_ne h
  · decide
  · decide
theorem pexecErr_uniq {p : PK} {PL : List Nat} {i : Nat} {s : ByteArray} {ss : List ByteArray} {c d : Int} (h : p.ExecErr PL i s ss c) (k : p.ExecErr PL i s ss d) : c = d := by
  rcases h with ⟨a1, rfl⟩ | ⟨a1, (⟨a2, rfl⟩ | ⟨a2, (⟨a3, rfl⟩ | ⟨a3, (a4 | ⟨a4, (⟨a5, rfl⟩ | ⟨a5, a6, rfl⟩)⟩)⟩)⟩)⟩ <;>
  rcases k with ⟨b1, rfl⟩ | ⟨b1, (⟨b2, rfl⟩ | ⟨b2, (⟨b3, rfl⟩ | ⟨b3, (b4 | ⟨b4, (⟨b5, rfl⟩ | ⟨b5, b6, rfl⟩)⟩)⟩)⟩)⟩ <;>
  first | rfl | exact absurd b1 a1 | exact absurd a1 b1 | exact absurd b2 a2 | exact absurd a2 b2 | exact absurd (a3.symm.trans b3) (by decide) | exact Bad.uniq a4 b4 | exact (Bad.notGood a4 b4).elim | exact (Bad.notGood b4 a4).elim | exact absurd (a5.symm.trans b5) (by decide)
theorem pexecErr_not {p : PK} {PL : List Nat} {i : Nat} {s : ByteArray} {ss : List ByteArray} {c : Int} (h : p.ExecErr PL i s ss c) (k : p.ExecOk PL i s ss) : False := by
  obtain ⟨b1, b2, b3, b4, b5, b6⟩ := k
  rcases h with ⟨a1, rfl⟩ | ⟨a1, (⟨a2, rfl⟩ | ⟨a2, (⟨a3, rfl⟩ | ⟨a3, (a4 | ⟨a4, (⟨a5, rfl⟩ | ⟨a5, a6, rfl⟩)⟩)⟩)⟩)⟩
  · exact a1 b1
  · exact b2 a2
  · rw [a3] at b3; cases b3
  · exact Bad.notGood a4 b4
  · rw [a5] at b5; cases b5
  · omega
theorem bootBad_ne {lp lf lo li lb : Int} {FZ : List PFile} {c : Int} (h : BootBad lp lf lo li lb FZ c) : c ≠ 0 := by
  rcases h with ⟨_, rfl⟩ | ⟨_, (⟨_, rfl⟩ | ⟨_, (⟨h, rfl⟩ | ⟨_, h⟩)⟩)⟩
  · decide
  · decide
  · exact h
  · exact pexecErr_ne h
theorem bootBad_uniq {lp lf lo li lb : Int} {FZ : List PFile} {c d : Int} (h : BootBad lp lf lo li lb FZ c) (k : BootBad lp lf lo li lb FZ d) : c = d := by
  rcases h with ⟨a1, rfl⟩ | ⟨a1, (⟨a2, rfl⟩ | ⟨a2, (⟨a3, rfl⟩ | ⟨a3, a4⟩)⟩)⟩ <;> rcases k with ⟨b1, rfl⟩ | ⟨b1, (⟨b2, rfl⟩ | ⟨b2, (⟨b3, rfl⟩ | ⟨b3, b4⟩)⟩)⟩ <;>
  first | rfl | exact absurd b1 a1 | exact absurd a1 b1 | exact absurd b2 a2 | exact absurd a2 b2 | exact absurd b3 a3 | exact absurd a3 b3 | exact pexecErr_uniq a4 b4
theorem bootBad_not {lp lf lo li lb : Int} {FZ : List PFile} {c : Int} (h : BootBad lp lf lo li lb FZ c) (k : BootGood lp lf lo li lb FZ) : False := by
  obtain ⟨b1, b2, b3, b4⟩ := k
  rcases h with ⟨a1, rfl⟩ | ⟨a1, (⟨a2, rfl⟩ | ⟨a2, (⟨a3, rfl⟩ | ⟨a3, a4⟩)⟩)⟩
  · exact a1 b1
  · exact b2 a2
  · exact a3 b3
  · exact pexecErr_not a4 b4
theorem BootedAt.below {p : PK} {w w' w'' : World} {k : RK} {cs : List (List Int)} {g cap gp pc gn cn : Nat} (h : BootedAt p w w' k cs g cap gp pc gn cn) (hb : Below w'.heap.size w' w'') : BootedAt p w w'' k cs g cap gp pc gn cn := by
  have hg : w'.grownBy w'' none := ⟨hb.os, hb.tape, hb.output, hb.size, fun k hk _ => hb.block k hk⟩
  exact ⟨h.toP, h.rep.below hb, h.cont.frame (FrameK.ofBelow hb) h.rep.apart.1 h.rep.apart.2, h.inv, h.bytes, h.used, h.inos, h.last, h.pv, h.nils, h.ok, h.pages.kept hg (.inr (by simp [Value.ownBlock])), h.procs.kept hg (.inr (by simp [Value.ownBlock])), h.apart⟩
/-- What the program's Boot must answer; KR: its kernel, in blocks from B on. -/
def ProgBoot (lp lf lo li lb : Int) (FZ : List PFile) (KR : World → Nat → Addr → PK → Prop) (w : World) (e : Ending) (w' : World) : Prop :=
  Below w.heap.size w w' ∧ ((∃ c, BootBad lp lf lo li lb FZ c ∧ e = .returned (.tuple #[.pointer none, .iface 45 (.int .i64 c)])) ∨ (BootGood lp lf lo li lb FZ ∧ ∃ kp, e = .returned (.tuple #[.pointer (some kp), .nilIface]) ∧ KR w' w.heap.size kp ((boot0 lp lf lo li lb).puts FZ).2))
def Stable (KR : World → Nat → Addr → PK → Prop) : Prop := ∀ (w w' : World) (B : Nat) (kp : Addr) (p : PK), KR w B kp p → w.heap.size ≤ w'.heap.size → (∀ k, B ≤ k → k < w.heap.size → w'.heap[k]? = w.heap[k]?) → KR w' B kp p
def worldRow (kv rv : Value) : List Value := [kv, rv, .slice none 0 0, .slice none 0 0, .bool false]
def LawBootPost (lp lf lo li lb : Int) (FZ : List PFile) (KR : World → Nat → Addr → PK → Prop) (w : World) (e : Ending) (w' : World) : Prop :=
  Below w.heap.size w w' ∧ ((∃ c wp, c ≠ 0 ∧ e = .returned (.tuple #[wp, .int .i64 c, .bool true])) ∨ (BootGood lp lf lo li lb FZ ∧ ∃ wb B kp W k cs g cap gp pc gn cn, e = .returned (.tuple #[.pointer (some ⟨wb, 0, none⟩), .int .i64 0, .bool true]) ∧ w.heap.size ≤ wb ∧ Holds w' wb 36 (worldRow (.pointer (some kp)) (.pointer (some ⟨W.heap.size + 1, 0, none⟩))) ∧ KR w' B kp ((boot0 lp lf lo li lb).puts FZ).2 ∧ w.heap.size ≤ W.heap.size ∧ BootedAt ((boot0 lp lf lo li lb).puts FZ).2 W w' k cs g cap gp pc gn cn ∧ KR W B kp ((boot0 lp lf lo li lb).puts FZ).2 ∧ Below W.heap.size W w' ∧ (W.heap.size + 1 < wb ∧ gp < wb ∧ gn < wb) ∧ w.heap.size ≤ B ∧ B ≤ W.heap.size))
theorem strInfo' : (Tryz.prog.info? 9).map (fun i => (i.zero, i.size, i.bytes)) = some (some (.string ByteArray.empty), 1, 16) := by kernel_rfl
theorem boolInfo : (Tryz.prog.info? 4).map (fun i => (i.zero, i.size, i.bytes)) = some (some (.bool false), 1, 1) := by kernel_rfl
theorem bytInfo : (Tryz.prog.info? 32).map (fun i => (i.zero, i.size, i.bytes)) = some (some (.slice none 0 0), 1, 24) := by kernel_rfl
theorem apiFileInfo : (Tryz.prog.info? 44).map (fun i => (i.zero, i.size, i.bytes)) = some (some (.agg #[.string ByteArray.empty, .bool false, .slice none 0 0]), 3, 48) := by kernel_rfl
theorem num_boot (n : Int) (w : World) : Calls Tryz.prog 17 #[.int .i64 n] w fun e w' => e = .returned (.int .i64 n) ∧ w' = w := by
  go_enter Tryz.func17, Tryz.ntmps17
  go_wp2
  go_ret
  exact ⟨rfl, rfl⟩
theorem stillEnter : ∀ args w, (callFunc 15 args).run Tryz.prog w = .ok (.enter 15 args) w := enters_of Tryz.func15 (by kernel_rfl) rfl
theorem ne_of_type {w : World} {b r : Nat} {e : TypeId} {vs : List Value} (h : RowType w (some b) e) (hr : Holds w r 5 vs) (hne : 5 ≠ e) : b ≠ r := fun he => holds_type hr h hne (by rw [he])
theorem news1 (w : World) (t : TypeId) (v : Value) : ∀ j u, [v][j]? = some u → (w.alloc (Obj.cells #[v] t)).cell? ((⟨w.heap.size, 0, none⟩ : Addr).add j) = some u := fun j u hj => by
  rw [addr_add, Nat.zero_add]
  exact (Holds.new w t [v]).cell hj
theorem news3 (w : World) (t : TypeId) (a b c : Value) : ∀ j u, [a, b, c][j]? = some u → (w.alloc (Obj.cells #[a, b, c] t)).cell? ((⟨w.heap.size, 0, none⟩ : Addr).add j) = some u := fun j u hj => by
  rw [addr_add, Nat.zero_add]
  exact (Holds.new w t [a, b, c]).cell hj

set_option maxRecDepth 100000 in
set_option maxHeartbeats 8000000 in
theorem boot_law (lp lf lo li lb : Int) (fa : Option Addr) (fb foff fcap : Nat) (FZ : List PFile) (LS : List FLoc) (w : World) (hfa : 0 < FZ.length → fa = some ⟨fb, foff, none⟩ ∧ fb < w.heap.size) (hf : FilesInL w fb foff FZ LS) (hn : FZ.length ≤ 100) (hsum : (FZ.map (fun f => f.bytes.length)).sum ≤ 200000) (hps : ∀ f ∈ FZ, f.path.size ≤ maxLen ∧ IsBytes f.bytes)
    (hg : w.cell? ⟨0, 0, none⟩ = some (.iface 194 (.agg #[.pointer (some ⟨5, 40, none⟩)]))) (hge : 0 < w.heap.size) (KR : World → Nat → Addr → PK → Prop) (hst : Stable KR)
    (hprog : ∀ (w' : World) (va : Option Addr) (vb vcap : Nat) (LS' : List FLoc), Below w.heap.size w w' → (0 < FZ.length → va = some ⟨vb, 0, none⟩ ∧ vb < w'.heap.size) → FilesInL w' vb 0 FZ LS' → Calls Tryz.prog 10 #[.agg #[.int .i64 lp, .int .i64 lf, .int .i64 lo, .int .i64 li, .int .i64 lb], .slice va FZ.length vcap] w' (ProgBoot lp lf lo li lb FZ KR w')) :
    Calls Tryz.prog 6 #[.agg #[.int .i64 lp, .int .i64 lf, .int .i64 lo, .int .i64 li, .int .i64 lb, .slice fa FZ.length fcap]] w (LawBootPost lp lf lo li lb FZ KR w) := by
  have HF := hide hf
  have HFA := hide hfa
  have HPS := hide hps
  have HSUM := hide hsum
  have HG := hide hg
  have HPR := hide hprog
  have HB0 := hide (show Below w.heap.size w (w.alloc (Obj.cells (setting lp lf lo li lb (.slice fa FZ.length fcap)).toArray 26)) from (Below.refl _ _).alloc (Nat.le_refl _) _)
  have HS0 := hide (show BState w (w.alloc (Obj.cells (setting lp lf lo li lb (.slice fa FZ.length fcap)).toArray 26)) (setting lp lf lo li lb (.slice fa FZ.length fcap)) FZ LS [] 0 0 0 0 (.slice none 0 0) (.slice none 0 0) (.slice none 0 0) (.slice none 0 0) from
    ⟨Holds.new w 26 _, World.ownsRow_nil _ _ _ _, World.ownsRow_nil _ _ _ _, World.ownsRow_nil _ _ _ _, World.ownsRow_nil _ _ _ _, fun i r f h => by simp at h, fun i j r q _ h => by simp at h, unhide HB0⟩)
  obtain ⟨i1, hi1, hz10, hz11, hz12⟩ := info_of strInfo'
  have HI1 := hide (And.intro hi1 (And.intro hz10 (And.intro hz11 hz12)))
  obtain ⟨i2, hi2, hz20, hz21, hz22⟩ := info_of boolInfo
  have HI2 := hide (And.intro hi2 (And.intro hz20 (And.intro hz21 hz22)))
  obtain ⟨i3, hi3, hz30, hz31, hz32⟩ := info_of bytInfo
  have HI3 := hide (And.intro hi3 (And.intro hz30 (And.intro hz31 hz32)))
  obtain ⟨i4, hi4, hz40, hz41, hz42⟩ := info_of apiFileInfo
  have HI4 := hide (And.intro hi4 (And.intro hz40 (And.intro hz41 hz42)))
  have HST := hide hst
  clear hf hfa hps hsum hg hprog hst hi1 hz10 hz11 hz12 hi2 hz20 hz21 hz22 hi3 hz30 hz31 hz32 hi4 hz40 hz41 hz42
  go_enter Tryz.func6, Tryz.ntmps6
  go_wp2
  go_loopw [5, 6, 7, 8, 9] (fun v5 v6 v7 v8 i wr => ∃ (j : Nat) (RS : List Nat), j ≤ FZ.length ∧ i = .int .i64 j ∧ RS.length = j ∧ Hid (BState w wr (setting lp lf lo li lb (.slice fa FZ.length fcap)) FZ LS RS j j j j v5 v6 v7 v8)) (fun _ _ _ _ i _ => FZ.length - (intOf i).toNat)
  case atStart => exact ⟨0, [], by omega, rfl, rfl, HS0⟩
  case round =>
    obtain ⟨j, RS, hj, rfl, hRS, HS⟩ := hrel
    have c5 : wr.cell? ⟨w.heap.size, 5, none⟩ = some (.slice fa FZ.length fcap) := (unhide HS).s.cell rfl
    by_cases hlt : j < FZ.length
    · obtain ⟨f, hf⟩ : ∃ f, FZ[j]? = some f := ⟨_, List.getElem?_eq_getElem hlt⟩
      obtain ⟨l, hl⟩ : ∃ l, LS[j]? = some l := ⟨_, List.getElem?_eq_getElem (by rw [(unhide HF).len]; exact hlt)⟩
      obtain ⟨rfl, hfb⟩ := unhide HFA (by omega)
      obtain ⟨g0, g1, g2, g3, g4⟩ := (unhide HF).at_ j f l hf hl
      have hbl := (unhide HS).bl
      have hsz := hbl.size
      have hsl := (unhide HS).s.lt
      have d0 : wr.cell? ⟨fb, foff + j * 3, none⟩ = some (.string f.path) := by rw [hbl.cell (p := ⟨fb, foff + j * 3, none⟩) hfb]; exact g0
      have d1 : wr.cell? ⟨fb, foff + j * 3 + 1, none⟩ = some (.bool f.dir) := by rw [hbl.cell (p := ⟨fb, foff + j * 3 + 1, none⟩) hfb]; exact g1
      have d2 : wr.cell? ⟨fb, foff + j * 3 + 2, none⟩ = some (.slice l.a f.bytes.length l.c) := by rw [hbl.cell (p := ⟨fb, foff + j * 3 + 2, none⟩) hfb]; exact g2
      have hj0 : (0 : Int) ≤ (j : Int) := by omega
      have hj1 : (j : Int) < (FZ.length : Int) := by omega
      have hbsz : f.bytes.length ≤ 1000000 := by
        have h1 := sum_take_file hf
        have h2 := sum_take_all FZ (j + 1)
        have h3 := unhide HSUM
        omega
      have HRM := hide (fun (w' : World) (hb : Below w.heap.size w w') => roomy_any l.a l.q l.o l.c f.bytes w' (fun h => (g3 h).1) (by
          by_cases h0 : 0 < f.bytes.length
          · exact fun k hk => by rw [hb.cell (p := ⟨l.q, l.o + k, none⟩) (g3 h0).2]; exact g4 k hk
          · exact fun k hk => absurd hk (by omega)) (fun h => by have := (g3 h).2; have := hb.size; omega) hbsz)
      have HP5 := hide (pathsTo_succ hf)
      have HP6 := hide (dirsTo_succ hf)
      have HP7 := hide (bytesTo_succ hf hl)
      have HFL := hide (And.intro hf hl)
      obtain ⟨PA, hPA⟩ : ∃ PA, PA = f.path := ⟨_, rfl⟩
      obtain ⟨DI, hDI⟩ : ∃ DI, DI = f.dir := ⟨_, rfl⟩
      obtain ⟨BL, hBL⟩ : ∃ BL, BL = f.bytes.length := ⟨_, rfl⟩
      rw [← hPA] at d0 HP5
      rw [← hDI] at d1 HP6
      rw [← hBL] at d2 HP7 HRM hbsz
      have HEQ := hide (And.intro hPA (And.intro hDI hBL))
      obtain ⟨W1, hW1⟩ : ∃ W1, W1 = wr.alloc (Obj.cells #[.string PA, .bool DI, .slice l.a BL l.c] 44) := ⟨_, rfl⟩
      have hb1 : Below wr.heap.size wr W1 := by rw [hW1]; exact (Below.refl _ _).alloc (Nat.le_refl _) _
      have hF1 : Holds W1 wr.heap.size 44 [.string PA, .bool DI, .slice l.a BL l.c] := by rw [hW1]; exact Holds.new wr 44 _
      have HS1 := hide ((unhide HS).move hb1)
      have HF1 := hide hF1
      have HW1 := hide hW1
      have hs1 := hb1.size
      clear hf hl g0 g1 g2 g3 g4 hbl hPA hDI hBL hW1 hF1 hb1
      go_upto_region 9 with fail
      rw [← unhide HW1]
      clear d0 d1 d2
      have x0 := (unhide HF1).cell (j := 0) rfl
      have HA1 := hide ((unhide HS1).p.alloc (Obj.cells #[.string PA] 9))
      go_upto_region 10 with (at_builtin; refine wpList_append_lies _ (by rfl) _ _ 50 (by rfl) (w.heap.size + 1) 9 i1 _ 1 16 Tryz.underlying50 (unhide HI1).1 (unhide HI1).2.1 (unhide HI1).2.2.1 (unhide HI1).2.2.2 rfl (by decide) _ _ _ (by rfl) (unhide HA1) ⟨W1.heap.size, 0, none⟩ 1 1 [.string PA] (by rfl) (by rfl) (news1 W1 _ _) (by intro u hu; simp only [List.mem_cons, List.not_mem_nil, or_false] at hu; subst hu; rfl) (by omega) (by unfold maxLen; omega) (by omega) (by simp; omega) (W1.heap.size + 1) (by simp) ?_; intro n5 k5 w2 hown2 hgrow2 hat2 hlt2)
      have a2 : Below W1.heap.size W1 (W1.alloc (Obj.cells #[.string PA] 9)) := (Below.refl _ _).alloc (Nat.le_refl _) _
      have HS2 := hide (((unhide HS1).move a2).app5 hgrow2 (by rw [unhide HP5]; exact hown2))
      have HF2 := hide (((unhide HF1).alloc (Obj.cells #[.string PA] 9)).grown hgrow2 (holds_type ((unhide HF1).alloc (Obj.cells #[.string PA] 9)) (own_rowType (unhide HA1)) (by decide)))
      have hs2 : W1.heap.size + 1 ≤ w2.heap.size := by have := hgrow2.size; simpa using this
      clear x0 hown2 hgrow2 hat2 hlt2 HA1 HS1 HF1 a2
      have x1 := (unhide HF2).cell (j := 1) rfl
      have HA2 := hide ((unhide HS2).di.alloc (Obj.cells #[.bool DI] 4))
      go_upto_region 11 with (at_builtin; refine wpList_append_lies _ (by rfl) _ _ 55 (by rfl) (w.heap.size + 1) 4 i2 _ 1 1 Tryz.underlying55 (unhide HI2).1 (unhide HI2).2.1 (unhide HI2).2.2.1 (unhide HI2).2.2.2 rfl (by decide) _ _ _ (by rfl) (unhide HA2) ⟨w2.heap.size, 0, none⟩ 1 1 [.bool DI] (by rfl) (by rfl) (news1 w2 _ _) (by intro u hu; simp only [List.mem_cons, List.not_mem_nil, or_false] at hu; subst hu; rfl) (by omega) (by unfold maxLen; omega) (by omega) (by simp; omega) (w2.heap.size + 1) (by simp) ?_; intro n6 k6 w3 hown3 hgrow3 hat3 hlt3)
      have a3 : Below w2.heap.size w2 (w2.alloc (Obj.cells #[.bool DI] 4)) := (Below.refl _ _).alloc (Nat.le_refl _) _
      have HS3 := hide (((unhide HS2).move a3).app6 hgrow3 (by rw [unhide HP6]; exact hown3))
      have HF3 := hide (((unhide HF2).alloc (Obj.cells #[.bool DI] 4)).grown hgrow3 (holds_type ((unhide HF2).alloc (Obj.cells #[.bool DI] 4)) (own_rowType (unhide HA2)) (by decide)))
      have hs3 : w2.heap.size + 1 ≤ w3.heap.size := by have := hgrow3.size; simpa using this
      clear x1 hown3 hgrow3 hat3 hlt3 HA2 HS2 HF2 a3
      have x2 := (unhide HF3).cell (j := 2) rfl
      have HA3 := hide ((unhide HS3).by_.alloc (Obj.cells #[.slice l.a BL l.c] 32))
      go_upto_region 12 with (at_builtin; refine wpList_append_lies _ (by rfl) _ _ 56 (by rfl) (w.heap.size + 1) 32 i3 _ 1 24 Tryz.underlying56 (unhide HI3).1 (unhide HI3).2.1 (unhide HI3).2.2.1 (unhide HI3).2.2.2 rfl (by decide) _ _ _ (by rfl) (unhide HA3) ⟨w3.heap.size, 0, none⟩ 1 1 [.slice l.a BL l.c] (by rfl) (by rfl) (news1 w3 _ _) (by intro u hu; simp only [List.mem_cons, List.not_mem_nil, or_false] at hu; subst hu; rfl) (by omega) (by unfold maxLen; omega) (by omega) (by simp; omega) (w3.heap.size + 1) (by simp) ?_; intro n7 k7 w4 hown4 hgrow4 hat4 hlt4)
      have a4 : Below w3.heap.size w3 (w3.alloc (Obj.cells #[.slice l.a BL l.c] 32)) := (Below.refl _ _).alloc (Nat.le_refl _) _
      have HS4 := hide (((unhide HS3).move a4).app7 hgrow4 (by rw [unhide HP7]; exact hown4))
      have HF4 := hide (((unhide HF3).alloc (Obj.cells #[.slice l.a BL l.c] 32)).grown hgrow4 (holds_type ((unhide HF3).alloc (Obj.cells #[.slice l.a BL l.c] 32)) (own_rowType (unhide HA3)) (by decide)))
      have hs4 : w3.heap.size + 1 ≤ w4.heap.size := by have := hgrow4.size; simpa using this
      clear x2 hown4 hgrow4 hat4 hlt4 HA3 HS3 HF3 a4
      have x2 := (unhide HF4).cell (j := 2) rfl
      have HRC := hide (unhide HRM w4 (unhide HS4).bl)
      go_wp2_with fail
      refine (unhide HRC).mono ?_
      rintro e w5 ⟨rfl, hh5, hb5⟩
      have HS5 := hide ((unhide HS4).room hb5 (by rw [hRS]) (by rw [hRS]; exact (unhide HFL).1) hh5)
      have HF5 := hide ((unhide HF4).below hb5 (unhide HF4).lt)
      have hs5 := hb5.size
      have HP8 := hide (show filesTo FZ (RS ++ [w4.heap.size]) (j + 1) = filesTo FZ (RS ++ [w4.heap.size]) j ++ [.string PA, .bool DI, .slice (some ⟨w4.heap.size, 0, none⟩) BL (BL + 2)] from by
        rw [filesTo_succ (unhide HFL).1 (show (RS ++ [w4.heap.size])[j]? = some w4.heap.size from by rw [← hRS]; simp)]
        obtain ⟨e1, e2, e3⟩ := unhide HEQ
        rw [e1, e2, e3]; rfl)
      clear x2 hh5 hb5 HRC HS4 HF4 HRM
      have x0 := (unhide HF5).cell (j := 0) rfl
      have x1 := (unhide HF5).cell (j := 1) rfl
      have HA5 := hide ((unhide HS5).fi.alloc (Obj.cells #[.string PA, .bool DI, .slice (some ⟨w4.heap.size, 0, none⟩) BL (BL + 2)] 44))
      go_wp2_with (at_builtin; refine wpList_append_lies _ (by rfl) _ _ 24 (by rfl) (w.heap.size + 1) 44 i4 _ 3 48 Tryz.underlying24 (unhide HI4).1 (unhide HI4).2.1 (unhide HI4).2.2.1 (unhide HI4).2.2.2 rfl (by decide) _ _ _ (by rfl) (unhide HA5) ⟨w5.heap.size, 0, none⟩ 1 1 [.string PA, .bool DI, .slice (some ⟨w4.heap.size, 0, none⟩) BL (BL + 2)] (by rfl) (by rfl) (news3 w5 _ _ _ _) (by intro u hu; simp only [List.mem_cons, List.not_mem_nil, or_false] at hu; rcases hu with rfl | rfl | rfl <;> rfl) (by omega) (by unfold maxLen; omega) (by omega) (by simp; omega) (w5.heap.size + 1) (by simp) ?_; intro n8 k8 w6 hown6 hgrow6 hat6 hlt6)
      have a6 : Below w5.heap.size w5 (w5.alloc (Obj.cells #[.string PA, .bool DI, .slice (some ⟨w4.heap.size, 0, none⟩) BL (BL + 2)] 44)) := (Below.refl _ _).alloc (Nat.le_refl _) _
      have HS6 := hide (((unhide HS5).move a6).app8 hgrow6 (by rw [unhide HP8]; exact hown6))
      clear x0 x1 hown6 hgrow6 hat6 hlt6 HA5 HS5 HF5 a6
      go_roundw
      case rel => exact ⟨j + 1, RS ++ [w4.heap.size], by omega, by go_num, by simp [hRS], HS6⟩
      case measure => simp [intOf]; omega
    · have hje : j = FZ.length := by omega
      subst hje
      have t8 := own_rowType (unhide HS).fi
      have t5 := own_rowType (unhide HS).p
      have t6 := own_rowType (unhide HS).di
      have t7 := own_rowType (unhide HS).by_
      obtain ⟨a5, b5, k5, rfl, h5⟩ := own_slice (unhide HS).p
      obtain ⟨a6, b6, k6, rfl, h6⟩ := own_slice (unhide HS).di
      obtain ⟨a7, b7, k7, rfl, h7⟩ := own_slice (unhide HS).by_
      obtain ⟨a8, b8, k8, rfl, h8⟩ := own_slice (unhide HS).fi
      have hbl := (unhide HS).bl
      have hsl := (unhide HS).s.lt
      have hRF : ∀ (i r : Nat), RS[i]? = some r → ∃ f, FZ[i]? = some f := fun i r hr => ⟨_, List.getElem?_eq_getElem (by have := (List.getElem?_eq_some_iff.1 hr).1; omega)⟩
      have HNE := hide (show ∀ (i r : Nat), RS[i]? = some r → w.heap.size < r ∧ r < wr.heap.size ∧ b5 ≠ r ∧ b6 ≠ r ∧ b7 ≠ r ∧ b8 ≠ r from fun i r hr => by
        obtain ⟨f, hf⟩ := hRF i r hr
        have h0 : 0 < FZ.length := by have := (List.getElem?_eq_some_iff.1 hf).1; omega
        obtain ⟨x, y, z⟩ := (unhide HS).rs i r f hr hf
        have e5 := (h5 h0).1
        have e6 := (h6 h0).1
        have e7 := (h7 h0).1
        have e8 := (h8 h0).1
        subst e5 e6 e7 e8
        exact ⟨x, y, ne_of_type t5 z (by decide), ne_of_type t6 z (by decide), ne_of_type t7 z (by decide), ne_of_type t8 z (by decide)⟩)
      have HPC := hide (unhide HPR wr a8 b8 k8 _ hbl (fun h => ⟨(h8 h).1, (h8 h).2.2.1⟩) ((unhide HS).handed hRS (fun h => ⟨(h8 h).1, (h8 h).2.2.2⟩)))
      have H5 := hide h5
      have H6 := hide h6
      have H7 := hide h7
      have H8 := hide h8
      have HBL := hide hbl
      have s0 : wr.cell? ⟨w.heap.size, 0, none⟩ = some (.int .i64 lp) := (unhide HS).s.cell rfl
      have s1 : wr.cell? ⟨w.heap.size, 1, none⟩ = some (.int .i64 lf) := (unhide HS).s.cell rfl
      have s2 : wr.cell? ⟨w.heap.size, 2, none⟩ = some (.int .i64 lo) := (unhide HS).s.cell rfl
      have s3 : wr.cell? ⟨w.heap.size, 3, none⟩ = some (.int .i64 li) := (unhide HS).s.cell rfl
      have s4 : wr.cell? ⟨w.heap.size, 4, none⟩ = some (.int .i64 lb) := (unhide HS).s.cell rfl
      clear t5 t6 t7 t8 h5 h6 h7 h8 hbl hRF HPR
      go_wp2_with fail
      refine (unhide HPC).mono ?_
      rintro e w2 ⟨hb2, hor⟩
      obtain ⟨c, kv, ev, rfl, hTell, hres⟩ : ∃ c kv ev, e = .returned (.tuple #[kv, ev]) ∧ (∀ w', w'.cell? ⟨0, 0, none⟩ = some (.iface 194 (.agg #[.pointer (some ⟨5, 40, none⟩)])) → Calls Tryz.prog 12 #[ev] w' fun e w'' => e = .returned (.int .i64 c) ∧ Below w'.heap.size w' w'') ∧ (BootBad lp lf lo li lb FZ c ∧ kv = .pointer none ∨ BootGood lp lf lo li lb FZ ∧ c = 0 ∧ ∃ kp, kv = .pointer (some kp) ∧ KR w2 wr.heap.size kp ((boot0 lp lf lo li lb).puts FZ).2) := by
        rcases hor with ⟨c, hc, rfl⟩ | ⟨hg, kp, rfl, hk⟩
        · exact ⟨c, _, _, rfl, fun w' h => tell_some c w' h, .inl ⟨hc, rfl⟩⟩
        · exact ⟨0, _, _, rfl, fun w' _ => tell_nil w', .inr ⟨hg, rfl, kp, rfl, hk⟩⟩
      have hbw2 : Below w.heap.size w w2 := (unhide HBL).trans (hb2.mono (by omega))
      have HTC := hide (hTell w2 (by rw [hbw2.cell (p := ⟨0, 0, none⟩) hge]; exact unhide HG))
      have HRES := hide hres
      have HB2 := hide hb2
      clear hor hTell hres hb2 hbw2 HPC s0 s1 s2 s3 s4 c5
      go_wp2_with fail
      refine (unhide HTC).mono ?_
      rintro e w3 ⟨rfl, hb3⟩
      have HB3 := hide (show Below wr.heap.size wr w3 from (unhide HB2).trans (hb3.mono (unhide HB2).size))
      have HS3 := hide ((unhide HS).move (unhide HB3))
      have HKR := hide (show BootBad lp lf lo li lb FZ c ∧ kv = .pointer none ∨ BootGood lp lf lo li lb FZ ∧ c = 0 ∧ ∃ kp, kv = .pointer (some kp) ∧ KR w3 wr.heap.size kp ((boot0 lp lf lo li lb).puts FZ).2 from by
        rcases unhide HRES with h | ⟨hg, hc, kp, hk, hr⟩
        · exact .inl h
        · exact .inr ⟨hg, hc, kp, hk, unhide HST _ _ _ _ _ hr hb3.size (fun k _ hk2 => hb3.block k hk2)⟩)
      obtain ⟨BB, hBB⟩ : ∃ BB, BB = wr.heap.size := ⟨_, rfl⟩
      rw [← hBB] at HKR HNE
      have hbs3 : BB ≤ w3.heap.size := by rw [hBB]; exact (unhide HB3).size
      have hwbb : w.heap.size ≤ BB := by omega
      have HC8 := hide (show ∀ h : 0 < FZ.length, a8 = some ⟨b8, 0, none⟩ ∧ ∀ j u, (filesTo FZ RS FZ.length)[j]? = some u → w3.cell? ⟨b8, j, none⟩ = some u from fun h => ⟨(unhide H8 h).1, fun j u hu => by rw [(unhide HB3).cell (p := ⟨b8, j, none⟩) (unhide H8 h).2.2.1]; exact (unhide H8 h).2.2.2 j u hu⟩)
      have HC5 := hide (show ∀ h : 0 < FZ.length, a5 = some ⟨b5, 0, none⟩ ∧ ∀ j u, (pathsTo FZ FZ.length)[j]? = some u → w3.cell? ⟨b5, j, none⟩ = some u from fun h => ⟨(unhide H5 h).1, fun j u hu => by rw [(unhide HB3).cell (p := ⟨b5, j, none⟩) (unhide H5 h).2.2.1]; exact (unhide H5 h).2.2.2 j u hu⟩)
      have HC6 := hide (show ∀ h : 0 < FZ.length, a6 = some ⟨b6, 0, none⟩ ∧ ∀ j u, (dirsTo FZ FZ.length)[j]? = some u → w3.cell? ⟨b6, j, none⟩ = some u from fun h => ⟨(unhide H6 h).1, fun j u hu => by rw [(unhide HB3).cell (p := ⟨b6, j, none⟩) (unhide H6 h).2.2.1]; exact (unhide H6 h).2.2.2 j u hu⟩)
      have HC7 := hide (show ∀ h : 0 < FZ.length, a7 = some ⟨b7, 0, none⟩ ∧ ∀ j u, (bytesTo FZ LS FZ.length)[j]? = some u → w3.cell? ⟨b7, j, none⟩ = some u from fun h => ⟨(unhide H7 h).1, fun j u hu => by rw [(unhide HB3).cell (p := ⟨b7, j, none⟩) (unhide H7 h).2.2.1]; exact (unhide H7 h).2.2.2 j u hu⟩)
      clear hb3 HTC HRES HB2 HS HBL H5 H6 H7 H8 hBB hsl HB3
      go_wp2
      go_loopw [15] (fun i wq => ∃ j : Nat, j ≤ FZ.length ∧ i = .int .i64 j ∧ Hid (OnlyRoom w3 wq RS j)) (fun i _ => FZ.length - (intOf i).toNat)
      case atStart => exact ⟨0, by omega, rfl, hide ⟨rfl, rfl, rfl, Nat.le_refl _, fun _ _ _ => rfl⟩⟩
      case round =>
        obtain ⟨j, hj, rfl, HO⟩ := hrel
        have hso := (unhide HO).size
        by_cases hlt2 : j < FZ.length
        · obtain ⟨f, hf⟩ : ∃ f, FZ[j]? = some f := ⟨_, List.getElem?_eq_getElem hlt2⟩
          obtain ⟨l, hl⟩ : ∃ l, LS[j]? = some l := ⟨_, List.getElem?_eq_getElem (by rw [(unhide HF).len]; exact hlt2)⟩
          obtain ⟨r, hr⟩ : ∃ r, RS[j]? = some r := ⟨_, List.getElem?_eq_getElem (by omega)⟩
          obtain ⟨rfl, hfb⟩ := unhide HFA (by omega)
          obtain ⟨rfl, hc8⟩ := unhide HC8 (by omega)
          obtain ⟨g0, g1, g2, g3, g4⟩ := (unhide HF).at_ j f l hf hl
          obtain ⟨hr1, hr2, _, _, _, hr8⟩ := unhide HNE j r hr
          have hhr := ((unhide HS3).rs j r f hr hf).2.2
          have hne : ∀ (i q : Nat), i < j → RS[i]? = some q → r ≠ q := fun i q hi hq => by have := (unhide HS3).inc i j q r hi hq hr; omega
          have hhw := (unhide HO).holds hhr hne
          have hbw : Below w.heap.size w wr := (unhide HS3).bl.trans ((unhide HO).below (by have := (unhide HS3).bl.size; omega) (fun i q hq => by have := (unhide HNE i q hq).1; omega))
          have hj0 : (0 : Int) ≤ (j : Int) := by omega
          have hj1 : (j : Int) < (FZ.length : Int) := by omega
          have hbsz : f.bytes.length ≤ 1000000 := by
            have h1 := sum_take_file hf
            have h2 := sum_take_all FZ (j + 1)
            have h3 := unhide HSUM
            omega
          have L1 := hide (show ∀ w', wr.grownBy w' (some r) → (Instr.loadAt 32 (.pointer (some ⟨b8, j * 3 + 2, none⟩))).run Tryz.prog w' = .ok (.slice (some ⟨r, 0, none⟩) f.bytes.length (f.bytes.length + 2)) w' from fun w' h => by
            have cc : w'.cell? ⟨b8, j * 3 + 2, none⟩ = some (.slice (some ⟨r, 0, none⟩) f.bytes.length (f.bytes.length + 2)) := h.cell ((unhide HO).cell (hc8 _ _ (filesTo_get FZ RS FZ.length j 2 r f _ hlt2 hf hr (by omega) rfl)) (fun i q _ hq => (unhide HNE i q hq).2.2.2.2.2)) (by simpa using hr8)
            go_simp)
          have L2 := hide (show ∀ w', wr.grownBy w' (some r) → (Instr.loadAt 24 (.pointer (some ⟨w.heap.size, 5, none⟩))).run Tryz.prog w' = .ok (.slice (some ⟨fb, foff, none⟩) FZ.length fcap) w' from fun w' h => by
            have cc : w'.cell? ⟨w.heap.size, 5, none⟩ = some (.slice (some ⟨fb, foff, none⟩) FZ.length fcap) := h.cell ((unhide HO).cell ((unhide HS3).s.cell rfl) (fun i q _ hq => by have := (unhide HNE i q hq).1; omega)) (by simp; omega)
            go_simp)
          have L3 := hide (show ∀ w', wr.grownBy w' (some r) → (Instr.loadAt 32 (.pointer (some ⟨fb, foff + j * 3 + 2, none⟩))).run Tryz.prog w' = .ok (.slice l.a f.bytes.length l.c) w' from fun w' h => by
            have cc : w'.cell? ⟨fb, foff + j * 3 + 2, none⟩ = some (.slice l.a f.bytes.length l.c) := h.cell (by rw [hbw.cell (p := ⟨fb, foff + j * 3 + 2, none⟩) hfb]; exact g2) (by simp; omega)
            go_simp)
          have HSTI := hide (still_any r l.a l.q l.o l.c f.bytes wr.drew (hhw.heap rfl) (fun h => (g3 h).1) (fun k hk => by
            have : wr.drew.cell? ⟨l.q, l.o + k, none⟩ = wr.cell? ⟨l.q, l.o + k, none⟩ := rfl
            rw [this, hbw.cell (p := ⟨l.q, l.o + k, none⟩) (g3 (by omega)).2]; exact g4 k hk) hbsz)
          have HRJ := hide hr
          have S0 : wr.grownBy wr.drew (some r) := ⟨rfl, rfl, rfl, Nat.le_refl _, fun _ _ _ => rfl⟩
          clear hf hl hr g0 g1 g2 g3 g4 hhr hne hhw hbw hc8
          go_upto_region 19 with fail
          refine act_gen ?_
          intro A hA
          have e1 : A.eval (.tmp 1) = .pointer (some ⟨w.heap.size, 0, none⟩) := by rw [hA]; rfl
          have e8 : A.eval (.tmp 8) = .slice (some ⟨b8, 0, none⟩) FZ.length k8 := by rw [hA]; rfl
          have e15 : A.eval (.tmp 15) = .int .i64 j := by rw [hA]; rfl
          have esz : A.tmps.size = 129 := by rw [hA]; rfl
          have HA := hide hA
          clear hA
          refine wp_region_held_drew (S := fun w' => wr.grownBy w' (some r)) (by kernel_rfl) S0 (fun hS => ?_)
          refine takeH (i := 0) (some 74) rfl rfl (by kernel_rfl) (by kernel_rfl) (by kernel_rfl) (fun _ _ _ h => h) (yields_move rfl _ rfl (.slice (some ⟨b8, 0, none⟩) FZ.length k8) (by simp [put_eval, put_size, esz, e1, e8, e15])) hS ?_
          refine takeH (i := 1) (some 75) rfl rfl (by kernel_rfl) (by kernel_rfl) (by kernel_rfl) (fun _ _ _ h => h) (yields_move rfl _ rfl (.int .i64 j) (by simp [put_eval, put_size, esz, e1, e8, e15])) hS ?_
          refine takeH (i := 2) (some 76) rfl rfl (by kernel_rfl) (by kernel_rfl) (by kernel_rfl) (fun _ _ _ h => h) (yields_index rfl _ _ _ rfl (.slice (some ⟨b8, 0, none⟩) FZ.length k8) (.int .i64 j) (by simp [put_eval, put_size, esz, e1, e8, e15]) (by simp [put_eval, put_size, esz, e1, e8, e15]) (.pointer (some ⟨b8, j * 3, none⟩)) (fun w' => by go_simp)) hS ?_
          refine takeH (i := 3) (some 77) rfl rfl (by kernel_rfl) (by kernel_rfl) (by kernel_rfl) (fun _ _ _ h => h) (yields_field rfl _ _ _ rfl (.pointer (some ⟨b8, j * 3, none⟩)) (by simp [put_eval, put_size, esz, e1, e8, e15]) (.pointer (some ⟨b8, j * 3 + 2, none⟩)) (fun w' => by go_simp)) hS ?_
          refine takeH (i := 4) (some 78) rfl rfl (by kernel_rfl) (by kernel_rfl) (by kernel_rfl) (fun _ _ _ h => h) (yields_load1 rfl _ _ rfl ⟨b8, j * 3 + 2, none⟩ (by simp [put_eval, put_size, esz, e1, e8, e15]) (.slice (some ⟨r, 0, none⟩) f.bytes.length (f.bytes.length + 2)) (unhide L1)) hS ?_
          refine takeH (i := 5) (some 79) rfl rfl (by kernel_rfl) (by kernel_rfl) (by kernel_rfl) (fun _ _ _ h => h) (yields_field rfl _ _ _ rfl (.pointer (some ⟨w.heap.size, 0, none⟩)) (by simp [put_eval, put_size, esz, e1, e8, e15]) (.pointer (some ⟨w.heap.size, 5, none⟩)) (fun w' => by go_simp)) hS ?_
          refine takeH (i := 6) (some 80) rfl rfl (by kernel_rfl) (by kernel_rfl) (by kernel_rfl) (fun _ _ _ h => h) (yields_load1 rfl _ _ rfl ⟨w.heap.size, 5, none⟩ (by simp [put_eval, put_size, esz, e1, e8, e15]) (.slice (some ⟨fb, foff, none⟩) FZ.length fcap) (unhide L2)) hS ?_
          refine takeH (i := 7) (some 81) rfl rfl (by kernel_rfl) (by kernel_rfl) (by kernel_rfl) (fun _ _ _ h => h) (yields_move rfl _ rfl (.int .i64 j) (by simp [put_eval, put_size, esz, e1, e8, e15])) hS ?_
          refine takeH (i := 8) (some 82) rfl rfl (by kernel_rfl) (by kernel_rfl) (by kernel_rfl) (fun _ _ _ h => h) (yields_index rfl _ _ _ rfl (.slice (some ⟨fb, foff, none⟩) FZ.length fcap) (.int .i64 j) (by simp [put_eval, put_size, esz, e1, e8, e15]) (by simp [put_eval, put_size, esz, e1, e8, e15]) (.pointer (some ⟨fb, foff + j * 3, none⟩)) (fun w' => by go_simp)) hS ?_
          refine takeH (i := 9) (some 83) rfl rfl (by kernel_rfl) (by kernel_rfl) (by kernel_rfl) (fun _ _ _ h => h) (yields_field rfl _ _ _ rfl (.pointer (some ⟨fb, foff + j * 3, none⟩)) (by simp [put_eval, put_size, esz, e1, e8, e15]) (.pointer (some ⟨fb, foff + j * 3 + 2, none⟩)) (fun w' => by go_simp)) hS ?_
          refine takeH (i := 10) (some 84) rfl rfl (by kernel_rfl) (by kernel_rfl) (by kernel_rfl) (fun _ _ _ h => h) (yields_load1 rfl _ _ rfl ⟨fb, foff + j * 3 + 2, none⟩ (by simp [put_eval, put_size, esz, e1, e8, e15]) (.slice l.a f.bytes.length l.c) (unhide L3)) hS ?_
          refine wpAnyH_ready (rs := [11]) (by kernel_rfl) (by simp) (AllReadyH.cons rfl (fun K hK => ?_) AllReadyH.nil)
          refine step_call2 rfl 15 78 84 _ _ rfl (.slice (some ⟨r, 0, none⟩) f.bytes.length (f.bytes.length + 2)) (.slice l.a f.bytes.length l.c) (by simp [put_eval, put_size, esz, e1, e8, e15]) (by simp [put_eval, put_size, esz, e1, e8, e15]) stillEnter _ (.bool true) (fun e w' h => h.1) (unhide HSTI) (some 85) rfl ?_
          rintro w4 ⟨_, hg4⟩
          have S4 : wr.grownBy w4 (some r) := ⟨hg4.os, hg4.tape, hg4.output, hg4.size, hg4.block⟩
          refine hK.out _ _ S4 (fun _ => ?_)
          clear hK K
          refine takeH (i := 12) (some 16) rfl rfl (by kernel_rfl) (by kernel_rfl) (by kernel_rfl) (fun _ _ _ h => h) (yields_run rfl (v := .bool true) (fun w' _ => by simp only [execOp]; simp [put_eval, put_size, esz])) S4 ?_
          refine wpAnyH_done (by kernel_rfl) ?_ _
          rw [unhide HA]
          simp only [Act.put, List.setIfInBounds_toArray, List.set_cons_zero, List.set_cons_succ]
          have HO4 := hide ((unhide HO).step (unhide HRJ) S4)
          clear hg4 S4 HA e1 e8 e15 esz L1 L2 L3 S0 hS HSTI
          go_wp2
          go_roundw
          case rel => exact ⟨j + 1, by omega, by go_num, HO4⟩
          case measure => simp [intOf]; omega
        · have hje : j = FZ.length := by omega
          subst hje
          have hbw : Below w.heap.size w wr := (unhide HS3).bl.trans ((unhide HO).below (by have := (unhide HS3).bl.size; omega) (fun i q hq => by have := (unhide HNE i q hq).1; omega))
          have hsc : ∀ (i : Nat) (v : Value), (setting lp lf lo li lb (.slice fa FZ.length fcap))[i]? = some v → wr.cell? ⟨w.heap.size, i, none⟩ = some v := fun i v hv => (unhide HO).cell ((unhide HS3).s.cell hv) (fun i q _ hq => by have := (unhide HNE i q hq).1; omega)
          have s0 := hsc 0 _ rfl
          have s1 := hsc 1 _ rfl
          have s2 := hsc 2 _ rfl
          have s3 := hsc 3 _ rfl
          have s4 := hsc 4 _ rfl
          obtain ⟨W5, hW5⟩ : ∃ W5, W5 = wr.alloc (Obj.cells #[.int .i64 lp, .int .i64 lf, .int .i64 lo, .int .i64 li, .int .i64 lb] 59) := ⟨_, rfl⟩
          have hb5 : Below wr.heap.size wr W5 := by rw [hW5]; exact (Below.refl _ _).alloc (Nat.le_refl _) _
          have hn5 : Holds W5 wr.heap.size 59 [.int .i64 lp, .int .i64 lf, .int .i64 lo, .int .i64 li, .int .i64 lb] := by rw [hW5]; exact Holds.new wr 59 _
          have hbw5 : Below w.heap.size w W5 := hbw.trans (hb5.mono hbw.size)
          obtain ⟨pb, db, bb, hlt5, hpa5, hfa5⟩ : ∃ pb db bb, (pb < W5.heap.size ∧ db < W5.heap.size ∧ bb < W5.heap.size) ∧ (0 < FZ.length → a5 = some ⟨pb, 0, none⟩ ∧ a6 = some ⟨db, 0, none⟩ ∧ a7 = some ⟨bb, 0, none⟩) ∧ FilesAt W5 pb 0 db 0 bb 0 FZ := by
            have hz5 := hn5.lt
            by_cases h0 : 0 < FZ.length
            · obtain ⟨x5, y5⟩ := unhide HC5 h0
              obtain ⟨x6, y6⟩ := unhide HC6 h0
              obtain ⟨x7, y7⟩ := unhide HC7 h0
              have m5 : ∀ j u, (pathsTo FZ FZ.length)[j]? = some u → W5.cell? ⟨b5, j, none⟩ = some u := fun j u hu => by
                have := (unhide HO).cell (y5 j u hu) (fun i q _ hq => (unhide HNE i q hq).2.2.1)
                rw [hb5.cell (p := ⟨b5, j, none⟩) (World.block_lt_of_cell? wr _ this)]; exact this
              have m6 : ∀ j u, (dirsTo FZ FZ.length)[j]? = some u → W5.cell? ⟨b6, j, none⟩ = some u := fun j u hu => by
                have := (unhide HO).cell (y6 j u hu) (fun i q _ hq => (unhide HNE i q hq).2.2.2.1)
                rw [hb5.cell (p := ⟨b6, j, none⟩) (World.block_lt_of_cell? wr _ this)]; exact this
              have m7 : ∀ j u, (bytesTo FZ LS FZ.length)[j]? = some u → W5.cell? ⟨b7, j, none⟩ = some u := fun j u hu => by
                have := (unhide HO).cell (y7 j u hu) (fun i q _ hq => (unhide HNE i q hq).2.2.2.2.1)
                rw [hb5.cell (p := ⟨b7, j, none⟩) (World.block_lt_of_cell? wr _ this)]; exact this
              obtain ⟨f, hf⟩ : ∃ f, FZ[0]? = some f := ⟨_, List.getElem?_eq_getElem h0⟩
              obtain ⟨l, hl⟩ : ∃ l, LS[0]? = some l := ⟨_, List.getElem?_eq_getElem (by rw [(unhide HF).len]; exact h0)⟩
              refine ⟨b5, b6, b7, ⟨World.block_lt_of_cell? W5 _ (m5 0 _ (pathsTo_get hf)), World.block_lt_of_cell? W5 _ (m6 0 _ (dirsTo_get hf)), World.block_lt_of_cell? W5 _ (m7 0 _ (bytesTo_get hf hl))⟩, fun _ => ⟨x5, x6, x7⟩, ?_⟩
              exact filesAt_of (unhide HF) hbw5 (fun i f hf => m5 i _ (pathsTo_get hf)) (fun i f hf => m6 i _ (dirsTo_get hf)) (fun i f l hf hl => m7 i _ (bytesTo_get hf hl))
            · have hnil : FZ = [] := List.eq_nil_of_length_eq_zero (by omega)
              subst hnil
              exact ⟨0, 0, 0, ⟨by omega, by omega, by omega⟩, fun h => absurd h h0, ⟨fun i f h => by simp at h, fun i f h => by simp at h, fun i f h => by simp at h⟩⟩
          have HRB := hide (refBoot_any lp lf lo li lb a5 a6 a7 pb 0 k5 db 0 k6 bb 0 k7 FZ W5 hn (unhide HSUM) hpa5 hfa5 hlt5 (unhide HPS))
          have HB5 := hide hbw5
          have HW5 := hide hW5
          have z0 := hn5.cell (j := 0) rfl
          have z1 := hn5.cell (j := 1) rfl
          have z2 := hn5.cell (j := 2) rfl
          have z3 := hn5.cell (j := 3) rfl
          have z4 := hn5.cell (j := 4) rfl
          have hszo : BB ≤ wr.heap.size := by omega
          have hbb5 : BB ≤ W5.heap.size := by have := hb5.size; omega
          have HK5 := hide (show BootBad lp lf lo li lb FZ c ∧ kv = .pointer none ∨ BootGood lp lf lo li lb FZ ∧ c = 0 ∧ ∃ kp, kv = .pointer (some kp) ∧ KR W5 BB kp ((boot0 lp lf lo li lb).puts FZ).2 from by
            rcases unhide HKR with h | ⟨hg, hc, kp, hk, hr⟩
            · exact .inl h
            · refine .inr ⟨hg, hc, kp, hk, unhide HST _ _ _ _ _ hr (by have := hb5.size; omega) (fun k hk1 hk2 => ?_)⟩
              rw [hb5.block k (by omega)]
              exact (unhide HO).block k hk2 (fun i q _ hq => by have := (unhide HNE i q hq).2.1; omega))
          clear hbw hsc hb5 hn5 hbw5 hlt5 hpa5 hfa5 hW5 HO
          go_upto_region 23 with fail
          rw [← unhide HW5]
          clear s0 s1 s2 s3 s4
          go_wp2_with fail
          refine (unhide HRB).mono ?_
          rintro e w7 ⟨hb7, hor7⟩
          have HB7 := hide ((unhide HB5).trans (hb7.mono (unhide HB5).size))
          clear z0 z1 z2 z3 z4 HRB
          rcases hor7 with ⟨c7, hc7, rfl⟩ | ⟨hg7, rfl, k7', cs, g7, cap7, gp, pc, gn, cn, hbt⟩
          · rcases unhide HK5 with ⟨hcb, rfl⟩ | ⟨hg, _⟩
            case inr => exact (bootBad_not hc7 hg).elim
            obtain rfl := bootBad_uniq hc7 hcb
            have hcn := bootBad_ne hc7
            have hc0 : (c7 != 0) = true := by simpa using hcn
            have HCN := hide hcn
            clear hcn hc7 hcb hb7
            unfold noKernel
            go_wp2_with (go_at_call 17; refine (num_boot _ _).mono ?_; rintro e w8 ⟨rfl, rfl⟩)
            exact bodyPost_ret (v := .tuple #[.pointer (some ⟨w8.heap.size, 0, none⟩), .int .i64 c7, .bool true]) (by simp [results, Tryz.results6, go_sem]) rfl ⟨(unhide HB7).alloc (unhide HB7).size _, .inl ⟨c7, _, unhide HCN, rfl⟩⟩
          · rcases unhide HK5 with ⟨hcb, rfl⟩ | ⟨hg, rfl, kp, rfl, hkr⟩
            case inl => exact (bootBad_not hcb hg7).elim
            unfold kernelAt
            go_wp2_with (go_at_call 17; refine (num_boot _ _).mono ?_; rintro e w8 ⟨rfl, rfl⟩)
            have hs7 := (unhide HB7).size
            have hs5 := (unhide HB5).size
            have hal : Below w8.heap.size w8 (w8.alloc (Obj.cells (worldRow (.pointer (some kp)) (.pointer (some ⟨W5.heap.size + 1, 0, none⟩))).toArray 36)) := (Below.refl _ _).alloc (Nat.le_refl _) _
            exact bodyPost_ret (v := .tuple #[.pointer (some ⟨w8.heap.size, 0, none⟩), .int .i64 0, .bool true]) (by simp [results, Tryz.results6, go_sem]) rfl ⟨(unhide HB7).alloc hs7 _, .inr ⟨hg7, w8.heap.size, BB, kp, W5, k7', cs, g7, cap7, gp, pc, gn, cn, rfl, hs7, Holds.new w8 36 (worldRow (.pointer (some kp)) (.pointer (some ⟨W5.heap.size + 1, 0, none⟩))),
              unhide HST _ _ _ _ _ hkr (by have h1 := hb7.size; have h2 := hal.size; exact Nat.le_trans h1 h2) (fun k hk1 hk2 => by have h1 := hb7.size; exact (hal.block k (by omega)).trans (hb7.block k hk2)), hs5, hbt.below hal, hkr, hb7.trans (hal.mono hb7.size), ⟨hbt.rep.1.lt, (hbt.procs.lt gp rfl).2, (hbt.pages.lt gn rfl).2⟩, hwbb, hbb5⟩⟩
end Go.Proofs.YtkokiefclmbgaaaGreatDoor
