import Derived.Test.YtkokiefclmbgaaaGreatDoorBootsProofG19
import Derived.Test.YtkokiefclmbgaaaGreatDoorBootsProofG09
import Derived.Test.YtkokiefclmbgaaaGreatDoorBootsProofG14
import Derived.Test.YtkokiefclmbgaaaGreatDoorBootsProofG10
import Derived.Test.YtkokiefclmbgaaaGreatDoorBootsProofG20
import Derived.Deep.RegionHeld3
/- Load: both answers parted alike; the document's answer of no bytes. -/
namespace Go.Proofs.YtkokiefclmbgaaaGreatDoor
open Go.RowKit
set_option linter.unusedVariables false
set_option linter.unusedSimpArgs false

/-- The pages that both answers tell. -/
def outPgs (B : List Int) : List Pg := refPgs B (fileSegs B) 256
/-- The error that both answers tell. -/
def Bad (B : List Int) (c : Int) : Prop :=
  ¬ HdrOk B ∧ c = 2 ∨ HdrOk B ∧ ¬ AllOk B ∧ c = 3 ∨ HdrOk B ∧ AllOk B ∧ ((∃ p, p < 256 ∧ 1 < (fileSegs B).countP (fun s => cov s p)) ∧ c = 4 ∨
    (∀ p, p < 256 → (fileSegs B).countP (fun s => cov s p) ≤ 1) ∧ ¬ refEnt (numAt B 24 8) (outPgs B) ∧ c = 5)
def Good (B : List Int) : Prop := HdrOk B ∧ AllOk B ∧ (∀ p, p < 256 → (fileSegs B).countP (fun s => cov s p) ≤ 1) ∧ refEnt (numAt B 24 8) (outPgs B)
theorem Bad.uniq {B : List Int} {c d : Int} (h : Bad B c) (k : Bad B d) : c = d := by
  have no : (∃ p, p < 256 ∧ 1 < (fileSegs B).countP (fun s => cov s p)) → (∀ p, p < 256 → (fileSegs B).countP (fun s => cov s p) ≤ 1) → False := fun ⟨p, h1, h2⟩ h3 => by have := h3 p h1; omega
  rcases h with ⟨a, rfl⟩ | ⟨a, b, rfl⟩ | ⟨a, b, (⟨x, rfl⟩ | ⟨x, y, rfl⟩)⟩ <;> rcases k with ⟨a', rfl⟩ | ⟨a', b', rfl⟩ | ⟨a', b', (⟨x', rfl⟩ | ⟨x', y', rfl⟩)⟩ <;> first | rfl | exact absurd a' a | exact absurd a a' | exact absurd b' b | exact absurd b b' | exact (no x x').elim | exact (no x' x).elim
theorem Bad.notGood {B : List Int} {c : Int} (h : Bad B c) (k : Good B) : False := by
  obtain ⟨k1, k2, k3, k4⟩ := k
  rcases h with ⟨a, rfl⟩ | ⟨a, b, rfl⟩ | ⟨a, b, (⟨⟨p, h1, h2⟩, rfl⟩ | ⟨x, y, rfl⟩)⟩
  · exact a k1
  · exact b k2
  · have := k3 p h1; omega
  · exact y k4
theorem Bad.code {B : List Int} {c : Int} (h : Bad B c) : 2 ≤ c ∧ c ≤ 5 := by
  rcases h with ⟨a, rfl⟩ | ⟨a, b, rfl⟩ | ⟨a, b, (⟨x, rfl⟩ | ⟨x, y, rfl⟩)⟩ <;> decide
theorem exe_split {B : List Int} (hB : IsBytes B) {w w' : World} {e : Ending} (h : LoadPost B w e w') :
    (∃ c, Bad B c ∧ e = errPlan c) ∨ (Good B ∧ ∃ g gc, e = .returned (.tuple #[.agg #[.int .u64 (numAt B 24 8), .slice (some ⟨g, 0, none⟩) (outPgs B).length gc], .nilIface]) ∧ w'.ownsRow w.heap.size 87 258 (.slice (some ⟨g, 0, none⟩) (outPgs B).length gc) (outPgs B).length (apiRow (outPgs B))) := by
  obtain ⟨h, _⟩ := h
  rcases h with ⟨a, h⟩ | ⟨a, b, h⟩ | ⟨a, b, ss, hp, hs, h⟩
  · exact .inl ⟨2, .inl ⟨a, rfl⟩, h⟩
  · exact .inl ⟨3, .inr (.inl ⟨a, b, rfl⟩), h⟩
  have hf := fits_all hB b hp
  have hpm := perms_all b hp
  have hov := ov_same (B := B) (fs := fileSegs B) hp hf hs
  rcases h with ⟨ho, h⟩ | ⟨ho, h⟩
  · exact .inl ⟨4, .inr (.inr ⟨a, b, .inl ⟨hov.1 ho, rfl⟩⟩), h⟩
  have hno : ∀ p, p < 256 → (fileSegs B).countP (fun s => cov s p) ≤ 1 := fun p hp2 => by
    apply Classical.byContradiction
    intro hx
    obtain ⟨i, hi, hh⟩ := hov.2 ⟨p, hp2, by omega⟩
    exact ho i hi hh
  have hall : outPgs B = allPgs B ss := refPgs_all hp hf ho
  have hent : entOk (numAt B 24 8) ss ↔ refEnt (numAt B 24 8) (outPgs B) := by rw [hall]; exact entry_same hf hpm _ (numAt_8 hB 24 8 (by omega)).1
  rcases h with ⟨he, h⟩ | ⟨he, g, gc, h1, h2⟩
  · exact .inl ⟨5, .inr (.inr ⟨a, b, .inr ⟨hno, fun x => he (hent.2 x), rfl⟩⟩), h⟩
  · rw [← hall] at h1 h2
    exact .inr ⟨⟨a, b, hno, hent.1 he⟩, g, gc, h1, h2⟩
theorem ref_split {B : List Int} {w w' : World} {e : Ending} (h : RefLoadPost B w e w') :
    (∃ c, Bad B c ∧ e = refErr c) ∨ (Good B ∧ ∃ g gc, e = .returned (.tuple #[.slice (some ⟨g, 0, none⟩) (outPgs B).length gc, .int .u64 (numAt B 24 8), .int .i64 0]) ∧ w'.ownsRow w.heap.size 155 258 (.slice (some ⟨g, 0, none⟩) (outPgs B).length gc) (outPgs B).length (refRow (outPgs B))) := by
  obtain ⟨h, _⟩ := h
  rcases h with ⟨a, h⟩ | ⟨a, b, h⟩ | ⟨a, b, (⟨x, h⟩ | ⟨x, (⟨y, h⟩ | ⟨y, g, gc, h1, h2⟩)⟩)⟩
  · exact .inl ⟨2, .inl ⟨a, rfl⟩, h⟩
  · exact .inl ⟨3, .inr (.inl ⟨a, b, rfl⟩), h⟩
  · exact .inl ⟨4, .inr (.inr ⟨a, b, .inl ⟨x, rfl⟩⟩), h⟩
  · exact .inl ⟨5, .inr (.inr ⟨a, b, .inr ⟨x, y, rfl⟩⟩), h⟩
  · exact .inr ⟨⟨a, b, x, y⟩, g, gc, h1, h2⟩
theorem bad_or_good (B : List Int) : (∃ c, Bad B c) ∨ Good B := by
  by_cases a : HdrOk B
  · by_cases b : AllOk B
    · by_cases x : ∃ p, p < 256 ∧ 1 < (fileSegs B).countP (fun s => cov s p)
      · exact .inl ⟨4, .inr (.inr ⟨a, b, .inl ⟨x, rfl⟩⟩)⟩
      · have x' : ∀ p, p < 256 → (fileSegs B).countP (fun s => cov s p) ≤ 1 := fun p hp => by
          apply Classical.byContradiction
          intro hn
          exact x ⟨p, hp, by omega⟩
        by_cases y : refEnt (numAt B 24 8) (outPgs B)
        · exact .inr ⟨a, b, x', y⟩
        · exact .inl ⟨5, .inr (.inr ⟨a, b, .inr ⟨x', y, rfl⟩⟩)⟩
    · exact .inl ⟨3, .inr (.inl ⟨a, b, rfl⟩)⟩
  · exact .inl ⟨2, .inl ⟨a, rfl⟩⟩
theorem outPgs_ok {B : List Int} (h : Good B) : ∀ p ∈ outPgs B, 0 ≤ p.perm ∧ p.perm ≤ 255 ∧ p.bytes.length = 256 := by
  intro p hp
  refine ⟨?_, ?_, refPgs_bytes _ _ _ p hp⟩ <;>
  · obtain ⟨n, _, hq⟩ := List.mem_flatMap.1 hp
    obtain ⟨s, hs, rfl⟩ := List.mem_map.1 hq
    have := perms_all h.2.1 (List.Perm.refl _) s (List.mem_filter.1 hs).1
    show _ ≤ _
    simp only
    omega
theorem apiRow_get : ∀ (PS : List Pg) (j i : Nat) (q : Pg), (∀ p ∈ PS, p.bytes.length = 256) → PS[j]? = some q → i < 258 → ∀ v, (pageRow q.num q.perm q.bytes)[i]? = some v → (apiRow PS)[j * 258 + i]? = some v
  | [], j, i, q, _, h, _, v, _ => by simp at h
  | a :: r, 0, i, q, hb, h, hi, v, hv => by
    have e : a = q := by simpa using h
    subst e
    rw [apiRow, List.flatMap_cons, List.getElem?_append_left (by rw [pageRow_length, hb _ List.mem_cons_self]; omega), Nat.zero_mul, Nat.zero_add]; exact hv
  | a :: r, j + 1, i, q, hb, h, hi, v, hv => by
    have ih := apiRow_get r j i q (fun p hp => hb p (List.mem_cons_of_mem _ hp)) (by simpa using h) hi v hv
    have hl := hb a List.mem_cons_self
    have e : (j + 1) * 258 + i - (256 + 2) = j * 258 + i := by omega
    have e2 : apiRow (a :: r) = pageRow a.num a.perm a.bytes ++ apiRow r := by rw [apiRow, List.flatMap_cons]; rfl
    rw [e2, List.getElem?_append_right (by rw [pageRow_length, hl]; omega), pageRow_length, hl, e]
    exact ih
theorem api_at {W : World} {base g gc : Nat} {PS : List Pg} (hb : ∀ p ∈ PS, p.bytes.length = 256) (h : W.ownsRow base 87 258 (.slice (some ⟨g, 0, none⟩) PS.length gc) PS.length (apiRow PS)) : ApiAt W g PS := by
  intro i p hp
  have hi := (List.getElem?_eq_some_iff.1 hp).1
  have hpb := hb p (List.mem_of_getElem? hp)
  have c : ∀ j v, j < 258 → (pageRow p.num p.perm p.bytes)[j]? = some v → W.cell? ⟨g, i * 258 + j, none⟩ = some v := fun j v hj hv => by
    (rw [h.cellAt (i * 258 + j) (by omega)]; exact apiRow_get PS i j p hb hp hj v hv)
  have c0 := c 0 _ (by omega) rfl
  rw [Nat.add_zero] at c0
  have c1 := c 1 _ (by omega) rfl
  refine ⟨c0, c1, fun j v hv => ?_⟩
  have hj := (List.getElem?_eq_some_iff.1 hv).1
  rw [bytesRow_length, hpb] at hj
  have e : i * 258 + 2 + j = i * 258 + (j + 2) := by omega
  have h9 := c (j + 2) v (by omega) hv
  rw [← e] at h9
  exact h9
theorem ref_at {W : World} {base g gc : Nat} {PS : List Pg} (hb : ∀ p ∈ PS, p.bytes.length = 256) (h : W.ownsRow base 155 258 (.slice (some ⟨g, 0, none⟩) PS.length gc) PS.length (refRow PS)) : RefAt W g PS := by
  intro i p hp
  have hi := (List.getElem?_eq_some_iff.1 hp).1
  have hpb := hb p (List.mem_of_getElem? hp)
  have c : ∀ j v, j < 258 → (refPage p.num p.perm p.bytes)[j]? = some v → W.cell? ⟨g, i * 258 + j, none⟩ = some v := fun j v hj hv => by
    (rw [h.cellAt (i * 258 + j) (by omega)]; exact refRow_get PS i j p hb hp hj v hv)
  have c0 := c 0 _ (by omega) rfl
  rw [Nat.add_zero] at c0
  have c1 := c 1 _ (by omega) rfl
  refine ⟨c0, c1, fun j v hv => ?_⟩
  have hj := (List.getElem?_eq_some_iff.1 hv).1
  rw [bytesRow_length, hpb] at hj
  have e : i * 258 + 2 + j = i * 258 + (j + 2) := by omega
  have h9 := c (j + 2) v (by omega) hv
  rw [← e] at h9
  exact h9
theorem roomy_view {W : World} {g : Nat} {t : TypeId} {B : List Int} (h : Holds W g t (bytesRow (B ++ [71, 72]))) : BView W g 0 B := fun j hj => by
  rw [Nat.zero_add]
  refine h.cell ?_
  rw [bytesRow_get _ _ (by simp; omega)]
  simp [List.getD, List.getElem?_append_left hj]

set_option maxHeartbeats 1000000 in
theorem refHeader_none (a : Option Addr) (cap : Nat) (w : World) : Calls Tryz.prog 78 #[.slice a 0 cap] w fun e w' => e = .returned (.tuple #[.int .i64 0, .bool false]) ∧ w' = w := by
  go_enter Tryz.func78, Tryz.ntmps78
  go_wp2
  go_ret2
  exact ⟨rfl, rfl⟩
set_option maxRecDepth 100000 in
set_option maxHeartbeats 1000000 in
theorem load_ref_none (a : Option Addr) (cap : Nat) (w : World) : Calls Tryz.prog 49 #[.slice a 0 cap] w fun e w' => RefLoadPost [] w e w' := by
  have HH := hide (refHeader_none a cap w)
  go_enter Tryz.func49, Tryz.ntmps49
  go_wp2_with fail
  refine (unhide HH).mono ?_
  rintro e w1 ⟨rfl, hw1⟩
  subst hw1
  go_wp2
  exact bodyPost_ret (v := .tuple #[.slice none 0 0, .int .u64 0, .int .i64 2]) (by simp [results, Tryz.results49, go_sem]) rfl ⟨.inl ⟨fun h => by have := h.1; simp at this, rfl⟩, Below.refl _ _⟩
end Go.Proofs.YtkokiefclmbgaaaGreatDoor

/- tinyosref: exec. -/
namespace Go.Proofs.YtkokiefclmbgaaaGreatDoor
open Go.RowKit
set_option linter.unusedVariables false
set_option linter.unusedSimpArgs false

/-- Load of a file's bytes as they lie. -/
theorem load_file {w : World} {v : Value} {c : List Int} (h : FileAt w v c) (hB : IsBytes c) (hl : c.length ≤ 400000) : Calls Tryz.prog 49 #[v] w fun e w' => RefLoadPost c w e w' := by
  rcases h with ⟨rfl, rfl⟩ | ⟨_, q, rfl, hh⟩
  · exact load_ref_none none 0 w
  · refine load_ref q 0 c.length c w hB (Nat.le_refl _) (by omega) (fun j hj => ?_) hh.lt
    rw [Nat.zero_add]; exact hh.bytes j hj
theorem own_setCells {base size n g cap : Nat} {e : TypeId} : ∀ (vs : List Value) (o : Nat) (w : World) (xs : List Value), w.ownsRow base e size (.slice (some ⟨g, 0, none⟩) n cap) n xs → o + vs.length ≤ xs.length →
    (w.setCells g o vs).ownsRow base e size (.slice (some ⟨g, 0, none⟩) n cap) n (splice xs o vs) ∧ w.grownBy (w.setCells g o vs) (some g)
  | [], o, w, xs, h, _ => by rw [splice_nil]; exact ⟨h, World.grownBy.refl _ _⟩
  | v :: r, o, w, xs, h, hl => by
    have hl' : o + (r.length + 1) ≤ xs.length := hl
    obtain ⟨h1, h2⟩ := h.stored o v
    obtain ⟨h3, h4⟩ := own_setCells r (o + 1) _ _ h1 (by rw [List.length_set]; omega)
    have e : splice (xs.set o v) (o + 1) r = splice xs o (v :: r) := by
      have a := splice_set xs o [v] 0 v rfl (by simp; omega)
      simp only [List.take_zero, splice_nil, Nat.add_zero, Nat.zero_add] at a
      rw [a, show (List.take 1 [v]) = [v] from rfl]
      exact splice_splice xs o [v] r (by simp; omega)
    rw [e] at h3
    exact ⟨h3, grown_trans h2 h4⟩
def regs0 : List Value := List.replicate 16 (.int .u64 0)
/-- The processes' row behind an exec of the i-th. -/
def procExec (PR : List Value) (i : Nat) (pv : Value) (E sp : Int) : List Value :=
  (splice ((PR.set (i * 31 + 22) pv).set (i * 31 + 5) (.int .u64 E)) (i * 31 + 6) regs0).set (i * 31 + 21) (.int .u64 sp)
/-- Of each process how many pages it has. -/
def PLens (PR : List Value) (PL : List Nat) : Prop := PR.length = PL.length * 31 ∧ ∀ (j n : Nat), PL[j]? = some n → ∃ b d, PR[j * 31 + 22]? = some (.slice b n d)
/-- The file that is executed. -/
def fileOf (k : RK) (cs : List (List Int)) (s : ByteArray) : List Int := cs.getD (placeOf k.inos (walkOf k.inos s).n).toNat []
/-- The error of an exec. -/
def ExecErr (k : RK) (cs : List (List Int)) (PL : List Nat) (i : Nat) (s : ByteArray) (ss : List ByteArray) (c : Int) : Prop :=
  (walkOf k.inos s).e ≠ 0 ∧ c = (walkOf k.inos s).e ∨ (walkOf k.inos s).e = 0 ∧ ((walkOf k.inos s).n = 0 ∧ c = 9 ∨ (walkOf k.inos s).n ≠ 0 ∧ (dirOf k.inos (walkOf k.inos s).n = true ∧ c = 11 ∨
    dirOf k.inos (walkOf k.inos s).n = false ∧ (Bad (fileOf k cs s) c ∨ Good (fileOf k cs s) ∧ (okArgs ss = false ∧ c = 6 ∨
      okArgs ss = true ∧ k.lf < (PL.sum : Int) - (PL.getD i 0 : Int) + ((outPgs (fileOf k cs s)).length : Int) + 2 ∧ c = 7))))
def ExecOk (k : RK) (cs : List (List Int)) (PL : List Nat) (i : Nat) (s : ByteArray) (ss : List ByteArray) : Prop :=
  (walkOf k.inos s).e = 0 ∧ (walkOf k.inos s).n ≠ 0 ∧ dirOf k.inos (walkOf k.inos s).n = false ∧ Good (fileOf k cs s) ∧ okArgs ss = true ∧ (PL.sum : Int) - (PL.getD i 0 : Int) + ((outPgs (fileOf k cs s)).length : Int) + 2 ≤ k.lf
def ExecPost (base gp pn pc : Nat) (k : RK) (cs : List (List Int)) (PL : List Nat) (PR : List Value) (i : Nat) (s : ByteArray) (ss : List ByteArray) (w : World) (e : Ending) (w' : World) : Prop :=
  (∃ c, ExecErr k cs PL i s ss c ∧ e = .returned (.tuple #[.int .i64 0, .int .i64 c]) ∧ Below w.heap.size w w') ∨
  (ExecOk k cs PL i s ss ∧ e = .returned (.tuple #[.int .i64 0, .int .i64 0]) ∧ w.grownBy w' (some gp) ∧ ∃ gn cn, w'.ownsRow w.heap.size 155 258 (.slice (some ⟨gn, 0, none⟩) ((outPgs (fileOf k cs s)).length + 2) cn) ((outPgs (fileOf k cs s)).length + 2) (refRow (outPgs (fileOf k cs s)) ++ refPagesTo (stackRoom ss) 2) ∧
    w'.ownsRow base 83 31 (.slice (some ⟨gp, 0, none⟩) pn pc) pn (procExec PR i (.slice (some ⟨gn, 0, none⟩) ((outPgs (fileOf k cs s)).length + 2) cn) (numAt (fileOf k cs s) 24 8) (65024 + (spOff ss : Int))))

theorem pages_at {w : World} {base gp pn pc : Nat} {v : Value} {PR : List Value} {PL : List Nat} (hp : PLens PR PL) (hv : v = .slice (some ⟨gp, 0, none⟩) pn pc) (h : w.ownsRow base 83 31 (.slice (some ⟨gp, 0, none⟩) pn pc) pn PR) : PagesAt w v PL := by
  have hl : pn = PL.length := by have h1 := hp.1; have h2 := h.1; omega
  refine ⟨some ⟨gp, 0, none⟩, pc, by rw [hv, hl], fun i n hn => ?_⟩
  obtain ⟨b, d, hb⟩ := hp.2 i n hn
  have hi := (List.getElem?_eq_some_iff.1 hn).1
  exact ⟨gp, b, d, rfl, (h.lt gp rfl).2, by rw [h.cellAt _ (by omega)]; exact hb⟩

theorem row_there {w : World} {base e size n g cap : Nat} {xs : List Value} (h : w.ownsRow base e size (.slice (some ⟨g, 0, none⟩) n cap) n xs) (j : Nat) (hj : j < n * size) : ∃ v, w.cell? ⟨g, j, none⟩ = some v ∧ w.frozen? ⟨g, j, none⟩ = false := by
  refine ⟨xs[j]'(by rw [h.1]; exact hj), ?_, h.frozenAt j⟩
  rw [h.cellAt j hj]; exact List.getElem?_eq_getElem _
theorem row_range {w : World} {base e size n g cap : Nat} {xs : List Value} (h : w.ownsRow base e size (.slice (some ⟨g, 0, none⟩) n cap) n xs) (o m : Nat) (hj : o + m ≤ n * size) : w.there g o m := fun j hm => by
  obtain ⟨v, h1, h2⟩ := row_there h (o + j) (by omega)
  exact ⟨by rw [h1]; rfl, h2⟩
theorem refPagesTo_one (R : List Int) : ∀ u ∈ refPagesTo R 2, u.oneCell' = true := by
  intro u hu
  have hu' : u ∈ refPage 254 6 (R.take 256) ++ refPage 255 6 (R.drop 256) := hu
  rcases List.mem_append.1 hu' with h | h
  · exact refPage_one _ _ _ u h
  · exact refPage_one _ _ _ u h
theorem regsSize : (Tryz.prog.info? 75).map (·.size) = some regs0.toArray.size := by kernel_rfl
theorem regs0_all : regs0.toArray.all (·.oneCell') = true := all_oneCell_toArray (fun v hv => by obtain rfl := List.eq_of_mem_replicate hv; rfl)
theorem mem_le_sum {l : List Nat} {n : Nat} (h : n ∈ l) : n ≤ l.sum := by
  induction l with
  | nil => simp at h
  | cons a r ih =>
    rw [List.sum_cons]
    rcases List.mem_cons.1 h with rfl | h
    · omega
    · have := ih h; omega

set_option maxRecDepth 100000 in
set_option maxHeartbeats 4000000 in
theorem refExec_any (base kb g cap gp pn pc i : Nat) (k : RK) (cs : List (List Int)) (PL : List Nat) (PR : List Value) (on oc : Nat) (oa : Option Addr) (s : ByteArray) (a : Option Addr) (ab aoff acap : Nat) (ss : List ByteArray) (w : World)
    (h : RepK w base kb g cap k) (hc : ContAt w k.inos cs) (hi : InvK k) (hcb : ∀ c ∈ cs, IsBytes c ∧ c.length ≤ 400000) (hpv : k.pv = .slice (some ⟨gp, 0, none⟩) pn pc) (hpr : w.ownsRow base 83 31 (.slice (some ⟨gp, 0, none⟩) pn pc) pn PR) (hPL : PLens PR PL) (hin : i < pn)
    (hov : k.ov = .slice oa on oc) (hkb : kb < base) (hbs : base ≤ w.heap.size) (hn : k.inos.length ≤ 10000) (hs : s.size ≤ maxLen) (hsum : (cs.map List.length).sum ≤ 1000000) (hpn : pn ≤ 1000) (hps : PL.sum ≤ 1000000)
    (hsn : ss.length ≤ 1000) (ha : 0 < ss.length → a = some ⟨ab, aoff, none⟩) (hab : ab < w.heap.size) (hac : ∀ j, j < ss.length → w.cell? ⟨ab, aoff + j, none⟩ = some (.string (ss.getD j ByteArray.empty))) (hss : ∀ x ∈ ss, x.size ≤ maxLen) :
    Calls Tryz.prog 30 #[.pointer (some ⟨kb, 0, none⟩), .pointer (some ⟨gp, i * 31, none⟩), .string s, .slice a ss.length acap] w fun e w' => ExecPost base gp pn pc k cs PL PR i s ss w e w' := by
  have hgb := h.2.lt g rfl
  have hgp := hpr.lt gp rfl
  have hkl := h.1.lt
  have HW := hide (refWalk_any kb g cap k.inos s w h.at hkl hgb.2 (by omega) hs)
  have H := hide h
  have HC := hide hc
  have HI := hide hi
  have HCB := hide hcb
  have HPR := hide hpr
  have HPL := hide hPL
  have HA := hide ha
  have HAC := hide hac
  have HSS := hide hss
  obtain ⟨r, hr⟩ : ∃ r, r = walkOf k.inos s := ⟨_, rfl⟩
  rw [← hr] at HW
  have HR := hide hr
  clear h hc hi hcb hpr hPL ha hac hss hs hr
  obtain ⟨dir, name, n, e⟩ := r
  unfold walkRet at HW
  go_enter Tryz.func30, Tryz.ntmps30
  go_wp2_with fail
  refine (unhide HW).mono ?_
  rintro e' w1 ⟨rfl, hb1⟩
  have HB1 := hide hb1
  have hs1 := hb1.size
  clear hb1 HW
  simp only
  by_cases t1 : e = 0
  case neg =>
    have g1 : (e != 0) = true := by simpa using t1
    have HX := hide (show ExecErr k cs PL i s ss e from .inl (by rw [← unhide HR]; exact ⟨t1, rfl⟩))
    clear t1
    go_wp2
    go_ret2
    exact .inl ⟨e, unhide HX, rfl, unhide HB1⟩
  have g1 : (e != 0) = false := by simpa using t1
  have HE := hide (show (walkOf k.inos s).e = 0 from by rw [← unhide HR]; exact t1)
  clear t1
  by_cases t2 : n = 0
  · have g2 : (n == 0) = true := by simpa using t2
    have HX := hide (show ExecErr k cs PL i s ss 9 from .inr ⟨unhide HE, .inl ⟨by rw [← unhide HR]; exact t2, rfl⟩⟩)
    clear t2
    go_wp2
    go_ret2
    exact .inl ⟨9, unhide HX, rfl, unhide HB1⟩
  have g2 : (n == 0) = false := by simpa using t2
  have HN0 := hide (show (walkOf k.inos s).n ≠ 0 from by rw [← unhide HR]; exact t2)
  have hrn : (walkOf k.inos s).n = n := by rw [← unhide HR]
  obtain ⟨x, hx⟩ := find_id (walk_n (unhide HI) s (unhide HE) (unhide HN0))
  rw [hrn] at hx
  obtain ⟨K, hK, hKx⟩ := place_of_mem hx
  have hKl := (List.getElem?_eq_some_iff.1 hKx).1
  have hdf : dirOf k.inos n = x.dir := by unfold dirOf; rw [hx]
  obtain ⟨c0, hc0⟩ : ∃ c, cs[K]? = some c := ⟨_, List.getElem?_eq_getElem (by rw [(unhide HC).1]; exact hKl)⟩
  have hfo : fileOf k cs s = c0 := by rw [fileOf, hrn, hK, Int.toNat_natCast, List.getD, hc0]; rfl
  have HR1 := hide ((unhide H).below (unhide HB1))
  have c3 : w1.cell? ⟨g, K * 5 + 3, none⟩ = some (.bool x.dir) := (unhide HR1).at.cell hKx (i := 3) (by omega) rfl
  have c4 : w1.cell? ⟨g, K * 5 + 4, none⟩ = some x.bytes := (unhide HR1).at.cell hKx (i := 4) (by omega) rfl
  have c7 : w1.cell? ⟨kb, 7, none⟩ = some (.slice (some ⟨g, 0, none⟩) k.inos.length cap) := (unhide HR1).1.cell rfl
  have HIN := hide (refInode_any kb g cap k.inos n w1 (unhide HR1).at (by omega))
  rw [hK] at HIN
  have hK0 : (0 : Int) ≤ (K : Int) := by omega
  have hK1 : (K : Int) < (k.inos.length : Int) := by omega
  have HFO := hide hfo
  have HRN := hide hrn
  have hfa := ((unhide HC).frame (FrameK.ofBelow (a := kb) (b := g) (unhide HB1)) (unhide H).apart.1 (unhide H).apart.2).2 K x c0 hKx hc0
  have hcb := unhide HCB c0 (List.mem_of_getElem? hc0)
  have HLD := hide (load_file hfa hcb.1 hcb.2)
  obtain ⟨xa, xd, hxb⟩ := hfa.len
  rw [hxb] at c4 HLD
  clear t2 hx hK hKx hc0 hfo hrn hfa hcb hxb
  by_cases td : x.dir = true
  · rw [td] at c3
    have HX := hide (show ExecErr k cs PL i s ss 11 from .inr ⟨unhide HE, .inr ⟨unhide HN0, .inl ⟨by rw [unhide HRN, hdf]; exact td, rfl⟩⟩⟩)
    clear hdf td
    go_wp2_with fail
    refine (unhide HIN).mono ?_
    rintro e' w3 ⟨rfl, hw3⟩
    subst hw3
    go_wp2
    go_ret2
    exact .inl ⟨11, unhide HX, rfl, unhide HB1⟩
  have td' : x.dir = false := by simpa using td
  rw [td'] at c3
  have HND := hide (show dirOf k.inos (walkOf k.inos s).n = false from by rw [unhide HRN, hdf]; exact td')
  clear td td' hdf
  go_wp2_with fail
  refine (unhide HIN).mono ?_
  rintro e' w3 ⟨rfl, hw3⟩
  subst hw3
  go_wp2_with fail
  refine (unhide HLD).mono ?_
  intro e' w4 hp4
  have hb4 := hp4.2
  have hs4 := hb4.size
  have HB4 := hide ((unhide HB1).trans (hb4.mono (by omega)))
  rcases ref_split hp4 with ⟨c, hbad, rfl⟩ | ⟨hgood, gq, cq, rfl, how4⟩
  · have hcode := hbad.code
    have g3 : (c != 0) = true := by simp; omega
    have HX := hide (show ExecErr k cs PL i s ss c from .inr ⟨unhide HE, .inr ⟨unhide HN0, .inr ⟨unhide HND, .inl (by rw [unhide HFO]; exact hbad)⟩⟩⟩)
    unfold refErr
    clear hp4 hb4 hbad hcode
    go_wp2
    go_ret2
    exact .inl ⟨c, unhide HX, rfl, unhide HB4⟩
  have HGD := hide (show Good (fileOf k cs s) from by rw [unhide HFO]; exact hgood)
  have HOW4 := hide how4
  have hgq := how4.lt gq rfl
  have hnl : (outPgs c0).length ≤ 256 := refPgs_len hgood.2.2.1
  obtain ⟨n0, hn0⟩ : ∃ n0, n0 = (outPgs c0).length := ⟨_, rfl⟩
  rw [← hn0] at HOW4 hnl
  rw [← hn0]
  have HNN := hide hn0
  obtain ⟨E, hE⟩ : ∃ E, E = numAt c0 24 8 := ⟨_, rfl⟩
  rw [← hE]
  have HEE := hide hE
  clear hp4 hgood how4 hn0 hE
  have hac4 : ∀ j, j < ss.length → w4.cell? ⟨ab, aoff + j, none⟩ = some (.string (ss.getD j ByteArray.empty)) := fun j hj => by rw [(unhide HB4).cell (p := ⟨ab, aoff + j, none⟩) hab]; exact unhide HAC j hj
  by_cases hok : okArgs ss = true
  case neg =>
    have hok' : okArgs ss = false := by simpa using hok
    have HST := hide (stack_ref_bad a ab aoff acap ss w4 hsn (unhide HA) hac4 (unhide HSS) hok')
    have HX := hide (show ExecErr k cs PL i s ss 6 from .inr ⟨unhide HE, .inr ⟨unhide HN0, .inr ⟨unhide HND, .inr ⟨unhide HGD, .inl ⟨hok', rfl⟩⟩⟩⟩⟩)
    clear hok hok' hac4
    go_wp2_with fail
    refine (unhide HST).mono ?_
    rintro e' w5 ⟨rfl, hw5⟩
    subst hw5
    go_wp2
    go_ret2
    exact .inl ⟨6, unhide HX, rfl, unhide HB4⟩
  have HST := hide (stack_ref a ab aoff acap ss w4 hsn (unhide HA) (by have := (unhide HB4).size; omega) hac4 hok)
  have HOK := hide hok
  clear hok hac4
  go_wp2_with fail
  refine (unhide HST).mono ?_
  rintro e' w5 ⟨g5, c5, rfl, how5, hb5⟩
  have hs5 := hb5.size
  have HB5 := hide ((unhide HB4).trans (hb5.mono (unhide HB4).size))
  have HOW5 := hide how5
  have HOW4' := hide (own_below (unhide HOW4) (hide hb5))
  have hg5 := how5.lt g5 rfl
  have HR5 := hide ((unhide H).below (unhide HB5))
  have HPR5 := hide (own_below (unhide HPR) HB5)
  have hPA : PagesAt w5 k.pv PL := pages_at (unhide HPL) hpv (unhide HPR5) 
  have HUS := hide (refUsed_any base kb g cap k PL (cs.map List.length) oa on oc w5 (unhide HR5) hPA hov (unhide HC).lens (by omega) (by have := (unhide HPL).1; have := (unhide HPR).1; omega) (by omega) (by omega))
  clear how5 hb5 hPA HST HOW4 HLD HIN
  go_wp2_with fail
  refine (unhide HUS).mono ?_
  rintro e' w6 ⟨rfl, hb6⟩
  simp only [limRow]
  have hs6 := hb6.size
  obtain ⟨US, hUS⟩ : ∃ US, US = (cs.map List.length).sum := ⟨_, rfl⟩
  rw [← hUS]
  obtain ⟨PS, hPS⟩ : ∃ PS, PS = PL.sum := ⟨_, rfl⟩
  rw [← hPS]
  obtain ⟨W, hW⟩ : ∃ W, W = w6.alloc (Obj.cells #[.int .i64 (PL.length : Int), .int .i64 (PS : Int), .int .i64 (on : Int), .int .i64 (k.inos.length : Int), .int .i64 (US : Int)] 59) := ⟨_, rfl⟩
  have xb : W.cell? ⟨w6.heap.size, 1, none⟩ = some (.int .i64 (PS : Int)) := by rw [hW]; exact (Holds.new w6 59 [.int .i64 (PL.length : Int), .int .i64 (PS : Int), .int .i64 (on : Int), .int .i64 (k.inos.length : Int), .int .i64 (US : Int)]).cell rfl
  have hbW : Below w5.heap.size w5 W := hb6.trans (by rw [hW]; exact (Below.refl _ _).alloc hs6 _)
  have hWs := hbW.size
  have HBW := hide ((unhide HB5).trans (hbW.mono (unhide HB5).size))
  have HRW := hide ((unhide HR5).below hbW)
  have HPRW := hide (own_below (unhide HPR5) (hide hbW))
  have HOWq := hide (own_below (unhide HOW4') (hide hbW))
  have HOWs := hide (own_below (unhide HOW5) (hide hbW))
  have hplen : PL.length = pn := by have h1 := (unhide HPL).1; have h2 := (unhide HPR).1; omega
  obtain ⟨NP, hNP⟩ : ∃ NP, PL[i]? = some NP := ⟨_, List.getElem?_eq_getElem (by omega)⟩
  obtain ⟨pb, pd, hpb⟩ := (unhide HPL).2 i NP hNP
  have d22 : W.cell? ⟨gp, i * 31 + 22, none⟩ = some (.slice pb NP pd) := by rw [(unhide HPRW).cellAt _ (by omega)]; exact hpb
  have d1 : W.cell? ⟨kb, 1, none⟩ = some (.int .i64 k.lf) := (unhide HRW).1.cell rfl
  have hNS : NP ≤ PS := by rw [hPS]; exact mem_le_sum (List.mem_of_getElem? hNP)
  have hPS1 : PS ≤ 1000000 := by omega
  have HPS := hide (And.intro hPS (show PL.getD i 0 = NP from by rw [List.getD, hNP]; rfl))
  have HWW := hide hW
  have hgpW : gp < W.heap.size := by omega
  have HPN := hide hplen
  clear hb6 hUS hPS hbW hNP hpb HUS c3 c4 c7 hW hplen
  by_cases t7 : k.lf < (PS : Int) - (NP : Int) + (n0 : Int) + 2
  · have HX := hide (show ExecErr k cs PL i s ss 7 from .inr ⟨unhide HE, .inr ⟨unhide HN0, .inr ⟨unhide HND, .inr ⟨unhide HGD, .inr ⟨unhide HOK, by rw [unhide HFO, ← unhide HNN, ← (unhide HPS).1, (unhide HPS).2]; exact t7, rfl⟩⟩⟩⟩⟩)
    go_wp2
    rw [← unhide HWW]
    go_quiet (fail)
    go_wp2
    go_ret2
    exact .inl ⟨7, unhide HX, rfl, ⟨(unhide HBW).os, (unhide HBW).tape, (unhide HBW).output, (unhide HBW).size, (unhide HBW).block⟩⟩
  · go_wp2
    rw [← unhide HWW]
    go_quiet (fail)
    have HOX := hide (show ExecOk k cs PL i s ss from ⟨unhide HE, unhide HN0, unhide HND, unhide HGD, unhide HOK, by rw [unhide HFO, ← unhide HNN, ← (unhide HPS).1, (unhide HPS).2]; omega⟩)
    obtain ⟨ip, hip, hpz0, hpz1, hpz2⟩ := info_parts pageInfo
    have HIP := hide (And.intro hip (And.intro hpz0 (And.intro hpz1 hpz2)))
    have hSl : (refPagesTo (stackRoom ss) 2).length = 2 * 258 := by have := (unhide HOWs).1; omega
    have hS1 : ∀ u ∈ refPagesTo (stackRoom ss) 2, u.oneCell' = true := refPagesTo_one _
    obtain ⟨SR, hSR⟩ : ∃ SR, SR = refPagesTo (stackRoom ss) 2 := ⟨_, rfl⟩
    rw [← hSR] at HOWs hSl hS1
    have HSR := hide hSR
    have HSL := hide (And.intro hSl hS1)
    have HNW := hide (show ∀ j u, SR[j]? = some u → (W.drewN nq).cell? ((⟨g5, 0, none⟩ : Addr).add j) = some u from fun j u hj => by
      have hl := (List.getElem?_eq_some_iff.1 hj).1
      rw [addr_add, Nat.zero_add]
      have h9 : W.cell? ⟨g5, j, none⟩ = some u := by rw [(unhide HOWs).cellAt j (by omega)]; exact hj
      exact h9)
    have HQ := hide (show (W.drewN nq).ownsRow w3.heap.size 155 258 (.slice (some ⟨gq, 0, none⟩) n0 cq) n0 (refRow (outPgs c0)) from unhide HOWq)
    have HP9 := hide (show (W.drewN nq).ownsRow base 83 31 (.slice (some ⟨gp, 0, none⟩) pn pc) pn PR from unhide HPRW)
    have hw3s : w3.heap.size ≤ (W.drewN nq).heap.size := by show w3.heap.size ≤ W.heap.size; omega
    have hgne : gp ≠ gq := by omega
    clear hip hpz0 hpz1 hpz2 hSl hS1 hSR d22 d1 xb
    go_wp2_with (first
      | (at_builtin; refine wpList_append_lies _ (by rfl) _ _ 80 (by rfl) w3.heap.size 155 ip _ 258 272 Tryz.underlying80 (unhide HIP).1 (unhide HIP).2.1 (unhide HIP).2.2.1 (unhide HIP).2.2.2 (by simp [Value.cells, refPage_length, zero256_length]) (by decide) _ n0 _ (by rfl) (unhide HQ) ⟨g5, 0, none⟩ 2 c5 SR (by rfl) (unhide HSL).1 (unhide HNW) (unhide HSL).2 (by omega) (by unfold maxLen; omega) (by omega) hw3s W.heap.size (by rfl) ?_
         intro g8 c8 w8 hown8 hgrow8 hat8 hlt8
         have r8 := (unhide HP9).kept hgrow8 (.inr (by show some gp ≠ some gq; simpa using hgne))
         obtain ⟨r9, q9⟩ := r8.stored (i * 31 + 22) (.slice (some ⟨g8, 0, none⟩) (n0 + 2) c8)
         obtain ⟨r10, q10⟩ := r9.stored (i * 31 + 5) (.int .u64 E)
         obtain ⟨r11, q11⟩ := own_setCells regs0 (i * 31 + 6) _ _ r10 (by simp only [List.length_set]; rw [(unhide HPR).1]; simp [regs0]; omega)
         obtain ⟨W11, hW11⟩ : ∃ W11, W11 = ((w8.setCell ⟨gp, i * 31 + 22, none⟩ (.slice (some ⟨g8, 0, none⟩) (n0 + 2) c8)).setCell ⟨gp, i * 31 + 5, none⟩ (.int .u64 E)).setCells gp (i * 31 + 6) regs0.toArray.toList := ⟨_, rfl⟩
         have e11 : ((w8.setCell ⟨gp, i * 31 + 22, none⟩ (.slice (some ⟨g8, 0, none⟩) (n0 + 2) c8)).setCell ⟨gp, i * 31 + 5, none⟩ (.int .u64 E)).setCells gp (i * 31 + 6) regs0 = W11 := hW11.symm
         rw [e11] at r11 q11
         have HW11 := hide hW11
         clear e11 hW11
         obtain ⟨r12, q12⟩ := r11.stored (i * 31 + 21) (.int .u64 (65024 + (spOff ss : Int)))
         have z22 := row_there r8 (i * 31 + 22) (by omega)
         have z5 := row_there r9 (i * 31 + 5) (by omega)
         have z21 := row_there r11 (i * 31 + 21) (by omega)
         have zt := row_range r10 (i * 31 + 6) 16 (by omega)
         obtain ⟨o22, z22, f22⟩ := z22
         obtain ⟨o5, z5, f5⟩ := z5
         obtain ⟨o21, z21, f21⟩ := z21
         have ZT := hide zt
         have R12 := hide r12
         have Q12 := hide (And.intro q9 (And.intro q10 (And.intro q11 q12)))
         clear r8 r9 r10 r11 r12 q9 q10 q11 q12 zt)
      | (refine wpList_store_mid rfl 75 (.tmp 104) (.tmp 102) rfl gp (i * 31 + 6) regs0.toArray (by rfl) (by rfl) (unhide ZT) regsSize regs0_all ?_; rw [← unhide HW11]))
    obtain ⟨q9, q10, q11, q12⟩ := unhide Q12
    have hgg := grown_trans (grown_trans (grown_trans q9 q10) q11) q12
    have hg8 := hown8.lt g8 rfl
    have hws : w.heap.size ≤ w3.heap.size := (unhide HB1).size
    have hbw := unhide HBW
    have hsz8 := hgrow8.size
    have hgw : w.grownBy (W11.setCell ⟨gp, i * 31 + 21, none⟩ (.int .u64 (65024 + (spOff ss : Int)))) (some gp) :=
      ⟨hgg.os.trans (hgrow8.os.trans hbw.os), hgg.tape.trans (hgrow8.tape.trans hbw.tape), hgg.output.trans (hgrow8.output.trans hbw.output), Nat.le_trans hbw.size (Nat.le_trans hsz8 hgg.size), fun q hq hne =>
        (hgg.block q (by have : W.heap.size ≤ w8.heap.size := hsz8; have := hbw.size; omega) hne).trans ((hgrow8.block q (by show q < W.heap.size; have := hbw.size; omega) (by show some q ≠ some gq; simp; omega)).trans (hbw.block q hq))⟩
    have hpg := own_base (base' := w.heap.size) (hown8.kept hgg (.inr (by show some g8 ≠ some gp; simp; omega))) hws
    go_ret2
    refine .inr ⟨unhide HOX, rfl, hgw, g8, c8, ?_, ?_⟩
    · rw [unhide HFO, ← unhide HNN, ← unhide HSR]; exact hpg
    · rw [unhide HFO, ← unhide HNN, ← unhide HEE]; exact unhide R12
end Go.Proofs.YtkokiefclmbgaaaGreatDoor

/- tinyosref: Boot. -/
namespace Go.Proofs.YtkokiefclmbgaaaGreatDoor
open Go.RowKit
set_option linter.unusedVariables false
set_option linter.unusedSimpArgs false

structure PFile where
  path : ByteArray
  dir : Bool
  bytes : List Int
def PK.put (p : PK) (f : PFile) : Int × PK := if f.dir = true then p.mkdir f.path else (p.fileCode f.path f.bytes, p.fileOut f.path f.bytes)
def PK.puts : PK → List PFile → Int × PK
  | p, [] => (0, p)
  | p, f :: r => if (p.put f).1 ≠ 0 then ((p.put f).1, p) else (p.put f).2.puts r
/-- The files of Boot as they lie: paths, whether they are directories, bytes. -/
structure FilesAt (w : World) (pb poff db doff bb boff : Nat) (FZ : List PFile) : Prop where
  path : ∀ (i : Nat) (f : PFile), FZ[i]? = some f → w.cell? ⟨pb, poff + i, none⟩ = some (.string f.path)
  dir : ∀ (i : Nat) (f : PFile), FZ[i]? = some f → w.cell? ⟨db, doff + i, none⟩ = some (.bool f.dir)
  bytes : ∀ (i : Nat) (f : PFile), FZ[i]? = some f → ∃ a q o c, w.cell? ⟨bb, boff + i, none⟩ = some (.slice a f.bytes.length c) ∧ (0 < f.bytes.length → a = some ⟨q, o, none⟩ ∧ q < w.heap.size) ∧ BView w q o f.bytes
def limsOk (lp lf lo li lb : Int) : Prop := 1 ≤ lp ∧ lp ≤ 16 ∧ 1 ≤ lf ∧ lf ≤ 1000 ∧ 0 ≤ lo ∧ lo ≤ 100000 ∧ 0 ≤ li ∧ li ≤ 100000 ∧ 0 ≤ lb ∧ lb ≤ 100000
def noKernel (c : Int) : Ending := .returned (.tuple #[.pointer none, .int .i64 c])
def root : Ino := ⟨1, 0, ByteArray.empty, true, .slice none 0 0⟩
def boot0 (lp lf lo li lb : Int) : PK := ⟨lp, lf, lo, li, lb, 1, [root], [[]]⟩

set_option maxRecDepth 100000 in
set_option maxHeartbeats 4000000 in
theorem refBoot_lims (lp lf lo li lb : Int) (v1 v2 v3 : Value) (w : World) (h : ¬ limsOk lp lf lo li lb) :
    Calls Tryz.prog 16 #[.agg #[.int .i64 lp, .int .i64 lf, .int .i64 lo, .int .i64 li, .int .i64 lb], v1, v2, v3] w fun e w' => e = noKernel 6 ∧ Below w.heap.size w w' := by
  have fin : ∀ (o1 o2 : Obj), Below w.heap.size w ((w.alloc o1).alloc o2) := fun o1 o2 => ((Below.refl _ _).alloc (Nat.le_refl _) _).alloc (by simp) _
  have HF := hide fin
  clear fin
  by_cases a1 : 1 ≤ lp
  case neg =>
    clear h
    go_enter Tryz.func16, Tryz.ntmps16
    go_wp2
    go_ret2
    exact ⟨rfl, unhide HF _ _⟩
  by_cases a2 : lp ≤ 16
  case neg =>
    clear h
    go_enter Tryz.func16, Tryz.ntmps16
    go_wp2
    go_ret2
    exact ⟨rfl, unhide HF _ _⟩
  by_cases a3 : 1 ≤ lf
  case neg =>
    clear h
    go_enter Tryz.func16, Tryz.ntmps16
    go_wp2
    go_ret2
    exact ⟨rfl, unhide HF _ _⟩
  by_cases a4 : lf ≤ 1000
  case neg =>
    clear h
    go_enter Tryz.func16, Tryz.ntmps16
    go_wp2
    go_ret2
    exact ⟨rfl, unhide HF _ _⟩
  by_cases a5 : 0 ≤ lo
  case neg =>
    clear h
    go_enter Tryz.func16, Tryz.ntmps16
    go_wp2
    go_ret2
    exact ⟨rfl, unhide HF _ _⟩
  by_cases a6 : lo ≤ 100000
  case neg =>
    clear h
    go_enter Tryz.func16, Tryz.ntmps16
    go_wp2
    go_ret2
    exact ⟨rfl, unhide HF _ _⟩
  by_cases a7 : 0 ≤ li
  case neg =>
    clear h
    go_enter Tryz.func16, Tryz.ntmps16
    go_wp2
    go_ret2
    exact ⟨rfl, unhide HF _ _⟩
  by_cases a8 : li ≤ 100000
  case neg =>
    clear h
    go_enter Tryz.func16, Tryz.ntmps16
    go_wp2
    go_ret2
    exact ⟨rfl, unhide HF _ _⟩
  by_cases a9 : 0 ≤ lb
  case neg =>
    clear h
    go_enter Tryz.func16, Tryz.ntmps16
    go_wp2
    go_ret2
    exact ⟨rfl, unhide HF _ _⟩
  by_cases a10 : lb ≤ 100000
  case neg =>
    clear h
    go_enter Tryz.func16, Tryz.ntmps16
    go_wp2
    go_ret2
    exact ⟨rfl, unhide HF _ _⟩
  exact absurd ⟨a1, a2, a3, a4, a5, a6, a7, a8, a9, a10⟩ h
end Go.Proofs.YtkokiefclmbgaaaGreatDoor
