/- Load: both answers parted alike; the document's answer of no bytes. -/
import Derived.Test.YtkkpeboejgkmaaaDoorLoadRef
import Derived.Test.YtkkpeboejgkmaaaDoorLoadRoomy
import Derived.Test.YtkkpeboejgkmaaaDoorSame
namespace Go.Proofs.YtkkpeboejgkmaaaDoor
open Go.RowKit
set_option linter.unusedVariables false
set_option linter.unusedSimpArgs false

/-- The pages that both answers tell. -/
def outPgs (B : List Int) : List Pg := refPgs B (fileSegs B) 256
/-- The error that both answers tell. -/
def Bad (B : List Int) (c : Int) : Prop :=
  ¬ HdrOk B ∧ c = 2 ∨ HdrOk B ∧ ¬ AllOk B ∧ c = 3 ∨ HdrOk B ∧ AllOk B ∧ ((∃ p, p < 256 ∧ 1 < (fileSegs B).countP (fun s => cov s p)) ∧ c = 4 ∨
    (∀ p, p < 256 → (fileSegs B).countP (fun s => cov s p) ≤ 1) ∧ ¬ refEnt (numAt B 24 8) (outPgs B) ∧ c = 5)
def Good (B : List Int) : Prop := HdrOk B ∧ AllOk B ∧ (∀ p, p < 256 → (fileSegs B).countP (fun s => cov s p) ≤ 1) ∧ refEnt (numAt B 24 8) (outPgs B)
theorem Bad.uniq {B : List Int} {c d : Int} (h : Bad B c) (k : Bad B d) : c = d := by
  have no : (∃ p, p < 256 ∧ 1 < (fileSegs B).countP (fun s => cov s p)) → (∀ p, p < 256 → (fileSegs B).countP (fun s => cov s p) ≤ 1) → False := fun ⟨p, h1, h2⟩ h3 => by have := h3 p h1; omega
  rcases h with ⟨a, rfl⟩ | ⟨a, b, rfl⟩ | ⟨a, b, (⟨x, rfl⟩ | ⟨x, y, rfl⟩)⟩ <;> rcases k with ⟨a', rfl⟩ | ⟨a', b', rfl⟩ | ⟨a', b', (⟨x', rfl⟩ | ⟨x', y', rfl⟩)⟩ <;> first | rfl | exact absurd a' a | exact absurd a a' | exact absurd b' b | exact absurd b b' | exact (no x x').elim | exact (no x' x).elim
theorem Bad.notGood {B : List Int} {c : Int} (h : Bad B c) (k : Good B) : False := by
  obtain ⟨k1, k2, k3, k4⟩ := k
  rcases h with ⟨a, rfl⟩ | ⟨a, b, rfl⟩ | ⟨a, b, (⟨⟨p, h1, h2⟩, rfl⟩ | ⟨x, y, rfl⟩)⟩
  · exact a k1
  · exact b k2
  · have := k3 p h1; omega
  · exact y k4
theorem Bad.code {B : List Int} {c : Int} (h : Bad B c) : 2 ≤ c ∧ c ≤ 5 := by
  rcases h with ⟨a, rfl⟩ | ⟨a, b, rfl⟩ | ⟨a, b, (⟨x, rfl⟩ | ⟨x, y, rfl⟩)⟩ <;> decide
theorem exe_split {B : List Int} (hB : IsBytes B) {w w' : World} {e : Ending} (h : LoadPost B w e w') :
    (∃ c, Bad B c ∧ e = errPlan c) ∨ (Good B ∧ ∃ g gc, e = .returned (.tuple #[.agg #[.int .u64 (numAt B 24 8), .slice (some ⟨g, 0, none⟩) (outPgs B).length gc], .nilIface]) ∧ w'.ownsRow w.heap.size 80 258 (.slice (some ⟨g, 0, none⟩) (outPgs B).length gc) (outPgs B).length (apiRow (outPgs B))) := by
  obtain ⟨h, _⟩ := h
  rcases h with ⟨a, h⟩ | ⟨a, b, h⟩ | ⟨a, b, ss, hp, hs, h⟩
  · exact .inl ⟨2, .inl ⟨a, rfl⟩, h⟩
  · exact .inl ⟨3, .inr (.inl ⟨a, b, rfl⟩), h⟩
  have hf := fits_all hB b hp
  have hpm := perms_all b hp
  have hov := ov_same (B := B) (fs := fileSegs B) hp hf hs
  rcases h with ⟨ho, h⟩ | ⟨ho, h⟩
  · exact .inl ⟨4, .inr (.inr ⟨a, b, .inl ⟨hov.1 ho, rfl⟩⟩), h⟩
  have hno : ∀ p, p < 256 → (fileSegs B).countP (fun s => cov s p) ≤ 1 := fun p hp2 => by
    apply Classical.byContradiction
    intro hx
    obtain ⟨i, hi, hh⟩ := hov.2 ⟨p, hp2, by omega⟩
    exact ho i hi hh
  have hall : outPgs B = allPgs B ss := refPgs_all hp hf ho
  have hent : entOk (numAt B 24 8) ss ↔ refEnt (numAt B 24 8) (outPgs B) := by rw [hall]; exact entry_same hf hpm _ (numAt_8 hB 24 8 (by omega)).1
  rcases h with ⟨he, h⟩ | ⟨he, g, gc, h1, h2⟩
  · exact .inl ⟨5, .inr (.inr ⟨a, b, .inr ⟨hno, fun x => he (hent.2 x), rfl⟩⟩), h⟩
  · rw [← hall] at h1 h2
    exact .inr ⟨⟨a, b, hno, hent.1 he⟩, g, gc, h1, h2⟩
theorem ref_split {B : List Int} {w w' : World} {e : Ending} (h : RefLoadPost B w e w') :
    (∃ c, Bad B c ∧ e = refErr c) ∨ (Good B ∧ ∃ g gc, e = .returned (.tuple #[.slice (some ⟨g, 0, none⟩) (outPgs B).length gc, .int .u64 (numAt B 24 8), .int .i64 0]) ∧ w'.ownsRow w.heap.size 76 258 (.slice (some ⟨g, 0, none⟩) (outPgs B).length gc) (outPgs B).length (refRow (outPgs B))) := by
  obtain ⟨h, _⟩ := h
  rcases h with ⟨a, h⟩ | ⟨a, b, h⟩ | ⟨a, b, (⟨x, h⟩ | ⟨x, (⟨y, h⟩ | ⟨y, g, gc, h1, h2⟩)⟩)⟩
  · exact .inl ⟨2, .inl ⟨a, rfl⟩, h⟩
  · exact .inl ⟨3, .inr (.inl ⟨a, b, rfl⟩), h⟩
  · exact .inl ⟨4, .inr (.inr ⟨a, b, .inl ⟨x, rfl⟩⟩), h⟩
  · exact .inl ⟨5, .inr (.inr ⟨a, b, .inr ⟨x, y, rfl⟩⟩), h⟩
  · exact .inr ⟨⟨a, b, x, y⟩, g, gc, h1, h2⟩
theorem bad_or_good (B : List Int) : (∃ c, Bad B c) ∨ Good B := by
  by_cases a : HdrOk B
  · by_cases b : AllOk B
    · by_cases x : ∃ p, p < 256 ∧ 1 < (fileSegs B).countP (fun s => cov s p)
      · exact .inl ⟨4, .inr (.inr ⟨a, b, .inl ⟨x, rfl⟩⟩)⟩
      · have x' : ∀ p, p < 256 → (fileSegs B).countP (fun s => cov s p) ≤ 1 := fun p hp => by
          apply Classical.byContradiction
          intro hn
          exact x ⟨p, hp, by omega⟩
        by_cases y : refEnt (numAt B 24 8) (outPgs B)
        · exact .inr ⟨a, b, x', y⟩
        · exact .inl ⟨5, .inr (.inr ⟨a, b, .inr ⟨x', y, rfl⟩⟩)⟩
    · exact .inl ⟨3, .inr (.inl ⟨a, b, rfl⟩)⟩
  · exact .inl ⟨2, .inl ⟨a, rfl⟩⟩
theorem outPgs_ok {B : List Int} (h : Good B) : ∀ p ∈ outPgs B, 0 ≤ p.perm ∧ p.perm ≤ 255 ∧ p.bytes.length = 256 := by
  intro p hp
  refine ⟨?_, ?_, refPgs_bytes _ _ _ p hp⟩ <;>
  · obtain ⟨n, _, hq⟩ := List.mem_flatMap.1 hp
    obtain ⟨s, hs, rfl⟩ := List.mem_map.1 hq
    have := perms_all h.2.1 (List.Perm.refl _) s (List.mem_filter.1 hs).1
    show _ ≤ _
    simp only
    omega
theorem apiRow_get : ∀ (PS : List Pg) (j i : Nat) (q : Pg), (∀ p ∈ PS, p.bytes.length = 256) → PS[j]? = some q → i < 258 → ∀ v, (pageRow q.num q.perm q.bytes)[i]? = some v → (apiRow PS)[j * 258 + i]? = some v
  | [], j, i, q, _, h, _, v, _ => by simp at h
  | a :: r, 0, i, q, hb, h, hi, v, hv => by
    have e : a = q := by simpa using h
    subst e
    rw [apiRow, List.flatMap_cons, List.getElem?_append_left (by rw [pageRow_length, hb _ List.mem_cons_self]; omega), Nat.zero_mul, Nat.zero_add]; exact hv
  | a :: r, j + 1, i, q, hb, h, hi, v, hv => by
    have ih := apiRow_get r j i q (fun p hp => hb p (List.mem_cons_of_mem _ hp)) (by simpa using h) hi v hv
    have hl := hb a List.mem_cons_self
    have e : (j + 1) * 258 + i - (256 + 2) = j * 258 + i := by omega
    have e2 : apiRow (a :: r) = pageRow a.num a.perm a.bytes ++ apiRow r := by rw [apiRow, List.flatMap_cons]; rfl
    rw [e2, List.getElem?_append_right (by rw [pageRow_length, hl]; omega), pageRow_length, hl, e]
    exact ih
theorem api_at {W : World} {base g gc : Nat} {PS : List Pg} (hb : ∀ p ∈ PS, p.bytes.length = 256) (h : W.ownsRow base 80 258 (.slice (some ⟨g, 0, none⟩) PS.length gc) PS.length (apiRow PS)) : ApiAt W g PS := by
  intro i p hp
  have hi := (List.getElem?_eq_some_iff.1 hp).1
  have hpb := hb p (List.mem_of_getElem? hp)
  have c : ∀ j v, j < 258 → (pageRow p.num p.perm p.bytes)[j]? = some v → W.cell? ⟨g, i * 258 + j, none⟩ = some v := fun j v hj hv => by
    (rw [h.cellAt (i * 258 + j) (by omega)]; exact apiRow_get PS i j p hb hp hj v hv)
  have c0 := c 0 _ (by omega) rfl
  rw [Nat.add_zero] at c0
  have c1 := c 1 _ (by omega) rfl
  refine ⟨c0, c1, fun j v hv => ?_⟩
  have hj := (List.getElem?_eq_some_iff.1 hv).1
  rw [bytesRow_length, hpb] at hj
  have e : i * 258 + 2 + j = i * 258 + (j + 2) := by omega
  have h9 := c (j + 2) v (by omega) hv
  rw [← e] at h9
  exact h9
theorem ref_at {W : World} {base g gc : Nat} {PS : List Pg} (hb : ∀ p ∈ PS, p.bytes.length = 256) (h : W.ownsRow base 76 258 (.slice (some ⟨g, 0, none⟩) PS.length gc) PS.length (refRow PS)) : RefAt W g PS := by
  intro i p hp
  have hi := (List.getElem?_eq_some_iff.1 hp).1
  have hpb := hb p (List.mem_of_getElem? hp)
  have c : ∀ j v, j < 258 → (refPage p.num p.perm p.bytes)[j]? = some v → W.cell? ⟨g, i * 258 + j, none⟩ = some v := fun j v hj hv => by
    (rw [h.cellAt (i * 258 + j) (by omega)]; exact refRow_get PS i j p hb hp hj v hv)
  have c0 := c 0 _ (by omega) rfl
  rw [Nat.add_zero] at c0
  have c1 := c 1 _ (by omega) rfl
  refine ⟨c0, c1, fun j v hv => ?_⟩
  have hj := (List.getElem?_eq_some_iff.1 hv).1
  rw [bytesRow_length, hpb] at hj
  have e : i * 258 + 2 + j = i * 258 + (j + 2) := by omega
  have h9 := c (j + 2) v (by omega) hv
  rw [← e] at h9
  exact h9
theorem roomy_view {W : World} {g : Nat} {t : TypeId} {B : List Int} (h : Holds W g t (bytesRow (B ++ [71, 72]))) : BView W g 0 B := fun j hj => by
  rw [Nat.zero_add]
  refine h.cell ?_
  rw [bytesRow_get _ _ (by simp; omega)]
  simp [List.getD, List.getElem?_append_left hj]

set_option maxHeartbeats 1000000 in
theorem refHeader_none (a : Option Addr) (cap : Nat) (w : World) : Calls Tryd.prog 25 #[.slice a 0 cap] w fun e w' => e = .returned (.tuple #[.int .i64 0, .bool false]) ∧ w' = w := by
  go_enter Tryd.func25, Tryd.ntmps25
  go_wp2
  go_ret2
  exact ⟨rfl, rfl⟩
set_option maxRecDepth 100000 in
set_option maxHeartbeats 1000000 in
theorem load_ref_none (a : Option Addr) (cap : Nat) (w : World) : Calls Tryd.prog 14 #[.slice a 0 cap] w fun e w' => RefLoadPost [] w e w' := by
  have HH := hide (refHeader_none a cap w)
  go_enter Tryd.func14, Tryd.ntmps14
  go_wp2_with fail
  refine (unhide HH).mono ?_
  rintro e w1 ⟨rfl, hw1⟩
  subst hw1
  go_wp2
  exact bodyPost_ret (v := .tuple #[.slice none 0 0, .int .u64 0, .int .i64 2]) (by simp [results, Tryd.results14, go_sem]) rfl ⟨.inl ⟨fun h => by have := h.1; simp at this, rfl⟩, Below.refl _ _⟩
end Go.Proofs.YtkkpeboejgkmaaaDoor
