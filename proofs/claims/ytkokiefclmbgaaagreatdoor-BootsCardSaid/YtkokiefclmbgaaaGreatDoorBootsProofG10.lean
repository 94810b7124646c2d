import Derived.Test.YtkokiefclmbgaaaGreatDoorBootsProofG08
import Derived.Deep.DeepCutAuto
import Derived.Test.YtkokiefclmbgaaaGreatDoorBootsProofG09
import Derived.Laws.CopyOwn
/- tinyosref: file. -/
namespace Go.Proofs.YtkokiefclmbgaaaGreatDoor
open Go.RowKit
set_option linter.unusedVariables false
set_option linter.unusedSimpArgs false

/-- The bytes that a file's slice shows. -/
def FileAt (w : World) (v : Value) (c : List Int) : Prop := c = [] ∧ v = .slice none 0 0 ∨ c ≠ [] ∧ ∃ q, v = .slice (some ⟨q, 0, none⟩) c.length c.length ∧ Holds w q 5 (bytesRow c)
def ContAt (w : World) (xs : List Ino) (cs : List (List Int)) : Prop := cs.length = xs.length ∧ ∀ (i : Nat) (x : Ino) (c : List Int), xs[i]? = some x → cs[i]? = some c → FileAt w x.bytes c
theorem FileAt.len {w : World} {v : Value} {c : List Int} (h : FileAt w v c) : ∃ a d, v = .slice a c.length d := by
  rcases h with ⟨rfl, h⟩ | ⟨_, q, h, _⟩
  · exact ⟨none, 0, h⟩
  · exact ⟨_, _, h⟩
theorem ContAt.lens {w : World} {xs : List Ino} {cs : List (List Int)} (h : ContAt w xs cs) : LensOf xs (cs.map List.length) := by
  refine ⟨by rw [List.length_map]; exact h.1, fun i x n hx hn => ?_⟩
  rw [List.getElem?_map] at hn
  obtain ⟨c, hc, rfl⟩ := Option.map_eq_some_iff.1 hn
  exact (h.2 i x c hx hc).len
theorem FileAt.frame {w w' : World} {v : Value} {c : List Int} {kb g : Nat} (h : FileAt w v c) (hf : FrameK w w' kb g) (h1 : ∀ vs, ¬ Holds w kb 5 vs) (h2 : ∀ vs, ¬ Holds w g 5 vs) : FileAt w' v c := by
  rcases h with h | ⟨hc, q, hv, hh⟩
  · exact .inl h
  · refine .inr ⟨hc, q, hv, ?_⟩
    have hl := hh.lt
    have n1 : q ≠ kb := fun e => h1 _ (e ▸ hh)
    have n2 : q ≠ g := fun e => h2 _ (e ▸ hh)
    unfold Holds at hh ⊢
    rw [hf.block q hl n1 n2]; exact hh
theorem ContAt.frame {w w' : World} {xs : List Ino} {cs : List (List Int)} {kb g : Nat} (h : ContAt w xs cs) (hf : FrameK w w' kb g) (h1 : ∀ vs, ¬ Holds w kb 5 vs) (h2 : ∀ vs, ¬ Holds w g 5 vs) : ContAt w' xs cs :=
  ⟨h.1, fun i x c hx hc => (h.2 i x c hx hc).frame hf h1 h2⟩
theorem RepK.apart {w : World} {base kb g cap : Nat} {k : RK} (h : RepK w base kb g cap k) : (∀ vs, ¬ Holds w kb 5 vs) ∧ (∀ vs, ¬ Holds w g 5 vs) := by
  refine ⟨fun vs hv => ?_, fun vs hv => ?_⟩
  · have h1 := h.1
    unfold Holds at h1 hv
    rw [h1] at hv
    simp at hv
  · rcases h.2.2 with ⟨h', _⟩ | ⟨g', cap', cur, h', _, hg, _⟩
    · simp at h'
    · simp only [Value.slice.injEq, Option.some.injEq, Addr.mk.injEq, and_true, true_and] at h'
      obtain ⟨rfl, _⟩ := h'
      unfold Holds at hv
      rw [hg] at hv
      simp at hv
theorem ContAt.add {w : World} {k : RK} {cs : List (List Int)} (h : ContAt w k.inos cs) (dir : Int) (name : ByteArray) (is : Bool) : ContAt w (k.add dir name is).inos (cs ++ [[]]) := by
  refine ⟨by rw [RK.add]; simp [h.1], fun i x c hx hc => ?_⟩
  have hx' : (k.inos ++ [newIno (k.last + 1) dir name is])[i]? = some x := hx
  rcases Nat.lt_or_ge i k.inos.length with hi | hi
  · rw [List.getElem?_append_left hi] at hx'
    rw [List.getElem?_append_left (by rw [h.1]; exact hi)] at hc
    exact h.2 i x c hx' hc
  · rw [List.getElem?_append_right hi] at hx'
    rw [List.getElem?_append_right (by rw [h.1]; exact hi)] at hc
    rw [h.1] at hc
    generalize i - k.inos.length = j at hx' hc
    match j, hx', hc with
    | 0, hx', hc =>
      have e1 : newIno (k.last + 1) dir name is = x := by simpa using hx'
      have e2 : [] = c := by simpa using hc
      subst e1 e2
      exact .inl ⟨rfl, rfl⟩
    | (m + 1), hx', _ => simp at hx'
/-- What holds of a kernel's inodes all along. -/
def InvK (k : RK) : Prop := (∀ x ∈ k.inos, x.id ≤ k.last) ∧ (∃ x ∈ k.inos, x.id = 1) ∧ 1 ≤ k.last
theorem find_id {xs : List Ino} {n : Int} (h : ∃ x ∈ xs, x.id = n) : ∃ x, xs.find? (fun x => x.id == n) = some x := by
  obtain ⟨y, hy, he⟩ := h
  cases hf : xs.find? (fun x => x.id == n) with
  | some x => exact ⟨x, rfl⟩
  | none =>
    have := List.find?_eq_none.1 hf y hy
    simp [he] at this
theorem follow_n {xs : List Ino} : ∀ (l : List ByteArray) (dir : Int), (follow xs dir l).e = 0 → (follow xs dir l).n ≠ 0 → ∃ x ∈ xs, x.id = (follow xs dir l).n
  | [], dir, _, h => by simp [follow, walkErr] at h
  | [a], dir, _, h => by
    simp only [follow] at h ⊢
    obtain ⟨x, hx⟩ := child_mem h
    exact ⟨x, List.mem_of_find?_eq_some hx, by have := List.find?_some hx; simpa using this⟩
  | a :: b :: r, dir, h0, h => by
    unfold follow at h0 h ⊢
    split at h0
    · simp [walkErr] at h0
    · rename_i h1
      rw [if_neg h1] at h ⊢
      split at h0
      · rename_i h2
        rw [if_pos h2] at h ⊢
        exact follow_n (b :: r) _ h0 h
      · simp [walkErr] at h0
theorem walk_n {k : RK} (hi : InvK k) (s : ByteArray) (h0 : (walkOf k.inos s).e = 0) (h : (walkOf k.inos s).n ≠ 0) : ∃ x ∈ k.inos, x.id = (walkOf k.inos s).n := by
  unfold walkOf at h0 h ⊢
  split at h0
  · simp [walkErr] at h0
  · exact hi.2.1
  · rename_i a r heq
    rw [heq] at h
    exact follow_n (a :: r) 1 h0 h
theorem made_id (k : RK) (dir : Int) (name : ByteArray) (is : Bool) : ∃ x ∈ (k.add dir name is).inos, x.id = k.last + 1 := ⟨newIno (k.last + 1) dir name is, by simp [RK.add], rfl⟩
/-- The kernel and the number when the file is there, made where it wasn't. -/
def opened (k : RK) (cs : List (List Int)) (s : ByteArray) : RK × List (List Int) × Int := if (walkOf k.inos s).n = 0 then (k.add (walkOf k.inos s).dir (walkOf k.inos s).name false, cs ++ [[]], k.last + 1) else (k, cs, (walkOf k.inos s).n)
/-- B written over c from its beginning. -/
def over (c B : List Int) : List Int := B ++ c.drop B.length

def erase (x : Ino) : Ino := {x with bytes := .slice none 0 0}
theorem opened_facts {k k1 : RK} {cs cs1 : List (List Int)} {s : ByteArray} {n1 : Int} (h : opened k cs s = (k1, cs1, n1)) : k1.pv = k.pv ∧ k1.ov = k.ov ∧ k1.lb = k.lb ∧ k1.inos.length ≤ k.inos.length + 1 ∧ (cs1.map List.length).sum = (cs.map List.length).sum := by
  unfold opened at h
  split at h
  · simp only [Prod.mk.injEq] at h
    obtain ⟨rfl, rfl, rfl⟩ := h
    refine ⟨rfl, rfl, rfl, by simp [RK.add], by simp⟩
  · simp only [Prod.mk.injEq] at h
    obtain ⟨rfl, rfl, rfl⟩ := h
    exact ⟨rfl, rfl, rfl, by omega, rfl⟩
theorem opened_id {k k1 : RK} {cs cs1 : List (List Int)} {s : ByteArray} {n1 : Int} (hi : InvK k) (h0 : (walkOf k.inos s).e = 0) (h : opened k cs s = (k1, cs1, n1)) : ∃ x ∈ k1.inos, x.id = n1 := by
  unfold opened at h
  split at h
  · simp only [Prod.mk.injEq] at h
    obtain ⟨rfl, rfl, rfl⟩ := h
    exact made_id k _ _ _
  · rename_i hne
    simp only [Prod.mk.injEq] at h
    obtain ⟨rfl, rfl, rfl⟩ := h
    exact walk_n hi s h0 hne
theorem file_src {w : World} {oa : Option Addr} {c0 : List Int} {od : Nat} {z : Array Value} (h : FileAt w (.slice oa c0.length od) c0) : ∀ nq, 0 < (bytesRow c0).length → ∃ ad, oa = some ad ∧ ∀ j v, (bytesRow c0)[j]? = some v → ((w.drewN nq).alloc (.cells z 5)).cell? (ad.add j) = some v := by
  intro nq h0
  rcases h with ⟨rfl, _⟩ | ⟨_, q, hv, hh⟩
  · simp [bytesRow] at h0
  · simp only [Value.slice.injEq] at hv
    obtain ⟨rfl, _, _⟩ := hv
    refine ⟨_, rfl, fun j v hj => ?_⟩
    rw [addr_add, Nat.zero_add]
    exact ((hh.heap (W' := w.drewN nq) rfl).alloc _).cell hj
theorem file_src2 {W w6 : World} {nq : Nat} {ba : Option Addr} {bb boff : Nat} {B : List Int} (h : ba = some ⟨bb, boff, none⟩) (hb : Below W.heap.size (W.drewN nq) w6) (hlt : bb < W.heap.size) (hv : BView W bb boff B) : 0 < (bytesRow B).length → (some ⟨W.heap.size, 0, none⟩ : Option Addr) = some ⟨W.heap.size, 0, none⟩ ∧ ∃ ad, ba = some ad ∧ ∀ j v, (bytesRow B)[j]? = some v → w6.cell? (ad.add j) = some v := by
  intro _
  refine ⟨rfl, _, h, fun j v hj => ?_⟩
  have hl := (List.getElem?_eq_some_iff.1 hj).1
  rw [bytesRow_length] at hl
  rw [bytesRow_get _ _ hl] at hj
  rw [addr_add, hb.cell (p := ⟨bb, boff + j, none⟩) hlt]
  exact (hv j hl).trans hj
theorem over_eq {c0 B : List Int} {M : Nat} (hM : M = max B.length c0.length) : splice (splice (List.replicate M 0) 0 c0) 0 B = over c0 B := by
  unfold splice over
  simp only [List.take_zero, List.nil_append, Nat.zero_add]
  congr 1
  rw [List.drop_append]
  have : (List.drop c0.length (List.replicate M (0 : Int))).drop (B.length - c0.length) = [] := by
    rw [List.drop_replicate, List.drop_replicate, show M - c0.length - (B.length - c0.length) = 0 from by omega]; rfl
  rw [this, List.append_nil]
theorem over_len {c0 B : List Int} {M : Nat} (hM : M = max B.length c0.length) : (over c0 B).length = M := by
  unfold over; rw [List.length_append, List.length_drop]; omega
theorem inoRow_set : ∀ (xs : List Ino) (K : Nat) (x : Ino) (v : Value), xs[K]? = some x → (inoRow xs).set (K * 5 + 4) v = inoRow (xs.set K {x with bytes := v})
  | [], K, x, v, h => by simp at h
  | a :: r, 0, x, v, h => by
    have e : a = x := by simpa using h
    subst e
    rfl
  | a :: r, K + 1, x, v, h => by
    have ih := inoRow_set r K x v (by simpa using h)
    have e2 : inoRow (a :: r) = inoCells a ++ inoRow r := by rw [inoRow, List.flatMap_cons]; rfl
    have e3 : inoRow ((a :: r).set (K + 1) {x with bytes := v}) = inoCells a ++ inoRow (r.set K {x with bytes := v}) := by rw [List.set_cons_succ, inoRow, List.flatMap_cons]; rfl
    rw [e2, e3, List.set_append_right _ _ (by simp [inoCells]; omega), show (K + 1) * 5 + 4 - (inoCells a).length = K * 5 + 4 from by simp [inoCells]; omega, ih]
theorem file_done {w7 : World} {base kb g cap z M K : Nat} {k1 : RK} {cs1 : List (List Int)} {x : Ino} {c0 B : List Int} (hr : RepK w7 base kb g cap k1) (hc : ContAt w7 k1.inos cs1) (hz : Holds w7 z 5 (bytesRow (over c0 B))) (hx : k1.inos[K]? = some x) (hB : 0 < B.length) (hkg : kb ≠ g) (hl : (over c0 B).length = M) :
    ∃ k' : RK, RepK (w7.setCell ⟨g, K * 5 + 4, none⟩ (.slice (some ⟨z, 0, none⟩) M M)) base kb g cap k' ∧ ContAt (w7.setCell ⟨g, K * 5 + 4, none⟩ (.slice (some ⟨z, 0, none⟩) M M)) k'.inos (cs1.set K (over c0 B)) ∧ k'.inos.map erase = k1.inos.map erase ∧ {k' with inos := []} = {k1 with inos := []} := by
  have hK := (List.getElem?_eq_some_iff.1 hx).1
  have hxe : k1.inos[K] = x := by rw [List.getElem?_eq_getElem hK] at hx; exact Option.some.inj hx
  refine ⟨{k1 with inos := k1.inos.set K {x with bytes := .slice (some ⟨z, 0, none⟩) M M}}, ⟨?_, ?_⟩, ⟨?_, ?_⟩, ?_, rfl⟩
  · have h := hr.1.set_other (c := g) hkg (K * 5 + 4) (.slice (some ⟨z, 0, none⟩) M M)
    show Holds _ kb _ (RK.cells _ (.slice _ (k1.inos.set K _).length cap))
    rw [List.length_set]; exact h
  · have h := (hr.2.stored (K * 5 + 4) (.slice (some ⟨z, 0, none⟩) M M)).1
    show World.ownsRow _ base _ 5 (.slice _ (k1.inos.set K _).length cap) (k1.inos.set K _).length (inoRow (k1.inos.set K _))
    rw [List.length_set, ← inoRow_set k1.inos K x _ hx]; exact h
  · show (cs1.set K _).length = (k1.inos.set K _).length
    rw [List.length_set, List.length_set]; exact hc.1
  · intro i y c hy hcy
    have hap := hr.apart
    have hy' : (k1.inos.set K {x with bytes := .slice (some ⟨z, 0, none⟩) M M})[i]? = some y := hy
    have hfr : FrameK w7 (w7.setCell ⟨g, K * 5 + 4, none⟩ (.slice (some ⟨z, 0, none⟩) M M)) kb g := (FrameK.refl w7 kb g).grownR (grown_set (World.grownBy.refl w7 (some g)) _ _)
    rw [List.getElem?_set] at hy' hcy
    by_cases hi : K = i
    · rw [if_pos hi, if_pos hK] at hy'
      rw [if_pos hi, if_pos (by rw [hc.1]; exact hK)] at hcy
      obtain rfl := Option.some.inj hy'
      obtain rfl := Option.some.inj hcy
      refine .inr ⟨fun h => ?_, z, by rw [hl], ?_⟩
      · have : (over c0 B).length = 0 := by rw [h]; rfl
        unfold over at this
        rw [List.length_append] at this; omega
      · exact hz.set_other (c := g) (fun e => hap.2 _ (e ▸ hz)) _ _
    · rw [if_neg hi] at hy' hcy
      exact (hc.2 i y c hy' hcy).frame hfr hap.1 hap.2
  · show (k1.inos.set K _).map erase = k1.inos.map erase
    rw [List.map_set]
    have : erase {x with bytes := .slice (some ⟨z, 0, none⟩) M M} = (k1.inos.map erase)[K]'(by simpa using hK) := by rw [List.getElem_map, hxe]; rfl
    rw [this, List.set_getElem_self]
def oldOf (o : RK × List (List Int) × Int) : List Int := o.2.1.getD (placeOf o.1.inos o.2.2).toNat []
def usedOf (cs : List (List Int)) : Nat := (cs.map List.length).sum
theorem used_ge {cs : List (List Int)} {K : Nat} {c : List Int} (h : cs[K]? = some c) : c.length ≤ usedOf cs := by
  unfold usedOf
  have hm : c.length ∈ cs.map List.length := List.mem_map.2 ⟨c, List.mem_of_getElem? h, rfl⟩
  generalize cs.map List.length = l at hm
  induction l with
  | nil => simp at hm
  | cons a r ih =>
    rw [List.sum_cons]
    rcases List.mem_cons.1 hm with rfl | hm
    · omega
    · have := ih hm; omega
/-- The error of a file of Boot's. -/
def fileCode (k : RK) (cs : List (List Int)) (s : ByteArray) (B : List Int) : Int :=
  if (walkOf k.inos s).e ≠ 0 then (walkOf k.inos s).e
  else if (walkOf k.inos s).n = 0 ∧ k.li ≤ (k.inos.length : Int) then 12
  else if dirOf (opened k cs s).1.inos (opened k cs s).2.2 = true then 11
  else if 0 < B.length ∧ k.lb < (usedOf (opened k cs s).2.1 : Int) - ((oldOf (opened k cs s)).length : Int) + ((max B.length (oldOf (opened k cs s)).length : Nat) : Int) then 12 else 0
/-- The files' bytes behind it. -/
def fileCs (k : RK) (cs : List (List Int)) (s : ByteArray) (B : List Int) : List (List Int) :=
  if B.length = 0 then (opened k cs s).2.1 else (opened k cs s).2.1.set (placeOf (opened k cs s).1.inos (opened k cs s).2.2).toNat (over (oldOf (opened k cs s)) B)
def FilePost (base kb g : Nat) (k : RK) (cs : List (List Int)) (s : ByteArray) (B : List Int) (w : World) (e : Ending) (w' : World) : Prop :=
  e = .returned (.int .i64 (fileCode k cs s B)) ∧ Below kb w w' ∧ (fileCode k cs s B = 0 → ∃ (k' : RK) (g' cap' : Nat), RepK w' base kb g' cap' k' ∧ ContAt w' k'.inos (fileCs k cs s B) ∧ k'.inos.map erase = (opened k cs s).1.inos.map erase ∧ {k' with inos := []} = {(opened k cs s).1 with inos := []} ∧ FrameK w w' kb g ∧ (g' = g ∨ w.heap.size ≤ g'))

set_option maxRecDepth 100000 in
set_option maxHeartbeats 4000000 in
theorem refFile_open (base kb g cap : Nat) (k : RK) (cs : List (List Int)) (s : ByteArray) (ba : Option Addr) (bb boff bcap : Nat) (B : List Int) (w : World) (h : RepK w base kb g cap k) (hc : ContAt w k.inos cs) (hi : InvK k) (hkb : kb < base) (hbs : base ≤ w.heap.size) (hn : k.inos.length ≤ 10000) (h1 : k.last ≤ 100000) (hs : s.size ≤ maxLen)
    (hpv : k.pv = .slice none 0 0) (hov : k.ov = .slice none 0 0) (hB : B.length ≤ 1000000) (hcs : (cs.map List.length).sum ≤ 1000000) (hba : 0 < B.length → ba = some ⟨bb, boff, none⟩) (hbb : 0 < B.length → bb < kb) (hbv : BView w bb boff B) :
    Calls Tryz.prog 29 #[.pointer (some ⟨kb, 0, none⟩), .string s, .bool false, .slice ba B.length bcap] w fun e w' => FilePost base kb g k cs s B w e w' := by
  have hgb := h.2.lt g rfl
  have hkl := h.1.lt
  have hl0 := hi.2.2
  have HW := hide (refWalk_any kb g cap k.inos s w h.at hkl hgb.2 (by omega) hs)
  have H := hide h
  have HC := hide hc
  have HI := hide hi
  obtain ⟨r, hr⟩ : ∃ r, r = walkOf k.inos s := ⟨_, rfl⟩
  rw [← hr] at HW
  have HR := hide hr
  have HBV := hide hbv
  clear h hc hi hs hr hbv
  obtain ⟨dir, name, n, e⟩ := r
  unfold walkRet at HW
  go_enter Tryz.func29, Tryz.ntmps29
  go_wp2_with fail
  refine (unhide HW).mono ?_
  rintro e' w1 ⟨rfl, hb1⟩
  have HR1 := hide ((unhide H).below hb1)
  have HF1 := hide (FrameK.ofBelow (a := kb) (b := g) hb1)
  have hs1 := hb1.size
  clear hb1 HW
  simp only
  by_cases t1 : e = 0
  case neg =>
    have g1 : (e != 0) = true := by simpa using t1
    have HE1 := t1
    clear t1
    have HX := hide (show fileCode k cs s B = e from by unfold fileCode; rw [← unhide HR]; exact if_pos HE1)
    go_wp2
    go_ret
    exact ⟨by rw [unhide HX]; rfl, (unhide HF1).below (Nat.le_refl _) (by omega) (by omega), fun h => absurd ((unhide HX).symm.trans h) HE1⟩
  have g1 : (e != 0) = false := by simpa using t1
  have HE := hide (show (walkOf k.inos s).e = 0 from by rw [← unhide HR]; exact t1)
  clear t1
  go_upto_if 34 with fail
  go_cut [11] (fun nv wc => ∃ (k1 : RK) (cs1 : List (List Int)) (n1 : Int) (g1 cap1 : Nat), nv = .int .i64 n1 ∧ Hid (opened k cs s = (k1, cs1, n1)) ∧ Hid (RepK wc base kb g1 cap1 k1) ∧ Hid (ContAt wc k1.inos cs1) ∧ Hid (FrameK w wc kb g) ∧ (g1 = g ∨ w.heap.size ≤ g1) ∧ Hid (¬ ((walkOf k.inos s).n = 0 ∧ k.li ≤ (k.inos.length : Int))))
  case first =>
    by_cases t2 : n = 0
    · have g2 : (n == 0) = true := by simpa using t2
      have HOP := hide (show opened k cs s = (k.add dir name false, cs ++ [[]], k.last + 1) from by unfold opened; rw [← unhide HR]; exact if_pos t2)
      have HN0 := hide (show (walkOf k.inos s).n = 0 from by rw [← unhide HR]; exact t2)
      have c3 : w1.cell? ⟨kb, 3, none⟩ = some (.int .i64 k.li) := (unhide HR1).1.cell rfl
      have c7 : w1.cell? ⟨kb, 7, none⟩ = some (.slice (some ⟨g, 0, none⟩) k.inos.length cap) := (unhide HR1).1.cell rfl
      clear t2
      by_cases t3 : k.li ≤ (k.inos.length : Int)
      · have HX := hide (show fileCode k cs s B = 12 from by unfold fileCode; rw [if_neg (fun h => h (unhide HE)), if_pos ⟨unhide HN0, t3⟩])
        go_wp2
        go_quiet (fail)
        go_wp2
        go_ret
        have hbl := (unhide HF1).below (B := kb) (Nat.le_refl _) (by omega) (by omega)
        exact ⟨by rw [unhide HX]; rfl, ⟨hbl.os, hbl.tape, hbl.output, hbl.size, hbl.block⟩, fun h => absurd ((unhide HX).symm.trans h) (by decide)⟩
      · go_wp2
        go_quiet (fail)
        have HMK := hide (refMake_any base kb g cap k dir name false (w1.drewN nq) ((unhide HR1).heap rfl) hkb (by show base ≤ w1.heap.size; omega) (by omega) (by omega) (by omega))
        go_wp2_with fail
        refine (unhide HMK).mono ?_
        rintro e' w2 ⟨rfl, g', cap', hr2, hf2, hg2⟩
        have hf3 : FrameK w w2 kb g := ⟨hf2.os.trans (unhide HF1).os, hf2.tape.trans (unhide HF1).tape, hf2.output.trans (unhide HF1).output, Nat.le_trans (unhide HF1).size hf2.size, fun q hq a b => (hf2.block q (by show q < w1.heap.size; omega) a b).trans ((unhide HF1).block q hq a b)⟩
        have HR2 := hide hr2
        have HF2 := hide hf3
        have HC2 := hide (((unhide HC).frame hf3 (unhide H).apart.1 (unhide H).apart.2).add dir name false)
        have hg3 : g' = g ∨ w.heap.size ≤ g' := by rcases hg2 with h | h; exact .inl h; exact .inr (Nat.le_trans hs1 h)
        have HNL := hide (show ¬ ((walkOf k.inos s).n = 0 ∧ k.li ≤ (k.inos.length : Int)) from fun h => by (have := h.2; omega))
        clear hr2 hf2 hg2 hf3
        go_wp2
        go_meet
        case rel => exact ⟨_, _, _, g', cap', rfl, HOP, HR2, HC2, HF2, hg3, HNL⟩
    · have g2 : (n == 0) = false := by simpa using t2
      have HOP := hide (show opened k cs s = (k, cs, n) from by unfold opened; rw [← unhide HR]; exact if_neg t2)
      have HC2 := hide ((unhide HC).frame (unhide HF1) (unhide H).apart.1 (unhide H).apart.2)
      have HNL := hide (show ¬ ((walkOf k.inos s).n = 0 ∧ k.li ≤ (k.inos.length : Int)) from fun h => t2 (by rw [← unhide HR] at h; exact h.1))
      clear t2
      go_wp2
      go_meet
      case rel => exact ⟨_, _, _, g, cap, rfl, HOP, HR1, HC2, HF1, .inl rfl, HNL⟩
  case rest =>
    obtain ⟨k1, cs1, n1, g1', cap1, rfl, HOP, HR2, HC2, HF2, hg2, HNL⟩ := hcut
    have hst := opened_facts (unhide HOP)
    obtain ⟨hpv1, hov1, hlb1, hle1, hus1⟩ := hst
    obtain ⟨x, hx⟩ := find_id (opened_id (unhide HI) (unhide HE) (unhide HOP))
    obtain ⟨K, hK, hKx⟩ := place_of_mem hx
    have hKl := (List.getElem?_eq_some_iff.1 hKx).1
    have hdf : dirOf k1.inos n1 = x.dir := by unfold dirOf; rw [hx]
    have hlen1 := (unhide HC2).1
    obtain ⟨c0, hc0⟩ : ∃ c, cs1[K]? = some c := ⟨_, List.getElem?_eq_getElem (by omega)⟩
    have hfa := (unhide HC2).2 K x c0 hKx hc0
    obtain ⟨oa, od, hob⟩ := hfa.len
    have hold : oldOf (opened k cs s) = c0 := by rw [oldOf, unhide HOP]; show cs1.getD (placeOf k1.inos n1).toNat [] = c0; rw [hK, List.getD, Int.toNat_natCast, hc0]; rfl
    have HFA := hide hfa
    have HOLD := hide hold
    have HKX := hide (And.intro hKx hc0)
    have HK := hide hK
    have hkl2 := (unhide HR2).1.lt
    have hgb2 := (unhide HR2).2.lt g1' rfl
    have hs2 := (unhide HF2).size
    have hBel2 : Below kb w wc := (unhide HF2).below (Nat.le_refl _) (by omega) (by omega)
    have HB2 := hide hBel2
    have c3 : wc.cell? ⟨g1', K * 5 + 3, none⟩ = some (.bool x.dir) := (unhide HR2).at.cell hKx (i := 3) (by omega) rfl
    have c7 : wc.cell? ⟨kb, 7, none⟩ = some (.slice (some ⟨g1', 0, none⟩) k1.inos.length cap1) := (unhide HR2).1.cell rfl
    have HIN := hide (refInode_any kb g1' cap1 k1.inos n1 wc (unhide HR2).at (by omega))
    rw [hK] at HIN
    have hK0 : (0 : Int) ≤ (K : Int) := by omega
    have hK1 : (K : Int) < (k1.inos.length : Int) := by omega
    clear hfa hold hx hBel2
    by_cases td : x.dir = true
    · rw [td] at c3
      have HX := hide (show fileCode k cs s B = 11 from by
        unfold fileCode
        rw [if_neg (fun h => h (unhide HE)), if_neg (unhide HNL), unhide HOP]
        exact if_pos (hdf.trans td))
      clear hdf hKx hc0 hob hK td
      go_wp2_with fail
      refine (unhide HIN).mono ?_
      rintro e' w3 ⟨rfl, hw3⟩
      subst hw3
      go_wp2
      go_ret
      exact ⟨by rw [unhide HX]; rfl, unhide HB2, fun h => absurd ((unhide HX).symm.trans h) (by decide)⟩
    have td' : x.dir = false := by simpa using td
    rw [td'] at c3
    have HUS := hide (refUsed_any base kb g1' cap1 k1 [] (cs1.map List.length) none 0 0 wc (unhide HR2) ⟨none, 0, by rw [hpv1, hpv]; rfl, fun i n hh => by simp at hh⟩ (by rw [hov1, hov]) (unhide HC2).lens (by omega) (by simp) (by simp) (by rw [hus1]; omega))
    have HFC := hide (show fileCode k cs s B = if 0 < B.length ∧ k.lb < (usedOf cs1 : Int) - (c0.length : Int) + ((max B.length c0.length : Nat) : Int) then 12 else 0 from by
      unfold fileCode
      rw [if_neg (fun h => h (unhide HE)), if_neg (unhide HNL), unhide HOLD, unhide HOP]
      exact if_neg (by rw [hdf, td']; decide))
    obtain ⟨U, hU⟩ : ∃ U, U = usedOf cs1 := ⟨_, rfl⟩
    have hU1 : U ≤ 1000000 := by rw [hU, usedOf, hus1]; omega
    rw [show (cs1.map List.length).sum = U from hU.symm] at HUS
    rw [← hU] at HFC
    have hcl : c0.length ≤ U := by rw [hU]; exact used_ge hc0
    have HUU := hide hU
    clear hdf hKx hc0 hK td td' hU hpv1 hov1 hus1
    go_wp2_with fail
    refine (unhide HIN).mono ?_
    rintro e' w3 ⟨rfl, hw3⟩
    subst hw3
    go_wp2_with fail
    refine (unhide HUS).mono ?_
    rintro e' w4 ⟨rfl, hb4⟩
    simp only [limRow, List.length_nil, List.sum_nil]
    obtain ⟨bx, hbx⟩ : ∃ bx, bx = Obj.cells #[.int .i64 0, .int .i64 0, .int .i64 0, .int .i64 (k1.inos.length : Int), .int .i64 (U : Int)] 59 := ⟨_, rfl⟩
    have hal : Below w4.heap.size w4 (w4.alloc bx) := (Below.refl _ _).alloc (Nat.le_refl _) _
    have hb5 : Below w3.heap.size w3 (w4.alloc bx) := hb4.trans (hal.mono hb4.size)
    have HR5 := hide ((unhide HR2).below hb5)
    have HF5 := hide ((unhide HF2).step hb5)
    have HC5 := hide ((unhide HC2).frame (FrameK.ofBelow (a := kb) (b := g1') hb5) (unhide HR2).apart.1 (unhide HR2).apart.2)
    have hs5 := hb5.size
    have d7 : (w4.alloc bx).cell? ⟨kb, 7, none⟩ = some (.slice (some ⟨g1', 0, none⟩) k1.inos.length cap1) := (unhide HR5).1.cell rfl
    have d4 : (w4.alloc bx).cell? ⟨kb, 4, none⟩ = some (.int .i64 k1.lb) := (unhide HR5).1.cell rfl
    have db : (w4.alloc bx).cell? ⟨g1', K * 5 + 4, none⟩ = some (.slice oa c0.length od) := by rw [← hob]; exact (unhide HR5).at.cell (unhide HKX).1 (i := 4) (by omega) rfl
    have HBX := hide hbx
    rw [hbx] at d7 d4 db
    obtain ⟨M, hM⟩ : ∃ M, M = max B.length c0.length := ⟨_, rfl⟩
    rw [← hM] at HFC
    rw [hlb1] at d4
    have HMM := hide hM
    have HOB := hide hob
    have hMb : M ≤ 2000000 := by omega
    clear hbx hal hb4 hb5 HUS HIN c3 c7 HC2 HF2 hob hM
    go_upto_if 76 with fail
    go_cut [16] (fun sv wx => sv = .int .i64 (M : Int) ∧ wx = w4.alloc (Obj.cells #[.int .i64 0, .int .i64 0, .int .i64 0, .int .i64 (k1.inos.length : Int), .int .i64 (U : Int)] 59))
    case first =>
      by_cases t5 : B.length < c0.length
      · have e1 := hide (show M = c0.length from by have := unhide HMM; omega)
        go_wp2
        go_meet
        case rel => exact ⟨by rw [unhide e1], rfl⟩
      · have e1 := hide (show M = B.length from by have := unhide HMM; omega)
        go_wp2
        go_meet
        case rel => exact ⟨by rw [unhide e1], rfl⟩
    case rest =>
      obtain ⟨rfl, rfl⟩ := hcut
      obtain ⟨W, hW⟩ : ∃ W, W = w4.alloc (Obj.cells #[.int .i64 0, .int .i64 0, .int .i64 0, .int .i64 (k1.inos.length : Int), .int .i64 (U : Int)] 59) := ⟨_, rfl⟩
      have xb : W.cell? ⟨w4.heap.size, 4, none⟩ = some (.int .i64 (U : Int)) := by rw [hW]; exact (Holds.new w4 59 [.int .i64 0, .int .i64 0, .int .i64 0, .int .i64 (k1.inos.length : Int), .int .i64 (U : Int)]).cell rfl
      rw [unhide HBX, ← hW] at HR5 HF5 HC5 hs5
      rw [← hW] at d7 d4 db
      have HB5 := hide ((unhide HF5).below (B := kb) (Nat.le_refl _) (by omega) (by omega))
      have HWW := hide hW
      have hWs : w4.heap.size < W.heap.size := by rw [hW]; simp
      rw [← hW]
      clear hW
      by_cases hb0 : 0 < B.length
      · by_cases t5 : k.lb < (U : Int) - (c0.length : Int) + (M : Int)
        · have HX := hide (show fileCode k cs s B = 12 from by rw [unhide HFC, if_pos ⟨hb0, t5⟩])
          go_wp2
          go_quiet (fail)
          go_wp2
          go_ret
          have hbl := unhide HB5
          exact ⟨by rw [unhide HX]; rfl, ⟨hbl.os, hbl.tape, hbl.output, hbl.size, hbl.block⟩, fun h => absurd ((unhide HX).symm.trans h) (by decide)⟩
        · have HX := hide (show fileCode k cs s B = 0 from by rw [unhide HFC, if_neg (fun h => t5 h.2)])
          have hbae := hba hb0
          subst hbae
          have hmk : ∀ w, (Instr.makeSlice 32 (.int .i64 (M : Int)) (.int .i64 (M : Int))).run Tryz.prog w = .ok (.slice (some ⟨w.heap.size, 0, none⟩) M M) (w.alloc (.cells (zeroBytes M) 5)) := by
            intro w
            have := run_make_row' (P := Tryz.prog) 32 5 (.int .u8 0) 1 Tryz.underlying32 u8info rfl .i64 .i64 M (by omega) (by omega) w
            rwa [made_bytes] at this
          have HSRC := hide (file_src (w := W) (z := zeroBytes M) (by rw [← unhide HOB]; exact (unhide HC5).2 K x c0 (unhide HKX).1 (unhide HKX).2))
          have HBVW := hide (show BView W bb boff B from fun j hj => by rw [(unhide HB5).cell (p := ⟨bb, boff + j, none⟩) (hbb hb0)]; exact unhide HBV j hj)
          have hmc : c0.length ≤ M := by have := unhide HMM; omega
          have hmB : B.length ≤ M := by have := unhide HMM; omega
          have hbw : bb < W.heap.size := by have := hbb hb0; omega
          go_wp2
          go_quiet (fail)
          have HZ := hide (show Holds ((W.drewN nq).alloc (.cells (zeroBytes M) 5)) W.heap.size 5 (bytesRow (List.replicate M 0)) from Holds.new (W.drewN nq) 5 (bytesRow (List.replicate M 0)))
          have HZB := hide (show Below W.heap.size (W.drewN nq) ((W.drewN nq).alloc (.cells (zeroBytes M) 5)) from (show Below (W.drewN nq).heap.size (W.drewN nq) ((W.drewN nq).alloc (.cells (zeroBytes M) 5)) from (Below.refl _ _).alloc (Nat.le_refl _) _))
          have HZS := hide (unhide HSRC nq)
          have hl1 : (bytesRow c0).length = Nat.min c0.length M := by rw [bytesRow_length]; simp only [Nat.min_def]; split <;> omega
          have hl2 : 0 + (bytesRow c0).length ≤ (bytesRow (List.replicate M (0 : Int))).length := by rw [bytesRow_length, bytesRow_length]; simp; omega
          have hl3 : (bytesRow B).length = Nat.min B.length M := by rw [bytesRow_length]; simp only [Nat.min_def]; split <;> omega
          have hl4 : 0 + (bytesRow B).length ≤ (splice (bytesRow (List.replicate M (0 : Int))) 0 (bytesRow c0)).length := by rw [splice_length _ _ _ hl2, bytesRow_length, bytesRow_length]; simp; omega
          have HL := hide (And.intro hl1 (And.intro hl2 (And.intro hl3 hl4)))
          clear hl1 hl2 hl3 hl4
          go_wp2_with (first
            | (refine wpList_copy_splice rfl _ _ 32 32 rfl 5 Tryz.underlying32 u8one (some ⟨W.heap.size, 0, none⟩) oa M M c0.length od rfl rfl W.heap.size 0 (bytesRow (List.replicate M 0)) 5 (unhide HZ) (bytesRow c0) (unhide HL).1 (fun h0 => ⟨rfl, unhide HZS h0⟩) (unhide HL).2.1 (bytesRow_one' _) W.heap.size (W.drewN nq) (unhide HZB) (Nat.le_refl _) ?_
               intro w6 H6 hb6)
            | (refine wpList_copy_splice rfl _ _ 32 32 rfl 5 Tryz.underlying32 u8one (some ⟨W.heap.size, 0, none⟩) (some ⟨bb, boff, none⟩) M M B.length bcap rfl rfl W.heap.size 0 (splice (bytesRow (List.replicate M 0)) 0 (bytesRow c0)) 5 (unhide H6) (bytesRow B) (unhide HL).2.2.1 (file_src2 rfl hb6 hbw (unhide HBVW)) (unhide HL).2.2.2 (bytesRow_one' _) W.heap.size (W.drewN nq) hb6 (Nat.le_refl _) ?_
               intro w7 H7 hb7
               have hr7 := ((unhide HR5).heap (w' := W.drewN nq) rfl).below hb7
               have y7 : w7.cell? ⟨kb, 7, none⟩ = some (.slice (some ⟨g1', 0, none⟩) k1.inos.length cap1) := hr7.1.cell rfl
               have y4 : w7.cell? ⟨g1', K * 5 + 4, none⟩ = some x.bytes := hr7.at.cell (unhide HKX).1 (i := 4) (by omega) rfl
               have yf := hr7.2.frozenAt (K * 5 + 4)
               have HR7 := hide hr7
               have HB7 := hide hb7
               clear hr7 hb7))
          have hz : Holds w7 W.heap.size 5 (bytesRow (over c0 B)) := by
            have h := unhide H7
            rw [bytesRow_splice, bytesRow_splice, over_eq (unhide HMM)] at h
            exact h
          have hc7 : ContAt w7 k1.inos cs1 := (show ContAt (W.drewN nq) k1.inos cs1 from unhide HC5).frame (FrameK.ofBelow (a := kb) (b := g1') (show Below (W.drewN nq).heap.size (W.drewN nq) w7 from unhide HB7)) (fun vs h => (unhide HR5).apart.1 vs (h.heap rfl)) (fun vs h => (unhide HR5).apart.2 vs (h.heap rfl))
          obtain ⟨k', q1, q2, q3, q4⟩ := file_done (unhide HR7) hc7 hz (unhide HKX).1 hb0 (by omega) (over_len (unhide HMM))
          have hfr : FrameK w w7 kb g := ((show FrameK w (W.drewN nq) kb g from ⟨(unhide HF5).os, (unhide HF5).tape, (unhide HF5).output, (unhide HF5).size, (unhide HF5).block⟩)).step (show Below (W.drewN nq).heap.size (W.drewN nq) w7 from unhide HB7)
          have hfr2 := hfr.trans (b' := g1') ((FrameK.refl w7 kb g1').grownR (grown_set (World.grownBy.refl w7 (some g1')) (K * 5 + 4) (.slice (some ⟨W.heap.size, 0, none⟩) M M))) hg2
          have hcs' : fileCs k cs s B = cs1.set K (over c0 B) := by
            unfold fileCs
            rw [if_neg (by omega), unhide HOLD, unhide HOP]
            show cs1.set (placeOf k1.inos n1).toNat _ = _
            rw [unhide HK, Int.toNat_natCast]
          go_ret
          exact ⟨by rw [unhide HX]; rfl, hfr2.below (Nat.le_refl _) (by omega) (by omega), fun _ => ⟨k', g1', cap1, q1, by rw [hcs']; exact q2, by rw [unhide HOP]; exact q3, by rw [unhide HOP]; exact q4, hfr2, hg2⟩⟩
      · have hB0 : B.length = 0 := by omega
        have hBn : B = [] := List.eq_nil_of_length_eq_zero hB0
        subst hBn
        have HX := hide (show fileCode k cs s [] = 0 from by rw [unhide HFC, if_neg (fun h => by have := h.1; simp at this)])
        have hmk : ∀ w, (Instr.makeSlice 32 (.int .i64 (M : Int)) (.int .i64 (M : Int))).run Tryz.prog w = .ok (.slice (some ⟨w.heap.size, 0, none⟩) M M) (w.alloc (.cells (zeroBytes M) 5)) := by
          intro w
          have := run_make_row' (P := Tryz.prog) 32 5 (.int .u8 0) 1 Tryz.underlying32 u8info rfl .i64 .i64 M (by omega) (by omega) w
          rwa [made_bytes] at this
        have HSRC := hide (file_src (w := W) (z := zeroBytes M) (by rw [← unhide HOB]; exact (unhide HC5).2 K x c0 (unhide HKX).1 (unhide HKX).2))
        have hmc : c0.length ≤ M := by have := unhide HMM; omega
        simp only [List.length_nil] at *
        go_wp2
        go_quiet (fail)
        have HZ := hide (show Holds ((W.drewN nq).alloc (.cells (zeroBytes M) 5)) W.heap.size 5 (bytesRow (List.replicate M 0)) from Holds.new (W.drewN nq) 5 (bytesRow (List.replicate M 0)))
        have HZB := hide (show Below W.heap.size (W.drewN nq) ((W.drewN nq).alloc (.cells (zeroBytes M) 5)) from (show Below (W.drewN nq).heap.size (W.drewN nq) ((W.drewN nq).alloc (.cells (zeroBytes M) 5)) from (Below.refl _ _).alloc (Nat.le_refl _) _))
        have HZS := hide (unhide HSRC nq)
        have hl1 : (bytesRow c0).length = Nat.min c0.length M := by rw [bytesRow_length]; simp only [Nat.min_def]; split <;> omega
        have hl2 : 0 + (bytesRow c0).length ≤ (bytesRow (List.replicate M (0 : Int))).length := by rw [bytesRow_length, bytesRow_length]; simp; omega
        have HL := hide (And.intro hl1 hl2)
        clear hl1 hl2
        go_wp2_with (first
            | (refine wpList_copy_splice rfl _ _ 32 32 rfl 5 Tryz.underlying32 u8one (some ⟨W.heap.size, 0, none⟩) oa M M c0.length od rfl rfl W.heap.size 0 (bytesRow (List.replicate M 0)) 5 (unhide HZ) (bytesRow c0) (unhide HL).1 (fun h0 => ⟨rfl, unhide HZS h0⟩) (unhide HL).2 (bytesRow_one' _) W.heap.size (W.drewN nq) (unhide HZB) (Nat.le_refl _) ?_
               intro w6 H6 hb6)
            | (refine wpList_copy_nothing rfl _ _ 32 32 rfl 5 Tryz.underlying32 u8one (some ⟨W.heap.size, 0, none⟩) ba M M 0 bcap rfl rfl (by simp) ?_))
        have hc6 : ContAt w6 k1.inos cs1 := (show ContAt (W.drewN nq) k1.inos cs1 from unhide HC5).frame (FrameK.ofBelow (a := kb) (b := g1') (show Below (W.drewN nq).heap.size (W.drewN nq) w6 from hb6)) (fun vs h => (unhide HR5).apart.1 vs (h.heap rfl)) (fun vs h => (unhide HR5).apart.2 vs (h.heap rfl))
        have hr6 : RepK w6 base kb g1' cap1 k1 := ((unhide HR5).heap (w' := W.drewN nq) rfl).below hb6
        have hfr : FrameK w w6 kb g := ((show FrameK w (W.drewN nq) kb g from ⟨(unhide HF5).os, (unhide HF5).tape, (unhide HF5).output, (unhide HF5).size, (unhide HF5).block⟩)).step (show Below (W.drewN nq).heap.size (W.drewN nq) w6 from hb6)
        have hcs' : fileCs k cs s [] = cs1 := by
          unfold fileCs
          rw [if_pos List.length_nil, unhide HOP]
        go_ret
        exact ⟨by rw [unhide HX]; rfl, hfr.below (Nat.le_refl _) (by omega) (by omega), fun _ => ⟨k1, g1', cap1, hr6, by rw [hcs']; exact hc6, by rw [unhide HOP], by rw [unhide HOP], hfr, hg2⟩⟩
end Go.Proofs.YtkokiefclmbgaaaGreatDoor

/- tinyosref: file, of a directory. -/
namespace Go.Proofs.YtkokiefclmbgaaaGreatDoor
open Go.RowKit
set_option linter.unusedVariables false
set_option linter.unusedSimpArgs false

set_option maxRecDepth 100000 in
set_option maxHeartbeats 2000000 in
theorem refFile_dir (base kb g cap : Nat) (k : RK) (s : ByteArray) (bv : Value) (w : World) (h : RepK w base kb g cap k) (hkb : kb < base) (hbs : base ≤ w.heap.size) (hn : k.inos.length ≤ 100000) (h0 : 0 ≤ k.last) (h1 : k.last ≤ 1000000) (hs : s.size ≤ maxLen) :
    Calls Tryz.prog 29 #[.pointer (some ⟨kb, 0, none⟩), .string s, .bool true, bv] w fun e w' => e = .returned (.int .i64 (mkdirOf k s).1) ∧ ∃ g' cap', RepK w' base kb g' cap' (mkdirOf k s).2 ∧ FrameK w w' kb g ∧ (g' = g ∨ w.heap.size ≤ g') := by
  have HM := hide (refMkdir_any base kb g cap k s w h hkb hbs hn h0 h1 hs)
  clear h hs
  go_enter Tryz.func29, Tryz.ntmps29
  go_wp2_with fail
  refine (unhide HM).mono ?_
  rintro e w1 ⟨rfl, hr⟩
  have HR := hide hr
  clear hr
  go_wp2
  go_ret
  exact ⟨rfl, unhide HR⟩
theorem InvK.add {k : RK} (h : InvK k) (dir : Int) (name : ByteArray) (is : Bool) : InvK (k.add dir name is) := by
  obtain ⟨h1, ⟨x, hx, he⟩, h2⟩ := h
  refine ⟨fun y hy => ?_, ⟨x, by simp [RK.add, hx], he⟩, by show 1 ≤ k.last + 1; omega⟩
  have hy' : y ∈ k.inos ++ [newIno (k.last + 1) dir name is] := hy
  rcases List.mem_append.1 hy' with h | h
  · have := h1 y h; show y.id ≤ k.last + 1; omega
  · obtain rfl := List.mem_singleton.1 h
    exact Int.le_refl _
theorem InvK.mkdir {k : RK} (h : InvK k) (s : ByteArray) : InvK (mkdirOf k s).2 := by
  unfold mkdirOf
  split
  · exact h
  split
  · exact h
  split
  · exact h
  · exact h.add _ _ _
theorem InvK.opened {k k1 : RK} {cs cs1 : List (List Int)} {s : ByteArray} {n1 : Int} (h : InvK k) (ho : opened k cs s = (k1, cs1, n1)) : InvK k1 := by
  unfold Go.Proofs.YtkokiefclmbgaaaGreatDoor.opened at ho
  split at ho
  · simp only [Prod.mk.injEq] at ho
    obtain ⟨rfl, _, _⟩ := ho
    exact h.add _ _ _
  · simp only [Prod.mk.injEq] at ho
    obtain ⟨rfl, _, _⟩ := ho
    exact h
/-- What an inode is, without its bytes, says all of the kernel's invariant. -/
theorem InvK.same {k k' : RK} (h : InvK k) (he : k'.inos.map erase = k.inos.map erase) (hl : k'.last = k.last) : InvK k' := by
  have hid : ∀ (a b : List Ino), a.map erase = b.map erase → a.map (·.id) = b.map (·.id) := fun a b e => by
    have := congrArg (List.map (fun x : Ino => x.id)) e
    rw [List.map_map, List.map_map] at this
    exact this
  have hm := hid _ _ he
  obtain ⟨h1, ⟨x, hx, hxe⟩, h2⟩ := h
  refine ⟨fun y hy => ?_, ?_, by omega⟩
  · have : y.id ∈ k.inos.map (·.id) := by rw [← hm]; exact List.mem_map.2 ⟨y, hy, rfl⟩
    obtain ⟨z, hz, hze⟩ := List.mem_map.1 this
    have := h1 z hz
    omega
  · have : x.id ∈ k'.inos.map (·.id) := by rw [hm]; exact List.mem_map.2 ⟨x, hx, rfl⟩
    obtain ⟨z, hz, hze⟩ := List.mem_map.1 this
    exact ⟨z, hz, by rw [hze, hxe]⟩
end Go.Proofs.YtkokiefclmbgaaaGreatDoor

/- tinyosref: the kernel's files without memory. -/
namespace Go.Proofs.YtkokiefclmbgaaaGreatDoor
open Go.RowKit
set_option linter.unusedVariables false
set_option linter.unusedSimpArgs false

theorem childOf_erase (xs : List Ino) (dir : Int) (name : ByteArray) : childOf (xs.map erase) dir name = childOf xs dir name := by
  unfold childOf
  rw [List.find?_map, show isChild dir name ∘ erase = isChild dir name from rfl]
  cases xs.find? (isChild dir name) <;> rfl
theorem placeOf_erase (xs : List Ino) (n : Int) : placeOf (xs.map erase) n = placeOf xs n := by
  unfold placeOf
  rw [List.findIdx?_map, show (fun x : Ino => x.id == n) ∘ erase = (fun x : Ino => x.id == n) from rfl]
theorem dirOf_erase (xs : List Ino) (n : Int) : dirOf (xs.map erase) n = dirOf xs n := by
  unfold dirOf
  rw [List.find?_map, show (fun x : Ino => x.id == n) ∘ erase = (fun x : Ino => x.id == n) from rfl]
  cases xs.find? (fun x : Ino => x.id == n) <;> rfl
theorem follow_erase (xs : List Ino) : ∀ (l : List ByteArray) (dir : Int), follow (xs.map erase) dir l = follow xs dir l
  | [], _ => rfl
  | [a], dir => by simp only [follow, childOf_erase]
  | a :: b :: r, dir => by
    simp only [follow, childOf_erase, dirOf_erase]
    split
    · rfl
    · split
      · exact follow_erase xs (b :: r) _
      · rfl
theorem walkOf_erase (xs : List Ino) (s : ByteArray) : walkOf (xs.map erase) s = walkOf xs s := by
  unfold walkOf
  split
  · rfl
  · rfl
  · exact follow_erase xs _ 1

/-- The document's files without memory: limits, inodes (their bytes left out), the files' bytes, the last number. -/
structure PK where
  lp : Int
  lf : Int
  lo : Int
  li : Int
  lb : Int
  last : Int
  xs : List Ino
  cs : List (List Int)
def RK.toP (k : RK) (cs : List (List Int)) : PK := ⟨k.lp, k.lf, k.lo, k.li, k.lb, k.last, k.inos.map erase, cs⟩
def PK.add (p : PK) (dir : Int) (name : ByteArray) (is : Bool) : PK := {p with xs := p.xs ++ [newIno (p.last + 1) dir name is], cs := p.cs ++ [[]], last := p.last + 1}
def PK.mkdir (p : PK) (s : ByteArray) : Int × PK :=
  if (walkOf p.xs s).e ≠ 0 then ((walkOf p.xs s).e, p) else if (walkOf p.xs s).n ≠ 0 then (10, p) else if p.li ≤ (p.xs.length : Int) then (12, p) else (0, p.add (walkOf p.xs s).dir (walkOf p.xs s).name true)
def PK.opened (p : PK) (s : ByteArray) : PK × Int := if (walkOf p.xs s).n = 0 then (p.add (walkOf p.xs s).dir (walkOf p.xs s).name false, p.last + 1) else (p, (walkOf p.xs s).n)
def PK.old (p : PK) (n : Int) : List Int := p.cs.getD (placeOf p.xs n).toNat []
def PK.fileCode (p : PK) (s : ByteArray) (B : List Int) : Int :=
  if (walkOf p.xs s).e ≠ 0 then (walkOf p.xs s).e
  else if (walkOf p.xs s).n = 0 ∧ p.li ≤ (p.xs.length : Int) then 12
  else if dirOf (p.opened s).1.xs (p.opened s).2 = true then 11
  else if 0 < B.length ∧ p.lb < (usedOf (p.opened s).1.cs : Int) - (((p.opened s).1.old (p.opened s).2).length : Int) + ((max B.length ((p.opened s).1.old (p.opened s).2).length : Nat) : Int) then 12 else 0
def PK.fileOut (p : PK) (s : ByteArray) (B : List Int) : PK :=
  if B.length = 0 then (p.opened s).1 else {(p.opened s).1 with cs := (p.opened s).1.cs.set (placeOf (p.opened s).1.xs (p.opened s).2).toNat (over ((p.opened s).1.old (p.opened s).2) B)}
theorem add_toP (k : RK) (cs : List (List Int)) (dir : Int) (name : ByteArray) (is : Bool) : (k.add dir name is).toP (cs ++ [[]]) = (k.toP cs).add dir name is := by
  unfold RK.toP RK.add PK.add
  simp only [List.map_append, List.map_cons, List.map_nil]
  rfl
theorem mkdir_toP (k : RK) (cs : List (List Int)) (s : ByteArray) : ((k.toP cs).mkdir s).1 = (mkdirOf k s).1 ∧ ((mkdirOf k s).1 = 0 → ((k.toP cs).mkdir s).2 = (mkdirOf k s).2.toP (cs ++ [[]])) := by
  have hw : walkOf (k.toP cs).xs s = walkOf k.inos s := walkOf_erase k.inos s
  have hl : (k.toP cs).xs.length = k.inos.length := List.length_map _
  unfold PK.mkdir mkdirOf
  rw [hw, hl, show (k.toP cs).li = k.li from rfl]
  split
  · rename_i h
    exact ⟨rfl, fun h0 => absurd h0 h⟩
  split
  · exact ⟨rfl, fun h0 => absurd h0 (show ¬ (10 : Int) = 0 by decide)⟩
  split
  · exact ⟨rfl, fun h0 => absurd h0 (show ¬ (12 : Int) = 0 by decide)⟩
  · exact ⟨rfl, fun _ => (add_toP k cs _ _ _).symm⟩
theorem opened_toP (k : RK) (cs : List (List Int)) (s : ByteArray) : (k.toP cs).opened s = ((Go.Proofs.YtkokiefclmbgaaaGreatDoor.opened k cs s).1.toP (Go.Proofs.YtkokiefclmbgaaaGreatDoor.opened k cs s).2.1, (Go.Proofs.YtkokiefclmbgaaaGreatDoor.opened k cs s).2.2) := by
  have hw : walkOf (k.toP cs).xs s = walkOf k.inos s := walkOf_erase k.inos s
  unfold PK.opened Go.Proofs.YtkokiefclmbgaaaGreatDoor.opened
  rw [hw]
  split
  · rw [← add_toP]; rfl
  · rfl
theorem old_toP (k : RK) (cs : List (List Int)) (n : Int) : (k.toP cs).old n = oldOf (k, cs, n) := by
  unfold PK.old oldOf
  show cs.getD (placeOf (k.inos.map erase) n).toNat [] = _
  rw [placeOf_erase]
theorem file_toP (k : RK) (cs : List (List Int)) (s : ByteArray) (B : List Int) : (k.toP cs).fileCode s B = fileCode k cs s B := by
  have hw : walkOf (k.toP cs).xs s = walkOf k.inos s := walkOf_erase k.inos s
  have hl : (k.toP cs).xs.length = k.inos.length := List.length_map _
  unfold PK.fileCode fileCode
  rw [hw, hl, opened_toP]
  simp only [old_toP]
  rw [show (k.toP cs).li = k.li from rfl, show (k.toP cs).lb = k.lb from rfl]
  rw [show ((Go.Proofs.YtkokiefclmbgaaaGreatDoor.opened k cs s).1.toP (Go.Proofs.YtkokiefclmbgaaaGreatDoor.opened k cs s).2.1).xs = (Go.Proofs.YtkokiefclmbgaaaGreatDoor.opened k cs s).1.inos.map erase from rfl, dirOf_erase]
  rfl
theorem fileOut_toP (k k' : RK) (cs : List (List Int)) (s : ByteArray) (B : List Int) (he : k'.inos.map erase = (Go.Proofs.YtkokiefclmbgaaaGreatDoor.opened k cs s).1.inos.map erase) (hk : {k' with inos := []} = {(Go.Proofs.YtkokiefclmbgaaaGreatDoor.opened k cs s).1 with inos := []}) :
    (k.toP cs).fileOut s B = k'.toP (fileCs k cs s B) := by
  have hf : ∀ cc, k'.toP cc = (Go.Proofs.YtkokiefclmbgaaaGreatDoor.opened k cs s).1.toP cc := fun cc => by
    unfold RK.toP
    rw [he]
    simp only [RK.mk.injEq] at hk
    obtain ⟨h1, h2, h3, h4, h5, _, _, _, _, _, _, _, h6⟩ := hk
    rw [h1, h2, h3, h4, h5, h6]
  rw [hf]
  unfold PK.fileOut fileCs
  rw [opened_toP]
  simp only [old_toP]
  split
  · rfl
  · rw [show ((Go.Proofs.YtkokiefclmbgaaaGreatDoor.opened k cs s).1.toP (Go.Proofs.YtkokiefclmbgaaaGreatDoor.opened k cs s).2.1).xs = (Go.Proofs.YtkokiefclmbgaaaGreatDoor.opened k cs s).1.inos.map erase from rfl, placeOf_erase]
    rfl
end Go.Proofs.YtkokiefclmbgaaaGreatDoor

/- tinyosref: Path. -/
namespace Go.Proofs.YtkokiefclmbgaaaGreatDoor
open Go.RowKit
set_option linter.unusedVariables false
set_option linter.unusedSimpArgs false

def slashB : ByteArray := ⟨#[47]⟩
/-- The path of an inode, from its number up; t: what stands behind it already. -/
def pathGo (xs : List Ino) : Nat → Int → ByteArray → ByteArray
  | 0, _, t => t
  | n + 1, id, t => if id ≤ 1 then t else match xs.find? (fun x => x.id == id) with | some x => pathGo xs n x.parent (slashB ++ x.name ++ t) | none => t
def pathOf (xs : List Ino) (id : Int) : ByteArray := pathGo xs id.toNat id ByteArray.empty
/-- Numbers go down along the path, and each directory is there. -/
structure TreeInv (xs : List Ino) : Prop where
  down : ∀ x ∈ xs, x.parent < x.id
  there : ∀ x ∈ xs, 1 < x.parent → ∃ y ∈ xs, y.id = x.parent
  names : ∀ x ∈ xs, x.name.size ≤ 14
theorem pathGo_le {xs : List Ino} {n : Nat} {id : Int} {t : ByteArray} (h : id ≤ 1) : pathGo xs n id t = t := by
  cases n with
  | zero => rfl
  | succ n => unfold pathGo; rw [if_pos h]
theorem pathGo_fuel {xs : List Ino} (hd : ∀ x ∈ xs, x.parent < x.id) : ∀ (n m : Nat) (id : Int) (t : ByteArray), id ≤ n + 1 → id ≤ m + 1 → pathGo xs n id t = pathGo xs m id t
  | 0, m, id, t, h1, h2 => by rw [pathGo_le (by omega), pathGo_le (by omega)]
  | n + 1, 0, id, t, h1, h2 => by rw [pathGo_le (by omega), pathGo_le (by omega)]
  | n + 1, m + 1, id, t, h1, h2 => by
    unfold pathGo
    split
    · rfl
    · cases hx : xs.find? (fun x => x.id == id) with
      | none => rfl
      | some x =>
        have h3 := hd x (List.mem_of_find?_eq_some hx)
        have h4 : x.id = id := by have := List.find?_some hx; simpa using this
        exact pathGo_fuel hd n m x.parent _ (by omega) (by omega)
theorem pathOf_root {xs : List Ino} {id : Int} (h : id ≤ 1) : pathOf xs id = ByteArray.empty := pathGo_le h
theorem pathGo_up {xs : List Ino} (hd : ∀ x ∈ xs, x.parent < x.id) {n : Nat} {id : Int} {x : Ino} {t : ByteArray} (h1 : 1 < id) (hn : id ≤ n) (hx : xs.find? (fun x => x.id == id) = some x) : pathGo xs n id t = pathGo xs n x.parent (slashB ++ x.name ++ t) := by
  cases n with
  | zero => omega
  | succ n =>
    have h3 := hd x (List.mem_of_find?_eq_some hx)
    have h4 : x.id = id := by have := List.find?_some hx; simpa using this
    rw [show pathGo xs (n + 1) id t = pathGo xs n x.parent (slashB ++ x.name ++ t) from by conv => lhs; unfold pathGo; rw [if_neg (by omega), hx]]
    exact pathGo_fuel hd n (n + 1) _ _ (by omega) (by omega)
/-- What stands behind is kept. -/
theorem pathGo_tail (xs : List Ino) : ∀ (n : Nat) (id : Int) (t : ByteArray), pathGo xs n id t = pathGo xs n id ByteArray.empty ++ t
  | 0, id, t => by show t = ByteArray.empty ++ t; simp
  | n + 1, id, t => by
    unfold pathGo
    split
    · simp
    · cases xs.find? (fun x => x.id == id) with
      | none => simp
      | some x =>
        show pathGo xs n x.parent (slashB ++ x.name ++ t) = pathGo xs n x.parent (slashB ++ x.name ++ ByteArray.empty) ++ t
        rw [pathGo_tail xs n x.parent (slashB ++ x.name ++ t), pathGo_tail xs n x.parent (slashB ++ x.name ++ ByteArray.empty)]
        simp [ByteArray.append_assoc]

set_option maxRecDepth 100000 in
set_option maxHeartbeats 4000000 in
theorem refPath_any (kb g cap : Nat) (xs : List Ino) (id0 : Int) (w : World) (h : InosAt w kb g cap xs) (hn : xs.length ≤ 1000000) (ht : TreeInv xs) (hid : 1 < id0 → ∃ y ∈ xs, y.id = id0) (hi : id0 ≤ 1000000) :
    Calls Tryz.prog 21 #[.pointer (some ⟨kb, 0, none⟩), .int .i64 id0] w fun e w' => e = .returned (.string (pathOf xs id0)) ∧ w' = w := by
  have H := hide h
  have HT := hide ht
  have HID := hide hid
  clear h ht hid
  go_enter Tryz.func21, Tryz.ntmps21
  go_wp2
  go_loop [1, 5] (fun i s => ∃ (id : Int) (t : ByteArray), i = .int .i64 id ∧ s = .string t ∧ id ≤ id0 ∧ Hid (1 < id → ∃ y ∈ xs, y.id = id) ∧ Hid ((t.size : Int) ≤ 15 * (id0 - id)) ∧ Hid (pathGo xs id0.toNat id t = pathOf xs id0)) (fun i _ => (intOf i).toNat)
  case atStart => exact ⟨id0, ByteArray.empty, rfl, rfl, by omega, HID, hide (by simp), hide rfl⟩
  case round =>
    obtain ⟨id, t, rfl, rfl, hle, HI, HS, HP⟩ := hrel
    by_cases hlt : 1 < id
    · obtain ⟨x, hx⟩ := find_id (unhide HI hlt)
      obtain ⟨K, hK, hKx⟩ := place_of_mem hx
      have hKl := (List.getElem?_eq_some_iff.1 hKx).1
      have HIN := hide (refInode_any kb g cap xs id w (unhide H) hn)
      rw [hK] at HIN
      have c1 : w.cell? ⟨g, K * 5 + 1, none⟩ = some (.int .i64 x.parent) := (unhide H).cell hKx (i := 1) (by omega) rfl
      have c2 : w.cell? ⟨g, K * 5 + 2, none⟩ = some (.string x.name) := (unhide H).cell hKx (i := 2) (by omega) rfl
      have c7 := (unhide H).1
      have hxm := List.mem_of_find?_eq_some hx
      have hxi : x.id = id := by have := List.find?_some hx; simpa using this
      have hdn := (unhide HT).down x hxm
      have hnm := (unhide HT).names x hxm
      have HS2 := hide (show ((slashB ++ x.name ++ t).size : Int) ≤ 15 * (id0 - x.parent) from by
        have h1 := unhide HS
        rw [ByteArray.size_append, ByteArray.size_append]
        have h2 : slashB.size = 1 := rfl
        omega)
      have HP2 := hide ((pathGo_up (unhide HT).down (n := id0.toNat) hlt (by omega) hx).symm.trans (unhide HP))
      have HI2 := hide (fun h1 => (unhide HT).there x hxm h1)
      have hpl : x.parent < id := by omega
      have hts : t.size ≤ 100000000 := by have := unhide HS; omega
      have hns : x.name.size ≤ 100000000 := by omega
      have hK0 : (0 : Int) ≤ (K : Int) := by omega
      have hK1 : (K : Int) < (xs.length : Int) := by omega
      generalize x.parent = PA at *
      generalize x.name = NA at *
      clear hx hK hKx hxm hxi hnm hdn HP HS HI
      go_wp2_with fail
      refine (unhide HIN).mono ?_
      rintro e w3 ⟨rfl, hw3⟩
      subst hw3
      go_wp2
      go_round
      case rel => exact ⟨PA, slashB ++ NA ++ t, rfl, rfl, by omega, HI2, HS2, HP2⟩
      case measure => simp [intOf]; omega
    · have HR := hide ((pathGo_le (xs := xs) (n := id0.toNat) (t := t) (show id ≤ 1 by omega)).symm.trans (unhide HP))
      go_wp2
      go_ret
      exact ⟨by rw [← unhide HR]; rfl, rfl⟩
end Go.Proofs.YtkokiefclmbgaaaGreatDoor
