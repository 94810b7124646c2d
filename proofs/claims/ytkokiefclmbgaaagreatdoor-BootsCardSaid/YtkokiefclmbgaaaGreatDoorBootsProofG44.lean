import Derived.Test.YtkokiefclmbgaaaGreatDoorBootsProofG43
import Derived.Test.YtkokiefclmbgaaaGreatDoorBootsProofG32
import Derived.Test.YtkokiefclmbgaaaGreatDoorBootsProofG42
/- The program's list of what is below a node. -/
namespace Go.Proofs.YtkokiefclmbgaaaGreatDoor
open Go Go.RowKit Go.Maps
set_option linter.unusedVariables false
set_option linter.unusedSimpArgs false

/-- What list answers. -/
def ListPost (p : PK) (i : Nat) (w : World) (e : Ending) (w' : World) : Prop := ∃ v EL, e = .returned v ∧ LRep p w' w.heap.size v EL ∧ (EL.map Prod.fst).Nodup ∧ (∀ j, j ∈ EL.map Prod.fst ↔ Desc p.xs i j) ∧ Below w.heap.size w w'
structure LLoop (p : PK) (i : Nat) (D : DataW Unit) (w : World) (wr : World) (left : Lit → Bool) (v : Value) (EL : List (Nat × FLoc)) (PR : List Nat) : Prop where
  rep : LRep p wr (w.heap.size + 1) v EL
  nodup : (EL.map Prod.fst).Nodup
  mem : ∀ j, j ∈ EL.map Prod.fst ↔ ∃ c ∈ PR, j = c ∨ Desc p.xs c j
  done : ∀ j ∈ PR, Kid p.xs i j ∧ ∀ y, p.xs[j]? = some y → left (.string y.name.data.toList) = false
  todo : ∀ j y, Kid p.xs i j → p.xs[j]? = some y → j ∈ PR ∨ left (.string y.name.data.toList) = true
  sub : ∀ kl, left kl = true → Maps.has D kl = true
  below : Below w.heap.size w wr
  low : w.heap.size < wr.heap.size
theorem LLoop.start {p : PK} (hi : PInv p) {i m n : Nat} {D : DataW Unit} {w wr : World} {NB : List Nat} {x : Ino} (hx : p.xs[i]? = some x) (hl : NB.length = p.xs.length) (hf : ∀ s : ByteArray, D.atKey (.string s.data.toList) .nil = nodeDatum (kidOf p.xs NB x.id s)) (hb : Below w.heap.size w wr) (hs : w.heap.size < wr.heap.size) : LLoop p i D w wr (Maps.has D) (.slice none 0 0) [] [] := by
  refine ⟨LRep.empty _ _ _, by simp, fun j => by simp, fun j hj => absurd hj (by simp), fun j y hk hy => .inr ?_, fun kl h => h, hb, hs⟩
  have hjl := (List.getElem?_eq_some_iff.1 hy).1
  have h1 := hf y.name
  rw [map_of_kid hi hx hy hk hl, List.getElem?_eq_getElem (by omega)] at h1
  cases hh : Maps.has D (.string y.name.data.toList) with
  | true => rfl
  | false =>
    rw [Maps.atKey_of_not_has hh] at h1
    cases h1
theorem LLoop.fin {p : PK} {i : Nat} {D : DataW Unit} {w wr : World} {left : Lit → Bool} {v : Value} {EL : List (Nat × FLoc)} {PR : List Nat} (h : LLoop p i D w wr left v EL PR) (hl : ∀ kl, left kl = false) : ListPost p i w (.returned v) wr := by
  refine ⟨v, EL, rfl, h.rep.base (by omega), h.nodup, fun j => ?_, h.below⟩
  rw [h.mem j]
  constructor
  · rintro ⟨c, hc, rfl | hd⟩
    · exact .kid (h.done _ hc).1
    · exact .cons (h.done _ hc).1 hd
  · intro hd
    obtain ⟨c, hk, hc⟩ := hd.head
    obtain ⟨y, hy⟩ : ∃ y, p.xs[c]? = some y := ⟨_, List.getElem?_eq_getElem hk.bound.2⟩
    rcases h.todo c y hk hy with q | q
    · exact ⟨c, q, by rcases hc with e | e; exact .inl e.symm; exact .inr e⟩
    · rw [hl] at q; cases q
/-- One child more. -/
theorem LLoop.next {p : PK} (hi : PInv p) {i j : Nat} {D : DataW Unit} {w wr w9 : World} {left : Lit → Bool} {v v9 : Value} {EL EL2 : List (Nat × FLoc)} {PR : List Nat} {l : FLoc} {y : Ino} (h : LLoop p i D w wr left v EL PR) (hk : Kid p.xs i j) (hy : p.xs[j]? = some y) (hlk : left (.string y.name.data.toList) = true)
    (hn2 : (EL2.map Prod.fst).Nodup) (hm2 : ∀ k, k ∈ EL2.map Prod.fst ↔ Desc p.xs j k) (hrep : LRep p w9 (w.heap.size + 1) v9 (EL ++ [(j, l)] ++ EL2)) (hb : Below w.heap.size w w9) (hs : w.heap.size < w9.heap.size) : LLoop p i D w w9 (fun z => left z && !z.sameKey (.string y.name.data.toList)) v9 (EL ++ [(j, l)] ++ EL2) (j :: PR) := by
  have hno : ∀ c ∈ PR, c ≠ j := fun c hc e => by
    subst e
    rw [(h.done c hc).2 y hy] at hlk
    cases hlk
  have hse : ∀ s t : List UInt8, (Lit.string s).sameKey (.string t) = decide (s = t) := fun s t => by
    by_cases e : s = t
    · subst e; simp [Lit.sameKey]
    · simp [Lit.sameKey, e]
  refine ⟨hrep, ?_, fun k => ?_, fun c hc => ?_, fun c z hc hz => ?_, fun kl hkl => h.sub kl (by simp at hkl; exact hkl.1), hb, hs⟩
  · rw [List.map_append, List.map_append]
    refine List.nodup_append.2 ⟨List.nodup_append.2 ⟨h.nodup, by simp, fun a ha b hb' e => ?_⟩, hn2, fun a ha b hb' e => ?_⟩
    · have : b = j := by simpa using hb'
      subst this; subst e
      obtain ⟨c, hc, hd⟩ := (h.mem a).1 ha
      exact hno c hc (sib hi (h.done c hc).1 hk hd (.inl rfl))
    · subst e
      have hd2 := (hm2 a).1 hb'
      rcases List.mem_append.1 ha with ha | ha
      · obtain ⟨c, hc, hd⟩ := (h.mem a).1 ha
        exact hno c hc (sib hi (h.done c hc).1 hk hd (.inr hd2))
      · have : a = j := by simpa using ha
        subst this
        have := hd2.lt hi
        omega
  · rw [List.map_append, List.map_append, List.mem_append, List.mem_append, h.mem k, hm2 k]
    constructor
    · rintro ((⟨c, hc, hd⟩ | hj) | hd)
      · exact ⟨c, by simp [hc], hd⟩
      · exact ⟨j, by simp, .inl (by simpa using hj)⟩
      · exact ⟨j, by simp, .inr hd⟩
    · rintro ⟨c, hc, hd⟩
      rcases List.mem_cons.1 hc with rfl | hc
      · rcases hd with rfl | hd
        · exact .inl (.inr (by simp))
        · exact .inr hd
      · exact .inl (.inl ⟨c, hc, hd⟩)
  · rcases List.mem_cons.1 hc with rfl | hc
    · refine ⟨hk, fun z hz => ?_⟩
      rw [hy] at hz
      obtain rfl := Option.some.inj hz
      simp [hse]
    · refine ⟨(h.done c hc).1, fun z hz => ?_⟩
      rw [(h.done c hc).2 z hz]
      rfl
  · by_cases e : c = j
    · left; rw [e]; simp
    · rcases h.todo c z hc hz with q | q
      · left; simp [q]
      · right
        have hne : z.name.data.toList ≠ y.name.data.toList := by
          intro e2
          obtain ⟨a1, b1, c1, d1, e1, f1⟩ := hc
          obtain ⟨a2, b2, c2, d2, e2', f2⟩ := hk
          rw [hz] at d1
          obtain rfl := Option.some.inj d1
          rw [hy] at d2
          obtain rfl := Option.some.inj d2
          rw [c1] at c2
          obtain rfl := Option.some.inj c2
          exact e (idx_eq hi.incr hz hy (hi.kids z (List.mem_of_getElem? hz) y (List.mem_of_getElem? hy) (by omega) f1 (by rw [ByteArray.toList_eq, ByteArray.toList_eq]; exact e2)))
        simp [q, hse, hne]
theorem invStr (key : Value) (kl : Lit) (h : keyOf Tryz.prog 9 key = some kl) : ∃ x, key = Value.string x := by
  obtain ⟨x, rfl, _⟩ := Maps.keyOf_string_inv Tryz.underlying9 h
  exact ⟨x, rfl⟩
theorem str_key {x : ByteArray} {kl : Lit} (h : keyOf Tryz.prog 9 (.string x) = some kl) : kl = .string x.data.toList := by
  simp [keyOf, mapKey, Tryz.underlying9] at h
  first | exact h.2.symm | exact h.symm | (obtain ⟨_, h⟩ := h; exact h.symm)
theorem bcloneEnter : ∀ args w, (callFunc 91 args).run Tryz.prog w = .ok (.enter 91 args) w := enters_of Tryz.func91 (by kernel_rfl) rfl
theorem file_built (s : ByteArray) (d : Bool) (a : Option Addr) (n c : Nat) (w : World) : (Instr.build 44 #[(0, .string s), (1, .bool d), (2, .slice a n c)]).run Tryz.prog w = .ok (.agg #[.string s, .bool d, .slice a n c]) w := by kernel_rfl
end Go.Proofs.YtkokiefclmbgaaaGreatDoor

/- The program's list of what is below a node: the walk. -/
namespace Go.Proofs.YtkokiefclmbgaaaGreatDoor
open Go Go.RowKit Go.Maps
set_option linter.unusedVariables false
set_option linter.unusedSimpArgs false

set_option maxRecDepth 100000 in
set_option maxHeartbeats 1000000 in
theorem list_file (b : Nat) (s : ByteArray) (w : World) (h : w.cell? ⟨b, 3, none⟩ = some (.map none)) : Calls Tryz.prog 87 #[.pointer (some ⟨b, 0, none⟩), .string s] w fun e w' => e = .returned (.slice none 0 0) ∧ Below w.heap.size w w' := by
  have hr := run_range_nilMap (P := Tryz.prog) w 228 9 160 Tryz.underlying228
  have hx := fun ty => run_next_nilMap (P := Tryz.prog) w ty 0 0 #[]
  have HB := hide (show Below w.heap.size w (w.alloc (.mapIter none 0 #[] 0)) from (Below.refl _ _).alloc (Nat.le_refl _) _)
  go_enter Tryz.func87, Tryz.ntmps87
  go_wp2
  go_loopw [5] (fun v wr => v = .slice none 0 0 ∧ wr = w.alloc (.mapIter none 0 #[] 0)) (fun _ _ => 0)
  case atStart => exact ⟨rfl, rfl⟩
  case round =>
    obtain ⟨rfl, rfl⟩ := hrel
    go_wp2
    go_ret
    exact ⟨rfl, unhide HB⟩
theorem path_size {p : PK} (hi : PInv p) : ∀ (i : Nat) (x : Ino), p.xs[i]? = some x → (pathOf p.xs x.id).size ≤ 15 * i := by
  intro i
  induction i using Nat.strongRecOn with
  | ind i ih =>
    intro x hx
    by_cases hx0 : x.parent = 0
    · have := path_root hi hx hx0
      have h0 : (pathOf p.xs x.id).size = 0 := by rw [← ByteArray.size_data, ← Array.length_toList, this]; rfl
      omega
    · obtain ⟨a, xa, ha, ha1, _, hka⟩ := parent_at hi hx hx0
      have h1 := ih a (hka.lt hi) xa ha
      have h2 := hi.tree.names x (List.mem_of_getElem? hx)
      have h3 := hka.lt hi
      rw [path_child hi hx hx0, ByteArray.size_append, ByteArray.size_append, ← ha1]
      have h4 : slashB.size = 1 := rfl
      omega
theorem fileInfo' : (Tryz.prog.info? 44).map (fun i => (i.zero, i.size, i.bytes)) = some (some (.agg #[.string ByteArray.empty, .bool false, .slice none 0 0]), 3, 48) := by kernel_rfl
theorem rows_cells {w : World} {B : Nat} {g n c : Nat} {p : PK} {EL : List (Nat × FLoc)} (h : w.ownsRow B 44 3 (.slice (some ⟨g, 0, none⟩) n c) n (elemRows p EL)) : ∀ j u, (elemRows p EL)[j]? = some u → w.cell? ((⟨g, 0, none⟩ : Addr).add j) = some u := fun j u hj => by
  have hl := (List.getElem?_eq_some_iff.1 hj).1
  rw [addr_add, Nat.zero_add, h.cellAt j (by have := h.1; omega)]
  exact hj

set_option maxRecDepth 100000 in
set_option maxHeartbeats 8000000 in
theorem list_any (p : PK) (hi : PInv p) (B tb ab am : Nat) (NB MB : List Nat) (V : List Value) (hxl : p.xs.length ≤ 100000) (hcl : ∀ c ∈ p.cs, c.length ≤ 1000000) : ∀ (N i : Nat) (x : Ino) (b : Nat) (w : World), BootRep w B tb ab am p NB MB V → p.xs[i]? = some x → NB[i]? = some b → p.xs.length ≤ i + N →
    Calls Tryz.prog 87 #[.pointer (some ⟨b, 0, none⟩), .string (pathOf p.xs x.id)] w (ListPost p i w)
  | 0, i, x, b, w, hr, hx, hb, hN => by have := (List.getElem?_eq_some_iff.1 hx).1; omega
  | N + 1, i, x, b, w, hr, hx, hb, hN => by
    have hil := (List.getElem?_eq_some_iff.1 hx).1
    obtain ⟨m, hm⟩ : ∃ m, MB[i]? = some m := ⟨_, List.getElem?_eq_getElem (by rw [hr.tree.len.2]; exact hil)⟩
    obtain ⟨qn, v0, mv, hn, hd, _, hfl⟩ := hr.tree.node i x b m hx hb hm
    cases hxd : x.dir with
    | false =>
      refine (list_file b (pathOf p.xs x.id) w (by rw [← hfl hxd]; exact hn.cell rfl)).mono ?_
      rintro e w' ⟨rfl, hbl⟩
      refine ⟨_, [], rfl, LRep.empty _ _ _, by simp, fun j => ?_, hbl⟩
      constructor
      · intro h; simp at h
      · intro h
        obtain ⟨c, hk, _⟩ := h.head
        exact (file_no_kid hi hx hxd hk).elim
    | true =>
    obtain ⟨rfl, D, hD, hf, hkeys⟩ := hd hxd
    have ih := list_any p hi B tb ab am NB MB V hxl hcl N
    clear list_any
    have c2 : w.cell? ⟨b, 3, none⟩ = some (.map (some m)) := hn.cell rfl
    have hml : m < w.heap.size := hD.lt
    have HIH := hide ih
    have HR := hide hr
    have HD := hide hD
    have HF := hide (And.intro hf hkeys)
    have HI := hide hi
    have HX := hide hx
    have HCL := hide hcl
    obtain ⟨PA, hPA⟩ : ∃ PA, PA = pathOf p.xs x.id := ⟨_, rfl⟩
    rw [← hPA]
    have HPA := hide hPA
    obtain ⟨ip, hip, hpz0, hpz1, hpz2⟩ := info_parts fileInfo'
    have HIP := hide (And.intro hip (And.intro hpz0 (And.intro hpz1 hpz2)))
    have HNN := hide (And.intro hN hil)
    clear ih hr hn hd hfl hD hf hkeys hx hb hm hxd hcl hi hPA hip hpz0 hpz1 hpz2 hN hil
    go_enter Tryz.func87, Tryz.ntmps87
    go_wp2_with (first | (at_range; refine wpList_range_own _ rfl _ 228 rfl 9 160 strKeyed Tryz.underlying228 ptrElem m p.xs.length D rfl (unhide HD) ?_; intro w0 hrg0 hg0 hs0) | go_in)
    have HR0 := hide hrg0
    have hb0 : Below w.heap.size w w0 := ⟨hg0.os, hg0.tape, hg0.output, hg0.size, fun k hk => hg0.block k hk (by simp)⟩
    have HL0 := hide (LLoop.start (m := 0) (n := 0) (unhide HI) (unhide HX) (unhide HR).tree.len.1 (unhide HF).1 hb0 (by omega))
    clear hrg0 hg0 hs0 c2 hb0
    go_frame
    go_loopw [5] (fun v wr => ∃ (left : Lit → Bool) (cnt : Nat) (EL : List (Nat × FLoc)) (PR : List Nat), Hid (wr.ranges Tryz.prog 9 ptrElem m w.heap.size p.xs.length D left cnt) ∧ Hid (LLoop p i D w wr left v EL PR)) (fun _ wr => wr.rangeLeft m w.heap.size)
    case atStart => exact ⟨_, _, _, _, HR0, HL0⟩
    case round =>
      obtain ⟨left, cnt, EL, PR, HRG, HLL⟩ := hrel
      go_wp2_with (first
        | (at_next; refine wpList_next_ranges _ rfl _ rfl 9 strKeyed ptrElem Value.string nodePtr invStr invPtr m w.heap.size p.xs.length D left cnt rfl (unhide HRG) ?_ ?_)
        | go_in)
      · intro hc0 hl0
        have HP := hide ((unhide HLL).fin hl0)
        clear hl0 hc0
        go_wp2
        go_ret
        exact unhide HP
      intro nm c kl y1 y2 w1 cnt1 hkey hlk hv hat hrg1 hlt hg1 hs1 hen
      have hkl := str_key hkey
      subst hkl
      obtain ⟨s, cb, hks, hfs⟩ := (unhide HF).2 _ ((unhide HLL).sub _ hlk)
      obtain rfl := bytes_eq (show nm.data.toList = s.data.toList by injection hks)
      have hat' := hat .nil
      rw [(unhide HF).1 nm, hfs] at hat'
      obtain rfl := one_elem hv hat'.symm
      obtain ⟨j, y, hkid, hy, hyn, hNj⟩ := kid_of_map (unhide HI) (unhide HX) hfs
      subst hyn
      have hll := unhide HLL
      have hlw := hll.low
      have hb1 : Below w.heap.size w w1 := hll.below.trans ⟨hg1.os, hg1.tape, hg1.output, hg1.size, fun k hk => hg1.block k (by omega) (by simp; omega)⟩
      have hr1 := (unhide HR).below hb1
      have hjl := hkid.bound.2
      obtain ⟨mj, hmj⟩ : ∃ mj, MB[j]? = some mj := ⟨_, List.getElem?_eq_getElem (by rw [hr1.tree.len.2]; exact hjl)⟩
      obtain ⟨qn, vj, mvj, hnj, _, hVj, _⟩ := hr1.tree.node j y cb mj hy hNj hmj
      obtain ⟨cj, hcj⟩ : ∃ cj, p.cs[j]? = some cj := ⟨_, List.getElem?_eq_getElem (by rw [(unhide HI).len]; exact hjl)⟩
      have hcv := hr1.cont j vj cj hVj hcj
      obtain ⟨va, vc, hvs⟩ := hcv.len
      subst hvs
      have hcjl := unhide HCL cj (List.mem_of_getElem? hcj)
      have hfa := fileAt_eq hy hcj
      have hpc := path_child (unhide HI) hy (show y.parent ≠ 0 by obtain ⟨_, y', _, h2, _, h4⟩ := hkid; rw [hy] at h2; obtain rfl := Option.some.inj h2; exact h4)
      have hpar : y.parent = x.id := by obtain ⟨x', y', h1, h2, h3, _⟩ := hkid; rw [hy] at h2; obtain rfl := Option.some.inj h2; rw [unhide HX] at h1; obtain rfl := Option.some.inj h1; exact h3
      rw [hpar, ← unhide HPA] at hpc
      obtain ⟨QA, hQA⟩ : ∃ QA, QA = pathOf p.xs y.id := ⟨_, rfl⟩
      rw [← hQA] at hpc hfa
      have HQA := hide hQA
      have hpq : PA ++ ⟨#[47]⟩ ++ y.name = QA := by rw [hpc]; unfold slashB; rw [ByteArray.append_assoc]
      have hgv : ∀ k, u5.ownBlock = some k → w.heap.size + 1 ≤ k ∧ k < wr.heap.size := fun k hk => hll.rep.row.lt k hk
      have hELl : EL.length ≤ p.xs.length := by
        have := nodup_len (EL.map Prod.fst) (List.range p.xs.length) hll.nodup (fun k hk => by
          obtain ⟨c, hc, hd⟩ := (hll.mem k).1 hk
          rw [List.mem_range]
          rcases hd with rfl | hd
          · exact (hll.done _ hc).1.bound.2
          · exact hd.bound)
        simpa using this
      have hrep1 : LRep p w1 (w.heap.size + 1) u5 EL := by
        refine ⟨hll.rep.row.kept hg1 ?_, fun e he => (hll.rep.each e he).kept hg1 ?_, hll.rep.apart, hll.rep.own, hll.rep.nil⟩
        · by_cases hn0 : u5.ownBlock = none
          · exact .inl hn0
          · obtain ⟨k, hk⟩ := Option.ne_none_iff_exists'.1 hn0
            right
            rw [hk]
            have := hgv k hk
            simp
            omega
        · by_cases hn0 : (elemVal p e).ownBlock = none
          · exact .inl hn0
          · obtain ⟨k, hk⟩ := Option.ne_none_iff_exists'.1 hn0
            right
            rw [hk]
            have := (hll.rep.each e he).lt k hk
            simp
            omega
      have HREP1 := hide hrep1
      have HRG1 := hide hrg1
      have HB1 := hide hb1
      have HR1 := hide hr1
      have HCV := hide hcv
      have HKID := hide (And.intro hkid (And.intro hy (And.intro hlk (And.intro hNj hlt))))
      have HFA := hide hfa
      have HSZ := hide (show w.heap.size < w1.heap.size ∧ w1.heap.size = wr.heap.size ∧ EL.length ≤ p.xs.length ∧ cj.length ≤ 1000000 from ⟨by omega, hs1, hELl, hcjl⟩)
      have HCLN := hide (clone_bytes w1.drew (show BytesIs w1.drew B (.slice va cj.length vc) cj from hcv.block fun R _ _ _ => rfl) hcjl)
      obtain ⟨yd, hyd⟩ : ∃ yd, yd = y.dir := ⟨_, rfl⟩
      obtain ⟨vn, hvn⟩ : ∃ vn, vn = cj.length := ⟨_, rfl⟩
      rw [← hyd] at hnj
      rw [← hvn] at hnj
      have hcl := hnj.lt
      have HS1 := hide (show w1.cell? ⟨cb, 1, none⟩ = some (.bool yd) ∧ w1.cell? ⟨cb, 2, none⟩ = some (.slice va vn vc) from ⟨hnj.cell rfl, hnj.cell rfl⟩)
      have HYD := hide (And.intro hyd hvn)
      have R1 := hide (show ∀ w' : World, (w'.cell? ⟨cb, 1, none⟩ = some (.bool yd) ∧ w'.cell? ⟨cb, 2, none⟩ = some (.slice va vn vc)) → (Instr.loadAt 4 (.pointer (some ⟨cb, 1, none⟩))).run Tryz.prog w' = .ok (.bool yd) w' from fun w' h => by
        have d := h.1
        clear h hkey hlk hv hat hrg1 hg1 hen hks hfs hat' hkid hy hNj hll hb1 hr1 hnj hVj hcj hcv hfa hpc hgv hrep1 hQA hpq hyd hvn
        go_simp)
      have R2 := hide (show ∀ w' : World, (w'.cell? ⟨cb, 1, none⟩ = some (.bool yd) ∧ w'.cell? ⟨cb, 2, none⟩ = some (.slice va vn vc)) → (Instr.loadAt 32 (.pointer (some ⟨cb, 2, none⟩))).run Tryz.prog w' = .ok (.slice va vn vc) w' from fun w' h => by
        have d := h.2
        clear h hkey hlk hv hat hrg1 hg1 hen hks hfs hat' hkid hy hNj hll hb1 hr1 hnj hVj hcj hcv hfa hpc hgv hrep1 hQA hpq hyd hvn
        go_simp)
      clear hkey hlk hv hat hrg1 hlt hg1 hks hfs hat' hkid hy hNj hll hlw hb1 hr1 hjl hmj hnj hVj hcj hcv hcjl hfa hpc hpar hQA hgv hELl hrep1 hyd hvn hs1
      have hpz1 : ¬ 9223372036854775807 < PA.size + 1 := by have := path_size (unhide HI) i x (unhide HX); rw [← unhide HPA] at this; have := (unhide HNN).2; omega
      have hpz2 : ¬ 9223372036854775807 < PA.size + 1 + y.name.size := by have := path_size (unhide HI) i x (unhide HX); rw [← unhide HPA] at this; have := (unhide HNN).2; have := (unhide HI).tree.names y (List.mem_of_getElem? (unhide HKID).2.1); omega
      unfold nodePtr at hen ⊢
      go_upto_region 6 with fail
      clear hen
      clear hpq hpz1 hpz2
      refine act_gen ?_
      intro A hA
      have e5 : A.eval (.tmp 5) = u5 := by rw [hA]; rfl
      have e7 : A.eval (.tmp 7) = .pointer (some ⟨cb, 0, none⟩) := by rw [hA]; rfl
      have e8 : A.eval (.tmp 8) = .string QA := by rw [hA]; rfl
      have esz : A.tmps.size = 43 := by rw [hA]; rfl
      have HA := hide hA
      clear hA
      refine wp_region_held_drew (S := fun w' => w'.cell? ⟨cb, 1, none⟩ = some (.bool yd) ∧ w'.cell? ⟨cb, 2, none⟩ = some (.slice va vn vc)) (by kernel_rfl) (unhide HS1) (fun hS => ?_)
      refine takeH (i := 0) (some 23) rfl rfl (by kernel_rfl) (by kernel_rfl) (by kernel_rfl) (fun _ _ _ h => h) (yields_move rfl _ rfl u5 (by simp [put_eval, put_size, esz, e5, e7, e8])) hS ?_
      refine takeH (i := 1) (some 24) rfl rfl (by kernel_rfl) (by kernel_rfl) (by kernel_rfl) (fun _ _ _ h => h) (yields_move rfl _ rfl (.string QA) (by simp [put_eval, put_size, esz, e5, e7, e8])) hS ?_
      refine takeH (i := 2) (some 25) rfl rfl (by kernel_rfl) (by kernel_rfl) (by kernel_rfl) (fun _ _ _ h => h) (yields_move rfl _ rfl (.pointer (some ⟨cb, 0, none⟩)) (by simp [put_eval, put_size, esz, e5, e7, e8])) hS ?_
      refine takeH (i := 3) (some 26) rfl rfl (by kernel_rfl) (by kernel_rfl) (by kernel_rfl) (fun _ _ _ h => h) (yields_nil rfl _ rfl ⟨cb, 0, none⟩ (by simp [put_eval, put_size, esz, e5, e7, e8])) hS ?_
      refine takeH (i := 4) (some 27) rfl rfl (by kernel_rfl) (by kernel_rfl) (by kernel_rfl) (fun _ _ _ h => h) (yields_field rfl _ _ _ rfl (.pointer (some ⟨cb, 0, none⟩)) (by simp [put_eval, put_size, esz, e5, e7, e8]) (.pointer (some ⟨cb, 1, none⟩)) (fun w' => by go_simp)) hS ?_
      refine takeH (i := 5) (some 28) rfl rfl (by kernel_rfl) (by kernel_rfl) (by kernel_rfl) (fun _ _ _ h => h) (yields_load1 rfl _ _ rfl ⟨cb, 1, none⟩ (by simp [put_eval, put_size, esz, e5, e7, e8]) (.bool yd) (unhide R1)) hS ?_
      refine takeH (i := 6) (some 29) rfl rfl (by kernel_rfl) (by kernel_rfl) (by kernel_rfl) (fun _ _ _ h => h) (yields_move rfl _ rfl (.pointer (some ⟨cb, 0, none⟩)) (by simp [put_eval, put_size, esz, e5, e7, e8])) hS ?_
      refine takeH (i := 7) (some 30) rfl rfl (by kernel_rfl) (by kernel_rfl) (by kernel_rfl) (fun _ _ _ h => h) (yields_nil rfl _ rfl ⟨cb, 0, none⟩ (by simp [put_eval, put_size, esz, e5, e7, e8])) hS ?_
      refine takeH (i := 8) (some 31) rfl rfl (by kernel_rfl) (by kernel_rfl) (by kernel_rfl) (fun _ _ _ h => h) (yields_field rfl _ _ _ rfl (.pointer (some ⟨cb, 0, none⟩)) (by simp [put_eval, put_size, esz, e5, e7, e8]) (.pointer (some ⟨cb, 2, none⟩)) (fun w' => by go_simp)) hS ?_
      refine takeH (i := 9) (some 32) rfl rfl (by kernel_rfl) (by kernel_rfl) (by kernel_rfl) (fun _ _ _ h => h) (yields_load1 rfl _ _ rfl ⟨cb, 2, none⟩ (by simp [put_eval, put_size, esz, e5, e7, e8]) (.slice va vn vc) (unhide R2)) hS ?_
      have hclone := unhide HCLN
      rw [← (unhide HYD).2] at hclone
      refine wpAnyH_ready (rs := [10]) (by kernel_rfl) (by simp) (AllReadyH.cons rfl (fun K hK => ?_) AllReadyH.nil)
      refine step_call1x rfl 91 32 _ rfl (.slice va vn vc) (by simp [put_eval, put_size, esz]) bcloneEnter _ (fun e w' h => by obtain ⟨a, k, h, _⟩ := h; exact ⟨_, h⟩) hclone (some 33) rfl ?_
      rintro r2 w2 ⟨la, lc, hr2, ho2, hb2⟩
      rw [(unhide HYD).2] at ho2 hr2
      have hr2 : r2 = .slice la cj.length lc := by injection hr2
      subst hr2
      clear hclone
      have hb2 : Below w1.heap.size w1 w2 := ⟨hb2.os, hb2.tape, hb2.output, hb2.size, hb2.block⟩
      have ho2 : w2.ownsRow w1.heap.size 5 1 (.slice la cj.length lc) cj.length (bytesRow cj) := ho2
      have hS2 : w2.cell? ⟨cb, 1, none⟩ = some (.bool yd) ∧ w2.cell? ⟨cb, 2, none⟩ = some (.slice va vn vc) := ⟨by rw [hb2.cell (p := ⟨cb, 1, none⟩) hcl]; exact (unhide HS1).1, by rw [hb2.cell (p := ⟨cb, 2, none⟩) hcl]; exact (unhide HS1).2⟩
      refine hK.out _ _ hS2 (fun hS2' => ?_)
      clear hK K
      obtain ⟨l, hl⟩ : ∃ l : FLoc, l = ⟨la, 0, 0, lc⟩ := ⟨_, rfl⟩
      have hrow : elemRow p (j, l) = [.string QA, .bool yd, .slice la cj.length lc] := by unfold elemRow elemVal; rw [unhide HFA, hl, (unhide HYD).1]
      have hval : elemVal p (j, l) = .slice la cj.length lc := by unfold elemVal; rw [unhide HFA, hl]
      obtain ⟨ER, hER⟩ : ∃ ER, ER = elemRow p (j, l) := ⟨_, rfl⟩
      have hERl : ER.length = 3 := by rw [hER]; rfl
      have hER1 : ∀ v ∈ ER, v.oneCell' = true := by rw [hER]; exact elemRow_one p _
      refine takeH (i := 11) (some 34) rfl rfl (by kernel_rfl) (by kernel_rfl) (by kernel_rfl) (fun _ _ _ h => h) (yields_build rfl _ _ rfl #[(0, .string QA), (1, .bool yd), (2, .slice la cj.length lc)] (by simp [put_eval, put_size, esz]) (.agg ER.toArray) (fun w' => by rw [hER, hrow]; exact file_built _ _ _ _ _ w')) hS2 ?_
      refine wpAnyH_ready (rs := [12]) (by kernel_rfl) (by simp) (AllReadyH.cons rfl (fun K hK => ?_) AllReadyH.nil)
      refine step_slice1 rfl _ 44 _ rfl ER (by simp [put_eval, put_size, esz]) ip _ Tryz.underlying24 (unhide HIP).1 (unhide HIP).2.1 (by rw [(unhide HIP).2.2.1, hERl]) (by rw [hERl]; decide) (by rw [hERl]; decide) w2.heap.size rfl (some 35) rfl ?_
      obtain ⟨W3, hW3⟩ : ∃ W3, W3 = w2.alloc (.cells ER.toArray 44) := ⟨_, rfl⟩
      rw [← hW3]
      have hb3 : Below w2.heap.size w2 W3 := by rw [hW3]; exact (Below.refl _ _).alloc (Nat.le_refl _) _
      have hh3 : Holds W3 w2.heap.size 44 ER := by rw [hW3]; exact Holds.new w2 44 ER
      have hs2 := hb2.size
      have hb13 : Below w1.heap.size w1 W3 := hb2.trans (hb3.mono hs2)
      have hS3 : W3.cell? ⟨cb, 1, none⟩ = some (.bool yd) ∧ W3.cell? ⟨cb, 2, none⟩ = some (.slice va vn vc) := ⟨by rw [hb13.cell (p := ⟨cb, 1, none⟩) hcl]; exact (unhide HS1).1, by rw [hb13.cell (p := ⟨cb, 2, none⟩) hcl]; exact (unhide HS1).2⟩
      refine hK.out _ _ hS3 (fun hS3' => ?_)
      clear hK K
      have hrep3 := (unhide HREP1).below hb13
      obtain ⟨z1, z2, z3, z4⟩ := unhide HSZ
      refine wpAnyH_ready (rs := [13]) (by kernel_rfl) (by simp) (AllReadyH.cons rfl (fun K hK => ?_) AllReadyH.nil)
      refine step_append_lies _ rfl _ _ 24 rfl (w.heap.size + 1) 44 ip _ 3 48 Tryz.underlying24 (unhide HIP).1 (unhide HIP).2.1 (unhide HIP).2.2.1 (unhide HIP).2.2.2 rfl (by decide) u5 EL.length (elemRows p EL) (by simp [put_eval, put_size, esz, e5]) hrep3.row ⟨w2.heap.size, 0, none⟩ 1 1 ER (by simp [put_eval, put_size, esz]) (by rw [hERl]) (holds_news (hide hh3)) hER1 (by omega) (by unfold maxLen; omega) (by omega) (by have := hb13.size; omega) W3.heap.size rfl ?_
      intro g8 c8 w8 hown8 hgrow8 hat8 hlt8
      have hgv : ∀ k, u5.ownBlock = some k → w.heap.size + 1 ≤ k ∧ k < w1.heap.size := fun k hk => (unhide HREP1).row.lt k hk
      have hcw : cb < w.heap.size := by
        have h := (unhide HR).tree
        obtain ⟨mj, hmj⟩ : ∃ mj, MB[j]? = some mj := ⟨_, List.getElem?_eq_getElem (by rw [h.len.2]; exact (unhide HKID).1.bound.2)⟩
        obtain ⟨qn, _, _, hnj, _⟩ := h.node j y cb mj (unhide HKID).2.1 (unhide HKID).2.2.2.1 hmj
        exact hnj.lt
      have hne : some cb ≠ u5.ownBlock := fun e => by have := hgv cb e.symm; omega
      refine hK.out _ _ ⟨hgrow8.cell hS3.1 hne, hgrow8.cell hS3.2 hne⟩ (fun hS4 => ?_)
      clear hK K
      refine takeH (i := 14) (some 5) rfl rfl (by kernel_rfl) (by kernel_rfl) (by kernel_rfl) (fun _ _ _ h => h) (yields_assign rfl _ rfl (.slice (some ⟨g8, 0, none⟩) (EL.length + 1) c8) (by simp [put_eval, put_size, esz])) hS4 ?_
      refine wpAnyH_done (by kernel_rfl) ?_ _
      rw [unhide HA]
      simp only [Act.put, List.setIfInBounds_toArray, List.set_cons_zero, List.set_cons_succ]
      have ho3 := own_below ho2 (hide hb3)
      have hrep8 : LRep p w8 (w.heap.size + 1) (.slice (some ⟨g8, 0, none⟩) (EL.length + 1) c8) (EL ++ [(j, l)]) := by
        refine hrep3.app (EL2 := [(j, l)]) (B2 := w1.heap.size) (fun e he => ?_) (List.pairwise_singleton _ _) (by omega) (fun k hk => (hgv k hk).2) (fun e he k hk => ((unhide HREP1).blk he hk).2) (by simp) ?_ hgrow8 (by rcases hat8 with q | q; exact .inl q; right; omega)
        · have : e = (j, l) := by simpa using he
          subst this
          rw [hval, unhide HFA]
          exact ho3
        · have : elemRows p [(j, l)] = ER := by rw [hER]; simp [elemRows]
          rw [this]
          exact hown8
      have hb8 : Below w.heap.size w w8 := (unhide HB1).trans (hb13.mono (by omega) |>.trans ⟨hgrow8.os, hgrow8.tape, hgrow8.output, hgrow8.size, fun k hk => hgrow8.block k (by have := hb13.size; omega) (fun e => by have := hgv k e.symm; omega)⟩)
      have hrg8 := ((unhide HRG1).kept (grown_below hb13) (by simp) (by simp)).kept hgrow8 (fun e => by have := hgv m e.symm; omega) (fun e => by have := hgv w.heap.size e.symm; omega)
      have hs8 : w1.heap.size ≤ w8.heap.size := by have := hb13.size; have := hgrow8.size; omega
      have HREP8 := hide hrep8
      have HB8 := hide hb8
      have HRG8 := hide hrg8
      have HSZ8 := hide (show w.heap.size < w8.heap.size from by omega)
      have HCH := hide (unhide HIH j y cb w8 ((unhide HR).below hb8) (unhide HKID).2.1 (unhide HKID).2.2.2.1 (by have := (unhide HKID).1.lt (unhide HI); have := (unhide HNN).1; omega))
      rw [← unhide HQA] at HCH
      clear hS hS2 hS2' hS3 hS3' hS4 ho2 ho3 hb2 hb3 hb13 hh3 hW3 hs2 hrow hval hER hERl hER1 hrep3 hown8 hgrow8 hat8 hlt8 hgv hne hrep8 hb8 hrg8 hs8 HA e5 e7 e8 esz R1 R2 HCLN HREP1 HCV HS1 hcw hcl z1 z2 z3 z4 hl HRG1
      go_wp2_with fail
      refine (unhide HCH).mono ?_
      rintro e w9 ⟨v2, EL2, rfl, hrep2, hnd2, hmem2, hb9⟩
      have hs9 := hb9.size
      have HB9 := hide ((unhide HB8).trans (hb9.mono (unhide HB8).size))
      have HREP9 := hide ((unhide HREP8).below hb9)
      have HRG9 := hide ((unhide HRG8).kept (grown_below hb9) (by simp) (by simp))
      have HSZ9 := hide (show w.heap.size < w9.heap.size from by have := unhide HSZ8; omega)
      have hkd := unhide HKID
      have hz := unhide HSZ
      by_cases hE : EL2 = []
      · subst hE
        obtain rfl := hrep2.nil rfl
        have HAP := hide (fun ty => run_append_owned_none w9 (w.heap.size + 1) 24 ty 44 ip 3 Tryz.underlying24 (unhide HIP).1 _ _ _ (unhide HREP9).row)
        have HFN := hide ((unhide HLL).next (unhide HI) hkd.1 hkd.2.1 hkd.2.2.1 hnd2 hmem2 (l := l) (by rw [List.append_nil]; exact unhide HREP9) (unhide HB9) (unhide HSZ9))
        clear hrep2 hnd2 hmem2 hb9 hs9 hkd hz HCH
        go_wp2_with (at_builtin; refine Lib.wpList_append_run _ rfl _ _ _ _ rfl _ _ rfl rfl _ _ (unhide HAP _) ?_)
        exact ⟨⟨_, _, _, _, HRG9, HFN⟩, by rw [(unhide HRG9).left_eq, (unhide HRG).left_eq]; exact (unhide HKID).2.2.2.2⟩
      · have hE0 : 0 < EL2.length := List.length_pos_iff.2 hE
        obtain ⟨g2, c2, rfl, hg2, hgl2⟩ := hrep2.row.form hE0
        have hE2l : EL2.length ≤ p.xs.length := by
          have := nodup_len (EL2.map Prod.fst) (List.range p.xs.length) hnd2 (fun k hk => by rw [List.mem_range]; exact ((hmem2 k).1 hk).bound)
          simpa using this
        have HN2 := hide (And.intro (rows_cells hrep2.row) (And.intro (elemRows_length p EL2) (elemRows_one p EL2)))
        have HREP2 := hide hrep2
        have HM2 := hide (And.intro hnd2 (And.intro hmem2 hE))
        obtain ⟨E2, hE2⟩ : ∃ E2, E2 = EL2.length := ⟨_, rfl⟩
        obtain ⟨ES, hES⟩ : ∃ ES, ES = elemRows p EL2 := ⟨_, rfl⟩
        rw [← hE2, ← hES] at HN2
        rw [← hE2] at hE0 hE2l ⊢
        have HE2 := hide (And.intro hE2 hES)
        have hz3 := hz.2.2.1
        have hz1 := unhide HSZ9
        have HROW := hide (show w9.ownsRow (w.heap.size + 1) 44 3 (.slice (some ⟨g8, 0, none⟩) (EL.length + 1) c8) (EL.length + 1) (elemRows p (EL ++ [(j, l)])) from by
          have := (unhide HREP9).row
          rwa [show (EL ++ [(j, l)]).length = EL.length + 1 by simp] at this)
        clear hrep2 hnd2 hmem2 hg2 hgl2 hE hE2 hES HCH hkd hz
        go_wp2_with (at_builtin; refine wpList_append_lies _ (by rfl) _ _ 24 (by rfl) (w.heap.size + 1) 44 ip _ 3 48 Tryz.underlying24 (unhide HIP).1 (unhide HIP).2.1 (unhide HIP).2.2.1 (unhide HIP).2.2.2 rfl (by decide) _ _ _ (by rfl) (unhide HROW) ⟨g2, 0, none⟩ E2 c2 ES (by rfl) (unhide HN2).2.1 (unhide HN2).1 (unhide HN2).2.2 (by omega) (by unfold maxLen; omega) (by omega) (by omega) w9.heap.size (by rfl) ?_; intro g10 c10 w10 hown10 hgrow10 hat10 hlt10)
        have hgrow10 : w9.grownBy w10 (some g8) := hgrow10
        have hg8 : w.heap.size + 1 ≤ g8 ∧ g8 < w8.heap.size := (unhide HREP8).row.lt g8 rfl
        have hrep10 : LRep p w10 (w.heap.size + 1) (.slice (some ⟨g10, 0, none⟩) ((EL ++ [(j, l)]).length + EL2.length) c10) (EL ++ [(j, l)] ++ EL2) := by
          refine (unhide HREP9).app (EL2 := EL2) (B2 := w8.heap.size) (unhide HREP2).each (unhide HREP2).apart (by have := unhide HSZ8; omega) (fun k hk => ?_) (fun e he k hk => ((unhide HREP8).blk he hk).2) (unhide HM2).2.2 ?_ hgrow10 (by rcases hat10 with q | q; exact .inl q; right; omega)
          · have : some g8 = some k := hk
            have e : g8 = k := by simpa using this
            omega
          · rw [show (EL ++ [(j, l)]).length = EL.length + 1 by simp, ← (unhide HE2).1, ← (unhide HE2).2]
            exact hown10
        rw [show (EL ++ [(j, l)]).length = EL.length + 1 by simp, ← (unhide HE2).1] at hrep10
        have hb10 : Below w.heap.size w w10 := (unhide HB9).trans (below_grown hgrow10 (by omega) (by omega))
        have hkd := unhide HKID
        have HFN := hide ((unhide HLL).next (unhide HI) hkd.1 hkd.2.1 hkd.2.2.1 (unhide HM2).1 (unhide HM2).2.1 (l := l) hrep10 hb10 (by have := hgrow10.size; omega))
        have HRG10 := hide ((unhide HRG9).kept hgrow10 (by simp; omega) (by simp; omega))
        exact ⟨⟨_, _, _, _, HRG10, HFN⟩, by rw [(unhide HRG10).left_eq, (unhide HRG).left_eq]; exact (unhide HKID).2.2.2.2⟩
end Go.Proofs.YtkokiefclmbgaaaGreatDoor
