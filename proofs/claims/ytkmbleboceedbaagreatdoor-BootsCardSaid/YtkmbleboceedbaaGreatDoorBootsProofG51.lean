import Derived.Test.YtkmbleboceedbaaGreatDoorRows
import Derived.ProofKit
import Derived.LaidMore
import Derived.LaidHandle
import Derived.OpenShut
import Derived.Below
import Derived.Stop.Joined
import Derived.SevenTiedAt
import Derived.Test.YtkmbleboceedbaaGreatDoorBootsProofG47
import Derived.ChangeSlices
import Derived.SizedLaws
import Derived.WideShapes
import Derived.Deep.Slices
import Derived.Deep.Strs
import Derived.Lay
import Derived.LaidLaws
/- What the row of Boots rests on: the type's handle in errors.errorType (RowBase at any number of that variable). -/
namespace Go.Proofs.YtkmbleboceedbaaGreatDoor
open Go.ChangeShapes Go.WideShapes Go.ChangeAt Go.RowKit

theorem own : ownKnob Tryz.prog.godebug = none := by kernel_rfl
theorem laidOut : laidOutB Tryz.prog = true := by kernel_rfl
theorem Tryz.et : Tryz.prog.globalNamed "errors.errorType" = some 0 := by kernel_rfl
theorem Tryz.rt : (Tryz.prog.cutTypes.find? (·.1 == "internal/reflectlite.rtype")).map (·.2) = some 192 := by kernel_rfl
theorem Tryz.oneRow : ((List.range 366).filter fun t => Tryz.prog.rowNamed t [101, 114, 114, 111, 114]) = [40] := by kernel_rfl
theorem Tryz.size : Tryz.prog.types.size = 366 := by kernel_rfl

/-- What the handle's condition gives a walk: the variable's one cell. -/
theorem handle_of {W : World} {l : List (String × DataW Unit)} (h : handlesMet Tryz.prog l W) (hm : ("errors.errorType", Rows.laid_errors_errorType) ∈ l) : W.cell? ⟨0, 0, none⟩ = some (.iface 192 (.agg #[.pointer (some ⟨5, 40, none⟩)])) := by
  obtain ⟨name, u, ty, e1, e2, e3, e4, e5⟩ := h _ hm
  have en : name = [101, 114, 114, 111, 114] := (Option.some.inj e1).symm
  subst en
  obtain rfl := Option.some.inj (Tryz.rt.symm.trans e2)
  have hm : ty ∈ (List.range 366).filter fun t => Tryz.prog.rowNamed t [101, 114, 114, 111, 114] := List.mem_filter.2 ⟨List.mem_range.2 (by rw [← Tryz.size]; exact e3), e4⟩
  rw [Tryz.oneRow] at hm
  obtain rfl := List.mem_singleton.1 hm
  have hh : typeHandle Tryz.prog 40 = .pointer (some ⟨5, 40, none⟩) := by kernel_rfl
  rw [hh] at e5
  simpa using World.var?_cell Tryz.et e5 0

end Go.Proofs.YtkmbleboceedbaaGreatDoor

/- Boots: the argument opened. -/
namespace Go.Proofs.YtkmbleboceedbaaGreatDoor
open Go Go.ChangeShapes Go.WideShapes Go.ChangeAt Go.RowKit Go.Deep
set_option linter.unusedVariables false
set_option linter.unusedSimpArgs false

theorem cells_byte : Tryz.prog.cellsOf 5 = 1 := by kernel_rfl
theorem cells_file : Tryz.prog.cellsOf 44 = 3 := by kernel_rfl
theorem cells_str : Tryz.prog.cellsOf 9 = 1 := by kernel_rfl
theorem cells_bool : Tryz.prog.cellsOf 4 = 1 := by kernel_rfl
theorem cells_byts : Tryz.prog.cellsOf 32 = 1 := by kernel_rfl
theorem cells_int : Tryz.prog.cellsOf 3 = 1 := by kernel_rfl
theorem cells_lims : Tryz.prog.cellsOf 23 = 5 := by kernel_rfl
theorem cells_files : Tryz.prog.cellsOf 24 = 1 := by kernel_rfl
theorem cells_setting : Tryz.prog.cellsOf 26 = 6 := by kernel_rfl
theorem bytes_byte : Tryz.prog.bytesOf 5 = 1 := by kernel_rfl
theorem bytes_file : Tryz.prog.bytesOf 44 = 48 := by kernel_rfl
theorem list3' {α : Type} {cs : List α} (h : cs.length = 3) : ∃ a b c, cs = [a, b, c] := by
  match cs, h with
  | [a, b, c], _ => exact ⟨a, b, c, rfl⟩
theorem list5' {α : Type} {cs : List α} (h : cs.length = 5) : ∃ a b c d e, cs = [a, b, c, d, e] := by
  match cs, h with
  | [a, b, c, d, e], _ => exact ⟨a, b, c, d, e, rfl⟩
theorem list6' {α : Type} {cs : List α} (h : cs.length = 6) : ∃ a b c d e f, cs = [a, b, c, d, e, f] := by
  match cs, h with
  | [a, b, c, d, e, f], _ => exact ⟨a, b, c, d, e, f, rfl⟩

theorem weights_agg {H : Type} {P : Program} {t : TypeId} {fs : Array Field} {ds : List (DataW H)} (hu : P.underlying t = some (.struct fs)) : (DataW.agg ds).weights P t = DataW.weightsEach P (fs.toList.map (·.type)) ds := by
  rw [DataW.weights, hu]
theorem weights_slice {H : Type} {P : Program} {t e : TypeId} {ds ss : List (DataW H)} (hu : P.underlying t = some (.slice e)) : (DataW.slice ds ss).weights P t = (ds.length + ss.length) * P.bytesOf e :: (DataW.weightsAll P e ds ++ DataW.weightsAll P e ss) := by
  rw [DataW.weights, hu]
theorem weightsAll_mem {H : Type} {P : Program} {e : TypeId} : ∀ {ds : List (DataW H)} {d : DataW H}, d ∈ ds → ∀ n ∈ d.weights P e, n ∈ DataW.weightsAll P e ds
  | d0 :: r, d, hd, n, hn => by
    rw [DataW.weightsAll]
    rcases List.mem_cons.1 hd with rfl | hd
    · exact List.mem_append_left _ hn
    · exact List.mem_append_right _ (weightsAll_mem hd n hn)
  | [], _, hd, _, _ => by cases hd

/-- What an argument's file is. -/
structure OneFile (W : World) (cs : List Value) (f : PFile) (l : FLoc) : Prop where
  cells : cs = [.string f.path, .bool f.dir, .slice l.a f.bytes.length l.c]
  loc : 0 < f.bytes.length → l.a = some ⟨l.q, l.o, none⟩ ∧ l.q < W.heap.size
  view : BView W l.q l.o f.bytes
  byte : IsBytes f.bytes
  psize : f.path.size ≤ 140737488355328
  bsize : f.bytes.length ≤ 140737488355328
theorem isBytes_take {zs : List Int} {len : Nat} (hl : len ≤ zs.length) (hws : ∀ n ∈ zs, (Lit.int .u8 n).wf = true) : IsBytes (zs.take len) := by
  intro j
  by_cases hj : j < len
  · have hz2 : (zs.take len).getD j 0 ∈ zs := by
      have : (zs.take len).getD j 0 = zs[j]'(by omega) := by simp [List.getD, hj, List.getElem?_eq_getElem (show j < zs.length by omega)]
      rw [this]; exact List.getElem_mem _
    exact bounds_u8 (hws _ hz2)
  · rw [List.getD, List.getElem?_eq_none (by rw [List.length_take]; omega)]
    exact ⟨Int.le_refl 0, by decide⟩
theorem bytes_open {H : Type} {enc : TypeId × Value → H} {W : World} {fuel : Nat} {v : Value} {x : DataW H × List MemPlace}
    (h : DataW.trod enc Tryz.prog W 0 (fun _ => true) true fuel 32 [v] = some x) (hw : ∀ n ∈ x.1.weights Tryz.prog 32, n ≤ reachBytes) :
    ∃ (B : List Int) (l : FLoc), v = .slice l.a B.length l.c ∧ (0 < B.length → l.a = some ⟨l.q, l.o, none⟩ ∧ l.q < W.heap.size) ∧ BView W l.q l.o B ∧ IsBytes B ∧ B.length ≤ 140737488355328 := by
  rcases open_ints Tryz.underlying32 Tryz.underlying5 cells_byte h with ⟨hcs, hx⟩ | ⟨a, len, c, zs, hcs, hbase, hl, hm, hz, hx, hcell, hws⟩
  · simp only [List.cons.injEq, and_true] at hcs
    subst hcs
    exact ⟨[], ⟨none, 0, 0, 0⟩, rfl, fun q => by simp at q, fun j hj => by simp at hj, fun j => by simp, by simp⟩
  · simp only [List.cons.injEq, and_true] at hcs
    subst hcs
    simp only [if_true] at hz
    have hsz : len ≤ reachBytes := by
      rw [hx] at hw
      have := hw ((lits .u8 (zs.take len)).length + (lits .u8 (zs.drop len)).length) (by
        rw [weights_slice Tryz.underlying32, bytes_byte, Nat.mul_one]
        exact List.mem_cons_self ..)
      have e : (lits .u8 (zs.take len) : List (DataW H)).length = len := by simp [lits]; omega
      omega
    have htl : (zs.take len).length = len := by rw [List.length_take]; omega
    have hsz' : len ≤ 140737488355328 := Nat.le_trans hsz (by decide)
    by_cases h0 : len = 0
    · subst h0
      exact ⟨[], ⟨some a, 0, 0, c⟩, rfl, fun q => by simp at q, fun j hj => by simp at hj, fun j => by simp, by simp⟩
    obtain ⟨b, off, spot⟩ := a
    have hc0 := hcell 0 (by omega)
    have hspot : spot = none := by simpa [Addr.add] using World.cell?_spot hc0
    subst hspot
    have hbw : b < W.heap.size := by have := World.block_lt_of_cell? W _ hc0; rwa [addr_add] at this
    refine ⟨zs.take len, ⟨some ⟨b, off, none⟩, b, off, c⟩, by rw [htl], fun _ => ⟨rfl, hbw⟩, fun i hi => ?_, isBytes_take (by omega) hws, by omega⟩
    rw [htl] at hi
    have := hcell i (by omega)
    rw [addr_add] at this
    rw [this]
    simp [List.getD, hi]
theorem file_open {H : Type} {enc : TypeId × Value → H} {W : World} {fuel : Nat} {cs : List Value} {x : DataW H × List MemPlace}
    (h : DataW.trod enc Tryz.prog W 0 (fun _ => true) true fuel 44 cs = some x) (hw : ∀ n ∈ x.1.weights Tryz.prog 44, n ≤ reachBytes) :
    ∃ f l, OneFile W cs f l := by
  obtain ⟨y0, y1, y2, n, rfl, hl, h0, h1, h2⟩ := trod_struct3 Tryz.underlying44 h
  rw [cells_file] at hl
  obtain ⟨v0, v1, v2, rfl⟩ := list3' hl
  have hw2 : ∀ n ∈ DataW.weightsEach Tryz.prog [9, 4, 32] [y0.1, y1.1, y2.1], n ≤ reachBytes := fun n hn => hw n (by rw [weights_agg Tryz.underlying44]; exact hn)
  clear hw
  change DataW.trod enc Tryz.prog W 0 _ true n 9 (List.take (Tryz.prog.cellsOf 9) (List.drop 0 [v0, v1, v2])) = some y0 at h0
  change DataW.trod enc Tryz.prog W 0 _ true n 4 (List.take (Tryz.prog.cellsOf 4) (List.drop 1 [v0, v1, v2])) = some y1 at h1
  change DataW.trod enc Tryz.prog W 0 _ true n 32 (List.take (Tryz.prog.cellsOf 32) (List.drop 2 [v0, v1, v2])) = some y2 at h2
  rw [cells_str] at h0
  rw [cells_bool] at h1
  rw [cells_byts] at h2
  obtain ⟨s, f0, g0, _⟩ := DataW.trod_string Tryz.underlying9 (show DataW.trod _ _ _ _ _ _ n 9 [v0] = some y0 from h0)
  obtain ⟨d, f1, g1⟩ := DataW.trod_bool Tryz.underlying4 (show DataW.trod _ _ _ _ _ _ n 4 [v1] = some y1 from h1)
  subst g0 g1
  simp only [List.cons.injEq, and_true] at f0 f1
  subst f0 f1
  obtain ⟨B, l, rfl, b1, b2, b3, b4⟩ := bytes_open (show DataW.trod _ _ _ _ _ _ n 32 [v2] = some y2 from h2) (fun n hn => hw2 n (DataW.weights_mem_each (j := 2) rfl rfl n hn))
  refine ⟨⟨s, d, B⟩, l, rfl, b1, b2, b3, ?_, b4⟩
  have hs : s.data.toList.length ≤ reachBytes := hw2 _ (DataW.weights_mem_each (j := 0) rfl rfl _ (by rw [DataW.weights]; exact List.mem_cons_self ..))
  have e : s.data.toList.length = s.size := Array.length_toList
  rw [e] at hs
  exact Nat.le_trans hs (by decide)

structure OpenSetting (W : World) (cs : List Value) (lp lf lo li lb : Int) (fa : Option Addr) (fb foff fcap : Nat) (FZ : List PFile) (LS : List FLoc) : Prop where
  cells : cs = [.int .i64 lp, .int .i64 lf, .int .i64 lo, .int .i64 li, .int .i64 lb, .slice fa FZ.length fcap]
  at_ : 0 < FZ.length → fa = some ⟨fb, foff, none⟩ ∧ fb < W.heap.size
  files : FilesInL W fb foff FZ LS
  each : ∀ f ∈ FZ, f.path.size ≤ 140737488355328 ∧ f.bytes.length ≤ 140737488355328
  len : FZ.length ≤ 140737488355328
  byte : ∀ f ∈ FZ, IsBytes f.bytes
theorem files_open {H : Type} {enc : TypeId × Value → H} {W : World} {fuel : Nat} {v : Value} {x : DataW H × List MemPlace}
    (h : DataW.trod enc Tryz.prog W 0 (fun _ => true) true fuel 24 [v] = some x) (hw : ∀ n ∈ x.1.weights Tryz.prog 24, n ≤ reachBytes) :
    ∃ fa fb foff fcap FZ LS, v = .slice fa FZ.length fcap ∧ (0 < FZ.length → fa = some ⟨fb, foff, none⟩ ∧ fb < W.heap.size) ∧ FilesInL W fb foff FZ LS ∧ (∀ f ∈ FZ, f.path.size ≤ 140737488355328 ∧ f.bytes.length ≤ 140737488355328) ∧ FZ.length ≤ 140737488355328 ∧ ∀ f ∈ FZ, IsBytes f.bytes := by
  rcases open_slice Tryz.underlying24 h with ⟨hcs, hx⟩ | ⟨a, len, cap, m, n, D, Pl, hcs, hb, hl, hm, hmm, rfl, hx⟩
  · simp only [List.cons.injEq, and_true] at hcs
    subst hcs
    exact ⟨none, 0, 0, 0, [], [], rfl, fun q => by simp at q, ⟨rfl, fun i f l hi _ => by simp at hi⟩, fun f hf => by simp at hf, by simp, fun f hf => by simp at hf⟩
  simp only [List.cons.injEq, and_true] at hcs
  subst hcs
  simp only [if_true] at hmm
  subst hmm
  have hws : ∀ i, i < len → ∀ k ∈ (D i).weights Tryz.prog 44, k ≤ reachBytes := fun i hi k hk => hw k (by
    rw [weights_slice Tryz.underlying24]
    exact List.mem_cons_of_mem _ (List.mem_append_left _ (weightsAll_mem (List.mem_map.2 ⟨i, List.mem_range.2 hi, rfl⟩) k hk)))
  have hlen : len ≤ 140737488355328 := by
    have := hw ((((List.range len).map D).length + ((List.range (m - len)).map fun j => D (len + j)).length) * 48) (by
      rw [weights_slice Tryz.underlying24, bytes_file]
      exact List.mem_cons_self ..)
    have h2 : reachBytes = 140737488351232 := by decide
    simp only [List.length_map, List.length_range] at this
    omega
  by_cases h0 : len = 0
  · subst h0
    exact ⟨some a, 0, 0, m, [], [], rfl, fun q => by simp at q, ⟨rfl, fun i f l hi _ => by simp at hi⟩, fun f hf => by simp at hf, by simp, fun f hf => by simp at hf⟩
  rw [cells_file] at hx
  haveI hinh : Inhabited (PFile × FLoc) := ⟨(⟨ByteArray.empty, false, []⟩, ⟨none, 0, 0, 0⟩)⟩
  obtain ⟨V, hV⟩ := choose_lt (α := PFile × FLoc) (n := len) (p := fun i z => ∃ cs', W.cells? 0 (a.add (i * 3)) 3 = some cs' ∧ OneFile W cs' z.1 z.2) (fun i hi => by
    obtain ⟨cs', h1, h2⟩ := hx i (by omega)
    obtain ⟨f, l, hf⟩ := file_open h2 (hws i hi)
    exact ⟨(f, l), cs', h1, hf⟩)
  obtain ⟨b, off, spot⟩ := a
  have hcell : ∀ i, i < len → ∀ j u, [Value.string (V i).1.path, .bool (V i).1.dir, .slice (V i).2.a (V i).1.bytes.length (V i).2.c][j]? = some u → W.cell? (((⟨b, off, spot⟩ : Addr).add (i * 3)).add j) = some u := fun i hi j u hu => by
    obtain ⟨cs', h1, h2⟩ := hV i hi
    obtain ⟨_, hl3, hc⟩ := World.cells?_some h1
    have hj : j < 3 := by simpa using (List.getElem?_eq_some_iff.1 hu).1
    rw [hc j hj, h2.cells]
    exact hu
  have hc0 := hcell 0 (by omega) 0 _ rfl
  have hspot : spot = none := by simpa [Addr.add] using World.cell?_spot hc0
  subst hspot
  have hbw : b < W.heap.size := by have := World.block_lt_of_cell? W _ hc0; rwa [addr_add, addr_add] at this
  have hget : ∀ (i : Nat) (f : PFile), ((List.range len).map fun i => (V i).1)[i]? = some f → i < len ∧ f = (V i).1 := fun i f hf => by
    rw [List.getElem?_map] at hf
    by_cases hi : i < len
    · rw [List.getElem?_range hi] at hf
      exact ⟨hi, by simpa using hf.symm⟩
    · rw [List.getElem?_eq_none (by simp; omega)] at hf
      cases hf
  have hone : ∀ f ∈ (List.range len).map (fun i => (V i).1), ∃ cs l, OneFile W cs f l := fun f hf => by
    obtain ⟨i, hi, rfl⟩ := List.mem_map.1 hf
    obtain ⟨cs', _, h2⟩ := hV i (List.mem_range.1 hi)
    exact ⟨cs', _, h2⟩
  refine ⟨some ⟨b, off, none⟩, b, off, m, (List.range len).map (fun i => (V i).1), (List.range len).map (fun i => (V i).2), by rw [List.length_map, List.length_range], fun _ => ⟨rfl, hbw⟩, ⟨by simp, fun i f l hf hl2 => ?_⟩, fun f hf => ?_, by simpa using hlen, fun f hf => ?_⟩
  · obtain ⟨hi, rfl⟩ := hget i f hf
    have hl3 : l = (V i).2 := by
      rw [List.getElem?_map, List.getElem?_range hi] at hl2
      simpa using hl2.symm
    subst hl3
    obtain ⟨cs', _, h2⟩ := hV i hi
    have c0 := hcell i hi 0 _ rfl
    have c1 := hcell i hi 1 _ rfl
    have c2 := hcell i hi 2 _ rfl
    rw [addr_add, addr_add] at c0 c1 c2
    exact ⟨c0, c1, c2, h2.loc, h2.view⟩
  · obtain ⟨_, _, h2⟩ := hone f hf
    exact ⟨h2.psize, h2.bsize⟩
  · obtain ⟨_, _, h2⟩ := hone f hf
    exact h2.byte
theorem setting_open {H : Type} {enc : TypeId × Value → H} {W : World} {fuel : Nat} {cs : List Value} {x : DataW H × List MemPlace}
    (h : DataW.trod enc Tryz.prog W 0 (fun _ => true) true fuel 26 cs = some x) (hw : ∀ n ∈ x.1.weights Tryz.prog 26, n ≤ reachBytes) :
    ∃ lp lf lo li lb fa fb foff fcap FZ LS, OpenSetting W cs lp lf lo li lb fa fb foff fcap FZ LS := by
  obtain ⟨y0, y1, n, rfl, hl, h0, h1⟩ := trod_struct2 Tryz.underlying26 h
  rw [cells_setting] at hl
  obtain ⟨v0, v1, v2, v3, v4, v5, rfl⟩ := list6' hl
  have hw2 : ∀ n ∈ DataW.weightsEach Tryz.prog [23, 24] [y0.1, y1.1], n ≤ reachBytes := fun n hn => hw n (by rw [weights_agg Tryz.underlying26]; exact hn)
  clear hw
  change DataW.trod enc Tryz.prog W 0 _ true n 23 (List.take (Tryz.prog.cellsOf 23) (List.drop 0 [v0, v1, v2, v3, v4, v5])) = some y0 at h0
  change DataW.trod enc Tryz.prog W 0 _ true n 24 (List.take (Tryz.prog.cellsOf 24) (List.drop 5 [v0, v1, v2, v3, v4, v5])) = some y1 at h1
  rw [cells_lims] at h0
  rw [cells_files] at h1
  have h0' : DataW.trod enc Tryz.prog W 0 (fun _ => true) true n 23 [v0, v1, v2, v3, v4] = some y0 := h0
  obtain ⟨xs, k, rfl, hx, hl5, hxl, hel⟩ := DataW.trod_struct Tryz.underlying23 h0'
  obtain ⟨x0, x1, x2, x3, x4, rfl⟩ := list5' (show xs.length = 5 from hxl)
  have e0 := hel 0 _ rfl
  have e1 := hel 1 _ rfl
  have e2 := hel 2 _ rfl
  have e3 := hel 3 _ rfl
  have e4 := hel 4 _ rfl
  change DataW.trod enc Tryz.prog W 0 _ true k 3 (List.take (Tryz.prog.cellsOf 3) (List.drop 0 [v0, v1, v2, v3, v4])) = some x0 at e0
  change DataW.trod enc Tryz.prog W 0 _ true k 3 (List.take (Tryz.prog.cellsOf 3) (List.drop 1 [v0, v1, v2, v3, v4])) = some x1 at e1
  change DataW.trod enc Tryz.prog W 0 _ true k 3 (List.take (Tryz.prog.cellsOf 3) (List.drop 2 [v0, v1, v2, v3, v4])) = some x2 at e2
  change DataW.trod enc Tryz.prog W 0 _ true k 3 (List.take (Tryz.prog.cellsOf 3) (List.drop 3 [v0, v1, v2, v3, v4])) = some x3 at e3
  change DataW.trod enc Tryz.prog W 0 _ true k 3 (List.take (Tryz.prog.cellsOf 3) (List.drop 4 [v0, v1, v2, v3, v4])) = some x4 at e4
  rw [cells_int] at e0 e1 e2 e3 e4
  obtain ⟨n0, f0, g0, _⟩ := DataW.trod_int Tryz.underlying3 (show DataW.trod _ _ _ _ _ _ k 3 [v0] = some x0 from e0)
  obtain ⟨n1, f1, g1, _⟩ := DataW.trod_int Tryz.underlying3 (show DataW.trod _ _ _ _ _ _ k 3 [v1] = some x1 from e1)
  obtain ⟨n2, f2, g2, _⟩ := DataW.trod_int Tryz.underlying3 (show DataW.trod _ _ _ _ _ _ k 3 [v2] = some x2 from e2)
  obtain ⟨n3, f3, g3, _⟩ := DataW.trod_int Tryz.underlying3 (show DataW.trod _ _ _ _ _ _ k 3 [v3] = some x3 from e3)
  obtain ⟨n4, f4, g4, _⟩ := DataW.trod_int Tryz.underlying3 (show DataW.trod _ _ _ _ _ _ k 3 [v4] = some x4 from e4)
  simp only [List.cons.injEq, and_true] at f0 f1 f2 f3 f4
  subst f0 f1 f2 f3 f4
  obtain ⟨fa, fb, foff, fcap, FZ, LS, rfl, b1, b2, b3, b4, b5⟩ := files_open (show DataW.trod _ _ _ _ _ _ (k + 1) 24 [v5] = some y1 from h1) (fun n hn => hw2 n (DataW.weights_mem_each (j := 1) rfl rfl n hn))
  exact ⟨n0, n1, n2, n3, n4, fa, fb, foff, fcap, FZ, LS, rfl, b1, b2, b3, b4, b5⟩
end Go.Proofs.YtkmbleboceedbaaGreatDoor

/- Boots: what the row lists: the handle, the table; a world in which they lie. -/
namespace Go.Proofs.YtkmbleboceedbaaGreatDoor
open Go Go.ChangeShapes Go.WideShapes Go.ChangeAt Go.RowKit
set_option linter.unusedVariables false
set_option linter.unusedSimpArgs false

theorem cells_field : Tryz.prog.cellsOf 265 = 3 := by kernel_rfl
theorem cells_u64 : Tryz.prog.cellsOf 74 = 1 := by kernel_rfl
theorem Tryz.hf : Tryz.prog.globalNamed "tinyos/exe.headerFields" = some 1 := by kernel_rfl
theorem Tryz.hfType : (Tryz.prog.globals[1]?).map (·.type) = some 266 := by kernel_rfl
/-- A field of three numbers: its cells. -/
theorem field_cells {W : World} {fuel : Nat} {cs : List Value} {a b c : Int} {p : List MemPlace}
    (h : DataW.trod (fun _ => ()) Tryz.prog W 0 (fun _ => true) false fuel 265 cs = some (.agg [.lit (.int .i64 a), .lit (.int .i64 b), .lit (.int .u64 c)], p)) : cs = [.int .i64 a, .int .i64 b, .int .u64 c] := by
  obtain ⟨xs, n, rfl, hx, hl, hxl, hel⟩ := DataW.trod_struct Tryz.underlying265 h
  have hl3 : cs.length = 3 := hl.trans cells_field
  have hx3 : xs.length = 3 := hxl
  clear hl hxl
  obtain ⟨v0, v1, v2, rfl⟩ := list3' hl3
  obtain ⟨x0, x1, x2, rfl⟩ := list3' hx3
  have h0 := hel 0 _ rfl
  have h1 := hel 1 _ rfl
  have h2 := hel 2 _ rfl
  simp only [Prod.mk.injEq, DataW.agg.injEq] at hx
  obtain ⟨hx, _⟩ := hx
  simp only [List.map_cons, List.map_nil, List.cons.injEq, and_true] at hx
  obtain ⟨e0, e1, e2⟩ := hx
  change DataW.trod _ Tryz.prog W 0 _ false n 3 (List.take (Tryz.prog.cellsOf 3) (List.drop 0 [v0, v1, v2])) = some x0 at h0
  change DataW.trod _ Tryz.prog W 0 _ false n 3 (List.take (Tryz.prog.cellsOf 3) (List.drop 1 [v0, v1, v2])) = some x1 at h1
  change DataW.trod _ Tryz.prog W 0 _ false n 74 (List.take (Tryz.prog.cellsOf 74) (List.drop 2 [v0, v1, v2])) = some x2 at h2
  rw [cells_int] at h0 h1
  rw [cells_u64] at h2
  obtain ⟨n0, f0, g0, _⟩ := DataW.trod_int Tryz.underlying3 (show DataW.trod _ _ _ _ _ _ n 3 [v0] = some x0 from h0)
  obtain ⟨n1, f1, g1, _⟩ := DataW.trod_int Tryz.underlying3 (show DataW.trod _ _ _ _ _ _ n 3 [v1] = some x1 from h1)
  obtain ⟨n2, f2, g2, _⟩ := DataW.trod_int Tryz.underlying74 (show DataW.trod _ _ _ _ _ _ n 74 [v2] = some x2 from h2)
  subst g0 g1 g2
  simp only [DataW.lit.injEq, Lit.int.injEq, true_and, List.cons.injEq, and_true] at e0 e1 e2 f0 f1 f2
  rw [f0, f1, f2, e0, e1, e2]
theorem chunk_get {cs : List Value} {k : Nat} {a b c : Value} (h : (cs.drop k).take 3 = [a, b, c]) : cs[k]? = some a ∧ cs[k + 1]? = some b ∧ cs[k + 2]? = some c := by
  have g : ∀ r, r < 3 → cs[k + r]? = [a, b, c][r]? := fun r hr => by
    rw [← h, List.getElem?_take, if_pos hr, List.getElem?_drop]
  exact ⟨g 0 (by omega), g 1 (by omega), g 2 (by omega)⟩

def bootsLaid : List (String × DataW Unit) := [("unicode/utf8.acceptRanges", Rows.laid_unicode_utf8_acceptRanges), ("errors.errorType", Rows.laid_errors_errorType), ("tinyos/exe.headerFields", Rows.laid_tinyos_exe_headerFields), ("unicode/utf8.first", Rows.laid_unicode_utf8_first)]
def bootsData : List (String × DataW Unit) := [("unicode/utf8.acceptRanges", Rows.laid_unicode_utf8_acceptRanges), ("tinyos/exe.headerFields", Rows.laid_tinyos_exe_headerFields), ("unicode/utf8.first", Rows.laid_unicode_utf8_first)]
theorem bootsLaid_data : (bootsLaid.filter fun x => x.2.handleName?.isNone) = bootsData := by kernel_rfl
theorem bootsLaid_hand : (bootsLaid.filter fun x => x.2.handleName?.isSome) = [("errors.errorType", Rows.laid_errors_errorType)] := by kernel_rfl
theorem boots_parts {W : World} (h : laidMetH Tryz.prog bootsLaid W) : laidMet Tryz.prog bootsData W ∧ handlesMet Tryz.prog [("errors.errorType", Rows.laid_errors_errorType)] W := by
  unfold laidMetH at h
  rw [bootsLaid_hand, bootsLaid_data] at h
  exact h
theorem boots_handle {W : World} (h : laidMetH Tryz.prog bootsLaid W) : W.cell? ⟨0, 0, none⟩ = some (.iface 192 (.agg #[.pointer (some ⟨5, 40, none⟩)])) :=
  handle_of (boots_parts h).2 (List.mem_singleton.2 rfl)
theorem boots_table {W : World} (h : laidMetH Tryz.prog bootsLaid W) : W.rangeAt 1 0 tblRow := by
  obtain ⟨ps, hl0, _⟩ := (boots_parts h).1
  obtain ⟨_, _, _, _, _, _, _, _, _, _, hl, _⟩ := hl0
  obtain ⟨g, t, cs, fuel, p, q, hg, ht, hv, htr, _⟩ := hl
  obtain rfl := Option.some.inj (Tryz.hf.symm.trans hg)
  obtain rfl := Option.some.inj (Tryz.hfType.symm.trans ht)
  have hc := World.var?_cell Tryz.hf hv
  obtain ⟨xs, m, rfl, hx, hlen, hxl, hel⟩ := DataW.trod_array Tryz.underlying266 htr
  unfold Rows.laid_tinyos_exe_headerFields at hx
  simp only [Prod.mk.injEq, DataW.agg.injEq] at hx
  obtain ⟨hx, _⟩ := hx
  match xs, hxl, hx, hel with
  | [x0, x1, x2, x3, x4, x5], _, hx, hel =>
    simp only [List.map_cons, List.map_nil, List.cons.injEq, and_true] at hx
    obtain ⟨e0, e1, e2, e3, e4, e5⟩ := hx
    rw [cells_field] at hel
    have k0 := hel 0 (by omega)
    have k1 := hel 1 (by omega)
    have k2 := hel 2 (by omega)
    have k3 := hel 3 (by omega)
    have k4 := hel 4 (by omega)
    have k5 := hel 5 (by omega)
    have d0 := chunk_get (field_cells (p := x0.2) (k0.trans (by show some x0 = _; rw [e0])))
    have d1 := chunk_get (field_cells (p := x1.2) (k1.trans (by show some x1 = _; rw [e1])))
    have d2 := chunk_get (field_cells (p := x2.2) (k2.trans (by show some x2 = _; rw [e2])))
    have d3 := chunk_get (field_cells (p := x3.2) (k3.trans (by show some x3 = _; rw [e3])))
    have d4 := chunk_get (field_cells (p := x4.2) (k4.trans (by show some x4 = _; rw [e4])))
    have d5 := chunk_get (field_cells (p := x5.2) (k5.trans (by show some x5 = _; rw [e5])))
    intro j v hj
    rw [Nat.zero_add, hc]
    have hl : cs[j]? = cs.toList[j]? := by simp
    rw [hl]
    match j, hj with
    | 0, hj => exact d0.1.trans hj
    | 1, hj => exact d0.2.1.trans hj
    | 2, hj => exact d0.2.2.trans hj
    | 3, hj => exact d1.1.trans hj
    | 4, hj => exact d1.2.1.trans hj
    | 5, hj => exact d1.2.2.trans hj
    | 6, hj => exact d2.1.trans hj
    | 7, hj => exact d2.2.1.trans hj
    | 8, hj => exact d2.2.2.trans hj
    | 9, hj => exact d3.1.trans hj
    | 10, hj => exact d3.2.1.trans hj
    | 11, hj => exact d3.2.2.trans hj
    | 12, hj => exact d4.1.trans hj
    | 13, hj => exact d4.2.1.trans hj
    | 14, hj => exact d4.2.2.trans hj
    | 15, hj => exact d5.1.trans hj
    | 16, hj => exact d5.2.1.trans hj
    | 17, hj => exact d5.2.2.trans hj
    | (k + 18), hj => simp [tblRow] at hj

theorem boots_data (os : Os) : laidMet Tryz.prog bootsData ((World.doorLaid Tryz.prog 400 os).layVars Tryz.prog bootsData) := by
  have e1 : (bootsData.filter fun x => (bootsData.map (·.1)).contains x.1) = bootsData := List.filter_eq_self.2 fun x hx => List.contains_iff_mem.2 (List.mem_map.2 ⟨x, hx, rfl⟩)
  have e2 : (bootsData.filter fun x => !(bootsData.map (·.1)).contains x.1) = [] := List.filter_eq_nil_iff.2 fun x hx => by rw [List.contains_iff_mem.2 (List.mem_map.2 ⟨x, hx, rfl⟩)]; simp
  exact laidMet_layVars (w0 := World.doorLaid Tryz.prog 400 os) (bootsData.map (·.1)) [] (by rw [e1]) (by rw [e1]; kernel_rfl) (by rw [e1]; kernel_rfl) (by rw [e2]; exact LaidIn.none)
theorem boots_door (os : Os) (args : Array Value) : laidMetH Tryz.prog bootsLaid (((World.doorLaid Tryz.prog 400 os).layVars Tryz.prog bootsData).forCall (fun _ _ => 0) ⟨#[], args, []⟩).memory :=
  laidMetH_of_parts3 (fuel := 8) (by rw [bootsLaid_data]; exact (boots_data os).of_heap (by simp [World.memory, World.forCall, Input.heap])) (by kernel_rfl) (by kernel_rfl)
end Go.Proofs.YtkmbleboceedbaaGreatDoor
