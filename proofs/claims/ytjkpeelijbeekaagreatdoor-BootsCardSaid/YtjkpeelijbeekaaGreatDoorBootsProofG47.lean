import Derived.Test.YtjkpeelijbeekaaGreatDoorBootsProofG44
import Derived.Test.YtjkpeelijbeekaaGreatDoorBootsProofG43
import Derived.Test.YtjkpeelijbeekaaGreatDoorBootsProofG40
import Derived.Test.YtjkpeelijbeekaaGreatDoorBootsProofG39
import Derived.Test.YtjkpeelijbeekaaGreatDoorBootsProofG46
/- What Boot's files leave, in numbers; a tree that has just been made. -/
namespace Go.Proofs.YtjkpeelijbeekaaGreatDoor
open Go Go.RowKit Go.Maps
set_option linter.unusedVariables false
set_option linter.unusedSimpArgs false

/-- Sizes and limits of what Boot's first files left. -/
structure PSize (lp lf lo li lb : Int) (j S : Nat) (p : PK) : Prop where
  len : p.xs.length ≤ j + 1
  used : usedOf p.cs ≤ S
  bytes : AllBytes p.cs
  lims : p.lp = lp ∧ p.lf = lf ∧ p.lo = lo ∧ p.li = li ∧ p.lb = lb
theorem popened_len (p : PK) (s : ByteArray) : (p.opened s).1.xs.length ≤ p.xs.length + 1 ∧ usedOf (p.opened s).1.cs = usedOf p.cs ∧ (AllBytes p.cs → AllBytes (p.opened s).1.cs) ∧ (p.opened s).1.lp = p.lp ∧ (p.opened s).1.lf = p.lf ∧ (p.opened s).1.lo = p.lo ∧ (p.opened s).1.li = p.li ∧ (p.opened s).1.lb = p.lb := by
  unfold PK.opened
  split
  · refine ⟨by simp [PK.add], used_snoc _, fun h => h.snoc, rfl, rfl, rfl, rfl, rfl⟩
  · exact ⟨by simp, rfl, fun h => h, rfl, rfl, rfl, rfl, rfl⟩
theorem over_bytes {c B : List Int} (hc : IsBytes c) (hB : IsBytes B) : IsBytes (over c B) := by
  rw [isBytes_mem] at hc hB ⊢
  intro x hx
  unfold over at hx
  rcases List.mem_append.1 hx with h | h
  · exact hB x h
  · exact hc x (List.mem_of_mem_drop h)
theorem PSize.put {lp lf lo li lb : Int} {j S : Nat} {p : PK} (h : PSize lp lf lo li lb j S p) (f : PFile) (hb : IsBytes f.bytes) : PSize lp lf lo li lb (j + 1) (S + f.bytes.length) (p.put f).2 := by
  unfold PK.put
  split
  · unfold PK.mkdir
    have h0 : PSize lp lf lo li lb (j + 1) (S + f.bytes.length) p := ⟨by have := h.len; omega, by have := h.used; omega, h.bytes, h.lims⟩
    split
    · exact h0
    split
    · exact h0
    split
    · exact h0
    · exact ⟨by have := h.len; simp [PK.add]; omega, by have := h.used; show usedOf (p.cs ++ [[]]) ≤ _; rw [used_snoc]; omega, h.bytes.snoc, h.lims⟩
  · obtain ⟨o1, o2, o3, o4, o5, o6, o7, o8⟩ := popened_len p f.path
    have hl := h.lims
    unfold PK.fileOut
    split
    · exact ⟨by have := h.len; show (p.opened f.path).1.xs.length ≤ _; omega, by have := h.used; show usedOf (p.opened f.path).1.cs ≤ _; omega, o3 h.bytes, o4.trans hl.1, o5.trans hl.2.1, o6.trans hl.2.2.1, o7.trans hl.2.2.2.1, o8.trans hl.2.2.2.2⟩
    · refine ⟨by have := h.len; show (p.opened f.path).1.xs.length ≤ _; omega, ?_, ?_, o4.trans hl.1, o5.trans hl.2.1, o6.trans hl.2.2.1, o7.trans hl.2.2.2.1, o8.trans hl.2.2.2.2⟩
      · have hs := used_set (p.opened f.path).1.cs (placeOf (p.opened f.path).1.xs (p.opened f.path).2).toNat (over ((p.opened f.path).1.old (p.opened f.path).2) f.bytes)
        rw [over_len (M := max f.bytes.length ((p.opened f.path).1.old (p.opened f.path).2).length) rfl] at hs
        have e : (p.opened f.path).1.old (p.opened f.path).2 = (p.opened f.path).1.cs.getD (placeOf (p.opened f.path).1.xs (p.opened f.path).2).toNat [] := rfl
        rw [← e] at hs
        have := h.used
        show usedOf ((p.opened f.path).1.cs.set _ _) ≤ _
        omega
      · intro c hc
        rcases List.mem_or_eq_of_mem_set hc with h1 | h1
        · exact o3 h.bytes c h1
        · rw [h1]
          refine over_bytes ?_ hb
          show IsBytes ((p.opened f.path).1.cs.getD _ [])
          rw [List.getD_eq_getElem?_getD]
          cases hg : (p.opened f.path).1.cs[(placeOf (p.opened f.path).1.xs (p.opened f.path).2).toNat]? with
          | none => exact isBytes_mem.2 (fun x hx => by cases hx)
          | some d => exact o3 h.bytes d (List.mem_of_getElem? hg)
/-- No more is there than the limits allow. -/
def PFit (p : PK) : Prop := (p.xs.length : Int) ≤ p.li ∧ (usedOf p.cs : Int) ≤ p.lb
theorem PFit.put {p : PK} (h : PFit p) (f : PFile) (hc : (p.put f).1 = 0) : PFit (p.put f).2 := by
  have hadd : ∀ (d : Int) (name : ByteArray) (is : Bool), ¬ p.li ≤ (p.xs.length : Int) → PFit (p.add d name is) := fun d name is q => by
    refine ⟨?_, ?_⟩
    · show (((p.xs ++ [newIno (p.last + 1) d name is]).length : Nat) : Int) ≤ p.li
      rw [List.length_append]
      simp
      omega
    · show (usedOf (p.cs ++ [[]]) : Int) ≤ p.lb
      rw [used_snoc]
      exact h.2
  unfold PK.put at hc ⊢
  split at hc
  · rename_i q0
    rw [if_pos q0]
    unfold PK.mkdir at hc ⊢
    split at hc
    · rename_i q; exact absurd hc q
    · rename_i q
      rw [if_neg q]
      split at hc
      · exact absurd hc (show ¬ (10 : Int) = 0 by decide)
      · rename_i q1
        rw [if_neg q1]
        split at hc
        · exact absurd hc (show ¬ (12 : Int) = 0 by decide)
        · rename_i q2
          rw [if_neg q2]
          exact hadd _ _ _ q2
  · rename_i q0
    rw [if_neg q0]
    have hc : p.fileCode f.path f.bytes = 0 := hc
    show PFit (p.fileOut f.path f.bytes)
    unfold PK.fileCode at hc
    split at hc
    · rename_i q; exact absurd hc q
    · split at hc
      · exact absurd hc (by decide)
      · rename_i q1
        have ho : PFit (p.opened f.path).1 := by
          unfold PK.opened
          split
          · rename_i q2; exact hadd _ _ _ (fun q3 => q1 ⟨q2, q3⟩)
          · exact h
        split at hc
        · exact absurd hc (by decide)
        · split at hc
          · exact absurd hc (by decide)
          · rename_i q3
            unfold PK.fileOut
            split
            · exact ho
            · rename_i q4
              refine ⟨ho.1, ?_⟩
              have hs := used_set (p.opened f.path).1.cs (placeOf (p.opened f.path).1.xs (p.opened f.path).2).toNat (over ((p.opened f.path).1.old (p.opened f.path).2) f.bytes)
              rw [over_len (M := max f.bytes.length ((p.opened f.path).1.old (p.opened f.path).2).length) rfl] at hs
              have e : (p.opened f.path).1.old (p.opened f.path).2 = (p.opened f.path).1.cs.getD (placeOf (p.opened f.path).1.xs (p.opened f.path).2).toNat [] := rfl
              rw [← e] at hs
              have hl8 := (popened_len p f.path).2.2.2.2.2.2.2
              show (usedOf ((p.opened f.path).1.cs.set _ _) : Int) ≤ (p.opened f.path).1.lb
              rw [hl8]
              have q5 : ¬ p.lb < (usedOf (p.opened f.path).1.cs : Int) - (((p.opened f.path).1.old (p.opened f.path).2).length : Int) + ((max f.bytes.length ((p.opened f.path).1.old (p.opened f.path).2).length : Nat) : Int) := fun q5 => q3 ⟨by omega, q5⟩
              omega
theorem boot0_size (lp lf lo li lb : Int) : PSize lp lf lo li lb 0 0 (boot0 lp lf lo li lb) := ⟨by simp [boot0], by simp [boot0, usedOf], isBytes_nils, rfl, rfl, rfl, rfl, rfl⟩
theorem TreeRep.base {w : World} {B B' tb ab am : Nat} {li lb used : Int} {xs : List Ino} {NB MB : List Nat} {V : List Value} (h : TreeRep w B tb ab am li lb used xs NB MB V) (hB : B' ≤ B) : TreeRep w B' tb ab am li lb used xs NB MB V :=
  ⟨h.tree, h.above, h.amap, h.len, h.node, h.root, h.vlen, h.apart, Nat.le_trans hB h.low.1, Nat.le_trans hB h.low.2.1, Nat.le_trans hB h.low.2.2.1, fun b hb => Nat.le_trans hB (h.low.2.2.2.1 b hb), fun m hm => ⟨Nat.le_trans hB (h.low.2.2.2.2 m hm).1, (h.low.2.2.2.2 m hm).2⟩⟩
theorem boot0_rep {w : World} {B B' tb ab am nb nm : Nat} {lp lf lo li lb : Int} (h : TreeRep w B tb ab am li lb 0 [newIno 1 0 ByteArray.empty true] [nb] [nm] [.slice none 0 0]) (hB : B' ≤ B) : BootRep w B' tb ab am (boot0 lp lf lo li lb) [nb] [nm] [.slice none 0 0] := by
  refine ⟨h.base hB, fun i v c hv hc => ?_, fun i j v u R hv hu h1 h2 => ?_⟩
  · have hi := (List.getElem?_eq_some_iff.1 hv).1
    have hi0 : i = 0 := by simp at hi; omega
    subst hi0
    have e1 : Value.slice none 0 0 = v := by simpa using hv
    have e2 : [] = c := by simpa [boot0] using hc
    exact .inl ⟨e1.symm, e2.symm⟩
  · have hi := (List.getElem?_eq_some_iff.1 hv).1
    have hj := (List.getElem?_eq_some_iff.1 hu).1
    simp at hi hj
    omega
/-- Blocks that are a kernel's own are as they were: its tree is. -/
theorem BootRep.stable {w w' : World} {B tb ab am : Nat} {p : PK} {NB MB : List Nat} {V : List Value} (h : BootRep w B tb ab am p NB MB V) (hs : w.heap.size ≤ w'.heap.size) (hk : ∀ k, B ≤ k → k < w.heap.size → w'.heap[k]? = w.heap[k]?) : BootRep w' B tb ab am p NB MB V := by
  have hl := h.tree.low
  refine ⟨⟨holds_block h.tree.tree (hk _ hl.1 h.tree.tree.lt), holds_block h.tree.above (hk _ hl.2.1 h.tree.above.lt), h.tree.amap.block (hk _ hl.2.2.1 h.tree.amap.lt), h.tree.len, fun i x b m hx hb hm => ?_, h.tree.root, h.tree.vlen, h.tree.apart, hl.1, hl.2.1, hl.2.2.1, hl.2.2.2.1, fun m hm => ⟨(hl.2.2.2.2 m hm).1, by have := (hl.2.2.2.2 m hm).2; omega⟩⟩, fun i v c hv hc => ?_, h.own⟩
  · obtain ⟨qn, v, mv, h1, h2, h3⟩ := h.tree.node i x b m hx hb hm
    refine ⟨qn, v, mv, holds_block h1 (hk _ (hl.2.2.2.1 b (List.mem_of_getElem? hb)) h1.lt), fun hd => ⟨(h2 hd).1, (h2 hd).2.block (hk _ (hl.2.2.2.2 m (List.mem_of_getElem? hm)).1 (h2 hd).2.lt)⟩, h3⟩
  · rcases h.cont i v c hv hc with q | ⟨R, cp, T, q1, q2, q3, q4, q5⟩
    · exact .inl q
    · exact .inr ⟨R, cp, T, q1, holds_block q2 (hk R q5 q2.lt), q3, q4, q5⟩
/-- Process 1 into a map that is new. -/
theorem one_put (w : World) (pb : Nat) : ∃ w', (Instr.mapUpdate 119 (.map (some w.heap.size)) (.int .i64 1) (.pointer (some ⟨pb, 0, none⟩))).run Tryz.prog (w.alloc (.map #[] 0)) = .ok () w' ∧ OneProc w' w.heap.size pb ∧ (w.alloc (.map #[] 0)).grownBy w' (some w.heap.size) := by
  have hD : (w.alloc (.map #[] 0)).ownsMap Tryz.prog 3 ptrElem w.heap.size 0 (.map []) := World.ownsMap_made w _ _ _
  have hkey := Go.Maps.keyOf_int_mk (P := Tryz.prog) Tryz.underlying3 (a := 1) (by decide)
  obtain ⟨w', hrun, hD', hg⟩ := hD.update intKeyed Tryz.underlying119 (by unfold maxLen; omega) hkey (show ptrElem (.pointer (some ⟨pb, 0, none⟩)) = some (.lit (.int .i64 pb), []) from rfl)
  exact ⟨w', hrun, hD', hg⟩
end Go.Proofs.YtjkpeelijbeekaaGreatDoor

/- The program's Procs: what the law asks. -/
namespace Go.Proofs.YtjkpeelijbeekaaGreatDoor
open Go Go.RowKit
set_option linter.unusedVariables false
set_option linter.unusedSimpArgs false

theorem fds_con : fdsOf [] [-1, -1, -1, 0, 0, 0, 0, 0] = [⟨0, 4, 0⟩, ⟨1, 4, 0⟩, ⟨2, 4, 0⟩] := by kernel_rfl
theorem one_procs {p : PK} {w w' : World} {e : Ending} (hex : p.ExecOk [0] 0 initPath [initArg]) (h : OnePost (initProc p).pid (initProc p).par (initProc p).st (initProc p).su (initProc p).pc (initProc p).R (initProc p).PS w e w') : ProcsPost w [] [initProc p] e w' := by
  obtain ⟨ag, ac, ga, ca, fg, fc, rfl, hb, hag, hal, hrow, hop, hof, h1, h2, h3⟩ := h
  have hok := initProc_ok hex (outPgs_len hex.2.2.2.1)
  have hgl := hop.lt ga rfl
  have hfl := hof.lt fg rfl
  have hF : fdsOf [] (initProc p).F = [⟨0, 4, 0⟩, ⟨1, 4, 0⟩, ⟨2, 4, 0⟩] := fds_con
  have hapi : ApiAt w' ga (initProc p).PS := api_at (fun q hq => (hok.pages q hq).2.2) hop
  refine ⟨some ⟨ag, 0, none⟩, ag, ac, [⟨some ⟨ga, 0, none⟩, ga, ca, some ⟨fg, 0, none⟩, fg, 0, fc⟩], rfl, fun _ => ⟨rfl, hal⟩, hb, rfl, fun i q l _ hq hl => ?_, fun i j q l m hq hl hm hne _ => ?_⟩
  · have hi := (List.getElem?_eq_some_iff.1 hq).1
    have hi0 : i = 0 := by simp at hi; omega
    subst hi0
    have e1 : initProc p = q := by simpa using hq
    have e2 : (⟨some ⟨ga, 0, none⟩, ga, ca, some ⟨fg, 0, none⟩, fg, 0, fc⟩ : ALoc) = l := by simpa using hl
    subst e1 e2
    refine ⟨?_, fun _ => ⟨rfl, hgl.1, hgl.2, h2⟩, hapi, fun j hj => ?_, fun _ => ⟨rfl, hfl.2⟩, ?_⟩
    · rw [Nat.zero_mul]
      unfold apiOf
      rw [hF]
      exact hrow
    · obtain ⟨v, c1, f1⟩ := row_there hop (j * 258) (by omega)
      obtain ⟨v2, c2, f2⟩ := row_there hop (j * 258 + 2) (by omega)
      obtain ⟨q, hq⟩ : ∃ q, (initProc p).PS[j]? = some q := ⟨_, List.getElem?_eq_getElem hj⟩
      refine ⟨by rw [c1]; rfl, f1, ?_, f2⟩
      have h256 := (hok.pages q (List.mem_of_getElem? hq)).2.2
      have := (hapi j q hq).2.2 0 (.int .u8 (q.bytes.getD 0 0)) (bytesRow_get _ _ (by omega))
      exact ⟨_, this⟩
    · rw [hF]
      intro i x hx
      have hi := (List.getElem?_eq_some_iff.1 hx).1
      have hi3 : i < 3 := by simpa using hi
      have c0 := hof.cellAt (i * 3) (by omega)
      have c1 := hof.cellAt (i * 3 + 1) (by omega)
      have c2 := hof.cellAt (i * 3 + 2) (by omega)
      rw [Nat.zero_add, c0, c1, c2]
      have h9 : i = 0 ∨ i = 1 ∨ i = 2 := by omega
      rcases h9 with rfl | rfl | rfl
      · have : (⟨0, 4, 0⟩ : AFd) = x := by simpa using hx
        subst this; exact ⟨rfl, rfl, rfl⟩
      · have : (⟨1, 4, 0⟩ : AFd) = x := by simpa using hx
        subst this; exact ⟨rfl, rfl, rfl⟩
      · have : (⟨2, 4, 0⟩ : AFd) = x := by simpa using hx
        subst this; exact ⟨rfl, rfl, rfl⟩
  · have hi := (List.getElem?_eq_some_iff.1 hq).1
    have hj := (List.getElem?_eq_some_iff.1 hm).1
    simp at hi hj
    omega
set_option maxRecDepth 100000 in
set_option maxHeartbeats 1000000 in
theorem procs_top (tk kb pm pb cb : Nat) (p : PK) (w : World) (ht : w.cell? ⟨tk, 0, none⟩ = some (.pointer (some ⟨kb, 0, none⟩))) (hk : w.cell? ⟨kb, 9, none⟩ = some (.map (some pm))) (hkl : kb < w.heap.size) (hm : OneProc w pm pb) (hp : Holds w pb 183 (procRow (initProc p).pc (initProc p).R (spaceRow (initProc p).PS) 1 0 0 0 0 (kfdsTo cb 3))) (hex : p.ExecOk [0] 0 initPath [initArg]) :
    Calls Tryz.prog 18 #[.pointer (some ⟨tk, 0, none⟩)] w (ProcsPost w [] [initProc p]) := by
  have HT := hide (kProcs_one kb pm pb cb _ _ _ 1 0 0 0 0 w hk hkl hm hp (initProc_ok hex (outPgs_len hex.2.2.2.1)).regs (all_pok hex.2.2.2.1 _ (stackRoom_length hex.2.2.2.2.1)) (by simp [initProc, twoPgs]) (by decide))
  have HX := hide hex
  clear hk hm hp hex
  go_enter Tryz.func18, Tryz.ntmps18
  go_wp2_with fail
  refine (unhide HT).mono ?_
  intro e w1 h1
  obtain ⟨ag, ac, ga, ca, fg, fc, he, hr⟩ := h1
  have HP := hide (one_procs (unhide HX) ⟨ag, ac, ga, ca, fg, fc, he, hr⟩)
  subst he
  clear hr ht HT HX
  go_wp2
  go_ret
  exact unhide HP
end Go.Proofs.YtjkpeelijbeekaaGreatDoor

/- The program's kernel as Boot gives it; what lies apart from it. -/
namespace Go.Proofs.YtjkpeelijbeekaaGreatDoor
open Go Go.RowKit Go.Maps
set_option linter.unusedVariables false
set_option linter.unusedSimpArgs false

theorem OneProc.block {w w' : World} {pm pb : Nat} (h : OneProc w pm pb) (hh : w'.heap[pm]? = w.heap[pm]?) : OneProc w' pm pb := by
  obtain ⟨es, clock, hb, F, hs, hD⟩ := h
  exact ⟨es, clock, by rw [hh]; exact hb, F, hs, hD⟩
structure KRep (w : World) (B kb : Nat) (p : PK) (tb ab am cb pm pb : Nat) (NB MB : List Nat) (V : List Value) : Prop where
  tree : BootRep w B tb ab am p NB MB V
  ker : Holds w kb 121 (kernelRow p.lp p.lf p.lo p.li p.lb tb cb pm)
  procs : OneProc w pm pb
  con : Holds w cb 129 conRow
  proc : Holds w pb 183 (procRow (initProc p).pc (initProc p).R (spaceRow (initProc p).PS) 1 0 0 0 0 (kfdsTo cb 3))
  low : B ≤ kb ∧ B ≤ cb ∧ B ≤ pm ∧ B ≤ pb
  inv : PInv p
  size : p.xs.length ≤ 101 ∧ usedOf p.cs ≤ 200000 ∧ AllBytes p.cs
theorem KRep.stable {w w' : World} {B kb : Nat} {p : PK} {tb ab am cb pm pb : Nat} {NB MB : List Nat} {V : List Value} (h : KRep w B kb p tb ab am cb pm pb NB MB V) (hs : w.heap.size ≤ w'.heap.size) (hk : ∀ k, B ≤ k → k < w.heap.size → w'.heap[k]? = w.heap[k]?) : KRep w' B kb p tb ab am cb pm pb NB MB V :=
  ⟨h.tree.stable hs hk, holds_block h.ker (hk _ h.low.1 h.ker.lt), h.procs.block (hk _ h.low.2.2.1 (World.ownsMap.lt h.procs)), holds_block h.con (hk _ h.low.2.1 h.con.lt), holds_block h.proc (hk _ h.low.2.2.2 h.proc.lt), h.low, h.inv, h.size⟩
/-- A kernel that the program's Boot gave. -/
def KR (w : World) (B : Nat) (kp : Addr) (p : PK) : Prop := ∃ tk kb tb ab am cb pm pb NB MB V, kp = ⟨tk, 0, none⟩ ∧ B ≤ tk ∧ Holds w tk 96 [.pointer (some ⟨kb, 0, none⟩)] ∧ KRep w B kb p tb ab am cb pm pb NB MB V
theorem kr_stable : Stable KR := fun w w' B kp p h hs hk => by
  obtain ⟨tk, kb, tb, ab, am, cb, pm, pb, NB, MB, V, h1, h2, h3, h4⟩ := h
  exact ⟨tk, kb, tb, ab, am, cb, pm, pb, NB, MB, V, h1, h2, holds_block h3 (hk _ h2 h3.lt), h4.stable hs hk⟩
theorem init_pok {p : PK} (h : p.ExecOk [0] 0 initPath [initArg]) : PgsOk (initProc p).PS := all_pok h.2.2.2.1 _ (stackRoom_length h.2.2.2.2.1)
theorem init_regs (p : PK) : (initProc p).R.length = 16 := by simp [initProc]
theorem kr_procs (w : World) (B : Nat) (kp : Addr) (p : PK) (h : KR w B kp p) (hex : p.ExecOk [0] 0 initPath [initArg]) : Calls Tryz.prog 18 #[.pointer (some kp)] w (ProcsPost w [] [initProc p]) := by
  obtain ⟨tk, kb, tb, ab, am, cb, pm, pb, NB, MB, V, rfl, h2, h3, h4⟩ := h
  exact procs_top tk kb pm pb cb p w (h3.cell rfl) (h4.ker.cell rfl) h4.ker.lt h4.procs h4.proc hex
theorem kr_console (w : World) (B : Nat) (kp : Addr) (p : PK) (h : KR w B kp p) : Calls Tryz.prog 9 #[.pointer (some kp)] w fun e w2 => (∃ a c, e = .returned (.slice a 0 c)) ∧ Below w.heap.size w w2 := by
  obtain ⟨tk, kb, tb, ab, am, cb, pm, pb, NB, MB, V, rfl, h2, h3, h4⟩ := h
  exact (console_nil tk kb cb w (h3.cell rfl) (h4.ker.cell rfl) h4.con).mono fun e w' h => ⟨⟨none, 0, h.1⟩, h.2⟩
set_option maxRecDepth 100000 in
set_option maxHeartbeats 1000000 in
theorem used_top (tk kb pm pb cb tb ab : Nat) (lp lf lo li lb n used : Int) (PS : List Pg) (w : World) (hT : w.cell? ⟨tk, 0, none⟩ = some (.pointer (some ⟨kb, 0, none⟩))) (htl : tk < w.heap.size) (hk : Holds w kb 121 (kernelRow lp lf lo li lb tb cb pm)) (hm : OneProc w pm pb) (hpl : pb < w.heap.size) (hp : PermsAt w pb PS) (hok : PgsOk PS) (hf : w.rangeAt pb 65814 (kfdsTo cb 3)) (ht : Holds w tb 163 [.pointer (some ⟨ab, 0, none⟩), .int .i64 n, .int .i64 li, .int .i64 used, .int .i64 lb]) :
    Calls Tryz.prog 23 #[.pointer (some ⟨tk, 0, none⟩)] w fun e w' => e = .returned (.agg (limRow 1 (PS.length : Nat) 0 n used).toArray) ∧ Below w.heap.size w w' := by
  obtain ⟨W0, hW0⟩ : ∃ W0, W0 = w.alloc (Obj.cells #[.int .i64 0, .int .i64 0, .int .i64 0, .int .i64 0, .int .i64 0] 23) := ⟨_, rfl⟩
  have hb0 : Below w.heap.size w W0 := by rw [hW0]; exact (Below.refl _ _).alloc (Nat.le_refl _) _
  have hn0 : Holds W0 w.heap.size 23 [.int .i64 0, .int .i64 0, .int .i64 0, .int .i64 0, .int .i64 0] := by rw [hW0]; exact Holds.new w 23 _
  have hT0 : W0.cell? ⟨tk, 0, none⟩ = some (.pointer (some ⟨kb, 0, none⟩)) := by rw [hb0.cell (p := ⟨tk, 0, none⟩) htl]; exact hT
  have HU := hide (kUsed_one kb pm pb cb tb ab lp lf lo li lb n used PS W0 (hk.below hb0 hk.lt) (hm.kept (grown_below hb0) (by simp)) (by have := hb0.size; omega) (hp.below hb0 hpl) hok (fun j v hv => by rw [hb0.cell (p := ⟨pb, 65814 + j, none⟩) hpl]; exact hf j v hv) (ht.below hb0 ht.lt))
  have HW0 := hide hW0
  have HB0 := hide hb0
  have HN0 := hide hn0
  have hs0 : w.heap.size < W0.heap.size := hn0.lt
  clear hk hm hp hf ht hok hW0 hb0 hn0 hT
  go_enter Tryz.func23, Tryz.ntmps23
  go_upto_region 1 with fail
  rw [← unhide HW0]
  go_wp2_with fail
  refine (unhide HU).mono ?_
  rintro e w1 ⟨rfl, hb1⟩
  have hn1 := (unhide HN0).below hb1 hs0
  have HB1 := hide ((unhide HB0).trans (hb1.mono (unhide HB0).size))
  unfold limRow
  obtain ⟨NP, hNP⟩ : ∃ NP : Int, NP = ((PS.length : Nat) : Int) := ⟨_, rfl⟩
  rw [← hNP]
  have HNP := hide hNP
  have k0 : w1.cell? ⟨w.heap.size, 0, none⟩ = some (.int .i64 0) := hn1.cell rfl
  have k1 : w1.cell? ⟨w.heap.size, 1, none⟩ = some (.int .i64 0) := hn1.cell rfl
  have k2 : w1.cell? ⟨w.heap.size, 2, none⟩ = some (.int .i64 0) := hn1.cell rfl
  have k3 : w1.cell? ⟨w.heap.size, 3, none⟩ = some (.int .i64 0) := hn1.cell rfl
  have k4 : w1.cell? ⟨w.heap.size, 4, none⟩ = some (.int .i64 0) := hn1.cell rfl
  have f0 := hn1.frozen 0
  have f1 := hn1.frozen 1
  have f2 := hn1.frozen 2
  have f3 := hn1.frozen 3
  have f4 := hn1.frozen 4
  clear hb1 hT0 HU hNP
  go_upto_region 99 with (refine wpList_store_hold rfl 23 _ _ rfl w.heap.size [.int .i64 1, .int .i64 NP, .int .i64 0, .int .i64 n, .int .i64 used] (by rfl) (by rfl) 23 _ hn1 (by rw [limSize]; rfl) (by rfl) (limRow_one 1 NP 0 n used) ?_; intro w6 H6 G6)
  have h6 := unhide H6
  exact ⟨rfl, .agg #[.int .i64 1, .int .i64 NP, .int .i64 0, .int .i64 n, .int .i64 used], results_one (by rfl) (by rfl) (run_loadVar_mid w6 w.heap.size 0 23 [.int .i64 1, .int .i64 NP, .int .i64 0, .int .i64 n, .int .i64 used] _ h6.range Tryz.underlying23 rfl (by rw [limSize]; rfl)), by rw [unhide HNP]; rfl, (unhide HB1).trans (below_grown G6 (Nat.le_refl _) (unhide HB1).size)⟩
theorem kr_used (w : World) (B : Nat) (kp : Addr) (p : PK) (h : KR w B kp p) (hex : p.ExecOk [0] 0 initPath [initArg]) : Calls Tryz.prog 23 #[.pointer (some kp)] w fun e w2 => e = .returned (.agg (limRow (pagesOf p).length (pagesOf p).sum 0 p.xs.length (usedOf p.cs)).toArray) ∧ Below w.heap.size w w2 := by
  obtain ⟨tk, kb, tb, ab, am, cb, pm, pb, NB, MB, V, rfl, h2, h3, h4⟩ := h
  have hok := init_pok hex
  have hSl : (spaceRow (initProc p).PS).length = 65792 := spaceRow_length (fun q hq => (hok.each q hq).2.2.2.2)
  have hsp : w.rangeAt pb 17 (spaceRow (initProc p).PS) := fun j v hv => h4.proc.cell (row_space (init_regs p) hSl j v hv)
  refine (used_top tk kb pm pb cb tb ab p.lp p.lf p.lo p.li p.lb p.xs.length (usedOf p.cs) (initProc p).PS w (h3.cell rfl) h3.lt h4.ker h4.procs h4.proc.lt (fun j hj => (space_page hok hsp hj).1) hok (fun j v hv => h4.proc.cell ?_) h4.tree.tree.tree).mono ?_
  · rw [show 65814 + j = 65809 + (5 + j) by omega]
    refine row_at (init_regs p) hSl _ _ ?_
    rw [List.getElem?_append_right (by simp)]
    simpa using hv
  · rintro e w' ⟨rfl, hb⟩
    refine ⟨?_, hb⟩
    have e1 : (pagesOf p).length = 1 := rfl
    have e2 : (initProc p).PS.length = (pagesOf p).sum := by simp [initProc, pagesOf, twoPgs]
    rw [e1, ← e2]
    rfl
end Go.Proofs.YtjkpeelijbeekaaGreatDoor
