import Derived.Test.YtkmbleboceedbaaGreatDoorBootsProofG32
/- The program's makeFile. -/
namespace Go.Proofs.YtkmbleboceedbaaGreatDoor
open Go Go.RowKit Go.Maps
set_option linter.unusedVariables false
set_option linter.unusedSimpArgs false

def MakePost (p : PK) (f : PFile) (B tb ab am : Nat) (w : World) (e : Ending) (w' : World) : Prop :=
  Below B w w' ∧ ((p.put f).1 ≠ 0 ∧ e = errnoRet (p.put f).1 ∨ (p.put f).1 = 0 ∧ e = .returned .nilIface ∧ ∃ NB MB V, BootRep w' B tb ab am (p.put f).2 NB MB V)
theorem fileEnter : ∀ args w, (callFunc 65 args).run Tryz.prog w = .ok (.enter 65 args) w := enters_of Tryz.func65 (by kernel_rfl) rfl
theorem writeEnter : ∀ args w, (callFunc 64 args).run Tryz.prog w = .ok (.enter 64 args) w := enters_of Tryz.func64 (by kernel_rfl) rfl

theorem yields_assign {P : Program} {ops : Array Oper} {S : World → Prop} {o : Oper} {A : Act} (hg : o.guard = none) (x : Operand) (ho : o.op = .assign x) (v : Value) (h : A.eval x = v) : YieldsIf P ops S o v A :=
  .inl ⟨by simp [Region.wanted, hg], fun w _ => by simp only [execOp, ho, h]; rfl⟩
theorem step_call2x {P : Program} {ops : Array Oper} {o : Oper} {a : Act} {w : World} {K : Act → World → Prop} {Q : Exit → Act → World → Prop} {E : Prop} (hgd : o.guard = none) (f n1 n2 : Nat) (t1 t2 : TypeId)
    (ho : o.op = .call { callee := .value (.func f), args := #[.tmp n1, .tmp n2], argTypes := #[t1, t2] }) (v1 v2 : Value) (h1 : a.eval (.tmp n1) = v1) (h2 : a.eval (.tmp n2) = v2)
    (he : ∀ args w, (callFunc f args).run P w = .ok (.enter f args) w) (post : Ending → World → Prop) (hp : ∀ e w', post e w' → ∃ r, e = .returned r) (hc : Calls P f #[v1, v2] w post) (d : Option Tmp) (hd : o.dst = d)
    (h : ∀ r w', post (.returned r) w' → K (a.put d r) w') :
    if Region.wanted o (yielded ops a.tmps) = true then Oper.wp P o a w K Q else E := by
  have hw : Region.wanted o (yielded ops a.tmps) = true := by simp [Region.wanted, hgd]
  have h1' : a.tmps[n1]?.getD undef = v1 := by rw [← h1]; simp [go_sem]
  have h2' : a.tmps[n2]?.getD undef = v2 := by rw [← h2]; simp [go_sem]
  rw [if_pos hw]
  subst hd
  unfold Oper.wp
  simp [execOp, ho, resolve, invoke, h1', h2', Result.andThen, go_sem, he]
  refine hc.mono ?_
  intro e w' hpe
  obtain ⟨r, rfl⟩ := hp e w' hpe
  have := h r w' hpe
  simpa [go_sem] using this
theorem step_call4c {P : Program} {ops : Array Oper} {o : Oper} {a : Act} {w : World} {K : Act → World → Prop} {Q : Exit → Act → World → Prop} {E : Prop} (hgd : o.guard = none) (f n1 n2 n4 : Nat) (v3 : Value) (ts : Array TypeId)
    (ho : o.op = .call { callee := .value (.func f), args := #[.tmp n1, .tmp n2, .const v3, .tmp n4], argTypes := ts }) (v1 v2 v4 : Value) (h1 : a.eval (.tmp n1) = v1) (h2 : a.eval (.tmp n2) = v2) (h4 : a.eval (.tmp n4) = v4)
    (he : ∀ args w, (callFunc f args).run P w = .ok (.enter f args) w) (post : Ending → World → Prop) (hp : ∀ e w', post e w' → ∃ r, e = .returned r) (hc : Calls P f #[v1, v2, v3, v4] w post) (d : Option Tmp) (hd : o.dst = d)
    (h : ∀ r w', post (.returned r) w' → K (a.put d r) w') :
    if Region.wanted o (yielded ops a.tmps) = true then Oper.wp P o a w K Q else E := by
  have hw : Region.wanted o (yielded ops a.tmps) = true := by simp [Region.wanted, hgd]
  have h1' : a.tmps[n1]?.getD undef = v1 := by rw [← h1]; simp [go_sem]
  have h2' : a.tmps[n2]?.getD undef = v2 := by rw [← h2]; simp [go_sem]
  have h4' : a.tmps[n4]?.getD undef = v4 := by rw [← h4]; simp [go_sem]
  rw [if_pos hw]
  subst hd
  unfold Oper.wp
  simp [execOp, ho, resolve, invoke, h1', h2', h4', Result.andThen, go_sem, he]
  refine hc.mono ?_
  intro e w' hpe
  obtain ⟨r, rfl⟩ := hp e w' hpe
  have := h r w' hpe
  simpa [go_sem] using this

set_option maxRecDepth 100000 in
set_option maxHeartbeats 2000000 in
theorem makeFile_any (p : PK) (B tb ab am q o c : Nat) (a : Option Addr) (NB MB : List Nat) (V : List Value) (f : PFile) (mm : Int) (w : World) (hr : BootRep w B tb ab am p NB MB V) (hi : PInv p) (hlen : p.xs.length ≤ 900000) (hu : usedOf p.cs ≤ 1000000) (hlb : 0 ≤ p.lb ∧ p.lb ≤ 1000000) (hs : f.path.size ≤ maxLen) (hL : f.bytes.length ≤ 1000000)
    (ha : 0 < f.bytes.length → a = some ⟨q, o, none⟩ ∧ q < B) (hv : BView w q o f.bytes) (hB : B ≤ w.heap.size) (hm : w.cell? ⟨2, 0, none⟩ = some (.int .i64 mm)) (hml : 2 < B) :
    Calls Tryz.prog 39 #[.pointer (some ⟨tb, 0, none⟩), .agg #[.string f.path, .bool f.dir, .slice a f.bytes.length c]] w (MakePost p f B tb ab am w) := by
  obtain ⟨W0, hW0⟩ : ∃ W0, W0 = w.alloc (Obj.cells #[.string f.path, .bool f.dir, .slice a f.bytes.length c] 44) := ⟨_, rfl⟩
  have hb0 : Below w.heap.size w W0 := by rw [hW0]; exact (Below.refl _ _).alloc (Nat.le_refl _) _
  have hp0 : Holds W0 w.heap.size 44 [.string f.path, .bool f.dir, .slice a f.bytes.length c] := by rw [hW0]; exact Holds.new w 44 _
  have c0 : W0.cell? ⟨w.heap.size, 0, none⟩ = some (.string f.path) := hp0.cell rfl
  have c1 : W0.cell? ⟨w.heap.size, 1, none⟩ = some (.bool f.dir) := hp0.cell rfl
  have hr0 := hr.below hb0
  have hm0 : W0.cell? ⟨2, 0, none⟩ = some (.int .i64 mm) := by rw [hb0.cell (p := ⟨2, 0, none⟩) (show 2 < w.heap.size by omega)]; exact hm
  have HR0 := hide hr0
  have HM0 := hide hm0
  have HW0 := hide hW0
  have HP0 := hide hp0
  have HB0 := hide hb0
  have HA := hide ha
  have HV := hide hv
  have HI := hide hi
  have HLN := hide (show p.xs.length ≤ 900000 ∧ usedOf p.cs ≤ 1000000 ∧ (0 ≤ p.lb ∧ p.lb ≤ 1000000) ∧ f.path.size ≤ maxLen ∧ f.bytes.length ≤ 1000000 ∧ B ≤ w.heap.size ∧ 2 < B from ⟨hlen, hu, hlb, hs, hL, hB, hml⟩)
  have hs0 : w.heap.size ≤ W0.heap.size := hb0.size
  have HFD := hide (show W0.heap.size ≥ w.heap.size from hs0)
  obtain ⟨d, hd⟩ : ∃ d, d = f.dir := ⟨_, rfl⟩
  rw [← hd] at c1
  have HD := hide hd
  clear hr hi ha hv hm hW0 hb0 hp0 hr0 hm0 hlen hu hlb hs hL hB hml hs0 hd
  go_enter Tryz.func39, Tryz.ntmps39
  go_upto_region 1 with fail
  rw [← unhide HW0, ← unhide HD]
  cases d with
  | true =>
    have HMK := hide (fsMkdir_any p B tb ab am (usedOf p.cs) NB MB V f.path mm W0 (unhide HR0).tree (unhide HI) (unhide HLN).1 (unhide HLN).2.2.2.1 (unhide HM0) (by have := (unhide HLN).2.2.2.2.2; have := unhide HFD; omega) (by have := (unhide HLN).2.2.2.2.2; have := unhide HFD; omega))
    go_wp2_with fail
    refine (unhide HMK).mono ?_
    intro e w1 h1
    have HP := hide (show MakePost p f B tb ab am w e w1 from by
      have hput : p.put f = p.mkdir f.path := by unfold PK.put; rw [if_pos (unhide HD).symm]
      have hlow := (unhide HR0).tree.low
      have hl := (unhide HLN).2.2.2.2.2
      have hsz := (unhide HB0).size
      unfold MakePost
      rw [hput]
      rcases h1 with ⟨x1, x2, x3⟩ | ⟨x1, x2, m, nb, nm, x3, x4, x5, x6⟩
      · exact ⟨((unhide HB0).trans (x3.mono hsz)).mono hl.1, .inl ⟨x1, x2⟩⟩
      · refine ⟨((unhide HB0).mono hl.1).trans (x4.below hlow.1 x5 (by omega)), .inr ⟨x1, x2, NB ++ [nb], MB ++ [nm], V ++ [.slice none 0 0], ?_⟩⟩
        have hadd : (p.mkdir f.path).2 = p.add (walkOf p.xs f.path).dir (walkOf p.xs f.path).name true := by
          unfold PK.mkdir at x1 ⊢
          split at x1
          · rename_i y; exact absurd x1 y
          rename_i y1
          rw [if_neg y1]
          split at x1
          · exact absurd x1 (show ¬ (10 : Int) = 0 by decide)
          rename_i y2
          rw [if_neg y2]
          split at x1
          · exact absurd x1 (show ¬ (12 : Int) = 0 by decide)
          rename_i y3
          rw [if_neg y3]
        have hq : (p.mkdir f.path).2.cs = p.cs ++ [[]] := by rw [hadd]; rfl
        have hli : (p.mkdir f.path).2.li = p.li ∧ (p.mkdir f.path).2.lb = p.lb := by rw [hadd]; exact ⟨rfl, rfl⟩
        exact (unhide HR0).grew (unhide HI) hq x4 x6 (by rw [hli.1, hli.2]; exact x3))
    obtain ⟨v, rfl⟩ : ∃ v, e = .returned v := by
      rcases h1 with ⟨_, x2, _⟩ | ⟨_, x2, _⟩
      · exact ⟨_, x2⟩
      · exact ⟨_, x2⟩
    clear h1 HMK c0 c1
    go_wp2
    go_ret
    exact unhide HP
  | false =>
    have hne : p.xs ≠ [] := by obtain ⟨x, hx, _⟩ := (unhide HI).root; intro e; rw [e] at hx; cases hx
    have HFW := hide (fsFollow_any B tb ab am p.li p.lb (usedOf p.cs) p.xs NB MB V f.path mm W0 (unhide HR0).tree (fun _ => hne) (fun x hx => ((unhide HI).ids x hx).1) (unhide HI).incr (unhide HLN).2.2.2.1 (unhide HM0) (by have := (unhide HLN).2.2.2.2.2; have := unhide HFD; omega))
    have hput : p.put f = (p.fileCode f.path f.bytes, p.fileOut f.path f.bytes) := by unfold PK.put; rw [if_neg (by rw [← unhide HD]; decide)]
    have HPT := hide hput
    clear hne hput
    go_wp2_with fail
    refine (unhide HFW).mono ?_
    rintro e w1 ⟨hb1, (⟨he, rfl⟩ | ⟨he, b, name, hpl, rfl⟩)⟩
    · have HP := hide (show MakePost p f B tb ab am w (errnoRet (walkOf p.xs f.path).e) (w1.alloc (Obj.cells #[.pointer none, .string ByteArray.empty] 166)) from by
        have hl := (unhide HLN).2.2.2.2.2
        have hc : (p.put f).1 = (walkOf p.xs f.path).e := by rw [unhide HPT]; show p.fileCode f.path f.bytes = _; unfold PK.fileCode; rw [if_pos he]
        refine ⟨((unhide HB0).trans ((hb1.alloc hb1.size _).mono (unhide HB0).size)).mono hl.1, .inl ⟨by rw [hc]; exact he, by rw [hc]⟩⟩)
      clear hb1 he HFW c0 c1
      unfold placeErr
      go_wp2
      go_ret
      exact unhide HP
    · have hl := unhide HLN
      have hs0 := (unhide HB0).size
      obtain ⟨W2, hW2⟩ : ∃ W2, W2 = w1.alloc (Obj.cells #[.pointer (some ⟨b, 0, none⟩), .string name] 166) := ⟨_, rfl⟩
      have hb2 : Below W0.heap.size W0 W2 := by rw [hW2]; exact hb1.alloc hb1.size _
      have hp2 : Holds W2 w1.heap.size 166 [.pointer (some ⟨b, 0, none⟩), .string name] := by rw [hW2]; exact Holds.new w1 166 _
      have hf2 := (unhide HP0).below hb2 (unhide HP0).lt
      have hr2 := (unhide HR0).below hb2
      obtain ⟨m, k, ff, dvs, hdn, hd2, hdd, hk, hns, hBm, hcase⟩ := place_at hr2.tree (unhide HI) he hpl
      obtain ⟨dv, hdv⟩ : ∃ dv : Bool, ∀ c, ff name = some c → ∃ vs, Holds W2 c 228 (.bool dv :: vs) := by
        rcases hcase with ⟨_, i, x, c, y1, y2, y3, y4⟩ | ⟨_, y, _⟩
        · obtain ⟨mi, hmi⟩ : ∃ mi, MB[i]? = some mi := ⟨_, List.getElem?_eq_getElem (by rw [hr2.tree.len.2]; exact (List.getElem?_eq_some_iff.1 y1).1)⟩
          obtain ⟨v1, mv1, z1, _⟩ := hr2.tree.node i x c mi y1 y3 hmi
          exact ⟨x.dir, fun c' hc' => by rw [y4] at hc'; obtain rfl := Option.some.inj hc'; exact ⟨_, z1⟩⟩
        · exact ⟨false, fun c hc => by rw [y] at hc; cases hc⟩
      have HMO := hide (fsMayOpen_any tb ab b m k p.xs.length p.li (usedOf p.cs) p.lb ff name true dv dvs W2 hr2.tree.tree hdn hd2 hdd (by omega) hdv)
      have HW2 := hide hW2
      have HB2 := hide hb2
      have HP2 := hide hp2
      have HF2 := hide hf2
      have HR2 := hide hr2
      have HDN := hide (And.intro hdn (And.intro hd2 (And.intro hdd (And.intro hk (And.intro hns hBm)))))
      have HCA := hide hcase
      have HDV := hide hdv
      have HE := hide he
      obtain ⟨PB, hPB⟩ : ∃ PB, PB = w1.heap.size := ⟨_, rfl⟩
      clear hb1 hW2 hb2 hp2 hf2 hr2 hdn hd2 hdd hk hns hBm hcase hdv he hpl hl hs0 HFW
      unfold placeAt
      go_upto_region 4 with fail
      rw [← unhide HW2]
      rw [← hPB] at HP2 ⊢
      clear HW2 hPB c0 c1
      have c0 : W2.cell? ⟨PB, 0, none⟩ = some (.pointer (some ⟨b, 0, none⟩)) := (unhide HP2).cell rfl
      have c1 : W2.cell? ⟨PB, 1, none⟩ = some (.string name) := (unhide HP2).cell rfl
      go_wp2_with fail
      refine (unhide HMO).mono ?_
      rintro e w3 ⟨rfl, hb3⟩
      have hB3 : Below W0.heap.size W0 w3 := (unhide HB2).trans (hb3.mono (unhide HB2).size)
      have hr3 := (unhide HR2).below hb3
      have hdir : ∀ c, ff name = some c → ∀ vs d, Holds W2 c 228 (.bool d :: vs) → d = dv := by
        intro c hc vs d hh
        obtain ⟨vs', hh'⟩ := unhide HDV c hc
        unfold Holds at hh hh'
        rw [hh] at hh'
        injection hh' with hh'
        injection hh' with hh'
        have := congrArg Array.toList hh'
        simp at this
        exact this.1
      -- what stands against it
      have hcode : ∀ c : Int, mayOf (ff name).isSome true (decide (p.li ≤ (p.xs.length : Int))) dv = c → c ≠ 0 → (p.put f).1 = c := by
        intro c hc hc0
        rw [unhide HPT]
        show p.fileCode f.path f.bytes = c
        unfold PK.fileCode
        rw [if_neg (by simpa using unhide HE)]
        rcases unhide HCA with ⟨hn, i, x, c', y1, y2, y3, y4⟩ | ⟨hn, y, _⟩
        · rw [if_neg (fun q => hn q.1)]
          obtain ⟨q1, q2, _⟩ := opened_old (unhide HI) (unhide HE) hn y1 y2
          rw [q1]
          have hxd : x.dir = dv := by
            obtain ⟨mi, hmi⟩ : ∃ mi, MB[i]? = some mi := ⟨_, List.getElem?_eq_getElem (by rw [(unhide HR2).tree.len.2]; exact (List.getElem?_eq_some_iff.1 y1).1)⟩
            obtain ⟨v1, mv1, z1, _⟩ := (unhide HR2).tree.node i x c' mi y1 y3 hmi
            exact hdir c' y4 _ _ z1
          rw [y4] at hc
          show (if dirOf p.xs x.id = true then _ else _) = c
          rw [q2, hxd]
          cases dv with
          | true => exact hc
          | false => exact absurd hc.symm hc0
        · rw [y] at hc
          by_cases hfl : p.li ≤ (p.xs.length : Int)
          · rw [if_pos ⟨hn, hfl⟩]
            rw [decide_eq_true hfl] at hc
            exact hc
          · rw [decide_eq_false hfl] at hc
            exact absurd hc.symm hc0
      obtain ⟨mc, hmc⟩ : ∃ mc, mc = mayOf (ff name).isSome true (decide (p.li ≤ (p.xs.length : Int))) dv := ⟨_, rfl⟩
      rw [← hmc]
      by_cases hz : mc = 0
      · have HFD2 := hide (And.intro hB3 hr3)
        have HMC := hide (show mayOf (ff name).isSome true (decide (p.li ≤ (p.xs.length : Int))) dv = 0 from by rw [← hmc]; exact hz)
        have HDI := hide hdir
        subst hz
        have HP3 := hide ((unhide HP2).below hb3 (unhide HP2).lt)
        have HF3 := hide ((unhide HF2).below hb3 (unhide HF2).lt)
        have HB23 := hide hb3
        clear hcode hb3 hB3 hr3 hdir hmc HMO c0 c1
        rw [show errRet 0 = .returned .nilIface from rfl]
        have c0 : w3.cell? ⟨PB, 0, none⟩ = some (.pointer (some ⟨b, 0, none⟩)) := (unhide HP3).cell rfl
        have c1 : w3.cell? ⟨PB, 1, none⟩ = some (.string name) := (unhide HP3).cell rfl
        go_upto_region 9 with fail
        have hl := unhide HLN
        have hbd : Below w3.heap.size w3 w3.drew := ⟨rfl, rfl, rfl, Nat.le_refl _, fun _ _ => rfl⟩
        have hbW : Below W2.heap.size W2 w3.drew := (unhide HB23).trans (hbd.mono (unhide HB23).size)
        have hr3 : BootRep w3.drew B tb ab am p NB MB V := (unhide HFD2).2.below hbd
        have hdn3 : Holds w3.drew b 228 dvs := (unhide HDN).1.below hbW (unhide HDN).1.lt
        have hdd3 : DictAt w3.drew m k ff := (unhide HDN).2.2.1.kept (grown_below hbW) (by simp)
        have hB3 : B ≤ w3.heap.size := by have := (unhide HB0).size; have := (unhide HFD2).1.size; omega
        have hFile : Calls Tryz.prog 65 #[.pointer (some ⟨tb, 0, none⟩), .agg #[.pointer (some ⟨b, 0, none⟩), .string name]] w3.drew fun e w5 => ∃ b5, e = .returned (.pointer (some ⟨b5, 0, none⟩)) ∧ FileDone p f.path B tb ab am w5 b5 ∧ Below B w3 w5 ∧ KeepsT w3 w5 := by
          refine (fsFile_any tb ab b m k p.xs.length p.li (usedOf p.cs) p.lb ff name dvs w3.drew hr3.tree.tree ⟨by omega, by omega⟩ hdn3 (unhide HDN).2.1 hdd3 (by have := (unhide HDN).2.2.2.1; omega) (by have := (unhide HDN).2.2.2.2.1; omega)).mono ?_
          rintro e w5 (⟨c5, hc5, rfl, hb5⟩ | ⟨hno, nb, rfl, z1, z2, z3, z4⟩)
          · have hb35 : Below w3.heap.size w3 w5 := hbd.trans hb5
            refine ⟨c5, rfl, ?_, hb35.mono hB3, KeepsT.below hb35⟩
            rcases unhide HCA with ⟨hn, i, x, c', y1, y2, y3, y4⟩ | ⟨hn, y, _⟩
            · rw [y4] at hc5
              obtain rfl := Option.some.inj hc5
              have hxd : x.dir = false := by
                obtain ⟨mi, hmi⟩ : ∃ mi, MB[i]? = some mi := ⟨_, List.getElem?_eq_getElem (by rw [(unhide HR2).tree.len.2]; exact (List.getElem?_eq_some_iff.1 y1).1)⟩
                obtain ⟨v1, mv1, q1, _⟩ := (unhide HR2).tree.node i x c' mi y1 y3 hmi
                have hdv := unhide HDI c' y4 _ _ q1
                have hm0 := unhide HMC
                rw [y4] at hm0
                rw [hdv]
                cases dv with
                | true => exact absurd hm0 (show ¬ (11 : Int) = 0 by decide)
                | false => rfl
              exact done_old (hr3.below hb5) (unhide HI) (unhide HE) hn y1 y2 hxd y3
            · rw [y] at hc5; cases hc5
          · have hlow := hr3.tree.low
            have hmB := (unhide HDN).2.2.2.2.2
            refine ⟨nb, rfl, ?_, ?_, fun kk t vs hkk t1 t2 t3 => ?_⟩
            · rcases unhide HCA with ⟨hn, i, x, c', y1, y2, y3, y4⟩ | ⟨hn, y, pi, px, x1, x2, x3, x4, x5, x6, x7⟩
              · rw [y4] at hno; cases hno
              · subst x6 x7
                exact done_new hr3 (unhide HI) (unhide HE) hn x1 x2 x3 x4 x5 y z1 z2 z3 z4 hB3
            · have := z4.2.2.below (B := B) hlow.1 hmB hB3
              exact ⟨this.os, this.tape, this.output, this.size, this.block⟩
            · have hk' : Holds w3.drew kk t vs := hkk.heap rfl
              exact holds_block hk' (z4.2.2.block kk hk'.lt (holds_apart hk' hr3.tree.tree t1) (dict_block hdd3 hk'))
        have hS3 : w3.cell? ⟨PB, 0, none⟩ = some (.pointer (some ⟨b, 0, none⟩)) ∧ w3.cell? ⟨PB, 1, none⟩ = some (.string name) ∧ w3.cell? ⟨w.heap.size, 2, none⟩ = some (.slice a f.bytes.length c) := ⟨c0, c1, (unhide HF3).cell rfl⟩
        have R1 := hide (show ∀ w' : World, (w'.cell? ⟨PB, 0, none⟩ = some (.pointer (some ⟨b, 0, none⟩)) ∧ w'.cell? ⟨PB, 1, none⟩ = some (.string name) ∧ w'.cell? ⟨w.heap.size, 2, none⟩ = some (.slice a f.bytes.length c)) → (Instr.loadAt 166 (.pointer (some ⟨PB, 0, none⟩))).run Tryz.prog w' = .ok (.agg #[.pointer (some ⟨b, 0, none⟩), .string name]) w' from fun w' h => by
          have c := h.1
          have d := h.2.1
          clear h hS3 hFile hr3 hdn3 hdd3
          go_simp)
        have R2 := hide (show ∀ w' : World, (w'.cell? ⟨PB, 0, none⟩ = some (.pointer (some ⟨b, 0, none⟩)) ∧ w'.cell? ⟨PB, 1, none⟩ = some (.string name) ∧ w'.cell? ⟨w.heap.size, 2, none⟩ = some (.slice a f.bytes.length c)) → (Instr.loadAt 32 (.pointer (some ⟨w.heap.size, 2, none⟩))).run Tryz.prog w' = .ok (.slice a f.bytes.length c) w' from fun w' h => by
          have d := h.2.2
          clear h hS3 hFile hr3 hdn3 hdd3
          go_simp)
        have HFI := hide hFile
        have HS3 := hide hS3
        clear hFile hS3 hr3 hdn3 hdd3 hbd hbW hl c0 c1
        refine act_gen ?_
        intro A hA
        have e0 : A.eval (.tmp 0) = .pointer (some ⟨tb, 0, none⟩) := by rw [hA]; rfl
        have e3 : A.eval (.tmp 3) = .pointer (some ⟨w.heap.size, 0, none⟩) := by rw [hA]; rfl
        have e5 : A.eval (.tmp 5) = .pointer (some ⟨PB, 0, none⟩) := by rw [hA]; rfl
        have esz : A.tmps.size = 37 := by rw [hA]; rfl
        have HA9 := hide hA
        clear hA
        refine wp_region_held_drew (S := fun w' => w'.cell? ⟨PB, 0, none⟩ = some (.pointer (some ⟨b, 0, none⟩)) ∧ w'.cell? ⟨PB, 1, none⟩ = some (.string name) ∧ w'.cell? ⟨w.heap.size, 2, none⟩ = some (.slice a f.bytes.length c)) (by kernel_rfl) (unhide HS3) (fun hS => ?_)
        refine takeH (i := 0) (some 30) rfl rfl (by kernel_rfl) (by kernel_rfl) (by kernel_rfl) (fun _ _ _ h => h) (yields_move rfl _ rfl (.pointer (some ⟨tb, 0, none⟩)) (by simp [put_eval, put_size, esz, e0, e3, e5])) hS ?_
        refine takeH (i := 1) (some 31) rfl rfl (by kernel_rfl) (by kernel_rfl) (by kernel_rfl) (fun _ _ _ h => h) (yields_move rfl _ rfl (.pointer (some ⟨tb, 0, none⟩)) (by simp [put_eval, put_size, esz, e0, e3, e5])) hS ?_
        refine takeH (i := 2) (some 32) rfl rfl (by kernel_rfl) (by kernel_rfl) (by kernel_rfl) (fun _ _ _ h => h) (yields_load1 rfl _ _ rfl ⟨PB, 0, none⟩ (by simp [put_eval, put_size, esz, e0, e3, e5]) (.agg #[.pointer (some ⟨b, 0, none⟩), .string name]) (unhide R1)) hS ?_
        refine takeH (i := 4) (some 34) rfl rfl (by kernel_rfl) (by kernel_rfl) (by kernel_rfl) (fun _ _ _ h => h) (yields_field rfl _ _ _ rfl (.pointer (some ⟨w.heap.size, 0, none⟩)) (by simp [put_eval, put_size, esz, e0, e3, e5]) (.pointer (some ⟨w.heap.size, 2, none⟩)) (fun w' => by go_simp)) hS ?_
        refine takeH (i := 5) (some 35) rfl rfl (by kernel_rfl) (by kernel_rfl) (by kernel_rfl) (fun _ _ _ h => h) (yields_load1 rfl _ _ rfl ⟨w.heap.size, 2, none⟩ (by simp [put_eval, put_size, esz, e0, e3, e5]) (.slice a f.bytes.length c) (unhide R2)) hS ?_
        refine wpAnyH_ready (rs := [3]) (by kernel_rfl) (by simp) (AllReadyH.cons rfl (fun K hK => ?_) AllReadyH.nil)
        refine step_call2x rfl 65 31 32 _ _ rfl (.pointer (some ⟨tb, 0, none⟩)) (.agg #[.pointer (some ⟨b, 0, none⟩), .string name]) (by simp [put_eval, put_size, esz, e0, e3, e5]) (by simp [put_eval, put_size, esz, e0, e3, e5]) fileEnter _ (fun e w' h => by obtain ⟨b5, h, _⟩ := h; exact ⟨_, h⟩) (unhide HFI) (some 33) rfl ?_
        rintro r5 w5 ⟨b5, hr5, hdone, hb5, hk5⟩
        have hr5 : r5 = .pointer (some ⟨b5, 0, none⟩) := by injection hr5
        subst hr5
        have hPB5 := hk5 PB _ _ (unhide HP3) (by decide) (by decide) (by decide)
        have hF5 := hk5 w.heap.size _ _ (unhide HF3) (by decide) (by decide) (by decide)
        refine hK.out _ _ ⟨hPB5.cell rfl, hPB5.cell rfl, hF5.cell rfl⟩ (fun _ => ?_)
        clear hK K
        obtain ⟨NB5, MB5, V5, i5, x5, d1, d2, d3, d4, d5, d6, d7, d8, d9⟩ := hdone
        have hl := unhide HLN
        have hB5 : B ≤ w5.heap.size := by have := hb5.size; omega
        have hWB : Below B w w5 := (((unhide HB0).mono hl.2.2.2.2.2.1).trans ((unhide HFD2).1.mono (by have := (unhide HB0).size; omega))).trans hb5
        have hv5 : BView w5 q o f.bytes := by
          intro j hj
          have hq := (unhide HA (by omega)).2
          rw [hWB.cell (p := ⟨q, o + j, none⟩) hq]
          exact unhide HV j hj
        have HWR := hide (write_any (p.opened f.path).1 B tb ab am i5 b5 q o c a NB5 MB5 V5 x5 f.bytes _ w5 d1 d2 d3 d4 d5 d6 hl.2.2.2.2.1 (by rw [d8]; exact hl.2.1) (by rw [d9]; exact hl.2.2.1) (unhide HA) hv5 hB5)
        have g30 : ((((((A.put (some 30) (.pointer (some ⟨tb, 0, none⟩))).put (some 31) (.pointer (some ⟨tb, 0, none⟩))).put (some 32) (.agg #[.pointer (some ⟨b, 0, none⟩), .string name])).put (some 34) (.pointer (some ⟨w.heap.size, 2, none⟩))).put (some 35) (.slice a f.bytes.length c)).put (some 33) (.pointer (some ⟨b5, 0, none⟩))).eval (.tmp 30) = .pointer (some ⟨tb, 0, none⟩) := by simp [put_eval, put_size, esz, e0, e3, e5]
        have g33 : ((((((A.put (some 30) (.pointer (some ⟨tb, 0, none⟩))).put (some 31) (.pointer (some ⟨tb, 0, none⟩))).put (some 32) (.agg #[.pointer (some ⟨b, 0, none⟩), .string name])).put (some 34) (.pointer (some ⟨w.heap.size, 2, none⟩))).put (some 35) (.slice a f.bytes.length c)).put (some 33) (.pointer (some ⟨b5, 0, none⟩))).eval (.tmp 33) = .pointer (some ⟨b5, 0, none⟩) := by simp [put_eval, put_size, esz, e0, e3, e5]
        have g35 : ((((((A.put (some 30) (.pointer (some ⟨tb, 0, none⟩))).put (some 31) (.pointer (some ⟨tb, 0, none⟩))).put (some 32) (.agg #[.pointer (some ⟨b, 0, none⟩), .string name])).put (some 34) (.pointer (some ⟨w.heap.size, 2, none⟩))).put (some 35) (.slice a f.bytes.length c)).put (some 33) (.pointer (some ⟨b5, 0, none⟩))).eval (.tmp 35) = .slice a f.bytes.length c := by simp [put_eval, put_size, esz, e0, e3, e5]
        refine wpAnyH_ready (rs := [6]) (by kernel_rfl) (by simp) (AllReadyH.cons rfl (fun K hK => ?_) AllReadyH.nil)
        refine step_call4c rfl 64 30 33 35 (.int .i64 0) _ rfl (.pointer (some ⟨tb, 0, none⟩)) (.pointer (some ⟨b5, 0, none⟩)) (.slice a f.bytes.length c) g30 g33 g35 writeEnter _ (fun e w' h => by
          rcases h.2 with ⟨_, q⟩ | ⟨_, q, _⟩
          · exact ⟨_, q⟩
          · exact ⟨_, q⟩) (unhide HWR) (some 36) rfl ?_
        intro r6 w6 h6
        have hPB6 := h6.1.2 PB _ _ hPB5 (by decide) (by decide) (by decide)
        have hF6 := h6.1.2 w.heap.size _ _ hF5 (by decide) (by decide) (by decide)
        refine hK.out _ _ ⟨hPB6.cell rfl, hPB6.cell rfl, hF6.cell rfl⟩ (fun hS6 => ?_)
        clear hK K
        have HP := hide (show MakePost p f B tb ab am w (.returned r6) w6 from by
          have hn0 : ¬ ((walkOf p.xs f.path).n = 0 ∧ p.li ≤ (p.xs.length : Int)) := by
            rintro ⟨q1, q2⟩
            have hm0 := unhide HMC
            rcases unhide HCA with ⟨hn, _⟩ | ⟨_, y, _⟩
            · exact hn q1
            · rw [y, decide_eq_true q2] at hm0; exact absurd hm0 (show ¬ (12 : Int) = 0 by decide)
          have hdo : dirOf (p.opened f.path).1.xs (p.opened f.path).2 = false := by
            rcases unhide HCA with ⟨hn, i, x, c', y1, y2, y3, y4⟩ | ⟨hn, y, _⟩
            · obtain ⟨q1, q2, q3, _⟩ := opened_old (unhide HI) (unhide HE) hn y1 y2
              rw [q1] at d3 d7 ⊢
              have hii : i5 = i := by rw [← d7]; exact q3
              subst hii
              have d3' : p.xs[i5]? = some x5 := d3
              rw [y1] at d3'
              obtain rfl := Option.some.inj d3'
              exact q2.trans d4
            · obtain ⟨q1, q2, _⟩ := opened_new (unhide HI) (unhide HE) hn
              rw [q1]; exact q2
          have hcd : (p.put f).1 = if 0 < f.bytes.length ∧ p.lb < (usedOf (p.opened f.path).1.cs : Int) - (((p.opened f.path).1.old (p.opened f.path).2).length : Int) + ((max f.bytes.length ((p.opened f.path).1.old (p.opened f.path).2).length : Nat) : Int) then 12 else 0 := by
            rw [unhide HPT]
            show p.fileCode f.path f.bytes = _
            unfold PK.fileCode
            rw [if_neg (by simpa using unhide HE), if_neg hn0, if_neg (by rw [hdo]; decide)]
          have hot : (p.put f).2 = if f.bytes.length = 0 then (p.opened f.path).1 else {(p.opened f.path).1 with cs := (p.opened f.path).1.cs.set i5 (over ((p.opened f.path).1.old (p.opened f.path).2) f.bytes)} := by
            rw [unhide HPT, ← d7]
            rfl
          refine ⟨hWB.trans h6.1.1, ?_⟩
          rcases h6.2 with ⟨q1, q2⟩ | ⟨q1, q2, V', q3⟩
          · rw [d9] at q1
            rw [if_pos q1] at hcd
            exact .inl ⟨by rw [hcd]; decide, by rw [hcd]; exact q2⟩
          · rw [d9] at q1
            rw [if_neg q1] at hcd
            exact .inr ⟨hcd, q2, NB5, MB5, V', by rw [hot]; exact q3⟩)
        refine takeH (i := 7) (some 4) rfl rfl (by kernel_rfl) (by kernel_rfl) (by kernel_rfl) (fun _ _ _ h => h) (yields_assign rfl _ rfl r6 (by simp [put_eval, put_size, esz])) hS6 ?_
        refine wpAnyH_done (by kernel_rfl) ?_ _
        rw [unhide HA9]
        simp only [Act.put, List.setIfInBounds_toArray, List.set_cons_zero, List.set_cons_succ]
        clear hPB6 hF6 h6 g30 g33 g35 HWR hv5 hWB hB5 hl d1 d2 d3 d4 d5 d6 d7 d8 d9 hPB5 hF5 hb5 hk5 HA9 e0 e3 e5 esz hS hS6 HFI R1 R2
        go_wp2
        go_ret
        exact unhide HP
      · have HP := hide (show MakePost p f B tb ab am w (errnoRet mc) w3 from by
          have hc := hcode mc hmc.symm hz
          have hl := (unhide HLN).2.2.2.2.2
          refine ⟨((unhide HB0).trans (hB3.mono (unhide HB0).size)).mono hl.1, .inl ⟨by rw [hc]; exact hz, by rw [hc]⟩⟩)
        rw [show errRet mc = errnoRet mc from by unfold errRet; rw [if_neg hz]]
        clear hcode hb3 hB3 hr3 hdir hmc HMO c0 c1 hz
        unfold errnoRet
        go_wp2
        go_ret
        exact unhide HP
end Go.Proofs.YtkmbleboceedbaaGreatDoor
