import Derived.Test.YtkokiefclmbgaaaGreatDoorBootsProofG03
/- exe.readSegment. -/
namespace Go.Proofs.YtkokiefclmbgaaaGreatDoor
open Go.RowKit
set_option linter.unusedVariables false
set_option linter.unusedSimpArgs false

/-- What stands at a place of the file's segments. -/
structure Seg where
  perm : Int
  offs : Int
  addr : Int
  inFile : Int
  mem : Int
def segAt (B : List Int) (p : Nat) : Seg := ⟨numAt B (p + 4) 4, numAt B (p + 8) 8, numAt B (p + 16) 8, numAt B (p + 32) 8, numAt B (p + 40) 8⟩
def permOk (P : Int) : Prop := 1 ≤ P ∧ P ≤ 7 ∧ bits BinOp.and IntKind.u64 P 3 ≠ 3
/-- A segment that is right. -/
def SegOk (B : List Int) (p : Nat) : Prop := numAt B p 4 = 1 ∧ permOk (segAt B p).perm ∧ 1 ≤ (segAt B p).mem ∧ (segAt B p).inFile ≤ (segAt B p).mem ∧ (segAt B p).offs + (segAt B p).inFile ≤ (B.length : Int) ∧
  (segAt B p).offs % 256 = (segAt B p).addr % 256 ∧ (segAt B p).addr + (segAt B p).mem ≤ 65024

set_option maxHeartbeats 400000 in
theorem within_yes (s c e : Int) (w : World) (hs : 0 ≤ s) (hc : 0 ≤ c) (h : s + c ≤ e) (he : e < 1000000) : Calls Tryz.prog 143 #[.int .u64 s, .int .u64 c, .int .u64 e] w fun r w' => r = .returned (.bool true) ∧ w' = w := by
  have h1 : c ≤ e := by omega
  have h2 : s ≤ e - c := by omega
  have h3 : IntKind.u64.wrap (e - c) = e - c := by rw [IntKind.wrap_u64]; omega
  go_enter Tryz.func143, Tryz.ntmps143
  go_wp2
  go_ret
  exact ⟨rfl, rfl⟩
set_option maxHeartbeats 400000 in
theorem within_no (s c e : Int) (w : World) (hs : 0 ≤ s) (hc : 0 ≤ c) (h : e < s + c) (he : e < 1000000) (he0 : 0 ≤ e) : Calls Tryz.prog 143 #[.int .u64 s, .int .u64 c, .int .u64 e] w fun r w' => r = .returned (.bool false) ∧ w' = w := by
  by_cases h1 : c ≤ e
  · have h2 : ¬ s ≤ e - c := by omega
    have h3 : IntKind.u64.wrap (e - c) = e - c := by rw [IntKind.wrap_u64]; omega
    go_enter Tryz.func143, Tryz.ntmps143
    go_wp2
    go_ret
    exact ⟨rfl, rfl⟩
  · go_enter Tryz.func143, Tryz.ntmps143
    go_wp2
    go_ret
    exact ⟨rfl, rfl⟩
set_option maxHeartbeats 400000 in
theorem isPerm_yes (P : Int) (w : World) (h : permOk P) : Calls Tryz.prog 142 #[.int .u64 P] w fun r w' => r = .returned (.bool true) ∧ w' = w := by
  obtain ⟨h1, h2, h3⟩ := h
  have h4 : (bits BinOp.and IntKind.u64 P 3 != 3) = true := by simpa using h3
  clear h3
  go_enter Tryz.func142, Tryz.ntmps142
  go_wp2
  go_ret
  exact ⟨rfl, rfl⟩
set_option maxHeartbeats 400000 in
theorem isPerm_no (P : Int) (w : World) (h : ¬ permOk P) : Calls Tryz.prog 142 #[.int .u64 P] w fun r w' => r = .returned (.bool false) ∧ w' = w := by
  by_cases h1 : 1 ≤ P
  · by_cases h2 : P ≤ 7
    · have h3 : bits BinOp.and IntKind.u64 P 3 = 3 := Decidable.byContradiction fun e => h ⟨h1, h2, e⟩
      have h4 : (bits BinOp.and IntKind.u64 P 3 != 3) = false := by simpa using h3
      clear h3 h
      go_enter Tryz.func142, Tryz.ntmps142
      go_wp2
      go_ret
      exact ⟨rfl, rfl⟩
    · clear h
      go_enter Tryz.func142, Tryz.ntmps142
      go_wp2
      go_ret
      exact ⟨rfl, rfl⟩
  · clear h
    go_enter Tryz.func142, Tryz.ntmps142
    go_wp2
    go_ret
    exact ⟨rfl, rfl⟩

/-- Where a segment's bytes begin: a slice that can hold nothing stays where it was cut from. -/
def segPtr (off cap : Nat) (s : Seg) : Nat := if cap = s.offs.toNat then off else off + s.offs.toNat
def segVal (b off cap : Nat) (s : Seg) : Value := .agg #[.int .u8 s.perm, .int .u64 s.addr, .slice (some ⟨b, segPtr off cap s, none⟩) s.inFile.toNat (cap - s.offs.toNat), .int .i64 (s.addr / 256), .int .i64 ((s.addr + s.mem - 1) / 256)]
def noSeg : Value := .agg #[.int .u8 0, .int .u64 0, .slice none 0 0, .int .i64 0, .int .i64 0]
def SegPost (b off cap : Nat) (B : List Int) (p : Nat) (w : World) (e : Ending) (w' : World) : Prop :=
  (SegOk B p ∧ e = .returned (.tuple #[segVal b off cap (segAt B p), .bool true]) ∨ ¬ SegOk B p ∧ e = .returned (.tuple #[noSeg, .bool false])) ∧ Below w.heap.size w w'

set_option maxRecDepth 100000 in
set_option maxHeartbeats 2000000 in
theorem readSegment_any (b off cap : Nat) (B : List Int) (p : Nat) (w : World) (hB : IsBytes B) (hcap : B.length ≤ cap) (hlen : B.length ≤ 500000) (hv : BView w b off B) (hbw : b < w.heap.size) (hp : p + 56 ≤ B.length) :
    Calls Tryz.prog 120 #[.slice (some ⟨b, off, none⟩) B.length cap, .int .i64 p] w fun e w' => SegPost b off cap B p w e w' := by
  have HBB := hide hB
  have HV := hide hv
  obtain ⟨a4, ha4⟩ : ∃ a, a = p + 4 := ⟨_, rfl⟩
  obtain ⟨P, hP⟩ : ∃ x, x = numAt B (p + 4) 4 := ⟨_, rfl⟩
  have bP := numAt_8 hB (p + 4) 4 (by omega)
  have NP : Hid (∀ w', BView w' b off B → Calls Tryz.prog 103 #[.slice (some ⟨b, off, none⟩) B.length cap, .int .i64 a4, .int .i64 4] w' fun e w'' => e = .returned (.int .u64 P) ∧ w'' = w') := hide (fun w' h => by rw [hP, ha4]; exact number_any b off cap B (p + 4) 4 w' hB (by omega) (by omega) (by omega) (by omega) (by omega) h)
  have e4 : (p : Int) + 4 = (a4 : Int) := by omega
  obtain ⟨a8, ha8⟩ : ∃ a, a = p + 8 := ⟨_, rfl⟩
  obtain ⟨O, hO⟩ : ∃ x, x = numAt B (p + 8) 8 := ⟨_, rfl⟩
  have bO := numAt_8 hB (p + 8) 8 (by omega)
  have NO : Hid (∀ w', BView w' b off B → Calls Tryz.prog 103 #[.slice (some ⟨b, off, none⟩) B.length cap, .int .i64 a8, .int .i64 8] w' fun e w'' => e = .returned (.int .u64 O) ∧ w'' = w') := hide (fun w' h => by rw [hO, ha8]; exact number_any b off cap B (p + 8) 8 w' hB (by omega) (by omega) (by omega) (by omega) (by omega) h)
  have e8 : (p : Int) + 8 = (a8 : Int) := by omega
  obtain ⟨a16, ha16⟩ : ∃ a, a = p + 16 := ⟨_, rfl⟩
  obtain ⟨A, hA⟩ : ∃ x, x = numAt B (p + 16) 8 := ⟨_, rfl⟩
  have bA := numAt_8 hB (p + 16) 8 (by omega)
  have NA : Hid (∀ w', BView w' b off B → Calls Tryz.prog 103 #[.slice (some ⟨b, off, none⟩) B.length cap, .int .i64 a16, .int .i64 8] w' fun e w'' => e = .returned (.int .u64 A) ∧ w'' = w') := hide (fun w' h => by rw [hA, ha16]; exact number_any b off cap B (p + 16) 8 w' hB (by omega) (by omega) (by omega) (by omega) (by omega) h)
  have e16 : (p : Int) + 16 = (a16 : Int) := by omega
  obtain ⟨a32, ha32⟩ : ∃ a, a = p + 32 := ⟨_, rfl⟩
  obtain ⟨F, hF⟩ : ∃ x, x = numAt B (p + 32) 8 := ⟨_, rfl⟩
  have bF := numAt_8 hB (p + 32) 8 (by omega)
  have NF : Hid (∀ w', BView w' b off B → Calls Tryz.prog 103 #[.slice (some ⟨b, off, none⟩) B.length cap, .int .i64 a32, .int .i64 8] w' fun e w'' => e = .returned (.int .u64 F) ∧ w'' = w') := hide (fun w' h => by rw [hF, ha32]; exact number_any b off cap B (p + 32) 8 w' hB (by omega) (by omega) (by omega) (by omega) (by omega) h)
  have e32 : (p : Int) + 32 = (a32 : Int) := by omega
  obtain ⟨a40, ha40⟩ : ∃ a, a = p + 40 := ⟨_, rfl⟩
  obtain ⟨M, hM⟩ : ∃ x, x = numAt B (p + 40) 8 := ⟨_, rfl⟩
  have bM := numAt_8 hB (p + 40) 8 (by omega)
  have NM : Hid (∀ w', BView w' b off B → Calls Tryz.prog 103 #[.slice (some ⟨b, off, none⟩) B.length cap, .int .i64 a40, .int .i64 8] w' fun e w'' => e = .returned (.int .u64 M) ∧ w'' = w') := hide (fun w' h => by rw [hM, ha40]; exact number_any b off cap B (p + 40) 8 w' hB (by omega) (by omega) (by omega) (by omega) (by omega) h)
  have e40 : (p : Int) + 40 = (a40 : Int) := by omega
  obtain ⟨K, hK⟩ : ∃ x, x = numAt B p 4 := ⟨_, rfl⟩
  have bK := numAt_8 hB p 4 (by omega)
  have NK : Hid (∀ w', BView w' b off B → Calls Tryz.prog 103 #[.slice (some ⟨b, off, none⟩) B.length cap, .int .i64 p, .int .i64 4] w' fun e w'' => e = .returned (.int .u64 K) ∧ w'' = w') := hide (fun w' h => by rw [hK]; exact number_any b off cap B p 4 w' hB (by omega) (by omega) (by omega) (by omega) (by omega) h)
  have hok : SegOk B p ↔ (K = 1 ∧ permOk P ∧ 1 ≤ M ∧ F ≤ M ∧ O + F ≤ (B.length : Int) ∧ O % 256 = A % 256 ∧ A + M ≤ 65024) := by
    rw [hK, hP, hM, hF, hO, hA]; rfl
  have hseg : segAt B p = ⟨P, O, A, F, M⟩ := by rw [hP, hM, hF, hO, hA]; rfl
  rw [← hP] at bP
  rw [← hO] at bO
  rw [← hA] at bA
  rw [← hF] at bF
  rw [← hM] at bM
  rw [← hK] at bK
  have HOK := hide hok
  have HSG := hide hseg
  obtain ⟨P0, P1⟩ := bP
  obtain ⟨O0, O1⟩ := bO
  obtain ⟨A0, A1⟩ := bA
  obtain ⟨F0, F1⟩ := bF
  obtain ⟨M0, M1⟩ := bM
  clear hB hv hok hseg hP hO hA hF hM hK ha4 ha8 ha16 ha32 ha40 bK P1 O1 A1 F1 M1
  have hvz : BView (w.alloc (.cells #[.int .u8 0, .int .u64 0, .slice none 0 0, .int .i64 0, .int .i64 0] 245)) b off B := (unhide HV).below ((Below.refl _ _).alloc (Nat.le_refl _) _) hbw
  have HVZ := hide hvz
  have hl5 : (B.length : Int) < 1000000 := by omega
  have hl0 : (0 : Int) ≤ (B.length : Int) := by omega
  clear hvz
  go_enter Tryz.func120, Tryz.ntmps120
  go_wp2_with fail
  refine (unhide NP _ (unhide HVZ)).mono ?_
  rintro e w1 ⟨rfl, hw1⟩
  subst hw1
  go_wp2_with fail
  refine (unhide NO _ (unhide HVZ)).mono ?_
  rintro e w1 ⟨rfl, hw1⟩
  subst hw1
  go_wp2_with fail
  refine (unhide NA _ (unhide HVZ)).mono ?_
  rintro e w1 ⟨rfl, hw1⟩
  subst hw1
  go_wp2_with fail
  refine (unhide NF _ (unhide HVZ)).mono ?_
  rintro e w1 ⟨rfl, hw1⟩
  subst hw1
  go_wp2_with fail
  refine (unhide NM _ (unhide HVZ)).mono ?_
  rintro e w1 ⟨rfl, hw1⟩
  subst hw1
  go_wp2_with fail
  refine (unhide NK _ (unhide HVZ)).mono ?_
  rintro e w1 ⟨rfl, hw1⟩
  subst hw1
  clear e4 e8 e16 e32 e40 NP NO NA NF NM NK
  have y0 : IntKind.u64.wrap (B.length : Int) = (B.length : Int) := by rw [IntKind.wrap_u64]; omega
  have HL := hide (And.intro hl5 (And.intro hl0 (And.intro hcap (And.intro hlen hp))))
  clear hl5 hl0 hcap hlen hp
  by_cases t1 : K = 1
  case neg =>
    have f1 : (K != 1) = true := by simpa using t1
    have T1 := hide t1
    clear t1
    go_wp2
    exact bodyPost_ret (v := .tuple #[noSeg, .bool false]) (by simp [results, Tryz.results120, go_sem, noSeg]) rfl ⟨.inr ⟨fun h => unhide T1 ((unhide HOK).1 h).1, rfl⟩, (Below.refl _ _).alloc (Nat.le_refl _) _⟩
  have f1 : (K != 1) = false := by simpa using t1
  have T1 := hide t1
  clear t1
  go_wp2_with fail
  by_cases t2 : permOk P
  case neg =>
    refine (isPerm_no P _ t2).mono ?_
    rintro e w1 ⟨rfl, hw1⟩
    subst hw1
    have T2 := hide t2
    clear t2
    go_wp2
    exact bodyPost_ret (v := .tuple #[noSeg, .bool false]) (by simp [results, Tryz.results120, go_sem, noSeg]) rfl ⟨.inr ⟨fun h => unhide T2 ((unhide HOK).1 h).2.1, rfl⟩, (Below.refl _ _).alloc (Nat.le_refl _) _⟩
  refine (isPerm_yes P _ t2).mono ?_
  rintro e w1 ⟨rfl, hw1⟩
  subst hw1
  have T2 := hide t2
  have P7 : P ≤ 7 := t2.2.1
  clear t2
  by_cases t3 : 1 ≤ M
  case neg =>
    have f3 : (M == 0) = true := by simp; omega
    go_wp2
    exact bodyPost_ret (v := .tuple #[noSeg, .bool false]) (by simp [results, Tryz.results120, go_sem, noSeg]) rfl ⟨.inr ⟨fun h => by (have := ((unhide HOK).1 h).2.2.1; omega), rfl⟩, (Below.refl _ _).alloc (Nat.le_refl _) _⟩
  have f3 : (M == 0) = false := by simp; omega
  by_cases t4 : F ≤ M
  case neg =>
    go_wp2
    exact bodyPost_ret (v := .tuple #[noSeg, .bool false]) (by simp [results, Tryz.results120, go_sem, noSeg]) rfl ⟨.inr ⟨fun h => by (have := ((unhide HOK).1 h).2.2.2.1; omega), rfl⟩, (Below.refl _ _).alloc (Nat.le_refl _) _⟩
  go_wp2_with fail
  by_cases t5 : O + F ≤ (B.length : Int)
  case neg =>
    refine (within_no O F (B.length : Int) _ O0 F0 (by omega) (unhide HL).1 (unhide HL).2.1).mono ?_
    rintro e w1 ⟨rfl, hw1⟩
    subst hw1
    go_wp2
    exact bodyPost_ret (v := .tuple #[noSeg, .bool false]) (by simp [results, Tryz.results120, go_sem, noSeg]) rfl ⟨.inr ⟨fun h => by (have := ((unhide HOK).1 h).2.2.2.2.1; omega), rfl⟩, (Below.refl _ _).alloc (Nat.le_refl _) _⟩
  refine (within_yes O F (B.length : Int) _ O0 F0 t5 (unhide HL).1).mono ?_
  rintro e w1 ⟨rfl, hw1⟩
  subst hw1
  by_cases t6 : O % 256 = A % 256
  case neg =>
    have f6 : (O % 256 != A % 256) = true := by simpa using t6
    have T6 := hide t6
    clear t6
    go_wp2
    exact bodyPost_ret (v := .tuple #[noSeg, .bool false]) (by simp [results, Tryz.results120, go_sem, noSeg]) rfl ⟨.inr ⟨fun h => unhide T6 ((unhide HOK).1 h).2.2.2.2.2.1, rfl⟩, (Below.refl _ _).alloc (Nat.le_refl _) _⟩
  have f6 : (O % 256 != A % 256) = false := by simpa using t6
  have T6 := hide t6
  clear t6
  go_wp2_with fail
  by_cases t7 : A + M ≤ 65024
  case neg =>
    refine (within_no A M 65024 _ A0 M0 (by omega) (by omega) (by omega)).mono ?_
    rintro e w1 ⟨rfl, hw1⟩
    subst hw1
    go_wp2
    exact bodyPost_ret (v := .tuple #[noSeg, .bool false]) (by simp [results, Tryz.results120, go_sem, noSeg]) rfl ⟨.inr ⟨fun h => by (have := ((unhide HOK).1 h).2.2.2.2.2.2; omega), rfl⟩, (Below.refl _ _).alloc (Nat.le_refl _) _⟩
  refine (within_yes A M 65024 _ A0 M0 t7 (by omega)).mono ?_
  rintro e w1 ⟨rfl, hw1⟩
  subst hw1
  obtain ⟨o, rfl⟩ := Int.eq_ofNat_of_zero_le O0
  obtain ⟨f, rfl⟩ := Int.eq_ofNat_of_zero_le F0
  obtain ⟨hl5, hl0, hcap, hlen, hp⟩ := unhide HL
  obtain ⟨q, hq⟩ : ∃ q, q = o + f := ⟨_, rfl⟩
  have g1 : (o : Int) + (f : Int) = (q : Int) := by omega
  have g3 : q - o = f := by omega
  have g4 : o ≤ q := by omega
  have g5 : q ≤ cap := by omega
  have g6 : (q : Int) ≤ (cap : Int) := by omega
  have g7 : (o : Int) ≤ (q : Int) := by omega
  have g8 : (q : Int) < 1000000 := by omega
  clear hq f6 f1
  by_cases g2 : cap = o
  · go_wp2
    exact bodyPost_ret (v := .tuple #[segVal b off cap ⟨P, (o : Int), A, (f : Int), M⟩, .bool true]) (by simp [results, Tryz.results120, go_sem, segVal, segPtr, g2]) rfl ⟨.inl ⟨(unhide HOK).2 ⟨unhide T1, unhide T2, t3, t4, t5, unhide T6, t7⟩, by rw [unhide HSG]⟩, (Below.refl _ _).alloc (Nat.le_refl _) _⟩
  go_wp2
  exact bodyPost_ret (v := .tuple #[segVal b off cap ⟨P, (o : Int), A, (f : Int), M⟩, .bool true]) (by simp [results, Tryz.results120, go_sem, segVal, segPtr, g2]) rfl ⟨.inl ⟨(unhide HOK).2 ⟨unhide T1, unhide T2, t3, t4, t5, unhide T6, t7⟩, by rw [unhide HSG]⟩, (Below.refl _ _).alloc (Nat.le_refl _) _⟩
end Go.Proofs.YtkokiefclmbgaaaGreatDoor
