import Derived.Test.YtkokiefclmbgaaaGreatDoorBootsProofG04
/- tinyosref.readSegment. -/
namespace Go.Proofs.YtkokiefclmbgaaaGreatDoor
open Go.RowKit
set_option linter.unusedVariables false
set_option linter.unusedSimpArgs false
def refSegVal (s : Seg) : Value := .agg #[.int .i64 s.perm, .int .u64 s.offs, .int .u64 s.addr, .int .u64 s.inFile, .int .u64 s.mem]
def RefSegPost (B : List Int) (p : Nat) (w : World) (e : Ending) (w' : World) : Prop :=
  (SegOk B p ∧ e = .returned (.tuple #[refSegVal (segAt B p), .bool true]) ∨ ¬ SegOk B p ∧ ∃ x0 x1 x2 x3 x4 : Int, e = .returned (.tuple #[.agg #[.int .i64 x0, .int .u64 x1, .int .u64 x2, .int .u64 x3, .int .u64 x4], .bool false])) ∧ Below w.heap.size w w'

set_option maxRecDepth 100000 in
set_option maxHeartbeats 2000000 in
theorem refReadSegment_any (b off cap : Nat) (B : List Int) (k : Nat) (w : World) (hB : IsBytes B) (hcap : B.length ≤ cap) (hlen : B.length ≤ 500000) (hv : BView w b off B) (hbw : b < w.heap.size) (hp : 64 + 56 * k + 56 ≤ B.length) (hk : k ≤ 8) :
    Calls Tryz.prog 79 #[.slice (some ⟨b, off, none⟩) B.length cap, .int .i64 k] w fun e w' => RefSegPost B (64 + 56 * k) w e w' := by
  obtain ⟨p, hp0⟩ : ∃ p, p = 64 + 56 * k := ⟨_, rfl⟩
  rw [← hp0] at hp ⊢
  have HBB := hide hB
  have HV := hide hv
  obtain ⟨K, hK⟩ : ∃ x, x = numAt B (p) 4 := ⟨_, rfl⟩
  have bK := numAt_8 hB (p) 4 (by omega)
  have NK : Hid (∀ w', BView w' b off B → Calls Tryz.prog 80 #[.slice (some ⟨b, off + p, none⟩) 4 (cap - p)] w' fun e w'' => e = .returned (.int .u64 K) ∧ w'' = w') := hide (fun w' h => by rw [hK]; exact refNumber_any b (off + p) 4 (cap - p) B (p) w' hB (by omega) (fun j hj => by rw [show off + p + j = off + (p + j) from by omega]; exact h (p + j) (by omega)))
  obtain ⟨P, hP⟩ : ∃ x, x = numAt B (p + 4) 4 := ⟨_, rfl⟩
  have bP := numAt_8 hB (p + 4) 4 (by omega)
  have NP : Hid (∀ w', BView w' b off B → Calls Tryz.prog 80 #[.slice (some ⟨b, off + p + 4, none⟩) 4 (cap - p - 4)] w' fun e w'' => e = .returned (.int .u64 P) ∧ w'' = w') := hide (fun w' h => by rw [hP]; exact refNumber_any b (off + p + 4) 4 (cap - p - 4) B (p + 4) w' hB (by omega) (fun j hj => by rw [show off + p + 4 + j = off + (p + 4 + j) from by omega]; exact h (p + 4 + j) (by omega)))
  obtain ⟨O, hO⟩ : ∃ x, x = numAt B (p + 8) 8 := ⟨_, rfl⟩
  have bO := numAt_8 hB (p + 8) 8 (by omega)
  have NO : Hid (∀ w', BView w' b off B → Calls Tryz.prog 80 #[.slice (some ⟨b, off + p + 8, none⟩) 8 (cap - p - 8)] w' fun e w'' => e = .returned (.int .u64 O) ∧ w'' = w') := hide (fun w' h => by rw [hO]; exact refNumber_any b (off + p + 8) 8 (cap - p - 8) B (p + 8) w' hB (by omega) (fun j hj => by rw [show off + p + 8 + j = off + (p + 8 + j) from by omega]; exact h (p + 8 + j) (by omega)))
  obtain ⟨A, hA⟩ : ∃ x, x = numAt B (p + 16) 8 := ⟨_, rfl⟩
  have bA := numAt_8 hB (p + 16) 8 (by omega)
  have NA : Hid (∀ w', BView w' b off B → Calls Tryz.prog 80 #[.slice (some ⟨b, off + p + 16, none⟩) 8 (cap - p - 16)] w' fun e w'' => e = .returned (.int .u64 A) ∧ w'' = w') := hide (fun w' h => by rw [hA]; exact refNumber_any b (off + p + 16) 8 (cap - p - 16) B (p + 16) w' hB (by omega) (fun j hj => by rw [show off + p + 16 + j = off + (p + 16 + j) from by omega]; exact h (p + 16 + j) (by omega)))
  obtain ⟨F, hF⟩ : ∃ x, x = numAt B (p + 32) 8 := ⟨_, rfl⟩
  have bF := numAt_8 hB (p + 32) 8 (by omega)
  have NF : Hid (∀ w', BView w' b off B → Calls Tryz.prog 80 #[.slice (some ⟨b, off + p + 32, none⟩) 8 (cap - p - 32)] w' fun e w'' => e = .returned (.int .u64 F) ∧ w'' = w') := hide (fun w' h => by rw [hF]; exact refNumber_any b (off + p + 32) 8 (cap - p - 32) B (p + 32) w' hB (by omega) (fun j hj => by rw [show off + p + 32 + j = off + (p + 32 + j) from by omega]; exact h (p + 32 + j) (by omega)))
  obtain ⟨M, hM⟩ : ∃ x, x = numAt B (p + 40) 8 := ⟨_, rfl⟩
  have bM := numAt_8 hB (p + 40) 8 (by omega)
  have NM : Hid (∀ w', BView w' b off B → Calls Tryz.prog 80 #[.slice (some ⟨b, off + p + 40, none⟩) 8 (cap - p - 40)] w' fun e w'' => e = .returned (.int .u64 M) ∧ w'' = w') := hide (fun w' h => by rw [hM]; exact refNumber_any b (off + p + 40) 8 (cap - p - 40) B (p + 40) w' hB (by omega) (fun j hj => by rw [show off + p + 40 + j = off + (p + 40 + j) from by omega]; exact h (p + 40 + j) (by omega)))
  have hok : SegOk B p ↔ (K = 1 ∧ permOk P ∧ 1 ≤ M ∧ F ≤ M ∧ O + F ≤ (B.length : Int) ∧ O % 256 = A % 256 ∧ A + M ≤ 65024) := by
    rw [hK, hP, hM, hF, hO, hA]; rfl
  have hseg : segAt B p = ⟨P, O, A, F, M⟩ := by rw [hP, hM, hF, hO, hA]; rfl
  rw [← hP] at bP
  rw [← hO] at bO
  rw [← hA] at bA
  rw [← hF] at bF
  rw [← hM] at bM
  rw [← hK] at bK
  have HOK := hide hok
  have HSG := hide hseg
  obtain ⟨P0, P1⟩ := bP
  obtain ⟨O0, O1⟩ := bO
  obtain ⟨A0, A1⟩ := bA
  obtain ⟨F0, F1⟩ := bF
  obtain ⟨M0, M1⟩ := bM
  have HBD := hide (And.intro P1 (And.intro O1 (And.intro A1 (And.intro F1 M1))))
  obtain ⟨q, hq⟩ : ∃ q, q = p + 56 := ⟨_, rfl⟩
  have e1 : (64 : Int) + 56 * (k : Int) = (p : Int) := by omega
  have e2 : (p : Int) + 56 = (q : Int) := by omega
  have hk8 : (k : Int) ≤ 8 := by omega
  have hk0 : (0 : Int) ≤ (k : Int) := by omega
  have hp1 : (p : Int) ≤ 1000 := by omega
  have e3 : ¬ cap = p := by omega
  have e4 : q - p = 56 := by omega
  have e5 : (p : Int) ≤ (q : Int) := by omega
  have e6 : (q : Int) ≤ (cap : Int) := by omega
  have e7 : p ≤ q := by omega
  have e8 : q ≤ cap := by omega
  have n0 : ¬ cap - p = 0 := by omega
  have m0 : (4 : Int) ≤ ((cap - p : Nat) : Int) := by omega
  have n4 : ¬ cap - p = 4 := by omega
  have m4 : (8 : Int) ≤ ((cap - p : Nat) : Int) := by omega
  have n8 : ¬ cap - p = 8 := by omega
  have m8 : (16 : Int) ≤ ((cap - p : Nat) : Int) := by omega
  have n16 : ¬ cap - p = 16 := by omega
  have m16 : (24 : Int) ≤ ((cap - p : Nat) : Int) := by omega
  have n32 : ¬ cap - p = 32 := by omega
  have m32 : (40 : Int) ≤ ((cap - p : Nat) : Int) := by omega
  have n40 : ¬ cap - p = 40 := by omega
  have m40 : (48 : Int) ≤ ((cap - p : Nat) : Int) := by omega
  have hvB : ∀ w', Below w.heap.size w w' → BView w' b off B := fun w' h => (unhide HV).below h hbw
  have HVB := hide hvB
  have y0 : IntKind.u64.wrap (B.length : Int) = (B.length : Int) := by rw [IntKind.wrap_u64]; omega
  have HL := hide (And.intro hcap (And.intro hlen hp))
  clear hB hv hok hseg hP hO hA hF hM hK bK P1 O1 A1 F1 M1 hq hp0 hvB hcap hlen hp
  go_enter Tryz.func79, Tryz.ntmps79
  go_wp2_with fail
  refine (unhide NK _ (unhide HVB _ (by first | exact (Below.refl _ _).alloc (Nat.le_refl _) _ | exact ((Below.refl _ _).alloc (Nat.le_refl _) _).alloc (by simp) _))).mono ?_
  rintro e w1 ⟨rfl, hw1⟩
  subst hw1
  go_wp2_with fail
  refine (unhide NP _ (unhide HVB _ (by first | exact (Below.refl _ _).alloc (Nat.le_refl _) _ | exact ((Below.refl _ _).alloc (Nat.le_refl _) _).alloc (by simp) _))).mono ?_
  rintro e w1 ⟨rfl, hw1⟩
  subst hw1
  go_wp2_with fail
  refine (unhide NO _ (unhide HVB _ (by first | exact (Below.refl _ _).alloc (Nat.le_refl _) _ | exact ((Below.refl _ _).alloc (Nat.le_refl _) _).alloc (by simp) _))).mono ?_
  rintro e w1 ⟨rfl, hw1⟩
  subst hw1
  go_wp2_with fail
  refine (unhide NA _ (unhide HVB _ (by first | exact (Below.refl _ _).alloc (Nat.le_refl _) _ | exact ((Below.refl _ _).alloc (Nat.le_refl _) _).alloc (by simp) _))).mono ?_
  rintro e w1 ⟨rfl, hw1⟩
  subst hw1
  go_wp2_with fail
  refine (unhide NF _ (unhide HVB _ (by first | exact (Below.refl _ _).alloc (Nat.le_refl _) _ | exact ((Below.refl _ _).alloc (Nat.le_refl _) _).alloc (by simp) _))).mono ?_
  rintro e w1 ⟨rfl, hw1⟩
  subst hw1
  go_wp2_with fail
  refine (unhide NM _ (unhide HVB _ (by first | exact (Below.refl _ _).alloc (Nat.le_refl _) _ | exact ((Below.refl _ _).alloc (Nat.le_refl _) _).alloc (by simp) _))).mono ?_
  rintro e w1 ⟨rfl, hw1⟩
  subst hw1
  clear NK NP NO NA NF NM e1 e2 e3 e4 e5 e6 e7 e8 n0 n4 n8 n16 n32 n40 m0 m4 m8 m16 m32 m40 hk8 hk0 hp1
  by_cases t1 : K = 1
  case neg =>
    have f1 : (K != 1) = true := by simpa using t1
    have T1 := hide t1
    clear t1
    go_wp2
    exact bodyPost_ret (v := .tuple #[.agg #[.int .i64 0, .int .u64 O, .int .u64 A, .int .u64 F, .int .u64 M], .bool false]) (by simp [results, Tryz.results79, go_sem]) rfl ⟨.inr ⟨fun h => unhide T1 ((unhide HOK).1 h).1, 0, O, A, F, M, rfl⟩, ((Below.refl _ _).alloc (Nat.le_refl _) _).alloc (by simp) _⟩
  have f1 : (K != 1) = false := by simpa using t1
  have T1 := hide t1
  clear t1
  by_cases t2 : 1 ≤ P
  case neg =>
    go_wp2
    exact bodyPost_ret (v := .tuple #[.agg #[.int .i64 0, .int .u64 O, .int .u64 A, .int .u64 F, .int .u64 M], .bool false]) (by simp [results, Tryz.results79, go_sem]) rfl ⟨.inr ⟨fun h => by (have := ((unhide HOK).1 h).2.1.1; omega), 0, O, A, F, M, rfl⟩, ((Below.refl _ _).alloc (Nat.le_refl _) _).alloc (by simp) _⟩
  by_cases t3 : P ≤ 7
  case neg =>
    go_wp2
    exact bodyPost_ret (v := .tuple #[.agg #[.int .i64 0, .int .u64 O, .int .u64 A, .int .u64 F, .int .u64 M], .bool false]) (by simp [results, Tryz.results79, go_sem]) rfl ⟨.inr ⟨fun h => by (have := ((unhide HOK).1 h).2.1.2.1; omega), 0, O, A, F, M, rfl⟩, ((Below.refl _ _).alloc (Nat.le_refl _) _).alloc (by simp) _⟩
  by_cases t4 : bits BinOp.and IntKind.u64 P 3 = 3
  · have f4 : (bits BinOp.and IntKind.u64 P 3 == 3) = true := by simpa using t4
    have T4 := hide t4
    clear t4
    go_wp2
    exact bodyPost_ret (v := .tuple #[.agg #[.int .i64 0, .int .u64 O, .int .u64 A, .int .u64 F, .int .u64 M], .bool false]) (by simp [results, Tryz.results79, go_sem]) rfl ⟨.inr ⟨fun h => ((unhide HOK).1 h).2.1.2.2 (unhide T4), 0, O, A, F, M, rfl⟩, ((Below.refl _ _).alloc (Nat.le_refl _) _).alloc (by simp) _⟩
  have f4 : (bits BinOp.and IntKind.u64 P 3 == 3) = false := by simpa using t4
  have T4 := hide t4
  clear t4
  by_cases t5 : 1 ≤ M
  case neg =>
    go_wp2
    exact bodyPost_ret (v := .tuple #[.agg #[.int .i64 0, .int .u64 O, .int .u64 A, .int .u64 F, .int .u64 M], .bool false]) (by simp [results, Tryz.results79, go_sem]) rfl ⟨.inr ⟨fun h => by (have := ((unhide HOK).1 h).2.2.1; omega), 0, O, A, F, M, rfl⟩, ((Below.refl _ _).alloc (Nat.le_refl _) _).alloc (by simp) _⟩
  by_cases t6 : F ≤ M
  case neg =>
    go_wp2
    exact bodyPost_ret (v := .tuple #[.agg #[.int .i64 0, .int .u64 O, .int .u64 A, .int .u64 F, .int .u64 M], .bool false]) (by simp [results, Tryz.results79, go_sem]) rfl ⟨.inr ⟨fun h => by (have := ((unhide HOK).1 h).2.2.2.1; omega), 0, O, A, F, M, rfl⟩, ((Below.refl _ _).alloc (Nat.le_refl _) _).alloc (by simp) _⟩
  by_cases t7 : O ≤ (B.length : Int)
  case neg =>
    go_wp2
    exact bodyPost_ret (v := .tuple #[.agg #[.int .i64 0, .int .u64 O, .int .u64 A, .int .u64 F, .int .u64 M], .bool false]) (by simp [results, Tryz.results79, go_sem]) rfl ⟨.inr ⟨fun h => by (have := ((unhide HOK).1 h).2.2.2.2.1; omega), 0, O, A, F, M, rfl⟩, ((Below.refl _ _).alloc (Nat.le_refl _) _).alloc (by simp) _⟩
  have y1 : IntKind.u64.wrap ((B.length : Int) - O) = (B.length : Int) - O := by rw [IntKind.wrap_u64]; have := unhide HL; omega
  by_cases t8 : F ≤ (B.length : Int) - O
  case neg =>
    go_wp2
    exact bodyPost_ret (v := .tuple #[.agg #[.int .i64 0, .int .u64 O, .int .u64 A, .int .u64 F, .int .u64 M], .bool false]) (by simp [results, Tryz.results79, go_sem]) rfl ⟨.inr ⟨fun h => by (have := ((unhide HOK).1 h).2.2.2.2.1; omega), 0, O, A, F, M, rfl⟩, ((Below.refl _ _).alloc (Nat.le_refl _) _).alloc (by simp) _⟩
  by_cases t9 : O % 256 = A % 256
  case neg =>
    have f9 : (O % 256 != A % 256) = true := by simpa using t9
    have T9 := hide t9
    clear t9
    go_wp2
    exact bodyPost_ret (v := .tuple #[.agg #[.int .i64 0, .int .u64 O, .int .u64 A, .int .u64 F, .int .u64 M], .bool false]) (by simp [results, Tryz.results79, go_sem]) rfl ⟨.inr ⟨fun h => unhide T9 ((unhide HOK).1 h).2.2.2.2.2.1, 0, O, A, F, M, rfl⟩, ((Below.refl _ _).alloc (Nat.le_refl _) _).alloc (by simp) _⟩
  have f9 : (O % 256 != A % 256) = false := by simpa using t9
  have T9 := hide t9
  clear t9
  by_cases ta : A < 65024
  case neg =>
    go_wp2
    exact bodyPost_ret (v := .tuple #[.agg #[.int .i64 0, .int .u64 O, .int .u64 A, .int .u64 F, .int .u64 M], .bool false]) (by simp [results, Tryz.results79, go_sem]) rfl ⟨.inr ⟨fun h => by (have := ((unhide HOK).1 h).2.2.2.2.2.2; omega), 0, O, A, F, M, rfl⟩, ((Below.refl _ _).alloc (Nat.le_refl _) _).alloc (by simp) _⟩
  have y2 : IntKind.u64.wrap (65024 - A) = 65024 - A := by rw [IntKind.wrap_u64]; omega
  by_cases tb : M ≤ 65024 - A
  case neg =>
    go_wp2
    exact bodyPost_ret (v := .tuple #[.agg #[.int .i64 0, .int .u64 O, .int .u64 A, .int .u64 F, .int .u64 M], .bool false]) (by simp [results, Tryz.results79, go_sem]) rfl ⟨.inr ⟨fun h => by (have := ((unhide HOK).1 h).2.2.2.2.2.2; omega), 0, O, A, F, M, rfl⟩, ((Below.refl _ _).alloc (Nat.le_refl _) _).alloc (by simp) _⟩
  go_wp2
  exact bodyPost_ret (v := .tuple #[refSegVal ⟨P, O, A, F, M⟩, .bool true]) (by simp [results, Tryz.results79, go_sem, refSegVal]) rfl ⟨.inl ⟨(unhide HOK).2 ⟨unhide T1, ⟨t2, t3, unhide T4⟩, t5, t6, by omega, unhide T9, by omega⟩, by rw [unhide HSG]⟩, ((Below.refl _ _).alloc (Nat.le_refl _) _).alloc (by simp) _⟩
end Go.Proofs.YtkokiefclmbgaaaGreatDoor
