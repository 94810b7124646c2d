/- tinyos.Load: it calls exe.Load. -/
import Derived.Test.YtkkpeboejgkmaaaDoorLoadExe
namespace Go.Proofs.YtkkpeboejgkmaaaDoor
open Go.RowKit
set_option linter.unusedVariables false
set_option linter.unusedSimpArgs false

theorem LoadPost.form {B : List Int} {w w' : World} {e : Ending} (h : LoadPost B w e w') : ∃ x a n c z, e = .returned (.tuple #[.agg #[.int .u64 x, .slice a n c], z]) := by
  obtain ⟨h, _⟩ := h
  rcases h with ⟨_, rfl⟩ | ⟨_, _, rfl⟩ | ⟨_, _, ss, _, _, (⟨_, rfl⟩ | ⟨_, (⟨_, rfl⟩ | ⟨_, g, gc, rfl, _⟩)⟩)⟩
  · exact ⟨0, none, 0, 0, _, rfl⟩
  · exact ⟨0, none, 0, 0, _, rfl⟩
  · exact ⟨0, none, 0, 0, _, rfl⟩
  · exact ⟨0, none, 0, 0, _, rfl⟩
  · exact ⟨_, _, _, _, _, rfl⟩
theorem LoadPost.move {B : List Int} {w w0 w1 w' : World} {e : Ending} (h : LoadPost B w0 e w1) (ho : ∀ v n xs, w1.ownsRow w0.heap.size 80 258 v n xs → w'.ownsRow w.heap.size 80 258 v n xs) (hb : Below w.heap.size w w') : LoadPost B w e w' := by
  obtain ⟨h, _⟩ := h
  refine ⟨?_, hb⟩
  rcases h with h | h | ⟨h1, h2, ss, h3, h4, (h5 | ⟨h5, (h6 | ⟨h6, g, gc, h7, h8⟩)⟩)⟩
  · exact .inl h
  · exact .inr (.inl h)
  · exact .inr (.inr ⟨h1, h2, ss, h3, h4, .inl h5⟩)
  · exact .inr (.inr ⟨h1, h2, ss, h3, h4, .inr ⟨h5, .inl h6⟩⟩)
  · exact .inr (.inr ⟨h1, h2, ss, h3, h4, .inr ⟨h5, .inr ⟨h6, g, gc, h7, ho _ _ _ h8⟩⟩⟩)
set_option maxRecDepth 100000 in
set_option maxHeartbeats 2000000 in
theorem load_top (b off cap : Nat) (B : List Int) (w : World) (hB : IsBytes B) (hcap : B.length < cap) (hlen : cap ≤ 500000) (hv : BView w b off B) (hbw : b < w.heap.size) (ht : w.rangeAt 1 0 tblRow) (hgw : 1 < w.heap.size) :
    Calls Tryd.prog 12 #[.slice (some ⟨b, off, none⟩) B.length cap] w fun e w' => LoadPost B w e w' := by
  have hal := (Below.refl w.heap.size w).alloc (Nat.le_refl _) (.cells #[.int .u64 0, .slice none 0 0] 45)
  have HL := hide (load_exe b off cap B (w.alloc (.cells #[.int .u64 0, .slice none 0 0] 45)) hB (Nat.le_of_lt hcap) (by omega) (hv.below hal hbw) (by simp; omega) (fun j v hj => by rw [hal.cell (p := ⟨1, 0 + j, none⟩) hgw]; exact ht j v hj) (by simp; omega))
  clear hB hv ht hal
  go_enter Tryd.func12, Tryd.ntmps12
  go_wp2_with fail
  refine (unhide HL).mono ?_
  intro e w1 hp
  obtain ⟨x, a, n, c, z, he⟩ := hp.form
  have HP := hide hp
  have hb1 := hp.2
  have hR1 := (Holds.new w 45 [.int .u64 0, .slice none 0 0]).below hb1 (by simp)
  have hbl1 := ((Below.refl w.heap.size w).alloc (Nat.le_refl _) (.cells #[.int .u64 0, .slice none 0 0] 45)).trans (hb1.mono (by simp))
  have c0 : w1.cell? ⟨w.heap.size, 0, none⟩ = some (.int .u64 0) := hR1.cell rfl
  have c1 : w1.cell? ⟨w.heap.size, 1, none⟩ = some (.slice none 0 0) := hR1.cell rfl
  have f0 := hR1.frozen 0
  have f1 := hR1.frozen 1
  have u2 := (hR1.set 0 (.int .u64 x)).set 1 (.slice a n c)
  have u0 := u2.cell (j := 0) rfl
  have u1 := u2.cell (j := 1) rfl
  have u3 := (hbl1.setCell (p := ⟨w.heap.size, 0, none⟩) (Nat.le_refl _) (.int .u64 x)).setCell (p := ⟨w.heap.size, 1, none⟩) (Nat.le_refl _) (.slice a n c)
  have u4 : ∀ v n' xs, w1.ownsRow (w.alloc (.cells #[.int .u64 0, .slice none 0 0] 45)).heap.size 80 258 v n' xs → ((w1.setCell ⟨w.heap.size, 0, none⟩ (.int .u64 x)).setCell ⟨w.heap.size, 1, none⟩ (.slice a n c)).ownsRow w.heap.size 80 258 v n' xs := fun v n' xs h =>
    own_base (h.kept (grown_set (grown_set (w := w1) (wr := w1) (b := w.heap.size) ⟨rfl, rfl, rfl, Nat.le_refl _, fun _ _ _ => rfl⟩ 0 (.int .u64 x)) 1 (.slice a n c)) (.inr (fun hh => by have := h.lt _ hh; simp at this; omega))) (by simp)
  have HQ := hide (LoadPost.move hp u4 u3)
  subst he
  clear hp hb1 hR1 hbl1 u2 u3 u4 HL
  go_wp2
  exact bodyPost_ret (v := .tuple #[.agg #[.int .u64 x, .slice a n c], z]) (by simp [results, Tryd.results12, go_sem, u0, u1]) rfl (unhide HQ)
end Go.Proofs.YtkkpeboejgkmaaaDoor
