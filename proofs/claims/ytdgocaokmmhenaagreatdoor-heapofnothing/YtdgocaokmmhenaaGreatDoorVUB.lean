/- The reference's order of two texts (less), walked. -/
import Derived.LoopTactic
import Derived.BigQuiet
import Derived.Laws.IdiomStrings
import Derived.Test.YtdgocaokmmhenaaGreatDoorVUA
namespace Go.Proofs.YtdgocaokmmhenaaGreatDoor
set_option linter.unusedSimpArgs false
set_option linter.unusedVariables false
set_option maxRecDepth 100000
set_option maxHeartbeats 4000000
open Go.RowKit Go.Shelf

/-- A row of runes somewhere. -/
def RowR (w : World) (ao : Option Addr) (s : ByteArray) (m : Nat) : Prop := ∀ k, k < m → ∃ g, ao = some ⟨g, 0, none⟩ ∧ g < w.heap.size ∧ w.cell? ⟨g, k * 4 + 1, none⟩ = some (.int .i32 (rn s k))
theorem RowR.up {w w' : World} {ao : Option Addr} {s : ByteArray} {m : Nat} (h : RowR w ao s m) (hb : Below w.heap.size w w') : RowR w' ao s m := fun k hk => by
  obtain ⟨g, e, hl, hc⟩ := h k hk
  exact ⟨g, e, Nat.lt_of_lt_of_le hl hb.size, (World.cell?_of_block (w := w) (hb.block g hl)).trans hc⟩
theorem runes_of (s : ByteArray) (W : World) (hs : s.size ≤ 1048576) : ∃ cap C fr, (convert 9 82 (.string s)).run Tryz.prog W = .ok (.slice (some ⟨W.heap.size, 0, none⟩) s.size cap) (W.drew.alloc (.cells C 5 fr)) ∧
    Calls Tryz.prog 52 #[.slice (some ⟨W.heap.size, 0, none⟩) s.size cap] (W.drew.alloc (.cells C 5 fr)) fun e w' => ∃ m ao cp, e = .returned (.slice ao m cp) ∧ Runes (gS s) s.size m ∧ RowR w' ao s m ∧ Below W.heap.size W w' := by
  obtain ⟨cap, C, fr, hcv, h1, h2, hC⟩ := conv_str s W (by omega)
  have hSl : Sl (W.drew.alloc (.cells C 5 fr)) W.heap.size (.slice (some ⟨W.heap.size, 0, none⟩) s.size cap) s.size (gS s) := by
    by_cases h0 : s.size = 0
    · exact .inl ⟨_, _, by rw [h0], h0⟩
    · refine .inr ⟨0, cap, rfl, by omega, h1, h2, fun j hj => ?_⟩
      have hb : (W.drew.alloc (.cells C 5 fr)).heap[W.heap.size]? = some (.cells C 5 fr) := alloc_new W.drew _
      rw [Lib.cell_of_heap hb]
      simpa using hC j hj
  refine ⟨cap, C, fr, hcv, (rrunes_any (b := W.heap.size) (gS_bd s) _ hs hSl (by simp)).mono ?_⟩
  rintro e w2 ⟨m, v, rfl, hR, hown, hB⟩
  obtain ⟨ao, cp, rfl⟩ : ∃ ao cp, v = .slice ao m cp := by
    rcases hown.2 with ⟨q1, q2⟩ | ⟨g, cap, cur, q1, _⟩
    · exact ⟨none, 0, by rw [q1, q2]⟩
    · exact ⟨_, _, q1⟩
  refine ⟨m, ao, cp, rfl, hR, fun k hk => ?_, ((Below.refl W.heap.size W).drew.alloc (Nat.le_refl _) (.cells C 5 fr)).trans (hB.mono (by simp))⟩
  have hlt := hown.lt
  rcases hown.2 with ⟨q1, q2⟩ | ⟨g, cap, cur, q1, _⟩
  · omega
  · cases q1
    refine ⟨g, rfl, (hlt g rfl).2, ?_⟩
    have := hown.cells (g := g) rfl (k * 4 + 1) (.int .i32 (dRune (gS s) s.size (posn (gS s) s.size k))) (by rw [rows4_get _ _ hk (by omega)]; rfl)
    rw [Addr.add_lit, Nat.zero_add] at this
    exact this
end Go.Proofs.YtdgocaokmmhenaaGreatDoor
