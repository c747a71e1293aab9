/- A question is made. -/
import Derived.Deep.RegionHeld3
import Derived.Deep.RegionLaw
import Derived.Test.YticdaphajanbbaaGreatDoorNB
import Derived.Test.YticdaphajanbbaaGreatDoorNR
namespace Go.Proofs.YticdaphajanbbaaGreatDoor
set_option linter.unusedSimpArgs false
set_option linter.unusedVariables false
set_option maxRecDepth 100000
set_option maxHeartbeats 4000000
open Go.RowKit Go.Shelf

variable {P : Program} {lo M : Nat} {mo : Option Nat} {dv : Value} {L : List Kt} {W : World}
def z40 : Array Value := #[.int .i64 0, .string ⟨#[]⟩, .int .i64 0, .pointer none, .int .i64 0, .int .i64 0, .string ⟨#[]⟩, .slice none 0 0, .slice none 0 0, .slice none 0 0, .int .i64 0]
def AskQ (tk : Int) (tt : ByteArray) (ty : Int) (ar : Option Addr) (k : Kt) (W : World) (e : Ending) (w' : World) : Prop := ∃ p : Pt, e = .returned (.agg (Qn.v ⟨tk, tt, ty, ar, p⟩)) ∧ p.k = k.kind ∧ Below W.heap.size W w'
theorem free11 {w : World} {b t : Nat} {cs : Array Value} (h : Bx w b cs t) : w.frozen? ⟨b, 0, none⟩ = false ∧ w.frozen? ⟨b, 1, none⟩ = false ∧ w.frozen? ⟨b, 2, none⟩ = false ∧ w.frozen? ⟨b, 3, none⟩ = false ∧ w.frozen? ⟨b, 4, none⟩ = false ∧ w.frozen? ⟨b, 5, none⟩ = false ∧ w.frozen? ⟨b, 6, none⟩ = false ∧ w.frozen? ⟨b, 7, none⟩ = false ∧ w.frozen? ⟨b, 8, none⟩ = false ∧ w.frozen? ⟨b, 9, none⟩ = false ∧ w.frozen? ⟨b, 10, none⟩ = false :=
  ⟨h.free 0, h.free 1, h.free 2, h.free 3, h.free 4, h.free 5, h.free 6, h.free 7, h.free 8, h.free 9, h.free 10⟩
theorem set11 {w : World} {b t : Nat} {y0 y1 y2 y3 y4 y5 y6 y7 y8 y9 y10 : Value} (h : Bx w b #[y0, y1, y2, y3, y4, y5, y6, y7, y8, y9, y10] t) (v0 v1 v2 v3 v4 v5 v6 v7 v8 v9 v10 : Value) : Bx (((((((((((w.setCell ⟨b, 0, none⟩ v0).setCell ⟨b, 1, none⟩ v1).setCell ⟨b, 2, none⟩ v2).setCell ⟨b, 3, none⟩ v3).setCell ⟨b, 4, none⟩ v4).setCell ⟨b, 5, none⟩ v5).setCell ⟨b, 6, none⟩ v6).setCell ⟨b, 7, none⟩ v7).setCell ⟨b, 8, none⟩ v8).setCell ⟨b, 9, none⟩ v9).setCell ⟨b, 10, none⟩ v10) b #[v0, v1, v2, v3, v4, v5, v6, v7, v8, v9, v10] t := by
  have h0 := h.set (i := 0) v0
  have h1 := h0.set (i := 1) v1
  have h2 := h1.set (i := 2) v2
  have h3 := h2.set (i := 3) v3
  have h4 := h3.set (i := 4) v4
  have h5 := h4.set (i := 5) v5
  have h6 := h5.set (i := 6) v6
  have h7 := h6.set (i := 7) v7
  have h8 := h7.set (i := 8) v8
  have h9 := h8.set (i := 9) v9
  have h10 := h9.set (i := 10) v10
  simpa using h10
theorem bel11 {B : Nat} {a w : World} {b : Nat} (h : Below B a w) (hb : B ≤ b) (v0 v1 v2 v3 v4 v5 v6 v7 v8 v9 v10 : Value) : Below B a (((((((((((w.setCell ⟨b, 0, none⟩ v0).setCell ⟨b, 1, none⟩ v1).setCell ⟨b, 2, none⟩ v2).setCell ⟨b, 3, none⟩ v3).setCell ⟨b, 4, none⟩ v4).setCell ⟨b, 5, none⟩ v5).setCell ⟨b, 6, none⟩ v6).setCell ⟨b, 7, none⟩ v7).setCell ⟨b, 8, none⟩ v8).setCell ⟨b, 9, none⟩ v9).setCell ⟨b, 10, none⟩ v10) := by
  have h0 := h.setCell (p := ⟨b, 0, none⟩) hb v0
  have h1 := h0.setCell (p := ⟨b, 1, none⟩) hb v1
  have h2 := h1.setCell (p := ⟨b, 2, none⟩) hb v2
  have h3 := h2.setCell (p := ⟨b, 3, none⟩) hb v3
  have h4 := h3.setCell (p := ⟨b, 4, none⟩) hb v4
  have h5 := h4.setCell (p := ⟨b, 5, none⟩) hb v5
  have h6 := h5.setCell (p := ⟨b, 6, none⟩) hb v6
  have h7 := h6.setCell (p := ⟨b, 7, none⟩) hb v7
  have h8 := h7.setCell (p := ⟨b, 8, none⟩) hb v8
  have h9 := h8.setCell (p := ⟨b, 9, none⟩) hb v9
  have h10 := h9.setCell (p := ⟨b, 10, none⟩) hb v10
  exact h10
theorem ask_of (ar : Option Addr) (tk ty : Int) (tt : ByteArray) (k : Kt) (hP : ∀ w, Below W.heap.size W w → Calls Tryz.prog 18 #[.pointer ar, .int .i64 ty] w (PartQ k ty w)) : Calls Tryz.prog 8 #[.pointer ar, .agg #[.int .i64 tk, .string tt, .int .i64 ty]] W (AskQ tk tt ty ar k W) := by
  obtain ⟨W1, hW1⟩ : ∃ W1, (W.alloc (.cells #[.int .i64 tk, .string tt, .int .i64 ty] 23)).alloc (.cells #[.int .i64 0, .string ⟨#[]⟩, .int .i64 0, .pointer none, .int .i64 0, .int .i64 0, .string ⟨#[]⟩, .slice none 0 0, .slice none 0 0, .slice none 0 0, .int .i64 0] 40) = W1 := ⟨_, rfl⟩
  have hb1 : Below W.heap.size W W1 := by rw [← hW1]; exact ((Below.refl _ W).alloc (Nat.le_refl _) _).alloc (by simp) _
  have hB : Bx W1 W.heap.size #[.int .i64 tk, .string tt, .int .i64 ty] 23 := by rw [← hW1]; exact (Below.heap_alloc _ _ _ (by simp)).trans (al_at W _)
  have hC : Bx W1 (W.heap.size + 1) z40 40 := by
    rw [← hW1]
    have := al_at (W.alloc (.cells #[.int .i64 tk, .string tt, .int .i64 ty] 23)) (.cells z40 40)
    rw [World.size_alloc] at this
    exact this
  have HSS : Hid (∀ w', Below W1.heap.size W1 w' → (w'.cell? ⟨W.heap.size, 0, none⟩ = some (.int .i64 tk) ∧ w'.cell? ⟨W.heap.size, 1, none⟩ = some (.string tt) ∧ w'.cell? ⟨W.heap.size, 2, none⟩ = some (.int .i64 ty))) := fun w' hb => by
    have h1 := hB.below hb hB.lt
    exact ⟨h1.cell 0 rfl, h1.cell 1 rfl, h1.cell 2 rfl⟩
  have HCC : Hid (∀ w', Below W1.heap.size W1 w' → Bx w' (W.heap.size + 1) z40 40) := fun w' hb => hC.below hb hC.lt
  have HLT : Hid (∀ w', Below W1.heap.size W1 w' → W.heap.size + 1 < w'.heap.size) := fun w' hb => Nat.lt_of_lt_of_le hC.lt hb.size
  have HP : Hid (∀ w, Below W1.heap.size W1 w → Calls Tryz.prog 18 #[.pointer ar, .int .i64 ty] w (PartQ k ty w)) := fun w hb => hP w (hb1.trans (hb.mono hb1.size))
  have HB1 := hide hb1
  have hl1 := hC.lt
  obtain ⟨c0, c1, c2⟩ := unhide HSS W1 (Below.refl _ _)
  clear hb1 hB hC hP
  go_enter Tryz.func8, Tryz.ntmps8
  go_wp2
  go_region_with (first
    | (go_at_call 18
       refine (unhide HP _ (by first | exact (Below.refl _ _).drew | exact Below.refl _ _)).mono ?_
       rintro e w2 ⟨⟨k', n, t, pa, a, b, na, c, d, ma, x, f, i'⟩, rfl, hk, -, hi, -, hb2⟩
       dsimp only at hk hi
       subst hk hi
       unfold Pt.v
       dsimp only
       have hbb : Below W1.heap.size W1 w2 := (by first | exact (Below.refl _ _).drew.trans hb2 | exact hb2)
       obtain ⟨d0, d1, d2⟩ := unhide HSS w2 hbb
       have HB2 := hide hbb
       have hl2 := unhide HLT w2 hbb
       obtain ⟨x0, x1, x2, x3, x4, x5, x6, x7, x8, x9, x10⟩ := cells11 (unhide HCC w2 hbb)
       obtain ⟨f0, f1, f2, f3, f4, f5, f6, f7, f8, f9, f10⟩ := free11 (unhide HCC w2 hbb)
       clear hb2 hbb))
  all_goals (
    have hx9 := set11 (unhide HCC w2 (unhide HB2)) (.int .i64 tk) (.string tt) (.int .i64 i') (.pointer ar) (.int .i64 k.kind) (.int .i64 n) (.string t) (.slice pa a b) (.slice na c d) (.slice ma x f) (.int .i64 i')
    have hb9 := bel11 ((unhide HB1).trans ((unhide HB2).mono (unhide HB1).size)) (Nat.le_succ W.heap.size) (.int .i64 tk) (.string tt) (.int .i64 i') (.pointer ar) (.int .i64 k.kind) (.int .i64 n) (.string t) (.slice pa a b) (.slice na c d) (.slice ma x f) (.int .i64 i')
    clear x0 x1 x2 x3 x4 x5 x6 x7 x8 x9 x10 f0 f1 f2 f3 f4 f5 f6 f7 f8 f9 f10
    go_wp2
    refine bodyPost_ret (results_cell_row rfl _ _ (W.heap.size + 1) 40 _ (0, 0) _ rfl hx9 Tryz.underlying40 rfl info40) rfl ?_
    exact ⟨⟨k.kind, n, t, pa, a, b, na, c, d, ma, x, f, i'⟩, rfl, rfl, hb9⟩)
end Go.Proofs.YticdaphajanbbaaGreatDoor
