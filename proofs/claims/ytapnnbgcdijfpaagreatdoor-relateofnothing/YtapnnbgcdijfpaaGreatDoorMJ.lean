/- askedOfPieces of what has no members. -/
import Derived.Test.YtapnnbgcdijfpaaGreatDoorMH
namespace Go.Proofs.YtapnnbgcdijfpaaGreatDoor
set_option linter.unusedSimpArgs false
set_option linter.unusedVariables false
set_option maxRecDepth 100000
set_option maxHeartbeats 4000000
open Go.RowKit Go.Shelf

variable {P : Program} {lo M : Nat} {mo : Option Nat} {dv : Value} {L : List Kt} {W : World}
theorem grown_bel {m : Nat} {A B : World} (h : W.grownBy A (some m)) (hb : Below W.heap.size A B) : W.grownBy B (some m) := ⟨hb.os.trans h.os, hb.tape.trans h.tape, hb.output.trans h.output, Nat.le_trans h.size hb.size, fun i hi e => (hb.block i hi).trans (h.block i hi e)⟩
theorem MemAt.belowAt {B m n : Nat} {A : World} (h : MemAt m n W) (hb : Below B W A) (hm : m < B) : MemAt m n A := h.keep (hb.block m hm)
theorem asks_none {b m n : Nat} (h : Ru lo M mo dv L b m n W) (hn : n ≤ 900) (i j : Nat) (hi : i ≤ 1000000) (hj : j ≤ 1000000) (k l : Kt) (hk : L[i]? = some k) (hl : L[j]? = some l) (k14 : k.kind ≠ 14) (k17 : k.kind ≠ 17) (l14 : l.kind ≠ 14) (l17 : l.kind ≠ 17) : Calls Tryz.prog 126 #[.pointer (some ⟨b, 0, none⟩), .agg #[.int .i64 (i : Int), .int .i64 (j : Int)]] W fun e w' => e = .returned (.agg #[.slice none 0 0, .int .i64 (spP false)]) ∧ Ru lo M mo dv L b m (n + 2) w' ∧ W.grownBy w' (some m) := by
  have hml := h.mem.lt
  obtain ⟨W1, hW1⟩ : ∃ W1, (W.alloc (.cells #[.int .i64 (i : Int), .int .i64 (j : Int)] 96)).alloc (.cells #[.slice none 0 0, .int .i64 0] 143) = W1 := ⟨_, rfl⟩
  have hb1 : Below W.heap.size W W1 := by rw [← hW1]; exact ((Below.refl _ W).alloc (Nat.le_refl _) _).alloc (by simp) _
  have hx1 : Bx W1 W.heap.size #[.int .i64 (i : Int), .int .i64 (j : Int)] 96 := by rw [← hW1]; exact (Below.heap_alloc _ _ _ (by simp)).trans (al_at W _)
  have hx2 : Bx W1 (W.heap.size + 1) #[.slice none 0 0, .int .i64 0] 143 := by rw [← hW1]; have := al_at (W.alloc (.cells #[.int .i64 (i : Int), .int .i64 (j : Int)] 96)) (.cells #[.slice none 0 0, .int .i64 0] 143); simpa [Bx] using this
  have hz1 := hx2.lt
  have HX1 := hide hx1
  have HX2 := hide hx2
  have HB1 := hide hb1
  have HR := hide h
  have HI : Hid (∀ w' q, q ≤ 1000 → Ru lo M mo dv L b m q w' → Calls Tryz.prog 155 #[.pointer (some ⟨b, 0, none⟩), .int .i64 (i : Int)] w' fun e w'' => e = .returned (.agg #[.slice none 0 0, .int .i64 11]) ∧ Ru lo M mo dv L b m (q + 1) w'' ∧ w'.grownBy w'' (some m)) := fun w' q hq hr => piecesOf_any hr hq i hi k hk k14 k17
  have HJ : Hid (∀ w' q, q ≤ 1000 → Ru lo M mo dv L b m q w' → Calls Tryz.prog 155 #[.pointer (some ⟨b, 0, none⟩), .int .i64 (j : Int)] w' fun e w'' => e = .returned (.agg #[.slice none 0 0, .int .i64 11]) ∧ Ru lo M mo dv L b m (q + 1) w'' ∧ w'.grownBy w'' (some m)) := fun w' q hq hr => piecesOf_any hr hq j hj l hl l14 l17
  clear hi hj hk hl k14 k17 l14 l17 h hb1 hx1 hx2
  go_enter Tryz.func126, Tryz.ntmps126
  go_wp2
  try rw [hW1]
  refine two126 "ask.go:137" W.heap.size W.heap.size (.pointer (some ⟨b, 0, none⟩)) i j (fun c u => W.grownBy u (some m) ∧ MemAt m (n + c) u) (fun V => V = #[.slice none 0 0, .int .i64 11]) (fun V => V = #[.slice none 0 0, .int .i64 11]) (by show 20 ≤ 79; omega) rfl rfl (Nat.le_refl _) (unhide HX1) (by omega) ⟨below_grown (unhide HB1), ((unhide HR).below (unhide HB1)).mem⟩ ?_ ?_ ?_ ?_ ?_ ?_
  · rintro c u u' ⟨h1, h2⟩ hb
    exact ⟨grown_bel h1 hb, h2.keep (hb.block m hml)⟩
  · rintro u hz ⟨h1, h2⟩
    refine (unhide HI u n (by omega) ((unhide HR).grown h1 h2)).mono ?_
    rintro e u' ⟨rfl, h3, h4⟩
    exact ⟨_, rfl, rfl, ⟨grown_trans h1 h4, h3.mem⟩, ⟨h4.size, fun k hk hl => h4.block k hl (fun e => by cases e; omega)⟩⟩
  · rintro u hz ⟨h1, h2⟩
    refine (unhide HJ u (n + 1) (by omega) ((unhide HR).grown h1 h2)).mono ?_
    rintro e u' ⟨rfl, h3, h4⟩
    exact ⟨_, rfl, rfl, ⟨grown_trans h1 h4, h3.mem⟩, ⟨h4.size, fun k hk hl => h4.block k hl (fun e => by cases e; omega)⟩⟩
  · rintro V rfl; exact ⟨rfl, one2q _ _ _ _⟩
  · rintro V rfl; exact ⟨rfl, one2q _ _ _ _⟩
  rintro V U p q u rfl rfl hp hq hpq hbp hbq ⟨hg, hm⟩ hst
  have hx4 := hst.bx (Nat.le_add_right _ _) (unhide HX2)
  have cp0 := hbp.cell 1 rfl
  have cpl := hbp.lt
  have HX4 := hide hx4
  have HMM := hide hm
  have HGG := hide hg
  have hz4 := hx4.lt
  clear hbp hbq hm hg hst hx4
  simp only [cn126, if_true]
  go_wp2_with (first
    | (go_at_call 119
       refine (settledAs_any u false).mono ?_
       rintro e w2 ⟨rfl, hb2⟩
       have HX5 := hide ((unhide HX4).below hb2 (unhide HX4).lt)
       have HB2 := hide hb2
       clear hb2)
    | (refine wpList_store_row rfl 143 _ _ rfl (W.heap.size + 1) _ rfl rfl 143 _ (unhide HX5) info143 rfl (one2q _ _ _ _) ?_))
  refine bodyPost_ret (results_cell_row rfl _ _ (W.heap.size + 1) 143 _ (0, 0) _ rfl (setRow_heap _ _ _ _ _ _ (unhide HX5)) Tryz.underlying143 rfl info143) rfl ?_
  have hb3 : Below W.heap.size u (w2.setRow (W.heap.size + 1) #[.slice none 0 0, .int .i64 (spP false)]) := below_row ((unhide HB2).mono (by omega)) (by omega) _
  exact ⟨rfl, (unhide HR).grown (grown_bel (unhide HGG) hb3) ((unhide HMM).keep (hb3.block m hml)), grown_bel (unhide HGG) hb3⟩
end Go.Proofs.YtapnnbgcdijfpaaGreatDoor
