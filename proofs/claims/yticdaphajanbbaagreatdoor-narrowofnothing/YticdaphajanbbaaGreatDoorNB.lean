/- Parts of an arena: partAt, has, kindOf; a question. -/
import Derived.Test.YticdaphajanbbaaGreatDoorNA
import Derived.Test.YticdaphajanbbaaGreatDoorMD
namespace Go.Proofs.YticdaphajanbbaaGreatDoor
set_option linter.unusedSimpArgs false
set_option linter.unusedVariables false
set_option maxRecDepth 100000
set_option maxHeartbeats 4000000
open Go.RowKit Go.Shelf

variable {P : Program} {lo M : Nat} {mo : Option Nat} {dv : Value} {L : List Kt} {W : World}
/-- What At answers of a type k, or of none (k of kind 0). -/
def TyQ (k : Kt) (W : World) (e : Ending) (w' : World) : Prop := ∃ (n : Int) (t : ByteArray) (pa : Option Addr) (b : Nat) (na : Option Addr) (c d : Nat) (ma : Option Addr) (x f : Nat) (z : Int), e = .returned (.tuple #[.agg #[.int .i64 k.kind, .int .i64 n, .string t, .slice pa k.parts.length b, .slice na c d, .slice ma x f], .int .i64 z]) ∧ RowR 3 w' (.slice pa k.parts.length b) (iv k.parts) ∧ Below W.heap.size W w'
/-- What partAt answers of it. -/
def PartQ (k : Kt) (id : Int) (W : World) (e : Ending) (w' : World) : Prop := ∃ p : Pt, e = .returned (.agg p.v) ∧ p.k = k.kind ∧ p.a = k.parts.length ∧ p.id = id ∧ RowR 3 w' (.slice p.pa p.a p.b) (iv k.parts) ∧ Below W.heap.size W w'
def k0 : Kt := ⟨0, 0, ⟨#[]⟩, [], [], [], ⟨#[]⟩, 0⟩
theorem ty_nil (id : Int) (W : World) : Calls Tryz.prog 37 #[.pointer none, .int .i64 id] W (TyQ k0 W) :=
  (at_nil W id).mono fun e w' ⟨h1, h2⟩ => ⟨0, ⟨#[]⟩, none, 0, none, 0, 0, none, 0, 0, 1, by rw [h1]; rfl, RowR.nil _ _, h2⟩
theorem ty_no (h : AAt Tryz.prog lo M mo dv L W) (id : Int) (hn : ¬ (0 ≤ id ∧ id < (L.length : Int))) : Calls Tryz.prog 37 #[.pointer (some ⟨M, 0, none⟩), .int .i64 id] W (TyQ k0 W) := by
  obtain ⟨ta, tc, m0, -⟩ := h.cells
  exact (at_no W M ta L.length tc m0 id hn).mono fun e w' ⟨h1, h2⟩ => ⟨0, ⟨#[]⟩, none, 0, none, 0, 0, none, 0, 0, 11, by rw [h1]; rfl, RowR.nil _ _, h2⟩
/-- A kept type that can be handed out. -/
structure Okt (k : Kt) : Prop where
  s : k.text.size ≤ 281474976710656
  ns : ∀ x ∈ k.names, x.size ≤ 281474976710656
  l1 : k.parts.length ≤ 1000000000
  l2 : k.names.length ≤ 1000000000
  l3 : k.marks.length ≤ 1000000000
theorem ty_at (h : AAt Tryz.prog lo M mo dv L W) (i : Nat) (k : Kt) (hk : L[i]? = some k) (o : Okt k) : Calls Tryz.prog 37 #[.pointer (some ⟨M, 0, none⟩), .int .i64 (i : Int)] W (TyQ k W) := by
  refine (at_any h i k hk o.s o.ns o.l1 o.l2 o.l3).mono fun e w' hq => ?_
  obtain ⟨pv, nv, mv, he, hp, hn, hm, hb⟩ := hq
  obtain ⟨pa, pc, rfl, q1⟩ := id hp
  obtain ⟨na, nc, rfl, -⟩ := hn
  obtain ⟨ma, mc, rfl, -⟩ := hm
  have hl : (iv k.parts).length = k.parts.length := by simp [iv]
  rw [hl] at hp he
  exact ⟨_, _, pa, pc, na, _, nc, ma, _, mc, 0, he, hp, hb⟩
theorem partAt_of (ar : Option Addr) (k : Kt) (id : Int) (hA : ∀ w, Below W.heap.size W w → Calls Tryz.prog 37 #[.pointer ar, .int .i64 id] w (TyQ k w)) : Calls Tryz.prog 18 #[.pointer ar, .int .i64 id] W (PartQ k id W) := by
  have hb1 := (Below.refl _ W).alloc (Nat.le_refl _) (.cells #[.int .i64 0, .int .i64 0, .string ⟨#[]⟩, .slice none 0 0, .slice none 0 0, .slice none 0 0, .int .i64 0] 38)
  obtain ⟨W1, hW1⟩ : ∃ W1, W.alloc (.cells #[.int .i64 0, .int .i64 0, .string ⟨#[]⟩, .slice none 0 0, .slice none 0 0, .slice none 0 0, .int .i64 0] 38) = W1 := ⟨_, rfl⟩
  have hx1 : Bx W1 W.heap.size #[.int .i64 0, .int .i64 0, .string ⟨#[]⟩, .slice none 0 0, .slice none 0 0, .slice none 0 0, .int .i64 0] 38 := by rw [← hW1]; exact al_at W _
  rw [hW1] at hb1
  have HA := hide (hA W1 hb1)
  have HX1 := hide hx1
  have HB1 := hide hb1
  have hb1l := hx1.lt
  clear hb1 hx1 hA
  go_enter Tryz.func18, Tryz.ntmps18
  go_wp2_with (first
    | (go_at_call 37
       refine (unhide HA).mono ?_
       rintro e w2 ⟨n, t, pa, b, na, c, d, ma, x, f, z, rfl, hp, hb⟩
       have HX2 := hide ((unhide HX1).below hb (unhide HX1).lt)
       have HB2 := hide ((unhide HB1).trans (hb.mono (unhide HB1).size))
       have HP := hide hp
       clear hb hp)
    | (refine wpList_store_row rfl 36 _ _ rfl w2.heap.size _ rfl rfl 36 _ (al_at w2 _) info26 rfl (one6 _ _ _ _ _ _ _ _ _ _ _ _) ?_)
    | (refine wpList_load_row rfl 36 _ rfl w2.heap.size rfl 36 _ (0, 0) _ (setRow_heap _ _ _ _ _ _ (al_at w2 _)) Tryz.underlying36 rfl info26 ?_)
    | (refine wpList_store_row rfl 38 _ _ rfl W.heap.size _ rfl rfl 38 _ ((heap_setRow_ne _ _ _ _ (by have := (unhide HX2).lt; omega)).trans ((Below.heap_alloc _ _ _ (by have := (unhide HX2).lt; omega)).trans (unhide HX2))) info38 rfl (one7 ⟨_, _, _, _, _, _, _, _, _, _, _, _, _⟩) ?_))
  refine bodyPost_ret (results_cell_row rfl _ _ W.heap.size 38 _ (0, 0) _ rfl (setRow_heap _ _ _ _ _ _ ((heap_setRow_ne _ _ _ _ (by have := (unhide HX2).lt; omega)).trans ((Below.heap_alloc _ _ _ (by have := (unhide HX2).lt; omega)).trans (unhide HX2)))) Tryz.underlying38 rfl info38) rfl ?_
  refine ⟨⟨k.kind, n, t, pa, k.parts.length, b, na, c, d, ma, x, f, id⟩, rfl, rfl, rfl, rfl, ?_, below_row (below_row ((unhide HB2).alloc (unhide HB2).size _) (unhide HB2).size _) (Nat.le_refl _) _⟩
  exact (((unhide HP).below ((Below.refl _ w2).alloc (Nat.le_refl _) _)).row (al_at w2 _) (by omega) _).row (t' := 38) ((heap_setRow_ne _ _ _ _ (by have := (unhide HX2).lt; omega)).trans ((Below.heap_alloc _ _ _ (by have := (unhide HX2).lt; omega)).trans (unhide HX2))) (by omega) _
theorem nhas_any (ar : Option Addr) (n : Nat) (id : Int) (hl : Calls Tryz.prog 26 #[.pointer ar] W fun e w' => e = .returned (.int .i64 (n : Int)) ∧ w' = W) : Calls Tryz.prog 10 #[.pointer ar, .int .i64 id] W fun e w' => e = .returned (.bool (decide (0 ≤ id ∧ id < (n : Int)))) ∧ w' = W := by
  have HL := hide hl
  clear hl
  by_cases h : 0 ≤ id
  · have h0 : ¬ id < 0 := by omega
    go_enter Tryz.func10, Tryz.ntmps10
    go_wp2_with (go_at_call 26; refine (unhide HL).mono ?_; rintro e w' ⟨rfl, rfl⟩)
    go_ret
    exact ⟨by simp [h], rfl⟩
  · have h0 : ¬ id ≥ 0 := by omega
    go_enter Tryz.func10, Tryz.ntmps10
    go_wp2
    go_ret
    exact ⟨by simp; omega, rfl⟩
theorem field38 (k n i : Int) (t : ByteArray) (pa na ma : Option Addr) (a b c d x f : Nat) (w : World) : (Instr.field 38 (.agg #[.int .i64 k, .int .i64 n, .string t, .slice pa a b, .slice na c d, .slice ma x f, .int .i64 i]) 0).run Tryz.prog w = .ok (.agg #[.int .i64 k, .int .i64 n, .string t, .slice pa a b, .slice na c d, .slice ma x f]) w := by kernel_rfl
theorem field36 (k n : Int) (t : ByteArray) (pa na ma : Option Addr) (a b c d x f : Nat) (w : World) : (Instr.field 36 (.agg #[.int .i64 k, .int .i64 n, .string t, .slice pa a b, .slice na c d, .slice ma x f]) 0).run Tryz.prog w = .ok (.int .i64 k) w := by kernel_rfl
theorem kindOf_of (ar : Option Addr) (k : Kt) (id : Int) (h : Calls Tryz.prog 18 #[.pointer ar, .int .i64 id] W (PartQ k id W)) : Calls Tryz.prog 15 #[.pointer ar, .int .i64 id] W fun e w' => e = .returned (.int .i64 k.kind) ∧ Below W.heap.size W w' := by
  have HA := hide h
  have hf1 := field38
  have hf2 := field36
  clear h
  go_enter Tryz.func15, Tryz.ntmps15
  go_wp2_with (first
    | (go_at_call 18
       refine (unhide HA).mono ?_
       rintro e w2 ⟨⟨k', n, t, pa, a, b, na, c, d, ma, x, f, i'⟩, rfl, hk, -, -, -, hb⟩
       dsimp only at hk
       subst hk
       unfold Pt.v
       dsimp only
       have HB := hide hb
       clear hb))
  go_ret
  exact ⟨rfl, unhide HB⟩
end Go.Proofs.YticdaphajanbbaaGreatDoor
