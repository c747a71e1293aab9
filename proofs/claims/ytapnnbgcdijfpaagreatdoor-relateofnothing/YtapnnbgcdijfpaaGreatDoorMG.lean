/- What stays while pairs are asked; askedOfPieces. -/
import Derived.Deep.RegionLaw
import Derived.Test.YtapnnbgcdijfpaaGreatDoorMF
namespace Go.Proofs.YtapnnbgcdijfpaaGreatDoor
set_option linter.unusedSimpArgs false
set_option linter.unusedVariables false
set_option maxRecDepth 100000
set_option maxHeartbeats 4000000
open Go.RowKit Go.Shelf

variable {P : Program} {lo M : Nat} {mo : Option Nat} {dv : Value} {L : List Kt} {W : World}
theorem AAt.grown {A : World} {m : Nat} (h : AAt P lo M mo dv L W) (hg : W.grownBy A (some m)) (hm : tyOf W m = 0) (hne : some m ≠ mo) : AAt P lo M mo dv L A := by
  have hM := h.lt
  obtain ⟨tv, h1, h2⟩ := h.row
  have hMm : some M ≠ some m := fun e => by
    cases e
    simp [tyOf, h1] at hm
  refine ⟨⟨tv, (hg.block M hM hMm).trans h1, h2.keep fun k hk e => hg.block k hk (fun e' => by cases e'; omega)⟩, ?_, h.lo, h.len⟩
  have := h.num
  cases mo with
  | none => exact this
  | some b =>
    obtain ⟨hlo, n, D, hn, ho, hd⟩ := this
    exact ⟨hlo, n, D, hn, map_keep ho (hg.block b (map_lt ho) (fun e => hne e.symm)), hd⟩
theorem MemAt.ty {m n : Nat} (h : MemAt m n W) : tyOf W m = 0 := by
  obtain ⟨D, ⟨es, cl, h1, _⟩, _⟩ := h.own
  simp [tyOf, h1]
theorem MemAt.lt {m n : Nat} (h : MemAt m n W) : m < W.heap.size := by
  obtain ⟨D, ho, _⟩ := h.own
  exact map_lt ho
theorem MemAt.keep {m n : Nat} {A : World} (h : MemAt m n W) (e : A.heap[m]? = W.heap[m]?) : MemAt m n A := by
  obtain ⟨D, ho, hd⟩ := h.own
  exact ⟨D, map_keep ho e, hd⟩
theorem MemAt.mono {m n n' : Nat} (h : MemAt m n W) (hn : n ≤ n') : MemAt m n' W := by
  obtain ⟨D, ⟨es, cl, h1, h2, h3, h4⟩, hd⟩ := h.own
  exact ⟨D, ⟨es, cl, h1, h2, Nat.le_trans h3 hn, h4⟩, hd⟩
/-- The rules of a worklist at b: the arena and the members that were asked. -/
structure Ru (lo M : Nat) (mo : Option Nat) (dv : Value) (L : List Kt) (b m n : Nat) (W : World) : Prop where
  ar : AAt Tryz.prog lo M mo dv L W
  c0 : W.cell? ⟨b, 0, none⟩ = some (.pointer (some ⟨M, 0, none⟩))
  c1 : W.cell? ⟨b, 1, none⟩ = some (.map (some m))
  mem : MemAt m n W
  ne : some m ≠ mo
theorem Ru.blt {b m n : Nat} (h : Ru lo M mo dv L b m n W) : b < W.heap.size := World.block_lt_of_cell? W _ h.c0
theorem Ru.below {b m n : Nat} {A : World} (h : Ru lo M mo dv L b m n W) (hb : Below W.heap.size W A) : Ru lo M mo dv L b m n A :=
  ⟨h.ar.below hb, (hb.cell (p := ⟨b, 0, none⟩) h.blt).trans h.c0, (hb.cell (p := ⟨b, 1, none⟩) h.blt).trans h.c1, h.mem.keep (hb.block m h.mem.lt), h.ne⟩
theorem Ru.mb {b m n : Nat} (h : Ru lo M mo dv L b m n W) : some b ≠ some m := fun e => by
  cases e
  have h0 := h.c0
  have h1 := h.mem.ty
  obtain ⟨D, ⟨es, cl, h2, _⟩, _⟩ := h.mem.own
  simp [World.cell?, h2] at h0
theorem Ru.grown {b m n n' : Nat} {A : World} (h : Ru lo M mo dv L b m n W) (hg : W.grownBy A (some m)) (hm : MemAt m n' A) : Ru lo M mo dv L b m n' A :=
  ⟨h.ar.grown hg h.mem.ty h.ne, (World.cell?_of_block (a := ⟨b, 0, none⟩) (hg.block b h.blt h.mb)).trans h.c0, (World.cell?_of_block (a := ⟨b, 1, none⟩) (hg.block b h.blt h.mb)).trans h.c1, hm, h.ne⟩
theorem below_grown {m : Nat} {A : World} (hb : Below W.heap.size W A) : W.grownBy A (some m) := ⟨hb.os, hb.tape, hb.output, hb.size, fun k hk _ => hb.block k hk⟩
theorem grown_trans {m : Nat} {A B : World} (h : W.grownBy A (some m)) (k : A.grownBy B (some m)) : W.grownBy B (some m) := ⟨k.os.trans h.os, k.tape.trans h.tape, k.output.trans h.output, Nat.le_trans h.size k.size, fun i hi e => (k.block i (Nat.lt_of_lt_of_le hi h.size) e).trans (h.block i hi e)⟩
theorem piecesOf_any {b m n : Nat} (h : Ru lo M mo dv L b m n W) (hn : n ≤ 1000) (i : Nat) (hi : i ≤ 1000000) (k : Kt) (hk : L[i]? = some k) (h14 : k.kind ≠ 14) (h17 : k.kind ≠ 17) : Calls Tryz.prog 155 #[.pointer (some ⟨b, 0, none⟩), .int .i64 (i : Int)] W fun e w' => e = .returned (.agg #[.slice none 0 0, .int .i64 11]) ∧ Ru lo M mo dv L b m (n + 1) w' ∧ W.grownBy w' (some m) := by
  obtain ⟨D, ho, hd⟩ := h.mem.own
  cases hh : Maps.has D (.int .i64 (i : Int)) with
  | true =>
    refine (piecesOf_had m n b h.c1 D ho hd i hi hh).mono fun e w' ⟨he, hb⟩ => ⟨he, ?_, below_grown hb⟩
    exact (h.below hb).grown (⟨rfl, rfl, rfl, Nat.le_refl _, fun _ _ _ => rfl⟩) ((h.below hb).mem.mono (Nat.le_succ n))
  | false =>
    refine (piecesOf_new m n b h.ar h.c0 h.c1 D ho hd hn i hi k hk h14 h17 hh).mono fun e w' ⟨he, ho', hg⟩ => ⟨he, ?_, hg⟩
    exact h.grown hg ⟨_, ho', hd.put _⟩
end Go.Proofs.YtapnnbgcdijfpaaGreatDoor
