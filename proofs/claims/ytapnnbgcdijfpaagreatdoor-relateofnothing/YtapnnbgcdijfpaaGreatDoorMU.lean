/- Assignable over an arena with the ten, and with the number 1; known of chapter 9's statements answers true. -/
import Derived.Test.YtapnnbgcdijfpaaGreatDoorMO
namespace Go.Proofs.YtapnnbgcdijfpaaGreatDoor
set_option linter.unusedSimpArgs false
set_option linter.unusedVariables false
set_option maxRecDepth 100000
set_option maxHeartbeats 4000000
open Go.RowKit Go.Shelf

variable {P : Program} {lo M : Nat} {mo : Option Nat} {dv : Value} {L : List Kt} {W : World}
/-- What a pair of bare types asks, by their numbers and kinds. -/
def askK (i j : Nat) (a c : Int) : Bool := ((i : Int) == (j : Int)) || (c == 1) || (c == 2) || (if (a == 1) then !(c == 3) else if (a == 3) then true else if (a == 2) then false else valP a c)
theorem asked_bare {b m n : Nat} (h : Ru lo M mo dv L b m n W) (hn : n ≤ 900) (i j : Nat) (hi : i ≤ 1000000) (hj : j ≤ 1000000) (k l : Kt) (hk : L[i]? = some k) (hl : L[j]? = some l) (zk : Bare k) (zl : Bare l) (k1 : 1 ≤ k.kind ∧ k.kind ≤ 11) (l1 : 1 ≤ l.kind ∧ l.kind ≤ 11) : Calls Tryz.prog 88 #[.pointer (some ⟨b, 0, none⟩), .agg #[.int .i64 (i : Int), .int .i64 (j : Int)]] W fun e w' => e = .returned (.agg #[.slice none 0 0, .int .i64 (spP (askK i j k.kind l.kind))]) ∧ Ru lo M mo dv L b m (n + 2) w' ∧ W.grownBy w' (some m) := by
  have hs := fun r hr => asked_settled h hn i j hi hj k l hk hl zk zl k.kind l.kind rfl rfl r hr
  have e7 : (k.kind == 16) = false := by simp; omega
  have e8 : (l.kind == 16) = false := by simp; omega
  have e9 : (k.kind == 13) = false := by simp; omega
  have e10 : (k.kind == 15) = false := by simp; omega
  unfold askK
  cases e1 : ((i : Int) == (j : Int)) with
  | true => exact hs _ (.inl ⟨e1, rfl⟩)
  | false =>
  cases e2 : (l.kind == 1) with
  | true => exact hs _ (.inr (.inl ⟨e1, e2, rfl⟩))
  | false =>
  cases e3 : (l.kind == 2) with
  | true => exact hs _ (.inr (.inr (.inl ⟨e1, e2, e3, rfl⟩)))
  | false =>
  cases e4 : (k.kind == 1) with
  | true =>
    cases e5 : (l.kind == 3) with
    | true => exact hs _ (.inr (.inr (.inr (.inl ⟨e1, e2, e3, e4, e5, rfl⟩))))
    | false => exact hs _ (.inr (.inr (.inr (.inr (.inl ⟨e1, e2, e3, e4, e5, rfl⟩)))))
  | false =>
  cases e5 : (k.kind == 3) with
  | true => exact hs _ (.inr (.inr (.inr (.inr (.inr (.inl ⟨e1, e2, e3, e4, e5, rfl⟩))))))
  | false =>
  cases e6 : (k.kind == 2) with
  | true => exact hs _ (.inr (.inr (.inr (.inr (.inr (.inr ⟨e1, e2, e3, e4, e5, e6, rfl⟩))))))
  | false =>
  cases hv : valP k.kind l.kind with
  | true => exact asked_value h hn i j hi hj k l hk hl zk zl k.kind l.kind rfl rfl e1 e2 e3 e4 e5 e6 e7 e8 (by omega) hv
  | false => exact asked_pieces h hn i j hi hj k l hk hl zk zl k.kind l.kind rfl rfl e1 e2 e3 e4 e5 e6 e7 e8 (by omega) e9 e10 (by omega) (by omega) (by omega) (by omega) hv
theorem spP_nn (b : Bool) : decide (0 ≤ spP b) = b := by cases b <;> rfl
/-- Assignable of two bare types. -/
theorem asg_bare (h : AAt Tryz.prog lo M mo dv L W) (i j : Nat) (k l : Kt) (hk : L[i]? = some k) (hl : L[j]? = some l) (zk : Bare k) (zl : Bare l) (k1 : 1 ≤ k.kind ∧ k.kind ≤ 11) (l1 : 1 ≤ l.kind ∧ l.kind ≤ 11) : Calls Tryz.prog 24 #[.pointer (some ⟨M, 0, none⟩), .int .i64 (i : Int), .int .i64 (j : Int)] W fun e w' => e = .returned (.tuple #[.bool (askK i j k.kind l.kind), .int .i64 0]) ∧ Below W.heap.size W w' := by
  have hil := (List.getElem?_eq_some_iff.1 hk).1
  have hjl := (List.getElem?_eq_some_iff.1 hl).1
  have hL := h.len
  have := asg_any h i j (spP (askK i j k.kind l.kind)) ⟨hil, hjl⟩ (fun b m u hr => asked_bare hr (by omega) i j (by omega) (by omega) k l hk hl zk zl k1 l1)
  rw [spP_nn] at this
  exact callsIn_wide.1 this
theorem pairs_bare (h : AAt Tryz.prog lo M mo dv L W) (i j : Nat) (k l : Kt) (hk : L[i]? = some k) (hl : L[j]? = some l) (zk : Bare k) (zl : Bare l) (k1 : 1 ≤ k.kind ∧ k.kind ≤ 11) (l1 : 1 ≤ l.kind ∧ l.kind ≤ 11) : Calls Tryz.prog 56 #[.pointer (some ⟨M, 0, none⟩), .int .i64 (i : Int), .int .i64 (j : Int), .int .i64 9] W fun e w' => e = .returned (.int .i64 1) ∧ Below W.heap.size W w' := by
  have hil := (List.getElem?_eq_some_iff.1 hk).1
  have hjl := (List.getElem?_eq_some_iff.1 hl).1
  have hL := h.len
  exact callsIn_wide.1 (pairs_any h i j (spP (askK i j k.kind l.kind)) ⟨hil, hjl⟩ (fun b m u hr => asked_bare hr (by omega) i j (by omega) (by omega) k l hk hl zk zl k1 l1))
theorem bare_bare (k : Nat) : Bare (bareKt k) := ⟨by show (0 : Nat) ≤ _; omega, rfl, rfl, rfl⟩
theorem bare_one : Bare oneKt := ⟨by decide, rfl, rfl, rfl⟩
theorem ten_at (i : Nat) (hi : i < 10) : (tenL 10)[i]? = some (bareKt (i + 1)) := by simp [tenL, hi]
theorem elev_six : elevL[6]? = some (bareKt 7) := rfl
theorem elev_ten : elevL[10]? = some oneKt := rfl
theorem fa_bel {b : Nat} {A B : World} (hf : Fa M (some b) M A B) (hM : M ≤ A.heap.size) : Below M A B := ⟨hf.os, hf.tape, hf.output, hf.size, fun k hk => hf.low k (by omega) hk⟩
end Go.Proofs.YtapnnbgcdijfpaaGreatDoor
