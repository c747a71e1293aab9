/- Types as an arena keeps them: purely, and in memory. -/
import Derived.Maps.OwnSet
import Derived.Maps.Views
import Derived.Deep.AppendLies
import Derived.Laws.Append
import Derived.Below
import Derived.Test.YticdaphajanbbaaGreatDoorA1
namespace Go.Proofs.YticdaphajanbbaaGreatDoor
set_option linter.unusedSimpArgs false
set_option linter.unusedVariables false
open Go.RowKit

/-- A type that is kept. -/
structure Kt where
  kind : Int
  num : Int
  text : ByteArray
  parts : List Int
  names : List ByteArray
  marks : List Bool
  words : ByteArray
  size : Int
def iv (xs : List Int) : List Value := xs.map fun x => .int .i64 x
def sv (xs : List ByteArray) : List Value := xs.map fun x => .string x
def bv (xs : List Bool) : List Value := xs.map fun x => .bool x
/-- What lies in a block: the type of its cells. -/
def tyOf (W : World) (k : Nat) : Nat := match W.heap[k]? with
  | some (.cells _ t _) => t
  | _ => 0
theorem tyOf_eq {W A : World} {k : Nat} (h : A.heap[k]? = W.heap[k]?) : tyOf A k = tyOf W k := by unfold tyOf; rw [h]
theorem ty_lt {W : World} {k t : Nat} (h : tyOf W k = t) (ht : t ≠ 0) : k < W.heap.size := by
  unfold tyOf at h
  split at h
  · rename_i hh; exact (Array.getElem?_eq_some_iff.1 hh).1
  · exact absurd h.symm ht
/-- A row that lies there, of cells of a type. -/
def RowR (t : Nat) (W : World) (v : Value) (xs : List Value) : Prop := ∃ a cap, v = .slice a xs.length cap ∧ xs.length ≤ cap ∧ cap ≤ maxLen ∧ (xs = [] ∨ ∃ (b o : Nat) (cur : Array Value) (fr : Nat × Nat), a = some ⟨b, o, none⟩ ∧ W.heap[b]? = some (.cells cur t fr) ∧ ∀ (j : Nat) (x : Value), xs[j]? = some x → cur[o + j]? = some x)
theorem RowR.keep {t : Nat} {W A : World} {v : Value} {xs : List Value} (h : RowR t W v xs) (hk : ∀ k, k < W.heap.size → tyOf W k = t → A.heap[k]? = W.heap[k]?) : RowR t A v xs := by
  obtain ⟨a, cap, h1, h2, h3, h4⟩ := h
  refine ⟨a, cap, h1, h2, h3, ?_⟩
  rcases h4 with h4 | ⟨b, o, cur, fr, e, hh, hc⟩
  · exact .inl h4
  · exact .inr ⟨b, o, cur, fr, e, (hk b (Array.getElem?_eq_some_iff.1 hh).1 (by simp [tyOf, hh])).trans hh, hc⟩
theorem RowR.below {t : Nat} {W A : World} {v : Value} {xs : List Value} (h : RowR t W v xs) (hb : Below W.heap.size W A) : RowR t A v xs := h.keep fun k hk _ => hb.block k hk
theorem RowR.nil (t : Nat) (W : World) : RowR t W (.slice none 0 0) [] := ⟨none, 0, rfl, Nat.le_refl _, Nat.zero_le _, .inl rfl⟩
/-- The values of a kept type; its rows stand in p, n, m. -/
def ktC (k : Kt) (v : Value × Value × Value) : List Value := [.int .i64 k.kind, .int .i64 k.num, .string k.text, v.1, v.2.1, v.2.2, .string k.words, .int .i64 k.size]
def ktsC : List Kt → List (Value × Value × Value) → List Value
  | x :: l, v :: vs => ktC x v ++ ktsC l vs
  | _, _ => []
theorem ktsC_snoc : ∀ (l : List Kt) (vs : List (Value × Value × Value)) (x : Kt) (v : Value × Value × Value), vs.length = l.length → ktsC (l ++ [x]) (vs ++ [v]) = ktsC l vs ++ ktC x v
  | [], [], x, v, _ => by simp [ktsC]
  | y :: l, k :: vs, x, v, h => by simp [ktsC, ktsC_snoc l vs x v (by simpa using h)]
  | [], _ :: _, _, _, h => by simp at h
  | _ :: _, [], _, _, h => by simp at h
theorem ktsC_get : ∀ (l : List Kt) (vs : List (Value × Value × Value)) (i : Nat) (x : Kt) (v : Value × Value × Value), vs.length = l.length → l[i]? = some x → vs[i]? = some v → ∀ (c : Nat) (u : Value), (ktC x v)[c]? = some u → (ktsC l vs)[i * 8 + c]? = some u
  | y :: l, k :: vs, 0, x, v, _, hx, hv, c, u, hu => by
    simp only [List.getElem?_cons_zero, Option.some.injEq] at hx hv
    subst hx hv
    have hc : c < (ktC y k).length := (List.getElem?_eq_some_iff.1 hu).1
    simp only [ktsC, Nat.zero_mul, Nat.zero_add]
    rw [List.getElem?_append_left hc]; exact hu
  | y :: l, k :: vs, i + 1, x, v, h, hx, hv, c, u, hu => by
    have h8 : (ktC y k).length = 8 := rfl
    simp only [ktsC]
    rw [List.getElem?_append_right (by omega), h8]
    have e : (i + 1) * 8 + c - 8 = i * 8 + c := by omega
    rw [e]
    exact ktsC_get l vs i x v (by simpa using h) (by simpa using hx) (by simpa using hv) c u hu
  | [], _, _, _, _, _, hx, _, _, _, _ => by simp at hx
  | _ :: _, [], _, _, _, h, _, _, _, _, _ => by simp at h
structure KtIn (W : World) (k : Kt) (v : Value × Value × Value) : Prop where
  p : RowR 3 W v.1 (iv k.parts)
  n : RowR 9 W v.2.1 (sv k.names)
  m : RowR 4 W v.2.2 (bv k.marks)
def KtRow (lo : Nat) (W : World) (tv : Value) (L : List Kt) : Prop := ∃ vs : List (Value × Value × Value), vs.length = L.length ∧ W.ownsRow lo 75 8 tv L.length (ktsC L vs) ∧ ∀ (j : Nat) (k : Kt) (v : Value × Value × Value), L[j]? = some k → vs[j]? = some v → KtIn W k v
/-- Where a text stands among types. -/
def pos (L : List Kt) (s : ByteArray) : Option Nat := L.findIdx? fun k => decide (k.words = s)
def kl (s : ByteArray) : Lit := .string s.data.toList
def NumD (D : DataW Unit) (L : List Kt) : Prop := Maps.IsMap D ∧ ∀ s : ByteArray, Maps.has D (kl s) = (pos L s).isSome ∧ ∀ i, pos L s = some i → D.atKey (kl s) (.lit (.int .i64 0)) = .lit (.int .i64 (i : Int))
/-- The numbers of the texts. -/
def NumR (P : Program) (lo : Nat) (W : World) (L : List Kt) : Option Nat → Prop
  | none => L = []
  | some b => lo ≤ b ∧ ∃ n D, n ≤ 1000000000 + L.length ∧ W.ownsMap P 9 (plainElem P 3) b n D ∧ NumD D L
structure AAt (P : Program) (lo M : Nat) (mo : Option Nat) (dv : Value) (L : List Kt) (W : World) : Prop where
  row : ∃ tv, W.heap[M]? = some (.cells #[tv, .map mo, dv] 62) ∧ KtRow lo W tv L
  num : NumR P lo W L mo
  lo : lo ≤ M
  len : L.length ≤ 1000000
/-- A call on an arena turns the arena, rows of kept types, its map of numbers; nothing else that lay there. -/
structure Fa (M : Nat) (mo : Option Nat) (lo : Nat) (W A : World) : Prop where
  os : A.os = W.os
  tape : A.tape = W.tape
  output : A.output = W.output
  size : W.heap.size ≤ A.heap.size
  block : ∀ k, k < W.heap.size → k ≠ M → some k ≠ mo → tyOf W k ≠ 75 → A.heap[k]? = W.heap[k]?
  low : ∀ k, k < W.heap.size → k < lo → A.heap[k]? = W.heap[k]?
theorem Fa.refl (M : Nat) (mo : Option Nat) (lo : Nat) (W : World) : Fa M mo lo W W := ⟨rfl, rfl, rfl, Nat.le_refl _, fun _ _ _ _ _ => rfl, fun _ _ _ => rfl⟩
theorem Fa.trans {M lo : Nat} {mo mo' : Option Nat} {A B C : World} (h : Fa M mo lo A B) (k : Fa M mo' lo B C) (hm : mo' = mo ∨ ∃ b, mo' = some b ∧ A.heap.size ≤ b) : Fa M mo lo A C :=
  ⟨k.os.trans h.os, k.tape.trans h.tape, k.output.trans h.output, Nat.le_trans h.size k.size, fun i hi hM h1 h2 => by
    have e := h.block i hi hM h1 h2
    refine (k.block i (Nat.lt_of_lt_of_le hi h.size) hM ?_ (by rw [tyOf_eq e]; exact h2)).trans e
    rcases hm with hm | ⟨b, hm, hb⟩
    · rw [hm]; exact h1
    · rw [hm]; intro e; cases e; omega, fun i hi hl => (k.low i (Nat.lt_of_lt_of_le hi h.size) hl).trans (h.low i hi hl)⟩
theorem below_fa {M lo : Nat} {mo : Option Nat} {A B : World} (h : Below A.heap.size A B) : Fa M mo lo A B := ⟨h.os, h.tape, h.output, h.size, fun k hk _ _ _ => h.block k hk, fun k hk _ => h.block k hk⟩
theorem map_keep {P : Program} {W A : World} {k : TypeId} {R : Value → Option (DataW Unit × List MemPlace)} {b n : Nat} {D : DataW Unit} (h : W.ownsMap P k R b n D) (e : A.heap[b]? = W.heap[b]?) : A.ownsMap P k R b n D := by
  obtain ⟨es, cl, h1, h2⟩ := h
  exact ⟨es, cl, e.trans h1, h2⟩
theorem map_lt {P : Program} {W : World} {k : TypeId} {R : Value → Option (DataW Unit × List MemPlace)} {b n : Nat} {D : DataW Unit} (h : W.ownsMap P k R b n D) : b < W.heap.size := by
  obtain ⟨es, cl, h1, h2⟩ := h
  exact (Array.getElem?_eq_some_iff.1 h1).1
theorem row_keep {W W' : World} {B : Nat} {t : TypeId} {s n : Nat} {v : Value} {xs : List Value} (h : W.ownsRow B t s v n xs) (hb : ∀ k, v.ownBlock = some k → W'.heap[k]? = W.heap[k]?) : W'.ownsRow B t s v n xs := by
  refine ⟨h.1, ?_⟩
  rcases h.2 with h0 | ⟨g, cap, cur, hv, hg, hh, hr⟩
  · exact .inl h0
  · refine .inr ⟨g, cap, cur, hv, hg, ?_, hr⟩
    rw [hb g (by rw [hv]; rfl)]
    exact hh
theorem row_ty {W : World} {B : Nat} {t : TypeId} {s n k : Nat} {v : Value} {xs : List Value} (h : W.ownsRow B t s v n xs) (hk : v.ownBlock = some k) : tyOf W k = t ∧ k < W.heap.size ∧ B ≤ k := by
  rcases h.2 with ⟨e, _⟩ | ⟨g, cap, cur, e, hB, hh, _⟩
  · rw [e] at hk; cases hk
  · rw [e] at hk
    have : g = k := by simpa [Value.ownBlock] using hk
    subst this
    exact ⟨by simp [tyOf, hh], (Array.getElem?_eq_some_iff.1 hh).1, hB⟩
theorem KtIn.keep {W A : World} {k : Kt} {v : Value × Value × Value} (h : KtIn W k v) (hk : ∀ k, k < W.heap.size → (tyOf W k = 3 ∨ tyOf W k = 9 ∨ tyOf W k = 4) → A.heap[k]? = W.heap[k]?) : KtIn A k v :=
  ⟨h.p.keep fun i hi e => hk i hi (.inl e), h.n.keep fun i hi e => hk i hi (.inr (.inl e)), h.m.keep fun i hi e => hk i hi (.inr (.inr e))⟩
theorem KtRow.keep {lo : Nat} {W A : World} {tv : Value} {L : List Kt} (h : KtRow lo W tv L) (hk : ∀ k, k < W.heap.size → (tyOf W k = 75 ∨ tyOf W k = 3 ∨ tyOf W k = 9 ∨ tyOf W k = 4) → A.heap[k]? = W.heap[k]?) : KtRow lo A tv L := by
  obtain ⟨vs, h1, h2, h3⟩ := h
  exact ⟨vs, h1, row_keep h2 fun k e => hk k (row_ty h2 e).2.1 (.inl (row_ty h2 e).1), fun j k v a b => (h3 j k v a b).keep fun i hi e => hk i hi (.inr e)⟩
theorem AAt.lt {P : Program} {lo M : Nat} {mo : Option Nat} {dv : Value} {L : List Kt} {W : World} (h : AAt P lo M mo dv L W) : M < W.heap.size := by
  obtain ⟨tv, h1, _⟩ := h.row
  exact (Array.getElem?_eq_some_iff.1 h1).1
theorem AAt.below {P : Program} {lo M : Nat} {mo : Option Nat} {dv : Value} {L : List Kt} {W A : World} (h : AAt P lo M mo dv L W) (hb : Below W.heap.size W A) : AAt P lo M mo dv L A := by
  have hM := h.lt
  obtain ⟨tv, h1, h2⟩ := h.row
  refine ⟨⟨tv, (hb.block M hM).trans h1, h2.keep fun k hk _ => hb.block k hk⟩, ?_, h.lo, h.len⟩
  have := h.num
  cases mo with
  | none => exact this
  | some b =>
    obtain ⟨hlo, n, D, hn, ho, hd⟩ := this
    exact ⟨hlo, n, D, hn, map_keep ho (hb.block b (map_lt ho)), hd⟩
end Go.Proofs.YticdaphajanbbaaGreatDoor
