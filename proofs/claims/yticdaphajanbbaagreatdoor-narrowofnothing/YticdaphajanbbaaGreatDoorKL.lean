/- One type more: the numbers of texts, the row of types. -/
import Derived.Test.YticdaphajanbbaaGreatDoorPF0
import Derived.Test.YticdaphajanbbaaGreatDoorKK
namespace Go.Proofs.YticdaphajanbbaaGreatDoor
set_option linter.unusedSimpArgs false
set_option linter.unusedVariables false
set_option maxRecDepth 100000
set_option maxHeartbeats 2000000
open Go.RowKit Go.Shelf

variable {P : Program} {lo M : Nat} {mo : Option Nat} {dv : Value} {L : List Kt} {W : World}
theorem pos_snoc (L : List Kt) (k : Kt) (s : ByteArray) : pos (L ++ [k]) s = match pos L s with | some i => some i | none => if k.words = s then some L.length else none := by
  unfold pos
  rw [List.findIdx?_append]
  cases h : List.findIdx? (fun k => decide (k.words = s)) L with
  | some i => simp
  | none => simp [List.findIdx?_cons]
theorem kl_inj {s t : ByteArray} (h : kl s = kl t) : s = t := by
  have h : s.data.toList = t.data.toList := by unfold kl at h; injection h
  cases s; cases t
  simp at h
  rw [h]
theorem kl_key (s : ByteArray) : WideAt.IsKeyLit (kl s) := trivial
theorem NumD.snoc {D : DataW Unit} {k : Kt} (h : NumD D L) (hp : pos L k.words = none) : NumD (D.put (kl k.words) (.lit (.int .i64 (L.length : Int)))) (L ++ [k]) := by
  refine ⟨h.1.put _ _, fun s => ?_⟩
  rw [pos_snoc]
  by_cases e : k.words = s
  · subst e
    rw [hp]
    simp only [if_true]
    refine ⟨by rw [Maps.has_put_same h.1 (kl_key _)]; rfl, fun i hi => ?_⟩
    cases hi
    exact Maps.atKey_put_same h.1 (kl_key _) _ _
  · have hne : kl s ≠ kl k.words := fun e' => e (kl_inj e').symm
    rw [Maps.has_put_other hne]
    cases hq : pos L s with
    | none => simp only [if_neg e]; exact ⟨by have := (h.2 s).1; rw [hq] at this; exact this, fun i hi => by cases hi⟩
    | some j =>
      simp only
      refine ⟨by have := (h.2 s).1; rw [hq] at this; exact this, fun i hi => ?_⟩
      rw [Maps.atKey_put_other hne]
      exact (h.2 s).2 i (by rw [hq]; exact hi)
theorem NumD.nil : NumD (.map []) [] := ⟨⟨[], rfl⟩, fun s => ⟨rfl, fun i hi => by cases hi⟩⟩
theorem step_of_wp {P : Program} {ops : Array Oper} {o : Oper} {a : Act} {w : World} {K : Act → World → Prop} {Q : Exit → Act → World → Prop} {E : Prop} (hgd : o.guard = none) (h : Oper.wp P o a w K Q) : if Region.wanted o (yielded ops a.tmps) = true then Oper.wp P o a w K Q else E := by
  have hw : Region.wanted o (yielded ops a.tmps) = true := by simp [Region.wanted, hgd]
  rw [if_pos hw]; exact h
/-- Two blocks of unlike types are two. -/
theorem ne_ty {w : World} {a b : Nat} (h : tyOf w a ≠ tyOf w b) : a ≠ b := fun e => h (by rw [e])
/-- The row of types with one more behind it, in a world that keeps the rest. -/
theorem KtRow.snoc {A : World} {tv' : Value} {k : Kt} {v : Value × Value × Value} {vs : List (Value × Value × Value)} (h1 : vs.length = L.length) (h3 : ∀ (j : Nat) (k : Kt) (v : Value × Value × Value), L[j]? = some k → vs[j]? = some v → KtIn W k v) (hk : ∀ i, i < W.heap.size → (tyOf W i = 3 ∨ tyOf W i = 9 ∨ tyOf W i = 4) → A.heap[i]? = W.heap[i]?) (hn : KtIn A k v) (ho : A.ownsRow lo 75 8 tv' (L.length + 1) (ktsC L vs ++ ktC k v)) : KtRow lo A tv' (L ++ [k]) := by
  refine ⟨vs ++ [v], by simp [h1], ?_, fun j k' v' hk' hv' => ?_⟩
  · rw [ktsC_snoc L vs k v h1, List.length_append]
    exact ho
  · by_cases hj : j < L.length
    · rw [List.getElem?_append_left hj] at hk'
      rw [List.getElem?_append_left (by omega)] at hv'
      exact (h3 j k' v' hk' hv').keep hk
    · have hjl : j < (L ++ [k]).length := (List.getElem?_eq_some_iff.1 hk').1
      have : j = L.length := by simp at hjl; omega
      subst this
      simp at hk'
      rw [← h1] at hv'
      simp at hv'
      subst hk' hv'
      exact hn
end Go.Proofs.YticdaphajanbbaaGreatDoor
