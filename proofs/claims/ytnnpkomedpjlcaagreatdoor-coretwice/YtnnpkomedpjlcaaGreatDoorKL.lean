/- The stripper in memory; what a rule's function answers. -/
import Derived.OwnWalk
import Derived.Laws.OwnMore
import Derived.Test.YtnnpkomedpjlcaaGreatDoorM4
import Derived.Test.YtnnpkomedpjlcaaGreatDoorKK
namespace Go.Proofs.YtnnpkomedpjlcaaGreatDoor
set_option linter.unusedSimpArgs false
set_option linter.unusedVariables false
open Go.RowKit Go.Shelf

/-- The stripper lies there: where it strips from, and what is left so far, rows of its own. -/
def StAt (W : World) (B S : Nat) (v lv : Value) (es : List NE) : Prop := W.heap[S]? = some (.cells #[v, lv] 50) ∧ OwnN W B lv es
/-- Nothing that lay there has turned but for the stripper and what was left; what is left is where it was or new. -/
def StF (W w' : World) (S : Nat) (lv lv' : Value) : Prop :=
  w'.os = W.os ∧ w'.tape = W.tape ∧ w'.output = W.output ∧ W.heap.size ≤ w'.heap.size ∧ (∀ k, k < W.heap.size → k ≠ S → some k ≠ lv.ownBlock → w'.heap[k]? = W.heap[k]?) ∧ (lv'.ownBlock = lv.ownBlock ∨ ∀ k, lv'.ownBlock = some k → W.heap.size ≤ k)
theorem StF.refl (W : World) (S : Nat) (lv : Value) : StF W W S lv lv := ⟨rfl, rfl, rfl, Nat.le_refl _, fun _ _ _ _ => rfl, .inl rfl⟩
theorem StF.trans {W w1 w2 : World} {S : Nat} {lv lv1 lv2 : Value} (h : StF W w1 S lv lv1) (k : StF w1 w2 S lv1 lv2) : StF W w2 S lv lv2 := by
  obtain ⟨a1, a2, a3, a4, a5, a6⟩ := h
  obtain ⟨b1, b2, b3, b4, b5, b6⟩ := k
  refine ⟨b1.trans a1, b2.trans a2, b3.trans a3, Nat.le_trans a4 b4, fun k hk hS hl => (b5 k (by omega) hS (fun e => ?_)).trans (a5 k hk hS hl), ?_⟩
  · rcases a6 with h | h
    · exact hl (e.trans h)
    · have := h k e.symm
      omega
  · rcases b6 with h | h
    · rcases a6 with h' | h'
      · exact .inl (h.trans h')
      · exact .inr fun k hk => h' k (h.symm.trans hk)
    · exact .inr fun k hk => Nat.le_trans a4 (h k hk)
theorem StF.below {W w' : World} {B S : Nat} {v lv lv' : Value} {es : List NE} (h : StF W w' S lv lv') (hs : StAt W B S v lv es) (hB : B ≤ S) (hBW : B ≤ W.heap.size) : Below B W w' := by
  obtain ⟨a1, a2, a3, a4, a5, a6⟩ := h
  refine ⟨a1, a2, a3, a4, fun k hk => a5 k (by omega) (by omega) (fun e => ?_)⟩
  have := (hs.2.1.lt k e.symm).1
  omega
/-- A row of whole numbers that the call itself has is as it was. -/
theorem StF.row {W w' : World} {B B' S n : Nat} {v lv lv' u : Value} {es : List NE} {xs : List Value} (h : StF W w' S lv lv') (hs : StAt W B S v lv es) (hr : W.ownsRow B' 3 1 u n xs) : w'.ownsRow B' 3 1 u n xs := by
  refine ownsRow_heap hr fun k hk => ?_
  have hlt := (hr.lt k hk).2
  rcases hr.2 with ⟨h0, _⟩ | ⟨g, cap, cur, h0, _, hh, _⟩
  · rw [h0] at hk; cases hk
  · rw [h0] at hk
    have e : g = k := by simpa [Value.ownBlock] using hk
    subst e
    refine h.2.2.2.2.1 g hlt (fun e => ?_) (fun e => ?_)
    · rw [e, hs.1] at hh; cases hh
    · rcases hs.2.1.2 with ⟨h1, _⟩ | ⟨g1, cap1, cur1, h1, _, hh1, _⟩
      · rw [h1] at e; cases e
      · rw [h1] at e
        simp only [Value.ownBlock, Option.some.injEq] at e
        rw [← e, hh] at hh1
        cases hh1

theorem kidsX50 {l : List Nd} {n : Nat} (hf : Fine l n) (hk : (nd l n).kind = 50) : 0 < (nd l n).kids.length ∧ ins l ((nd l n).kids.getD 0 0) = true := by
  have h := kz_len1 (fit_kz hf.fit (by rw [hk]; rfl) rfl)
  exact ⟨h, hf.ins _ (by rw [List.getD_eq_getElem?_getD, List.getElem?_eq_getElem h]; exact List.getElem_mem _)⟩
theorem kidsX44 {l : List Nd} {n : Nat} (hf : Fine l n) (hk : (nd l n).kind = 44) : 1 < (nd l n).kids.length ∧ ins l ((nd l n).kids.getD 1 0) = true := by
  have h := kz_len2 (fit_kz hf.fit (by rw [hk]; rfl) rfl)
  have h1 : 1 < (nd l n).kids.length := by omega
  exact ⟨h1, hf.ins _ (by rw [List.getD_eq_getElem?_getD, List.getElem?_eq_getElem h1]; exact List.getElem_mem _)⟩
/-- A rule's function, whichever. -/
theorem rule_call (W : World) (M : Nat) (v : Value) (l : List Nd) (n : Nat) (k : Int) (hN : Nodes W M v l) (hM : M ≤ W.heap.size) (hf : Fine l n) :
    Calls Tryz.prog (ruleF k) #[v, .int .i64 (n : Int)] W fun e w' => e = .returned (.bool (leftP (ruleF k) l n)) ∧ w' = W := by
  unfold ruleF
  by_cases h1 : k = 3 ∨ k = 63 ∨ k = 49
  · rw [if_pos h1]
    exact forT_any W M v l n hN hM hf.1 (kidsX50 hf)
  · rw [if_neg h1]
    by_cases h2 : k = 2
    · rw [if_pos h2]
      exact listT_any W M v l n hN hM hf.1 (kidsX44 hf)
    · rw [if_neg h2]
      by_cases h3 : typeK k = true
      · rw [if_pos h3]
        exact always_any W v n
      · rw [if_neg h3]
        exact never_any W v n
/-- A rule's function is entered. -/
theorem rule_enter (k : Int) : ∀ args w, (callFunc (ruleF k) args).run Tryz.prog w = .ok (.enter (ruleF k) args) w := by
  unfold ruleF
  by_cases h1 : k = 3 ∨ k = 63 ∨ k = 49
  · rw [if_pos h1]
    exact enters_of Tryz.func43 (by kernel_rfl) rfl
  · rw [if_neg h1]
    by_cases h2 : k = 2
    · rw [if_pos h2]
      exact enters_of Tryz.func44 (by kernel_rfl) rfl
    · rw [if_neg h2]
      by_cases h3 : typeK k = true
      · rw [if_pos h3]
        exact enters_of Tryz.func45 (by kernel_rfl) rfl
      · rw [if_neg h3]
        exact enters_of Tryz.func46 (by kernel_rfl) rfl
end Go.Proofs.YtnnpkomedpjlcaaGreatDoor
