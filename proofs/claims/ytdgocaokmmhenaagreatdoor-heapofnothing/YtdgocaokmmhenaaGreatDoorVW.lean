/- The law ValueTexts, walked. -/
import Derived.Deep.QuietTactic
import Derived.BigQuiet
import Derived.Test.YtdgocaokmmhenaaGreatDoorVU
namespace Go.Proofs.YtdgocaokmmhenaaGreatDoor
set_option linter.unusedSimpArgs false
set_option linter.unusedVariables false
set_option maxRecDepth 100000
set_option maxHeartbeats 4000000
open Go.RowKit Go.Shelf

/-- A region whose operations only read and whose callees leave a class of worlds: one walk serves every order. -/
theorem region_C {P : Program} {C : World → Prop} {id : Nat} {Q : Exit → Act → World → Prop} {a : Act} {w : World} {l : List Oper} (hm : P.follows .mixedOrders = true) (hB : Region.lexB .any l.toArray = true) (hC : C { w with drawn := w.drawn + 1 })
    (h : wpQuiet P l.toArray C (fun a' => ∀ w', C w' → Q .normal a' w') l a) : (Code.region id l.toArray true).wp P Q a w :=
  wp_region_quiet (C := C) hm hB hC (by simpa using h)
/-- A settled value's text. -/
def textP (k n : Int) (t : ByteArray) : ByteArray := if k = 0 then undefT else if k = 1 then nullT else if k = 2 then boolT (n != 0) else if k = 3 then itoaT n else t
theorem rText_walk (k n k' n' : Int) (t t' s : ByteArray) (H : Ret 72 #[.agg (Vc k n t)] (.agg (Vc k' n' t'))) (h : (k' = 0 ∧ s = undefT) ∨ (k' = 1 ∧ s = nullT) ∨ (k' = 2 ∧ n' = 0 ∧ s = falseT) ∨ (k' = 2 ∧ (n' == 0) = false ∧ s = trueT) ∨ (k' = 4 ∧ s = t') ∨ (k' = 5 ∧ s = ⟨#[]⟩)) : Ret 75 #[.agg (Vc k n t)] (.string s) := by
  intro W
  have HS := hide H
  clear H
  unfold Vc at HS ⊢
  have HB := hide (below_one W (.cells #[.int .i64 k, .int .i64 n, .string t] 23))
  rcases h with ⟨rfl, rfl⟩ | ⟨rfl, rfl⟩ | ⟨rfl, rfl, rfl⟩ | ⟨rfl, h2, rfl⟩ | ⟨rfl, rfl⟩ | ⟨rfl, rfl⟩
  all_goals
    go_enter Tryz.func75, Tryz.ntmps75
    go_wp2_with (go_at_call 72; refine (unhide HS _).mono ?_; rintro e w1 ⟨rfl, hb1⟩)
    go_ret
    exact ⟨rfl, Below.upp (Below.upp (unhide HB) hb1) (below_one _ _)⟩
theorem rText_3 (k n n' : Int) (t t' s : ByteArray) (H : Ret 72 #[.agg (Vc k n t)] (.agg (Vc 3 n' t'))) (HD : Ret 82 #[.int .i64 n'] (.string s)) : Ret 75 #[.agg (Vc k n t)] (.string s) := by
  intro W
  have HS := hide H
  have HD' := hide HD
  clear H HD
  unfold Vc at HS ⊢
  have HB := hide (below_one W (.cells #[.int .i64 k, .int .i64 n, .string t] 23))
  go_enter Tryz.func75, Tryz.ntmps75
  go_wp2_with (first | (go_at_call 72; refine (unhide HS _).mono ?_; rintro e w1 ⟨rfl, hb1⟩; have HB1 := hide (Below.upp (Below.upp (unhide HB) hb1) (below_one _ (.cells #[.int .i64 3, .int .i64 n', .string t'] 23)))) | (go_at_call 82; refine (unhide HD' _).mono ?_; rintro e w2 ⟨rfl, hb2⟩))
  go_ret
  exact ⟨rfl, Below.upp (unhide HB1) hb2⟩
theorem tru_stl (k n : Int) (t : ByteArray) : vtruP k n t = vtruP (stlK k) (stlN k n) (stlT k t) := by
  by_cases h : k = 1 ∨ k = 2 ∨ k = 3 ∨ k = 4 ∨ k = 5
  · rcases h with rfl | rfl | rfl | rfl | rfl
    · rfl
    · show (n != 0) = (bI (n != 0) != 0)
      cases n != 0 <;> rfl
    · have e2 : stlN 3 n = clampN n := by simp [stlN]
      show (n != 0) = (stlN 3 n != 0)
      rw [e2]
      unfold clampN
      by_cases h1 : n < -9007199254740991
      · simp only [h1, if_true]; simp; omega
      · by_cases h2 : 9007199254740991 < n
        · simp only [h1, h2, if_true, if_false]; simp; omega
        · simp only [h1, h2, if_false]
    · rfl
    · rfl
  · have e : stlK k = 0 := by unfold stlK; rw [if_neg h]
    rw [e]
    unfold vtruP
    have h5 : ¬ k = 5 := by omega
    rw [if_neg (by omega), if_neg (by omega)]
    simp [h5]
end Go.Proofs.YtdgocaokmmhenaaGreatDoor
