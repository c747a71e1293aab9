/- Purely: an operand that ends an expression is that expression. -/
import Derived.Test.YtofgphapjjofnaaGreatDoorBA
namespace Go.Proofs.YtofgphapjjofnaaGreatDoor
set_option linter.unusedSimpArgs false
set_option linter.unusedVariables false

/-- What stands ahead: the tokens from the one that is next. -/
def Vw (c : Cx) (s : PS) (ts : List Tok) : Prop := c.toks.drop s.n = ts ∧ s.tk = ts.headD tok0
/-- Every fuel from k on gives this. -/
def Rd (c : Cx) (k : Nat) (x : Cmd) (s : PS) (r : Res (List Nat)) : Prop := ∀ F, k ≤ F → parP c F x s = r
def nx (s : PS) (u : Tok) : PS := ⟨s.n + 1, u, s.nodes, s.nc⟩
def pu (s : PS) (x : PN) : PS := ⟨s.n, s.tk, s.nodes ++ [x], s.nc⟩
theorem Vw.nx {c : Cx} {s : PS} {t u : Tok} {r : List Tok} (h : Vw c s (t :: u :: r)) : nextP c s = .ok t (nx s u) ∧ Vw c (nx s u) (u :: r) := by
  obtain ⟨h1, h2⟩ := h
  have hl : s.n + 1 < c.toks.length := by
    have := congrArg List.length h1
    simp only [List.length_drop, List.length_cons] at this
    omega
  have hu : c.toks.getD (s.n + 1) tok0 = u := by
    have := congrArg (fun q : List Tok => q[1]?) h1
    simp only [List.getElem?_drop, List.getElem?_cons_succ, List.getElem?_cons_zero] at this
    rw [List.getD_eq_getElem?_getD, this]
    rfl
  refine ⟨?_, ?_, rfl⟩
  · unfold nextP behindP
    rw [if_pos hl, show min (s.n + 1) (c.toks.length - 1) = s.n + 1 by omega, hu, h2]
    rfl
  · show c.toks.drop (s.n + 1) = u :: r
    rw [← List.tail_drop, h1]
    rfl
theorem Vw.pu {c : Cx} {s : PS} {ts : List Tok} (h : Vw c s ts) (x : PN) : Vw c (pu s x) ts := h
theorem Vw.tk {c : Cx} {s : PS} {t : Tok} {r : List Tok} (h : Vw c s (t :: r)) : s.tk = t := h.2
theorem Vw.behind {c : Cx} {s : PS} {t u : Tok} {r : List Tok} (h : Vw c s (t :: u :: r)) : behindP c 1 s = u := by
  have h1 := h.nx.1
  unfold nextP at h1
  split at h1
  · have := congrArg (fun q : Res Tok => match q with | .ok _ s' => s'.tk | _ => tok0) h1
    exact this
  · cases h1
theorem tk0P {c : Cx} {s : PS} {x : List Int} (h : mark s.tk ≠ x) : takeP c x s = .ok false s := by
  unfold takeP isP isT
  rw [if_neg (by simpa using h)]
theorem tk1P {c : Cx} {s : PS} {x : List Int} {t u : Tok} {r : List Tok} (h : Vw c s (t :: u :: r)) (hm : mark t = x) : takeP c x s = .ok true (nx s u) := by
  unfold takeP isP isT
  rw [h.tk, if_pos (by simpa using hm)]
  simp only [bd, h.nx.1, rt]
theorem wt1P {c : Cx} {s : PS} {x : List Int} {t u : Tok} {r : List Tok} (h : Vw c s (t :: u :: r)) (hm : mark t = x) : wantP c x s = .ok () (nx s u) := by
  unfold wantP
  simp only [bd, tk1P h hm, if_true, rt]
theorem pt1P {x : PN} {s : PS} (h : s.nodes.length < 1000000) : putP x s = .ok s.nodes.length (pu s x) := by
  unfold putP
  rw [if_pos h]
  rfl
theorem cp1P {α : Type} {l : List α} {s : PS} (h : l.length < 1000000) : capP l s = .ok () s := by
  unfold capP
  rw [if_pos h]
/-- A token behind which an expression ends. -/
def endB (m : List Int) : Bool := !(isAssignL.contains m) && !(levelsL.any fun l => l.contains m) && !([[63], [46], [91], [33], [40], [60]].contains m)
theorem endB_all {m : List Int} (h : endB m = true) : isAssignL.contains m = false ∧ (∀ l, (levelsL.getD l []).contains m = false) ∧ m ≠ [63] ∧ m ≠ [46] ∧ m ≠ [91] ∧ m ≠ [33] ∧ m ≠ [40] ∧ m ≠ [60] := by
  simp only [endB, Bool.and_eq_true, Bool.not_eq_true', List.any_eq_false] at h
  obtain ⟨⟨h1, h2⟩, h3⟩ := h
  refine ⟨h1, fun l => ?_, ?_⟩
  · rw [List.getD_eq_getElem?_getD]
    cases e : levelsL[l]? with
    | none => rfl
    | some q => simpa using h2 q (List.mem_of_getElem? e)
  · simp at h3
    exact ⟨h3.1, h3.2.1, h3.2.2.1, h3.2.2.2.1, h3.2.2.2.2.1, h3.2.2.2.2.2⟩
theorem Rd.step {c : Cx} {k : Nat} {x : Cmd} {s : PS} {r : Res (List Nat)} (h : ∀ F, k ≤ F → bodyP c (parP c F) x s = r) : Rd c (k + 1) x s r := fun F hF => by
  obtain ⟨f, rfl⟩ : ∃ f, F = f + 1 := ⟨F - 1, by omega⟩
  exact h f (by omega)
theorem Rd.mono {c : Cx} {k k' : Nat} {x : Cmd} {s : PS} {r : Res (List Nat)} (h : Rd c k x s r) (hk : k ≤ k') : Rd c k' x s r := fun F hF => h F (by omega)
/-- Nothing follows an operand. -/
theorem post_end {c : Cx} {s : PS} {at' x : Nat} (h : endB (mark s.tk) = true) : Rd c 2 (.postLoop at' x) s (.ok [x] s) := by
  obtain ⟨_, _, _, h1, h2, h3, h4, h5⟩ := endB_all h
  refine Rd.step fun F hF => ?_
  obtain ⟨f, rfl⟩ : ∃ f, F = f + 1 := ⟨F - 1, by omega⟩
  simp only [bodyP, bd, tk0P h1, tk0P h2, tk0P h3, if_false, Bool.false_eq_true]
  have hc : parP c (f + 1) .callTypes s = .ok [] s := by
    show bodyP c (parP c f) .callTypes s = _
    have i1 : isP [40] s = false := by simpa [isP, isT] using h4
    have i2 : isP [60] s = false := by simpa [isP, isT] using h5
    simp only [bodyP, i1, i2, true_and, and_self, true_or, if_true]
  rw [hc]
  simp only [if_true, rt]
/-- An operand that ends an expression is that expression. -/
theorem up_unary {c : Cx} {s s' : PS} {x k : Nat} (hm : [[33], [45], [126], [116, 121, 112, 101, 111, 102]].contains (mark s.tk) = false) (h : Rd c k .postfix s (.ok [x] s')) : Rd c (k + 1) .unary s (.ok [x] s') := Rd.step fun F hF => by
  simp only [bodyP, bd, atP, markP, hm, Bool.false_eq_true, if_false]
  exact h F hF
theorem up_binary {c : Cx} {s s' : PS} {x k l : Nat} (hl : l ≠ levelsL.length) (he : endB (mark s'.tk) = true) (hk : 1 ≤ k) (h : Rd c k (.binary (l + 1)) s (.ok [x] s')) : Rd c (k + 1) (.binary l) s (.ok [x] s') := Rd.step fun F hF => by
  have e := (endB_all he).2.1 l
  simp only [bodyP, if_neg hl, bd, atP, h F hF]
  obtain ⟨f, rfl⟩ : ∃ f, F = f + 1 := ⟨F - 1, by omega⟩
  show bodyP c (parP c f) (.binLoop l s.tk.2.2.1 (hd0 [x])) s' = _
  simp only [bodyP, bd, markP, e, if_true, rt]
  rfl
theorem up_binaries {c : Cx} {s s' : PS} {x k : Nat} (he : endB (mark s'.tk) = true) (hk : 1 ≤ k) (h : Rd c k .unary s (.ok [x] s')) : ∀ d, d ≤ 10 → Rd c (k + 1 + d) (.binary (10 - d)) s (.ok [x] s')
  | 0, _ => Rd.step fun F hF => by
    have e : (10 : Nat) - 0 = levelsL.length := rfl
    simp only [bodyP, e, if_true]
    exact h F hF
  | d + 1, hd => by
    have ih := up_binaries he hk h d (by omega)
    rw [show 10 - d = 10 - (d + 1) + 1 by omega] at ih
    exact up_binary (k := k + 1 + d) (by show 10 - (d + 1) ≠ 10; omega) he (by omega) ih
theorem up_cond {c : Cx} {s s' : PS} {x k : Nat} (he : endB (mark s'.tk) = true) (h : Rd c k (.binary 0) s (.ok [x] s')) : Rd c (k + 1) .cond s (.ok [x] s') := Rd.step fun F hF => by
  simp only [bodyP, bd, atP, h F hF, tk0P (endB_all he).2.2.1, if_true, rt]
theorem up_expr {c : Cx} {s s' : PS} {x k : Nat} (ha : (if s.tk.1 = 1 then isT (behindP c 1 s) [61, 62] else isP [60] s || paramsAheadP c s) = false) (he : endB (mark s'.tk) = true) (h : Rd c k .cond s (.ok [x] s')) : Rd c (k + 1) .expr s (.ok [x] s') := Rd.step fun F hF => by
  have e := (endB_all he).1
  simp only [bodyP, bd, testP, ha, Bool.false_eq_true, if_false, atP, h F hF, markP, e, if_true, rt]
theorem up_all {c : Cx} {s s' : PS} {x k : Nat} (ha : (if s.tk.1 = 1 then isT (behindP c 1 s) [61, 62] else isP [60] s || paramsAheadP c s) = false) (hm : [[33], [45], [126], [116, 121, 112, 101, 111, 102]].contains (mark s.tk) = false) (he : endB (mark s'.tk) = true) (h : Rd c k .postfix s (.ok [x] s')) : Rd c (k + 14) .expr s (.ok [x] s') :=
  (up_expr ha he (up_cond he (up_binaries he (by omega) (up_unary hm h) 10 (Nat.le_refl _)))).mono (by omega)
end Go.Proofs.YtofgphapjjofnaaGreatDoor
