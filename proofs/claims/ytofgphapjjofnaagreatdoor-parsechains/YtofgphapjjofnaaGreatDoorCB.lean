/- The tokens of a chain of members, indices, calls and !; a number alone. -/
import Derived.Test.YtofgphapjjofnaaGreatDoorCA
namespace Go.Proofs.YtofgphapjjofnaaGreatDoor
set_option linter.unusedSimpArgs false
set_option linter.unusedVariables false

theorem mark_num {d : List Int} {p q : Nat} : mark (3, d, p, q) = [] := by simp [mark]
theorem mark_sgn {x : List Int} {p q : Nat} : mark (9, x, p, q) = x := by simp [mark]
theorem mark_name {x : List Int} {p q : Nat} : mark (1, x, p, q) = [] := by simp [mark]
theorem mark_end {x : List Int} {p q : Nat} : mark (10, x, p, q) = [] := by simp [mark]
/-- A number alone. -/
theorem num_expr {c : Cx} {s : PS} {d : List Int} {p q : Nat} {u : Tok} {r : List Tok} (h : Vw c s ((3, d, p, q) :: u :: r)) (he : endB (mark u) = true) (hn : s.nodes.length < 1000000) : Rd c 17 .expr s (.ok [s.nodes.length] (pu (nx s u) ⟨10, [], decV d, [], p⟩)) := by
  have htk := h.tk
  have hm : mark s.tk = [] := by rw [htk]; exact mark_num
  refine up_all ?_ ?_ he (k := 3) ?_
  · rw [htk, if_neg (show ¬ ((3 : Int) = 1) by decide)]
    have i1 : isP [60] s = false := by simp [isP, isT, hm]
    have i2 : paramsAheadP c s = false := by simp [paramsAheadP, isP, isT, hm]
    rw [i1, i2]; rfl
  · rw [hm]; rfl
  · refine Rd.step fun F hF => ?_
    obtain ⟨f, rfl⟩ : ∃ f, F = f + 1 := ⟨F - 1, by omega⟩
    have hp : parP c (f + 1) .primary s = .ok [s.nodes.length] (pu (nx s u) ⟨10, [], decV d, [], p⟩) := by
      show bodyP c (parP c f) .primary s = _
      have k3 : s.tk.1 = 3 := by rw [htk]
      have hw : wantKindP c 3 s = .ok (3, d, p, q) (nx s u) := by unfold wantKindP; rw [if_pos k3]; exact h.nx.1
      simp only [bodyP, bd, atP, kindP, k3, if_true, numberP, hw, rt, one1, pt1P (s := nx s u) hn]
      rw [htk]
      rfl
    have hl : parP c (f + 1) (.postLoop s.tk.2.2.1 s.nodes.length) (pu (nx s u) ⟨10, [], decV d, [], p⟩) = .ok [s.nodes.length] (pu (nx s u) ⟨10, [], decV d, [], p⟩) := post_end he (f + 1) (by omega)
    simp only [bodyP, bd, atP, hp]
    exact hl
/-- The parts of a chain: .b [0] (1) ! -/
def cT (x p : Nat) : List Tok := if x = 0 then [(9, [46], p, p + 1), (1, [98], p + 1, p + 2)] else if x = 1 then [(9, [91], p, p + 1), (3, [48], p + 1, p + 2), (9, [93], p + 2, p + 3)] else if x = 2 then [(9, [40], p, p + 1), (3, [49], p + 1, p + 2), (9, [41], p + 2, p + 3)] else [(9, [33], p, p + 1)]
def cW (x : Nat) : Nat := if x = 0 then 2 else if x = 1 ∨ x = 2 then 3 else 1
def chT : Nat → List Nat → List Tok
  | p, [] => [(10, [], p, p)]
  | p, x :: r => cT x p ++ chT (p + cW x) r
def kdI (x : Nat) : Int := if x = 0 then 29 else if x = 1 then 30 else if x = 2 then 27 else 34
/-- A leaf, or a node over a leaf. -/
def Lil (nodes : List PN) (k : Nat) : Prop := ∃ z, nodes[k]? = some z ∧ (z.kids = [] ∨ ∃ i w, z.kids = [i] ∧ i < k ∧ nodes[i]? = some w ∧ w.kids = [])
/-- Nodes that stand in a chain, each over the one ahead of it. -/
def Chn (nodes : List PN) : List Nat → Nat → Nat → Prop
  | [], x, x' => x = x'
  | p :: r, x, x' => ∃ y z rest, nodes[y]? = some z ∧ z.kind = kdI p ∧ z.kids = x :: rest ∧ x < y ∧ rest.length ≤ 2 ∧ (∀ k ∈ rest, k < y ∧ Lil nodes k) ∧ Chn nodes r y x'
theorem preG {l m : List PN} {k : Nat} {z : PN} (h : l <+: m) (e : l[k]? = some z) : m[k]? = some z := by
  obtain ⟨q, rfl⟩ := h
  rw [List.getElem?_append_left (List.getElem?_eq_some_iff.1 e).1]
  exact e
theorem Lil.pre {l m : List PN} {k : Nat} (h : Lil l k) (hp : l <+: m) : Lil m k := by
  obtain ⟨z, h1, h2⟩ := h
  refine ⟨z, preG hp h1, ?_⟩
  rcases h2 with h2 | ⟨i, w, h3, h4, h5, h6⟩
  · exact .inl h2
  · exact .inr ⟨i, w, h3, h4, preG hp h5, h6⟩
/-- Every node's kids are few, and stand ahead of it. -/
def KidsB (l : List PN) : Prop := ∀ (i : Nat) (x : PN), l[i]? = some x → x.kids.length ≤ 1000000 ∧ ∀ k ∈ x.kids, k < i
theorem KidsB.snoc {l : List PN} {x : PN} (h : KidsB l) (h1 : x.kids.length ≤ 1000000) (h2 : ∀ k ∈ x.kids, k < l.length) : KidsB (l ++ [x]) := by
  intro i y hy
  by_cases hi : i < l.length
  · rw [List.getElem?_append_left hi] at hy
    exact h i y hy
  · rw [List.getElem?_append_right (by omega)] at hy
    have : i - l.length = 0 := by
      rcases Nat.eq_zero_or_pos (i - l.length) with e | e
      · exact e
      · rw [List.getElem?_eq_none (by simp; omega)] at hy; cases hy
    rw [this] at hy
    cases hy
    exact ⟨h1, fun k hk => by have := h2 k hk; omega⟩
theorem chT_head (p : Nat) (ps : List Nat) : ∃ t r, chT p ps = t :: r ∧ (mark t = [46] ∨ mark t = [91] ∨ mark t = [40] ∨ mark t = [33] ∨ (ps = [] ∧ t = (10, [], p, p))) ∧ (ps ≠ [] → r ≠ []) := by
  cases ps with
  | nil => exact ⟨_, _, rfl, .inr (.inr (.inr (.inr ⟨rfl, rfl⟩))), fun h => absurd rfl h⟩
  | cons x r =>
    have hne : chT (p + cW x) r ≠ [] := by cases r <;> simp [chT, cT] <;> (repeat' split) <;> simp
    unfold chT cT
    by_cases h0 : x = 0
    · rw [if_pos h0]; exact ⟨_, _, rfl, .inl mark_sgn, fun _ => by simp⟩
    rw [if_neg h0]
    by_cases h1 : x = 1
    · rw [if_pos h1]; exact ⟨_, _, rfl, .inr (.inl mark_sgn), fun _ => by simp⟩
    rw [if_neg h1]
    by_cases h2 : x = 2
    · rw [if_pos h2]; exact ⟨_, _, rfl, .inr (.inr (.inl mark_sgn)), fun _ => by simp⟩
    rw [if_neg h2]
    exact ⟨_, _, rfl, .inr (.inr (.inr (.inl mark_sgn))), fun _ => by simpa using hne⟩
end Go.Proofs.YtofgphapjjofnaaGreatDoor
