/- A chain, laid out. -/
import Derived.Test.YtofgphapjjofnaaGreatDoorCD
namespace Go.Proofs.YtofgphapjjofnaaGreatDoor
set_option linter.unusedSimpArgs false
set_option linter.unusedVariables false

def pnq : PN := ⟨0, [], 0, [], 0⟩
theorem layPq (nodes : List PN) (f n : Nat) (t : List PN) : layP nodes (f + 1) n t = (((nodes.getD n pnq).kids.foldl (fun (a : List PN × List Nat) k => ((layP nodes f k a.1).1, a.2 ++ [(layP nodes f k a.1).2])) (t ++ [nodes.getD n pnq], [])).1.set t.length { nodes.getD n pnq with kids := ((nodes.getD n pnq).kids.foldl (fun (a : List PN × List Nat) k => ((layP nodes f k a.1).1, a.2 ++ [(layP nodes f k a.1).2])) (t ++ [nodes.getD n pnq], [])).2 }, t.length) := rfl
theorem setMq (t q : List PN) (x y : PN) : (t ++ [x] ++ q).set t.length y = t ++ [y] ++ q := by simp
theorem getOq {nodes : List PN} {k : Nat} {z : PN} (h : nodes[k]? = some z) : nodes.getD k pnq = z := by rw [List.getD_eq_getElem?_getD, h]; rfl
theorem leaf_lay {nodes : List PN} {k f : Nat} {z : PN} (h : nodes[k]? = some z) (hk : z.kids = []) (t : List PN) : layP nodes (f + 1) k t = (t ++ [z], t.length) := by
  rw [layPq, getOq h, hk]
  simp only [List.foldl_nil]
  have e : ({ z with kids := ([] : List Nat) } : PN) = z := by rw [← hk]
  rw [e]
  simp
theorem lil_lay {nodes : List PN} {k f : Nat} (h : Lil nodes k) (hf : k < f) (t : List PN) : ∃ q, layP nodes f k t = (t ++ q, t.length) ∧ q.length ≤ 2 := by
  obtain ⟨f, rfl⟩ : ∃ g, f = g + 1 := ⟨f - 1, by omega⟩
  obtain ⟨z, hz, hk | ⟨i, w, hk, hi, hw, hwk⟩⟩ := h
  · exact ⟨[z], leaf_lay hz hk t, by simp⟩
  · obtain ⟨f, rfl⟩ : ∃ g, f = g + 1 := ⟨f - 1, by omega⟩
    refine ⟨[{ z with kids := [(t ++ [z]).length] }, w], ?_, by simp⟩
    rw [layPq, getOq hz, hk]
    simp only [List.foldl_cons, List.foldl_nil, leaf_lay hw hwk]
    have e : ({ kind := z.kind, text := z.text, num := z.num, kids := [] ++ [(t ++ [z]).length], loc := z.loc } : PN) = { z with kids := [(t ++ [z]).length] } := rfl
    rw [setMq]
    simp
theorem lil_fold {nodes : List PN} {f : Nat} : ∀ (rest : List Nat) (a : List PN × List Nat), (∀ k ∈ rest, k < f ∧ Lil nodes k) → ∃ q l, rest.foldl (fun (a : List PN × List Nat) k => ((layP nodes f k a.1).1, a.2 ++ [(layP nodes f k a.1).2])) a = (a.1 ++ q, a.2 ++ l) ∧ q.length ≤ 2 * rest.length
  | [], a, _ => ⟨[], [], by simp, by simp⟩
  | k :: rest, a, h => by
    obtain ⟨hk, hL⟩ := h k (List.mem_cons_self ..)
    obtain ⟨q, e, hq⟩ := lil_lay hL hk a.1
    obtain ⟨q', l', e', hq'⟩ := lil_fold rest (a.1 ++ q, a.2 ++ [a.1.length]) fun k hk => h k (List.mem_cons_of_mem _ hk)
    refine ⟨q ++ q', a.1.length :: l', ?_, by simp; omega⟩
    rw [List.foldl_cons, e, e']
    simp
theorem chn_snoc {nodes : List PN} {p : Nat} : ∀ (ps : List Nat) (x x' : Nat), Chn nodes (ps ++ [p]) x x' → ∃ y z rest, Chn nodes ps x y ∧ nodes[x']? = some z ∧ z.kind = kdI p ∧ z.kids = y :: rest ∧ y < x' ∧ rest.length ≤ 2 ∧ ∀ k ∈ rest, k < x' ∧ Lil nodes k
  | [], x, x', h => by
    obtain ⟨y, z, rest, h1, h2, h3, h4, h5, h6, rfl⟩ := h
    exact ⟨x, z, rest, rfl, h1, h2, h3, h4, h5, h6⟩
  | a :: ps, x, x', h => by
    obtain ⟨y, z, rest, h1, h2, h3, h4, h5, h6, h7⟩ := h
    obtain ⟨y', z', rest', g1, g2, g3, g4, g5, g6, g7⟩ := chn_snoc ps y x' h7
    exact ⟨y', z', rest', ⟨y, z, rest, h1, h2, h3, h4, h5, h6, g1⟩, g2, g3, g4, g5, g6, g7⟩
/-- The chain's nodes, laid out: the root first, each one's first kid right behind it. -/
theorem chn_lay {nodes : List PN} {z0 : PN} (h0 : nodes[0]? = some z0) (hk0 : z0.kids = []) : ∀ (m : Nat) (ps : List Nat) (x' : Nat), ps.length = m → Chn nodes ps 0 x' → ∀ f t, x' < f → ∃ q, layP nodes f x' t = (t ++ q, t.length) ∧ q.length ≤ 5 * m + 1 ∧ (∀ j, j < m → ∃ z p, q[j]? = some z ∧ ps[m - 1 - j]? = some p ∧ z.kind = kdI p ∧ ∃ l, z.kids = (t.length + j + 1) :: l) ∧ ∃ z, q[m]? = some z ∧ z.kind = z0.kind
  | 0, ps, x', hl, h, f, t, hf => by
    obtain rfl : ps = [] := List.eq_nil_of_length_eq_zero hl
    obtain rfl : 0 = x' := h
    obtain ⟨f, rfl⟩ : ∃ g, f = g + 1 := ⟨f - 1, by omega⟩
    exact ⟨[z0], leaf_lay h0 hk0 t, by simp, fun j hj => by omega, z0, rfl, rfl⟩
  | m + 1, ps, x', hl, h, f, t, hf => by
    obtain ⟨qs, p, rfl⟩ : ∃ qs p, ps = qs ++ [p] := by
      rcases List.eq_nil_or_concat ps with e | ⟨qs, p, e⟩
      · rw [e] at hl; simp at hl
      · exact ⟨qs, p, by rw [e]; simp⟩
    have hql : qs.length = m := by simpa using hl
    obtain ⟨y, z, rest, hc, hz, hkd, hki, hy, hr, hL⟩ := chn_snoc qs 0 x' h
    obtain ⟨f, rfl⟩ : ∃ g, f = g + 1 := ⟨f - 1, by omega⟩
    obtain ⟨q, e, hq, hq1, z1, hz1, hzk⟩ := chn_lay h0 hk0 m qs y hql hc f (t ++ [z]) (by omega)
    obtain ⟨q2, l2, e2, hq2⟩ := lil_fold (f := f) rest (t ++ [z] ++ q, [(t ++ [z]).length]) fun k hk => ⟨by have := (hL k hk).1; omega, (hL k hk).2⟩
    refine ⟨{ z with kids := [(t ++ [z]).length] ++ l2 } :: (q ++ q2), ?_, by simp; omega, fun j hj => ?_, z1, ?_, hzk⟩
    · rw [layPq, getOq hz, hki]
      simp only [List.foldl_cons, e, List.nil_append, e2]
      rw [List.append_assoc (t ++ [z]) q q2, setMq]
      simp
    · cases j with
      | zero => exact ⟨_, p, rfl, by rw [List.getElem?_append_right (by omega)]; simp [hql], hkd, l2, by simp⟩
      | succ j =>
        obtain ⟨w, p', w1, w2, w3, l, w4⟩ := hq1 j (by omega)
        refine ⟨w, p', ?_, ?_, w3, l, by rw [w4]; simp; omega⟩
        · rw [List.getElem?_cons_succ, List.getElem?_append_left (List.getElem?_eq_some_iff.1 w1).1]
          exact w1
        · rw [List.getElem?_append_left (by omega), show m + 1 - 1 - (j + 1) = m - 1 - j by omega]
          exact w2
    · rw [List.getElem?_cons_succ, List.getElem?_append_left (List.getElem?_eq_some_iff.1 hz1).1]
      exact hz1
end Go.Proofs.YtofgphapjjofnaaGreatDoor
