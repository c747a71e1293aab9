/- The whole of a chain, as an expression. -/
import Derived.Test.YtofgphapjjofnaaGreatDoorCC
namespace Go.Proofs.YtofgphapjjofnaaGreatDoor
set_option linter.unusedSimpArgs false
set_option linter.unusedVariables false

/-- The whole of "a" and a chain. -/
theorem chain_expr {c : Cx} {ps : List Nat} {s : PS} (hp : ∀ p ∈ ps, p < 4) (hV : Vw c s ((1, [97], 0, 1) :: chT 1 ps)) (hnc : ∀ i, s.nc.getD i false = false) (hn : s.nodes = []) (hps : ps.length ≤ 40) :
    ∃ x' s', Rd c 100 .expr s (.ok [x'] s') ∧ s'.tk.1 = 10 ∧ x' < s'.nodes.length ∧ KidsB s'.nodes ∧ s'.nodes.length ≤ 161 ∧ (∃ z, s'.nodes[0]? = some z ∧ z.kind = 17 ∧ z.kids = []) ∧ Chn s'.nodes ps 0 x' := by
  obtain ⟨t, r, ht, hmt, _⟩ := chT_head 1 ps
  have V0 : Vw c s ((1, [97], 0, 1) :: t :: r) := by rw [← ht]; exact hV
  have V1 := V0.nx.2
  have htk := V0.tk
  have hK : KidsB [(⟨17, [97], 0, [], 0⟩ : PN)] := by
    have := KidsB.snoc (l := []) (x := ⟨17, [97], 0, [], 0⟩) (fun i x hx => by simp at hx) (by simp) (by simp)
    exact this
  have hnl : s.nodes.length < 1000000 := by rw [hn]; simp
  obtain ⟨x', s', h1, h2, h3, h4, h5, h6, h7⟩ := post_chain (c := c) (at' := s.tk.2.2.1) ps 1 (pu (nx s t) ⟨17, [97], 0, [], 0⟩) 0 hp (by rw [ht]; exact V1) hnc (by simp [pu, nx]) (by simp only [pu, nx, hn, List.nil_append]; exact hK) (by simp [pu, nx, hn]; omega)
  have hlen : (pu (nx s t) ⟨17, [97], 0, [], 0⟩).nodes = [⟨17, [97], 0, [], 0⟩] := by simp [pu, nx, hn]
  have hm' : mark s'.tk = [] := by
    unfold mark
    rw [h2]
    simp
  refine ⟨x', s', ?_, h2, h4, h5, by rw [hlen] at h6; simp at h6; omega, ⟨⟨17, [97], 0, [], 0⟩, preG h3 (by rw [hlen]; rfl), rfl, rfl⟩, h7⟩
  refine (up_all (k := 72) ?_ ?_ (end_mark (.inr (.inr hm'))) ?_).mono (by omega)
  · rw [htk, if_pos rfl, V0.behind]
    rcases hmt with h | h | h | h | ⟨_, h⟩
    · simp [isT, h]
    · simp [isT, h]
    · simp [isT, h]
    · simp [isT, h]
    · rw [h]; simp [isT, mark_end]
  · rw [htk, mark_name]; rfl
  · refine (Rd.step (k := 71) fun F hF => ?_)
    obtain ⟨f, rfl⟩ : ∃ f, F = f + 1 := ⟨F - 1, by omega⟩
    have k1 : s.tk.1 = 1 := by rw [htk]
    have hw : wantKindP c 1 s = .ok (1, [97], 0, 1) (nx s t) := by unfold wantKindP; rw [if_pos k1]; exact V0.nx.1
    have hpr : parP c (f + 1) .primary s = .ok [0] (pu (nx s t) ⟨17, [97], 0, [], 0⟩) := by
      show bodyP c (parP c f) .primary s = _
      have n3 : ¬ ((1 : Int) = 3) := by decide
      have n4 : ¬ ((1 : Int) = 4) := by decide
      have n5 : ¬ ((1 : Int) = 5 ∨ (1 : Int) = 6) := by decide
      simp only [bodyP, bd, atP, kindP, k1, n3, n4, n5, if_false, if_true, nameP, hw, rt, one1, pt1P (s := nx s t) hnl]
      rw [htk]
      simp [nx, hn]
    simp only [bodyP, bd, atP, hpr]
    exact h1 (f + 1) (by omega)
end Go.Proofs.YtofgphapjjofnaaGreatDoor
