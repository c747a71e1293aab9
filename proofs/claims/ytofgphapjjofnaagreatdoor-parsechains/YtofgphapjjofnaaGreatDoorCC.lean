/- A chain is read to its end. -/
import Derived.Test.YtofgphapjjofnaaGreatDoorCB
namespace Go.Proofs.YtofgphapjjofnaaGreatDoor
set_option linter.unusedSimpArgs false
set_option linter.unusedVariables false

theorem end_mark {m : List Int} (h : m = [93] ∨ m = [41] ∨ m = []) : endB m = true := by
  rcases h with rfl | rfl | rfl <;> decide +kernel
set_option maxHeartbeats 1000000 in
/-- A chain is read to its end. -/
theorem post_chain {c : Cx} {at' : Nat} : ∀ (ps : List Nat) (pos : Nat) (s : PS) (x : Nat), (∀ p ∈ ps, p < 4) → Vw c s (chT pos ps) → (∀ i, s.nc.getD i false = false) → x < s.nodes.length → KidsB s.nodes → s.nodes.length + 4 * ps.length < 1000000 →
    ∃ x' s', Rd c (30 + ps.length) (.postLoop at' x) s (.ok [x'] s') ∧ s'.tk.1 = 10 ∧ s.nodes <+: s'.nodes ∧ x' < s'.nodes.length ∧ KidsB s'.nodes ∧ s'.nodes.length ≤ s.nodes.length + 4 * ps.length ∧ Chn s'.nodes ps x x'
  | [], pos, s, x, _, hV, _, hx, hK, _ => by
    have htk : s.tk = (10, [], pos, pos) := hV.2
    refine ⟨x, s, (post_end (end_mark (.inr (.inr ?_)))).mono (by simp), by rw [htk], List.prefix_refl _, hx, hK, by simp, rfl⟩
    rw [htk]; exact mark_end
  | p :: ps, pos, s, x, hp, hV, hnc, hx, hK, hN => by
    have hps : ∀ q ∈ ps, q < 4 := fun q hq => hp q (List.mem_cons_of_mem _ hq)
    have hp4 := hp p (List.mem_cons_self ..)
    obtain ⟨t, r, ht, hmt, _⟩ := chT_head (pos + cW p) ps
    simp only [List.length_cons] at hN ⊢
    obtain rfl | rfl | rfl | rfl : p = 0 ∨ p = 1 ∨ p = 2 ∨ p = 3 := by omega
    · have V0 : Vw c s ((9, [46], pos, pos + 1) :: (1, [98], pos + 1, pos + 2) :: t :: r) := by rw [← ht]; exact hV
      have V1 := V0.nx.2
      have V2 := V1.nx.2
      have hn : s.nodes.length < 1000000 := by omega
      obtain ⟨x', s', h1, h2, h3, h4, h5, h6, h7⟩ := post_chain (at' := at') ps (pos + 2) (pu (nx (nx s (1, [98], pos + 1, pos + 2)) t) ⟨29, [98], 0, [x], at'⟩) s.nodes.length hps (by rw [show chT (pos + 2) ps = t :: r from ht]; exact V2) hnc (by simp [pu, nx]) (hK.snoc (by simp) (by simpa using hx)) (by simp [pu, nx]; omega)
      have hpre : s.nodes <+: s'.nodes := (List.prefix_append _ _).trans h3
      refine ⟨x', s', (Rd.step (k := 30 + ps.length) fun F hF => ?_).mono (by omega), h2, hpre, h4, h5, by simp [pu, nx] at h6; omega, s.nodes.length, ⟨29, [98], 0, [x], at'⟩, [], preG h3 (by simp [pu, nx]), rfl, rfl, hx, by simp, by simp, h7⟩
      have k1 : (nx s (1, [98], pos + 1, pos + 2)).tk.1 = 1 := rfl
      have hw : wantKindP c 1 (nx s (1, [98], pos + 1, pos + 2)) = .ok (1, [98], pos + 1, pos + 2) (nx (nx s (1, [98], pos + 1, pos + 2)) t) := by unfold wantKindP; rw [if_pos k1]; exact V1.nx.1
      simp only [bodyP, bd, tk1P V0 mark_sgn, if_true, nameP, hw, rt, pt1P (s := nx (nx s (1, [98], pos + 1, pos + 2)) t) hn]
      exact h1 F hF
    · have V0 : Vw c s ((9, [91], pos, pos + 1) :: (3, [48], pos + 1, pos + 2) :: (9, [93], pos + 2, pos + 3) :: t :: r) := by rw [← ht]; exact hV
      have V1 := V0.nx.2
      have V2 := V1.nx.2
      have V3 := V2.nx.2
      have hm0 : mark s.tk = [91] := by rw [V0.tk]; exact mark_sgn
      have hn : s.nodes.length < 1000000 := by omega
      have hn2 : s.nodes.length + 1 < 1000000 := by omega
      have he : endB (mark (9, [93], pos + 2, pos + 3)) = true := end_mark (.inl mark_sgn)
      have hE := num_expr V1 he hn
      have hK1 : KidsB (s.nodes ++ [(⟨10, [], decV [48], [], pos + 1⟩ : PN)]) := hK.snoc (by simp) (by simp)
      obtain ⟨x', s', h1, h2, h3, h4, h5, h6, h7⟩ := post_chain (at' := at') ps (pos + 3) (pu (nx (pu (nx (nx s (3, [48], pos + 1, pos + 2)) (9, [93], pos + 2, pos + 3)) ⟨10, [], decV [48], [], pos + 1⟩) t) ⟨30, [], 0, [x, s.nodes.length], at'⟩) (s.nodes.length + 1) hps (by rw [show chT (pos + 3) ps = t :: r from ht]; exact V3) hnc (by simp [pu, nx]) (hK1.snoc (by simp) (by simp; omega)) (by simp [pu, nx]; omega)
      have hpre : s.nodes <+: s'.nodes := ((List.prefix_append _ _).trans (List.prefix_append _ _)).trans h3
      refine ⟨x', s', (Rd.step (k := 30 + ps.length) fun F hF => ?_).mono (by omega), h2, hpre, h4, h5, by simp [pu, nx] at h6; omega, s.nodes.length + 1, ⟨30, [], 0, [x, s.nodes.length], at'⟩, [s.nodes.length], preG h3 (by simp [pu, nx]), rfl, rfl, by omega, by simp, ?_, h7⟩
      · have hw : wantP c [93] (pu (nx (nx s (3, [48], pos + 1, pos + 2)) (9, [93], pos + 2, pos + 3)) ⟨10, [], decV [48], [], pos + 1⟩) = .ok () _ := wt1P (V2.pu _) mark_sgn
        have hE' := hE F (by omega)
        simp only [bodyP, bd, tk0P (x := [46]) (by rw [hm0]; decide), Bool.false_eq_true, if_false, tk1P V0 mark_sgn, if_true, hE', hw, rt]
        have hpy := pt1P (x := ⟨30, [], 0, [x, s.nodes.length], at'⟩) (s := nx (pu (nx (nx s (3, [48], pos + 1, pos + 2)) (9, [93], pos + 2, pos + 3)) ⟨10, [], decV [48], [], pos + 1⟩) t) (by simp [pu, nx]; omega)
        simp only [hd0, List.getD_cons_zero]
        have e : (nx s (3, [48], pos + 1, pos + 2)).nodes.length = s.nodes.length := rfl
        rw [e, hpy]
        have e2 : (nx (pu (nx (nx s (3, [48], pos + 1, pos + 2)) (9, [93], pos + 2, pos + 3)) ⟨10, [], decV [48], [], pos + 1⟩) t).nodes.length = s.nodes.length + 1 := by simp [pu, nx]
        rw [e2]
        exact h1 F hF
      · intro k hk
        rw [List.mem_singleton] at hk
        subst hk
        exact ⟨by omega, ⟨10, [], decV [48], [], pos + 1⟩, preG h3 (by simp [pu, nx]), .inl rfl⟩
    · have V0 : Vw c s ((9, [40], pos, pos + 1) :: (3, [49], pos + 1, pos + 2) :: (9, [41], pos + 2, pos + 3) :: t :: r) := by rw [← ht]; exact hV
      have hm0 : mark s.tk = [40] := by rw [V0.tk]; exact mark_sgn
      have hn : s.nodes.length < 1000000 := by omega
      -- the list of types
      have W0 : Vw c (pu s ⟨2, [], 0, [], 0⟩) ((9, [40], pos, pos + 1) :: (3, [49], pos + 1, pos + 2) :: (9, [41], pos + 2, pos + 3) :: t :: r) := V0.pu _
      have V1 := W0.nx.2
      have V2 := V1.nx.2
      have V3 := V2.nx.2
      have he : endB (mark (9, [41], pos + 2, pos + 3)) = true := end_mark (.inr (.inl mark_sgn))
      have hn1 : (nx (pu s ⟨2, [], 0, [], 0⟩) (3, [49], pos + 1, pos + 2)).nodes.length < 1000000 := by simp [pu, nx]; omega
      have hE := num_expr V1 he hn1
      have eL : (nx (pu s ⟨2, [], 0, [], 0⟩) (3, [49], pos + 1, pos + 2)).nodes.length = s.nodes.length + 1 := by simp [pu, nx]
      rw [eL] at hE
      have hK1 : KidsB (s.nodes ++ [(⟨2, [], 0, [], 0⟩ : PN)]) := hK.snoc (by simp) (by simp)
      have hK2 : KidsB (s.nodes ++ [(⟨2, [], 0, [], 0⟩ : PN)] ++ [(⟨10, [], decV [49], [], pos + 1⟩ : PN)]) := hK1.snoc (by simp) (by simp)
      have hK3 : KidsB (s.nodes ++ [(⟨2, [], 0, [], 0⟩ : PN)] ++ [(⟨10, [], decV [49], [], pos + 1⟩ : PN)] ++ [(⟨2, [], 0, [s.nodes.length + 1], 0⟩ : PN)]) := hK2.snoc (by simp) (by simp)
      let s3 : PS := pu (nx (nx (pu s ⟨2, [], 0, [], 0⟩) (3, [49], pos + 1, pos + 2)) (9, [41], pos + 2, pos + 3)) ⟨10, [], decV [49], [], pos + 1⟩
      let s5 : PS := pu (nx s3 t) ⟨2, [], 0, [s.nodes.length + 1], 0⟩
      obtain ⟨x', s', h1, h2, h3, h4, h5, h6, h7⟩ := post_chain (at' := at') ps (pos + 3) (pu s5 ⟨27, [], 0, [x, s.nodes.length, s.nodes.length + 2], at'⟩) (s.nodes.length + 3) hps (by rw [show chT (pos + 3) ps = t :: r from ht]; exact V3) hnc (by simp [s5, s3, pu, nx]) (hK3.snoc (by simp) (by simp; omega)) (by simp [s5, s3, pu, nx]; omega)
      have hpre : s.nodes <+: s'.nodes := ((((List.prefix_append _ _).trans (List.prefix_append _ _)).trans (List.prefix_append _ _)).trans (List.prefix_append _ _)).trans h3
      refine ⟨x', s', (Rd.step (k := 30 + ps.length) fun F hF => ?_).mono (by omega), h2, hpre, h4, h5, by simp [s5, s3, pu, nx] at h6; omega, s.nodes.length + 3, ⟨27, [], 0, [x, s.nodes.length, s.nodes.length + 2], at'⟩, [s.nodes.length, s.nodes.length + 2], preG h3 (by simp [s5, s3, pu, nx]), rfl, rfl, by omega, by simp, ?_, h7⟩
      · obtain ⟨f, rfl⟩ : ∃ f, F = f + 4 := ⟨F - 4, by omega⟩
        have hT : parP c (f + 3) .typeArgs s = .ok [s.nodes.length] (pu s ⟨2, [], 0, [], 0⟩) := by
          show bodyP c (parP c (f + 2)) .typeArgs s = _
          have i2 : isP [60] s = false := by simp [isP, isT, hm0]
          simp only [bodyP, bd, testP, i2, if_true, one1, listP, pt1P hn, rt]
        have hC : parP c (f + 4) .callTypes s = .ok [s.nodes.length] (pu s ⟨2, [], 0, [], 0⟩) := by
          show bodyP c (parP c (f + 3)) .callTypes s = _
          have i1 : isP [40] s = true := by simp [isP, isT, hm0]
          have i3 : isP [40] (pu s ⟨2, [], 0, [], 0⟩) = true := i1
          simp only [bodyP, i1, hnc, hT, i3, Bool.true_eq_false, false_and, Bool.false_eq_true, or_self, if_false, if_true]
        have hw0 : wantP c [40] (pu s ⟨2, [], 0, [], 0⟩) = .ok () _ := wt1P W0 mark_sgn
        have hno : takeP c [41] (nx (pu s ⟨2, [], 0, [], 0⟩) (3, [49], pos + 1, pos + 2)) = .ok false _ := tk0P (by rw [show (nx (pu s ⟨2, [], 0, [], 0⟩) (3, [49], pos + 1, pos + 2)).tk = (3, [49], pos + 1, pos + 2) from rfl, mark_num]; decide)
        have hS : parP c (f + 2) (.several .expr) (nx (pu s ⟨2, [], 0, [], 0⟩) (3, [49], pos + 1, pos + 2)) = .ok [s.nodes.length + 1] s3 := by
          show bodyP c (parP c (f + 1)) (.several .expr) _ = _
          simp only [bodyP, bd, hE (f + 1) (by omega), hd0, List.getD_cons_zero]
          show bodyP c (parP c f) (.sevLoop .expr [s.nodes.length + 1]) s3 = _
          have hno2 : takeP c [44] s3 = .ok false s3 := tk0P (by rw [show s3.tk = (9, [41], pos + 2, pos + 3) from rfl, mark_sgn]; decide)
          simp only [bodyP, bd, cp1P (l := [s.nodes.length + 1]) (s := s3) (by simp), hno2, Bool.false_eq_true, if_false, rt]
        have hw1 : wantP c [41] s3 = .ok () (nx s3 t) := wt1P (V2.pu _) mark_sgn
        have hEn : parP c (f + 3) (.enclosed [40] [41] .expr) (pu s ⟨2, [], 0, [], 0⟩) = .ok [s.nodes.length + 1] (nx s3 t) := by
          show bodyP c (parP c (f + 2)) (.enclosed [40] [41] .expr) _ = _
          simp only [bodyP, bd, hw0, hno, Bool.false_eq_true, if_false, hS, hw1, rt]
        have hpl := pt1P (x := ⟨2, [], 0, [s.nodes.length + 1], 0⟩) (s := nx s3 t) (by simp [s3, pu, nx]; omega)
        have e5 : (nx s3 t).nodes.length = s.nodes.length + 2 := by simp [s3, pu, nx]
        have hA : parP c (f + 4) .args (pu s ⟨2, [], 0, [], 0⟩) = .ok [s.nodes.length + 2] s5 := by
          show bodyP c (parP c (f + 3)) .args _ = _
          simp only [bodyP, bd, hEn, one1, listP, hpl, rt, e5]
          rfl
        have hp27 := pt1P (x := ⟨27, [], 0, [x, s.nodes.length, s.nodes.length + 2], at'⟩) (s := s5) (by simp [s5, s3, pu, nx]; omega)
        have e6 : s5.nodes.length = s.nodes.length + 3 := by simp [s5, s3, pu, nx]
        rw [e6] at hp27
        simp only [bodyP, bd, tk0P (x := [46]) (s := s) (by rw [hm0]; decide), tk0P (x := [91]) (s := s) (by rw [hm0]; decide), tk0P (x := [33]) (s := s) (by rw [hm0]; decide), Bool.false_eq_true, if_false, hC, List.cons_ne_nil, hA, hd0, List.getD_cons_zero, hp27]
        exact h1 (f + 4) hF
      · intro k hk
        rcases List.mem_cons.1 hk with rfl | hk
        · exact ⟨by omega, ⟨2, [], 0, [], 0⟩, preG h3 (by simp [s5, s3, pu, nx]), .inl rfl⟩
        · rw [List.mem_singleton] at hk
          subst hk
          exact ⟨by omega, ⟨2, [], 0, [s.nodes.length + 1], 0⟩, preG h3 (by simp [s5, s3, pu, nx]), .inr ⟨s.nodes.length + 1, ⟨10, [], decV [49], [], pos + 1⟩, rfl, by omega, preG h3 (by simp [s5, s3, pu, nx]), rfl⟩⟩
    · have V0 : Vw c s ((9, [33], pos, pos + 1) :: t :: r) := by rw [← ht]; exact hV
      have V1 := V0.nx.2
      have hm0 : mark s.tk = [33] := by rw [V0.tk]; exact mark_sgn
      have hn : s.nodes.length < 1000000 := by omega
      obtain ⟨x', s', h1, h2, h3, h4, h5, h6, h7⟩ := post_chain (at' := at') ps (pos + 1) (pu (nx s t) ⟨34, [], 0, [x], at'⟩) s.nodes.length hps (by rw [show chT (pos + 1) ps = t :: r from ht]; exact V1) hnc (by simp [pu, nx]) (hK.snoc (by simp) (by simpa using hx)) (by simp [pu, nx]; omega)
      have hpre : s.nodes <+: s'.nodes := (List.prefix_append _ _).trans h3
      refine ⟨x', s', (Rd.step (k := 30 + ps.length) fun F hF => ?_).mono (by omega), h2, hpre, h4, h5, by simp [pu, nx] at h6; omega, s.nodes.length, ⟨34, [], 0, [x], at'⟩, [], preG h3 (by simp [pu, nx]), rfl, rfl, hx, by simp, by simp, h7⟩
      simp only [bodyP, bd, tk0P (x := [46]) (s := s) (by rw [hm0]; decide), tk0P (x := [91]) (s := s) (by rw [hm0]; decide), Bool.false_eq_true, if_false, tk1P V0 mark_sgn, if_true, pt1P (s := nx s t) hn]
      exact h1 F hF
end Go.Proofs.YtofgphapjjofnaaGreatDoor
