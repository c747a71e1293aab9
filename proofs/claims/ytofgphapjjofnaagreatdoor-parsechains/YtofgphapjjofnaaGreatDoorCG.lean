/- A chain is read, purely. -/
import Derived.Test.YtofgphapjjofnaaGreatDoorCF
namespace Go.Proofs.YtofgphapjjofnaaGreatDoor
set_option linter.unusedSimpArgs false
set_option linter.unusedVariables false

def opb (t : Tok) : Nat := (tn t.1 (strOfNums t.2.1)).toNat
theorem sum_pre (l : List Tok) : ∀ i, ((List.range i).map fun j => opb (l.getD j tok0)).sum ≤ (l.map opb).sum := by
  induction l with
  | nil =>
    intro i
    have h0 : opb tok0 = 0 := by decide +kernel
    induction i with
    | zero => simp
    | succ i ih =>
      rw [List.range_succ, List.map_append, List.sum_append]
      have e0 : ([] : List Tok).getD i tok0 = tok0 := rfl
      simp only [List.map_nil, List.sum_nil, List.map_cons, List.sum_cons, e0, h0] at ih ⊢
      omega
  | cons t l ih =>
    intro i
    cases i with
    | zero => simp
    | succ i =>
      rw [List.range_succ_eq_map, List.map_cons, List.map_map, List.sum_cons, List.map_cons, List.sum_cons]
      have := ih i
      have e : ((fun j => opb ((t :: l).getD j tok0)) ∘ Nat.succ) = fun j => opb (l.getD j tok0) := by
        funext j
        simp
      rw [e]
      simp only [List.getD_cons_zero]
      omega
theorem cT_opb {x : Nat} (hx : x < 4) (p : Nat) : ((cT x p).map opb).sum ≤ 1 := by
  obtain rfl | rfl | rfl | rfl : x = 0 ∨ x = 1 ∨ x = 2 ∨ x = 3 := by omega
  · have e : ((cT 0 p).map opb).sum = (tn 9 (strOfNums [46])).toNat + ((tn 1 (strOfNums [98])).toNat + 0) := rfl
    rw [e]; decide +kernel
  · have e : ((cT 1 p).map opb).sum = (tn 9 (strOfNums [91])).toNat + ((tn 3 (strOfNums [48])).toNat + ((tn 9 (strOfNums [93])).toNat + 0)) := rfl
    rw [e]; decide +kernel
  · have e : ((cT 2 p).map opb).sum = (tn 9 (strOfNums [40])).toNat + ((tn 3 (strOfNums [49])).toNat + ((tn 9 (strOfNums [41])).toNat + 0)) := rfl
    rw [e]; decide +kernel
  · have e : ((cT 3 p).map opb).sum = (tn 9 (strOfNums [33])).toNat + 0 := rfl
    rw [e]; decide +kernel
theorem chT_opb : ∀ (ps : List Nat) (p : Nat), (∀ q ∈ ps, q < 4) → ((chT p ps).map opb).sum ≤ ps.length
  | [], p, _ => by
    have e : ((chT p []).map opb).sum = (tn 10 (strOfNums [])).toNat + 0 := rfl
    rw [e]; decide +kernel
  | x :: ps, p, h => by
    have h1 := cT_opb (h x (List.mem_cons_self ..)) p
    have h2 := chT_opb ps (p + cW x) fun q hq => h q (List.mem_cons_of_mem _ hq)
    simp only [chT, List.map_append, List.sum_append, List.length_cons]
    omega
def chL (ps : List Nat) : List Tok := (1, [97], 0, 1) :: chT 1 ps
theorem chL_deep {ps : List Nat} (hp : ∀ q ∈ ps, q < 4) (hl : ps.length ≤ 40) : deepF (chL ps) < 0 := by
  unfold deepF
  rw [fN_few fun i => ?_]
  · decide
  · have h1 := cN_few (K := fun j => ((chL ps).getD j tok0).1) (T := fun j => strOfNums ((chL ps).getD j tok0).2.1) (b := fun j => opb ((chL ps).getD j tok0)) (fun j => by unfold opb; omega) i
    have h2 := sum_pre (chL ps) i
    have h3 := chT_opb ps 1 hp
    have h4 : opb (1, [97], 0, 1) = 0 := by decide +kernel
    have h5 : ((chL ps).map opb).sum = opb (1, [97], 0, 1) + ((chT 1 ps).map opb).sum := rfl
    omega
theorem chT_mem : ∀ (ps : List Nat) (p : Nat), (∀ q ∈ ps, q < 4) → (∀ t ∈ chT p ps, Bys t.2.1 ∧ (t.1 = 3 → NumOk t.2.1) ∧ t.2.2.1 + t.2.1.length ≤ p + 3 * ps.length + 1) ∧ (chT p ps).length ≤ 3 * ps.length + 1 ∧ ∃ q e, chT p ps = q ++ [(10, [], e, e)]
  | [], p, _ => ⟨fun t ht => by
      simp only [chT, List.mem_singleton] at ht
      subst ht
      exact ⟨fun z hz => by simp at hz, fun h => absurd h (by simp), by simp⟩, by simp [chT], [], p, rfl⟩
  | x :: ps, p, h => by
    have hx := h x (List.mem_cons_self ..)
    obtain ⟨i1, i2, q, e, i3⟩ := chT_mem ps (p + cW x) fun q hq => h q (List.mem_cons_of_mem _ hq)
    have hw : cW x ≤ 3 := by unfold cW; split <;> (try split) <;> decide
    refine ⟨fun t ht => ?_, ?_, cT x p ++ q, e, by rw [chT, i3, List.append_assoc]⟩
    · rcases List.mem_append.1 ht with h1 | h1
      · simp only [List.length_cons]
        obtain rfl | rfl | rfl | rfl : x = 0 ∨ x = 1 ∨ x = 2 ∨ x = 3 := by omega
        · simp only [cT, if_true, List.mem_cons, List.not_mem_nil, or_false] at h1
          rcases h1 with rfl | rfl
          · exact ⟨fun z hz => by simp at hz; omega, fun h => absurd h (by simp), by simp <;> omega⟩
          · exact ⟨fun z hz => by simp at hz; omega, fun h => absurd h (by simp), by simp <;> omega⟩
        · simp only [cT, if_true, List.mem_cons, List.not_mem_nil, or_false, if_neg (show ¬ (1 = 0) by decide)] at h1
          rcases h1 with rfl | rfl | rfl
          · exact ⟨fun z hz => by simp at hz; omega, fun h => absurd h (by simp), by simp <;> omega⟩
          · exact ⟨fun z hz => by simp at hz; omega, fun h => ⟨by simp, by simp, fun d hd => by simp at hd; omega⟩, by simp <;> omega⟩
          · exact ⟨fun z hz => by simp at hz; omega, fun h => absurd h (by simp), by simp <;> omega⟩
        · simp only [cT, if_true, List.mem_cons, List.not_mem_nil, or_false, if_neg (show ¬ (2 = 0) by decide), if_neg (show ¬ (2 = 1) by decide)] at h1
          rcases h1 with rfl | rfl | rfl
          · exact ⟨fun z hz => by simp at hz; omega, fun h => absurd h (by simp), by simp <;> omega⟩
          · exact ⟨fun z hz => by simp at hz; omega, fun h => ⟨by simp, by simp, fun d hd => by simp at hd; omega⟩, by simp <;> omega⟩
          · exact ⟨fun z hz => by simp at hz; omega, fun h => absurd h (by simp), by simp <;> omega⟩
        · simp only [cT, if_true, List.mem_cons, List.not_mem_nil, or_false, if_neg (show ¬ (3 = 0) by decide), if_neg (show ¬ (3 = 1) by decide), if_neg (show ¬ (3 = 2) by decide)] at h1
          subst h1
          exact ⟨fun z hz => by simp at hz; omega, fun h => absurd h (by simp), by simp <;> omega⟩
      · obtain ⟨j1, j2, j3⟩ := i1 t h1
        exact ⟨j1, j2, by simp only [List.length_cons]; omega⟩
    · have : (cT x p).length ≤ 3 := by unfold cT; (repeat' split) <;> simp
      simp only [chT, List.length_append, List.length_cons]
      omega
theorem chL_good {ps : List Nat} (hp : ∀ q ∈ ps, q < 4) (hl : ps.length ≤ 40) : GoodT (chL ps) ∧ 0 < (chL ps).length ∧ (chL ps).length ≤ 122 := by
  obtain ⟨h1, h2, q, e, h3⟩ := chT_mem ps 1 hp
  have hall : ∀ t ∈ chL ps, Bys t.2.1 ∧ TkFine t := fun t ht => by
    rcases List.mem_cons.1 ht with rfl | ht
    · exact ⟨fun z hz => by simp at hz; omega, fun h => absurd h (by simp), by simp⟩
    · obtain ⟨j1, j2, j3⟩ := h1 t ht
      exact ⟨j1, j2, by omega⟩
  have hlast : ∀ t, (chL ps)[(chL ps).length - 1]? = some t → t.1 = 10 := fun t ht => by
    have e2 : chL ps = ((1, [97], 0, 1) :: q) ++ [(10, [], e, e)] := by unfold chL; rw [h3]; rfl
    rw [e2, List.length_append, List.length_singleton, Nat.add_sub_cancel, List.getElem?_append_right (Nat.le_refl _), Nat.sub_self] at ht
    cases ht
    rfl
  obtain ⟨c1, c2⟩ := clF_ok (N := (chL ps).length) (chL ps) 0 [] (List.replicate (chL ps).length 0) (by simp) hlast (by simp) fun k hk => .inl (List.mem_replicate.1 hk).2
  refine ⟨⟨fun t ht => (hall t ht).1, fun t ht => (hall t ht).2, c1, fun k hk hk0 => (c2 k hk).resolve_left hk0⟩, by simp [chL], ?_⟩
  simp only [chL, List.length_cons]
  omega
/-- What is read of a chain. -/
theorem chain_read {ps : List Nat} (hp : ∀ q ∈ ps, q < 4) (hl : ps.length ≤ 40) : ∃ x' s' T, endP ⟨chL ps, clL (chL ps)⟩ 100 .expr (startS (chL ps)) = .ok [x'] s' ∧ KidsLt s'.nodes ∧ x' < s'.nodes.length ∧ (layP s'.nodes (s'.nodes.length + 1) x' []).1 = T ∧ T.length ≤ 1000000 ∧ (∀ j, j < ps.length → ∃ z p, T[j]? = some z ∧ ps[ps.length - 1 - j]? = some p ∧ z.kind = kdI p ∧ ∃ l, z.kids = (j + 1) :: l) ∧ ∃ z, T[ps.length]? = some z ∧ z.kind = 17 := by
  obtain ⟨x', s', h1, h2, h3, h4, h5, ⟨z, hz, hz1, hz2⟩, h6⟩ := chain_expr (c := ⟨chL ps, clL (chL ps)⟩) (s := startS (chL ps)) hp ⟨rfl, rfl⟩ (fun i => by simp only [startS, List.getD_eq_getElem?_getD, List.getElem?_replicate]; split <;> rfl) rfl hl
  obtain ⟨q, e, hq, hj, hm⟩ := chn_lay hz hz2 ps.length ps x' rfl h6 (s'.nodes.length + 1) [] (by omega)
  refine ⟨x', s', q, ?_, h4, h3, by rw [e]; rfl, by omega, fun j hj' => ?_, ?_⟩
  · unfold endP
    rw [h1 100 (Nat.le_refl _)]
    simp only [h2, if_true]
  · obtain ⟨z, p, a, b, c, l, d⟩ := hj j hj'
    exact ⟨z, p, a, b, c, l, by rw [d]; simp⟩
  · obtain ⟨w, a, b⟩ := hm
    exact ⟨w, a, by rw [b, hz1]⟩
end Go.Proofs.YtofgphapjjofnaaGreatDoor
