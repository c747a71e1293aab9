/- What Strip lays, purely: lengths, and that enough is enough. -/
import Derived.Test.YtnnpkomedpjlcaaGreatDoorKJ
namespace Go.Proofs.YtnnpkomedpjlcaaGreatDoor
set_option linter.unusedSimpArgs false
set_option linter.unusedVariables false

theorem chain_kids {l : List Nd} : ∀ (ks : List Int) (next e : Nat), Chain l ks next e → ∀ k ∈ ks, ∃ q : Nat, k = (q : Int) ∧ Fine l q ∧ next ≤ q ∧ en l q ≤ e
  | [], _, _, _, k, hk => by cases hk
  | k0 :: ks, next, e, h, k, hk => by
    obtain ⟨h1, hf, hc⟩ := h
    have hle := hf.le
    have hce := chain_le ks _ e hc
    rcases List.mem_cons.1 hk with rfl | hk
    · exact ⟨next, h1, hf, Nat.le_refl _, hce⟩
    · obtain ⟨q, e1, e2, e3, e4⟩ := chain_kids ks _ e hc k hk
      exact ⟨q, e1, e2, by omega, e4⟩
theorem inn_in {l : List Nd} (hc : (chkP l).2 = 0) : ∀ (d n : Nat), l.length - n ≤ d → n < l.length → n ≤ inn l n ∧ inn l n < l.length ∧ en l (inn l n) ≤ en l n ∧ ¬ ((nd l (inn l n)).kind = 33 ∨ (nd l (inn l n)).kind = 34)
  | 0, n, hd, hn => by omega
  | d + 1, n, hd, hn => by
    by_cases hk : (nd l n).kind = 33 ∨ (nd l n).kind = 34
    · have hf := chk_all hc hn
      have h1 := about_in hc hn hk
      have h0 := about_kid hf.fit hk
      rw [inn_go hn hk]
      obtain ⟨a, b, c, e⟩ := inn_in hc d (n + 1) (by omega) h1
      have hm : (nd l n).kids.getD 0 0 ∈ (nd l n).kids := by rw [List.getD_eq_getElem?_getD, List.getElem?_eq_getElem h0]; exact List.getElem_mem _
      obtain ⟨q, e1, _, _, e4⟩ := chain_kids _ _ _ hf.chain _ hm
      have hq : q = n + 1 := by have := kid_first hf h0; omega
      subst hq
      exact ⟨by omega, b, by omega, e⟩
    · rw [inn_stop hk]
      exact ⟨Nat.le_refl _, hn, Nat.le_refl _, hk⟩
theorem layK_append (one : Nat → Nat → List Nd) : ∀ (a b : List Int) (p : Nat), layK one (a ++ b) p = ((layK one a p).1 ++ (layK one b (p + (layK one a p).2.length)).1, (layK one a p).2 ++ (layK one b (p + (layK one a p).2.length)).2)
  | [], b, p => by simp [layK]
  | k :: a, b, p => by
    have ih := layK_append one a b (p + (one k.toNat p).length)
    simp only [List.cons_append, layK]
    rw [ih]
    simp only [List.length_append, List.append_assoc, Nat.add_assoc, List.cons_append]
theorem layK_same {one one' : Nat → Nat → List Nd} : ∀ (ks : List Int) (p : Nat), (∀ k ∈ ks, ∀ p, one k.toNat p = one' k.toNat p) → layK one ks p = layK one' ks p
  | [], p, _ => rfl
  | k :: ks, p, h => by
    have h1 := h k (by simp)
    simp only [layK]
    rw [h1 p, layK_same ks _ (fun k' hk' => h k' (by simp [hk']))]
theorem layK_len (one : Nat → Nat → List Nd) {l : List Nd} (q : Int → Bool) : ∀ (ks : List Int) (next e p : Nat), Chain l ks next e → (∀ k ∈ ks, ∀ p, (one k.toNat p).length ≤ en l k.toNat - k.toNat) → (layK one (ks.filter q) p).2.length ≤ e - next
  | [], next, e, p, h, _ => by simp [layK]
  | k :: ks, next, e, p, h, ho => by
    obtain ⟨h1, hf, hc⟩ := h
    have hle := hf.le
    have hce := chain_le ks _ e hc
    have h0 := ho k (by simp) p
    rw [h1] at h0
    simp only [Int.toNat_natCast] at h0
    by_cases hq : q k = true
    · rw [List.filter_cons_of_pos hq]
      have ih := layK_len one q ks _ e (p + (one k.toNat p).length) hc (fun k' hk' => ho k' (by simp [hk']))
      simp only [layK, List.length_append]
      rw [h1] at ih ⊢
      simp only [Int.toNat_natCast] at ih ⊢
      omega
    · rw [List.filter_cons_of_neg (by simpa using hq)]
      have ih := layK_len one q ks _ e p hc (fun k' hk' => ho k' (by simp [hk']))
      omega
theorem layF_len {l : List Nd} (hc : (chkP l).2 = 0) : ∀ (f n p : Nat), n < l.length → (layF l f n p).length ≤ en l n - n
  | 0, n, p, _ => by simp [layF]
  | f + 1, n, p, hn => by
    obtain ⟨a, b, c, _⟩ := inn_in hc _ n (Nat.le_refl _) hn
    have hf := chk_all hc b
    have hle := hf.le
    have h := layK_len (layF l f) (l := l) (fun k => !leftP (ruleF (nd l n).kind) l k.toNat) _ _ _ (p + 1) hf.chain (fun k hk p' => by
      obtain ⟨q, rfl, hq, _, _⟩ := chain_kids _ _ _ hf.chain k hk
      simp only [Int.toNat_natCast]
      exact layF_len hc f q p' hq.1)
    simp only [layF, List.length_cons]
    omega
theorem layF_fuel {l : List Nd} (hc : (chkP l).2 = 0) : ∀ (f f' n p : Nat), n < l.length → en l n - n ≤ f → en l n - n ≤ f' → layF l f n p = layF l f' n p
  | 0, f', n, p, hn, h, _ => by
    have := (chk_all hc hn).le
    omega
  | f + 1, 0, n, p, hn, _, h => by
    have := (chk_all hc hn).le
    omega
  | f + 1, f' + 1, n, p, hn, h, h' => by
    obtain ⟨a, b, c, _⟩ := inn_in hc _ n (Nat.le_refl _) hn
    have hf := chk_all hc b
    have e : layK (layF l f) ((nd l (inn l n)).kids.filter fun k => !leftP (ruleF (nd l n).kind) l k.toNat) (p + 1) = layK (layF l f') ((nd l (inn l n)).kids.filter fun k => !leftP (ruleF (nd l n).kind) l k.toNat) (p + 1) :=
      layK_same _ _ fun k hk p' => by
        obtain ⟨q, rfl, hq, h1, h2⟩ := chain_kids _ _ _ hf.chain k (List.mem_filter.1 hk).1
        simp only [Int.toNat_natCast]
        exact layF_fuel hc f f' q p' hq.1 (by omega) (by omega)
    simp only [layF]
    rw [e]
end Go.Proofs.YtnnpkomedpjlcaaGreatDoor
