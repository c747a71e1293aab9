/- Merged: KQ1, KQ2, KQ3, KV1, KV2, KW0, KV3, KW1, KV4. -/
import Derived.BigQuiet
import Derived.Deep.AppendLies
import Derived.Deep.QuietTactic
import Derived.Laws.OwnMore
import Derived.LoopN
import Derived.OwnWalk
import Derived.Test.YtnnpkomedpjlcaaGreatDoorK1
import Derived.Test.YtnnpkomedpjlcaaGreatDoorKCX
import Derived.Test.YtnnpkomedpjlcaaGreatDoorKY
import Derived.Test.YtnnpkomedpjlcaaGreatDoorM1
/- What Strip leaves, purely: where the nodes sit, and what the table's places say of them. -/
namespace Go.Proofs.YtnnpkomedpjlcaaGreatDoor
set_option linter.unusedSimpArgs false
set_option linter.unusedVariables false

/-- A list sits at a place of another. -/
def Seg (S : List Nd) (p : Nat) (L : List Nd) : Prop := ∃ A B, S = A ++ (L ++ B) ∧ A.length = p
theorem Seg.cons {S : List Nd} {p : Nat} {x : Nd} {L : List Nd} (h : Seg S p (x :: L)) : p < S.length ∧ nd S p = x ∧ Seg S (p + 1) L := by
  obtain ⟨A, B, rfl, rfl⟩ := h
  exact ⟨by simp, by simp [nd, List.getD_eq_getElem?_getD], A ++ [x], B, by simp, by simp⟩
theorem Seg.le {S : List Nd} {p : Nat} {L : List Nd} (h : Seg S p L) : p + L.length ≤ S.length := by
  obtain ⟨A, B, rfl, rfl⟩ := h
  simp

/-- What Strip lays of a node at a place. -/
def lay (l : List Nd) (n p : Nat) : List Nd := layF l l.length n p
/-- The kids that stay. -/
def kp (l : List Nd) (m : Nat) : List Int := (nd l m).kids.filter fun k => !leftP (ruleF (nd l m).kind) l k.toNat

theorem kz_head {l : List Nd} {a : Nat} {r : List (Option Nat)} {ks : List Int} (h : kz l (some a :: r) ks = true) : plOf a l (ks.getD 0 0).toNat = true := by
  cases ks with
  | nil => simp [kz] at h
  | cons k ks =>
    simp only [kz, Bool.and_eq_true] at h
    exact h.1.2
theorem inn_expr {l : List Nd} (hc : (chkP l).2 = 0) : ∀ (d n : Nat), l.length - n ≤ d → n < l.length → isE (nd l n).kind = true → isE (nd l (inn l n)).kind = true
  | 0, n, hd, hn, _ => by omega
  | d + 1, n, hd, hn, he => by
    by_cases hk : (nd l n).kind = 33 ∨ (nd l n).kind = 34
    · have hf := chk_all hc hn
      have h1 := about_in hc hn hk
      have h0 := about_kid hf.fit hk
      rw [inn_go hn hk]
      refine inn_expr hc d (n + 1) (by omega) h1 ?_
      have h2 : plOf 92 l ((nd l n).kids.getD 0 0).toNat = true := by
        rcases hk with h | h
        · exact kz_head (fit_kz hf.fit (by rw [h]; rfl) rfl)
        · exact kz_head (fit_kz hf.fit (by rw [h]; rfl) rfl)
      rw [kid_first hf h0] at h2
      exact h2
    · rw [inn_stop hk]; exact he
theorem isE_iff {k : Int} : isE k = true ↔ 10 ≤ k ∧ k ≤ 34 ∧ k ≠ 21 := by
  simp only [isE, Bool.and_eq_true, decide_eq_true_eq, Bool.not_eq_true', beq_eq_false_iff_ne]
  exact ⟨fun h => ⟨h.1.1, h.1.2, h.2⟩, fun h => ⟨⟨h.1, h.2.1⟩, h.2.2⟩⟩
theorem typeK_iff {k : Int} : typeK k = true ↔ 80 ≤ k ∧ k ≤ 87 ∧ k ≠ 85 := by
  simp only [typeK, Bool.and_eq_true, decide_eq_true_eq, bne_iff_ne]
  exact ⟨fun h => ⟨h.1.1, h.1.2, h.2⟩, fun h => ⟨⟨h.1, h.2.1⟩, h.2.2⟩⟩
theorem isT_typeK (k : Int) : isT k = typeK k := by
  simp only [isT, typeK, bne]
theorem rule_expr {k : Int} (h : isE k = true) : ruleF k = 46 := by
  have h := isE_iff.1 h
  have ht : ¬ typeK k = true := fun ht => by have := typeK_iff.1 ht; omega
  rw [ruleF, if_neg (by omega), if_neg (by omega), if_neg ht]
theorem left46 (l : List Nd) (n : Nat) : leftP 46 l n = false := rfl
theorem left44 (l : List Nd) (n : Nat) : leftP 44 l n = listT l n := rfl
theorem left45 (l : List Nd) (n : Nat) : leftP 45 l n = true := rfl
theorem about_isE {k : Int} (h : k = 33 ∨ k = 34) : isE k = true := isE_iff.2 (by omega)
theorem inn_in' {l : List Nd} (hc : (chkP l).2 = 0) {n : Nat} (hn : n < l.length) : n ≤ inn l n ∧ inn l n < l.length ∧ en l (inn l n) ≤ en l n ∧ ¬ ((nd l (inn l n)).kind = 33 ∨ (nd l (inn l n)).kind = 34) := inn_in hc _ n (Nat.le_refl _) hn
theorem kp_inn {l : List Nd} (hc : (chkP l).2 = 0) {n : Nat} (hn : n < l.length) : ((nd l (inn l n)).kids.filter fun k => !leftP (ruleF (nd l n).kind) l k.toNat) = kp l (inn l n) := by
  unfold kp
  by_cases hk : (nd l n).kind = 33 ∨ (nd l n).kind = 34
  · rw [rule_expr (about_isE hk), rule_expr (inn_expr hc _ n (Nat.le_refl _) hn (about_isE hk))]
  · rw [inn_stop hk]
theorem lay_eq {l : List Nd} (hc : (chkP l).2 = 0) {n : Nat} (hn : n < l.length) (p : Nat) : lay l n p = { aloneN (nd l (inn l n)) with kids := (layK (lay l) (kp l (inn l n)) (p + 1)).1 } :: (layK (lay l) (kp l (inn l n)) (p + 1)).2 := by
  obtain ⟨f, hf⟩ : ∃ f, l.length = f + 1 := ⟨l.length - 1, by omega⟩
  obtain ⟨a, b, c, d⟩ := inn_in' hc hn
  have hfi := chk_all hc b
  have hle := hfi.le
  have e1 : lay l n p = layF l (f + 1) n p := by unfold lay; rw [hf]
  have e2 : ∀ p', layK (layF l f) (kp l (inn l n)) p' = layK (lay l) (kp l (inn l n)) p' := fun p' => layK_same _ _ fun k hk p'' => by
    obtain ⟨q, rfl, hq, h1, h2⟩ := chain_kids _ _ _ hfi.chain k (List.mem_filter.1 hk).1
    simp only [Int.toNat_natCast]
    exact layF_fuel hc f l.length q p'' hq.1 (by omega) (by omega)
  rw [e1]
  simp only [layF]
  rw [kp_inn hc hn, e2]
theorem lay_inn {l : List Nd} (hc : (chkP l).2 = 0) {n : Nat} (hn : n < l.length) (p : Nat) : lay l n p = lay l (inn l n) p := by
  obtain ⟨a, b, c, d⟩ := inn_in' hc hn
  rw [lay_eq hc hn, lay_eq hc b, inn_stop d]
structure Kf (x z : Nd) : Prop where
  t : typeK x.kind = true → z.kind = 1 ∧ z.text = ⟨#[]⟩ ∧ z.num = 0 ∧ z.kids = []
  e : isE x.kind = true → isE z.kind = true ∧ z.kind ≠ 33 ∧ z.kind ≠ 34
  s : typeK x.kind = false → x.kind ≠ 33 → x.kind ≠ 34 → z.kind = x.kind ∧ z.text = x.text ∧ (x.kind ≠ 44 → x.kind ≠ 66 → z.num = x.num) ∧ (x.kind = 44 → z.num = 0) ∧ (x.kind = 66 → z.num = if markP x.num = true then 2 else 0)
theorem kp_type {l : List Nd} {m : Nat} (h : typeK (nd l m).kind = true) : kp l m = [] := by
  have h' := typeK_iff.1 h
  have : ruleF (nd l m).kind = 45 := by rw [ruleF, if_neg (by omega), if_neg (by omega), if_pos h]
  simp [kp, this, left45]
/-- Where a node's rest sits. -/
theorem seg_at {l S : List Nd} (hc : (chkP l).2 = 0) {n q : Nat} (hn : n < l.length) (h : Seg S q (lay l n q)) : q < S.length ∧ nd S q = { aloneN (nd l (inn l n)) with kids := (layK (lay l) (kp l (inn l n)) (q + 1)).1 } ∧ Seg S (q + 1) (layK (lay l) (kp l (inn l n)) (q + 1)).2 := by
  rw [lay_eq hc hn] at h
  exact h.cons
def apl (f : Nat) (k num : Int) : Bool := match f with
  | 60 => isS k
  | 92 => isE k
  | 94 => k == 21
  | 96 => k == 63 || isE k
  | 100 => k == 17 || k == 29 || k == 30
  | 121 => k == 63
  | 123 => isT k || k == 1
  | 124 => k == 43 || k == 1
  | 128 => isE k || k == 1
  | 131 => k == 48
  | 132 => isS k || k == 50
  | 133 => expOk k num
  | 135 => k == 53 || (k == 63 || k == 1)
  | 136 => (k == 40 && num == 0) || k == 1
  | 137 => k == 62 || k == 1
  | 138 => k == 63 || k == 1
  | _ => false
def aF : List Nat := [60, 92, 94, 96, 100, 121, 123, 124, 128, 131, 132, 133, 135, 136, 137, 138]
theorem apl_eq {f : Nat} (hf : f ∈ aF) (l : List Nd) (n : Nat) : plOf f l n = apl f (nd l n).kind (nd l n).num := by
  simp only [aF, List.mem_cons, List.not_mem_nil, or_false] at hf
  rcases hf with rfl | rfl | rfl | rfl | rfl | rfl | rfl | rfl | rfl | rfl | rfl | rfl | rfl | rfl | rfl | rfl <;> rfl
theorem isS_facts {k : Int} (h : isS k = true) : k = 51 ∨ k = 52 ∨ (typeK k = false ∧ 40 ≤ k ∧ k ≤ 65 ∧ k ≠ 44 ∧ k ≠ 48 ∧ k ≠ 50) := by
  simp only [isS, stmtK, List.contains_cons, List.contains_nil, Bool.or_eq_true, beq_iff_eq, Bool.or_false] at h
  rcases h with h | h | h | h | h | h | h | h | h | h | h | h | h | h | h | h | h | h | h <;> subst h <;> decide
theorem expOk_facts {k num : Int} (h : expOk k num = true) : k = 51 ∨ k = 52 ∨ (typeK k = false ∧ 40 ≤ k ∧ k ≤ 65 ∧ k ≠ 44 ∧ k ≠ 48 ∧ k ≠ 50) := by
  unfold expOk at h
  by_cases h1 : k = 40
  · subst h1; decide
  by_cases h2 : k = 47
  · subst h2; decide
  rw [if_neg (by simpa using h1), if_neg (by simpa using h2)] at h
  simp only [expK, List.contains_cons, List.contains_nil, Bool.or_eq_true, beq_iff_eq, Bool.or_false] at h
  rcases h with h | h | h | h | h <;> subst h <;> decide
theorem Kf.at' {x z : Nd} (h : Kf x z) {c : Int} (hx : x.kind = c) (h1 : typeK c = false) (h2 : c ≠ 33) (h3 : c ≠ 34) (h4 : c ≠ 44) (h5 : c ≠ 66) : z.kind = c ∧ z.num = x.num := by
  subst hx
  obtain ⟨a, _, b, _⟩ := h.s h1 h2 h3
  exact ⟨a, b h4 h5⟩
theorem apl_kinds {f : Nat} (hf : f ∈ aF) {k num : Int} (h : apl f k num = true) : k ≠ 2 ∧ k ≠ 44 ∧ k ≠ 67 ∧ k ≠ 85 ∧ (k = 51 ∨ k = 52 → f = 60 ∨ f = 132 ∨ f = 133) ∧ (k = 50 → f = 132) ∧ (k = 48 → f = 131) := by
  simp only [aF, List.mem_cons, List.not_mem_nil, or_false] at hf
  rcases hf with rfl | rfl | rfl | rfl | rfl | rfl | rfl | rfl | rfl | rfl | rfl | rfl | rfl | rfl | rfl | rfl
  · have := isS_facts h; omega
  · have := isE_iff.1 h; omega
  · have : k = 21 := beq_iff_eq.1 h; omega
  · have h' : (k == 63 || isE k) = true := h
    rw [Bool.or_eq_true, beq_iff_eq, isE_iff] at h'; omega
  · have h' : (k == 17 || k == 29 || k == 30) = true := h
    simp only [Bool.or_eq_true, beq_iff_eq] at h'; omega
  · have : k = 63 := beq_iff_eq.1 h; omega
  · have h' : (isT k || k == 1) = true := h
    rw [Bool.or_eq_true, beq_iff_eq, isT_typeK, typeK_iff] at h'; omega
  · have h' : (k == 43 || k == 1) = true := h
    simp only [Bool.or_eq_true, beq_iff_eq] at h'; omega
  · have h' : (isE k || k == 1) = true := h
    rw [Bool.or_eq_true, beq_iff_eq, isE_iff] at h'; omega
  · have : k = 48 := beq_iff_eq.1 h; omega
  · have h' : (isS k || k == 50) = true := h
    rw [Bool.or_eq_true, beq_iff_eq] at h'
    rcases h' with h' | h'
    · have := isS_facts h'; omega
    · omega
  · have := expOk_facts h; omega
  · have h' : (k == 53 || (k == 63 || k == 1)) = true := h
    simp only [Bool.or_eq_true, beq_iff_eq] at h'; omega
  · have h' : ((k == 40 && num == 0) || k == 1) = true := h
    simp only [Bool.or_eq_true, Bool.and_eq_true, beq_iff_eq] at h'; omega
  · have h' : (k == 62 || k == 1) = true := h
    simp only [Bool.or_eq_true, beq_iff_eq] at h'; omega
  · have h' : (k == 63 || k == 1) = true := h
    simp only [Bool.or_eq_true, beq_iff_eq] at h'; omega
end Go.Proofs.YtnnpkomedpjlcaaGreatDoor

/- What Strip leaves, purely: lists, and every row of the table. -/
namespace Go.Proofs.YtnnpkomedpjlcaaGreatDoor
set_option linter.unusedSimpArgs false
set_option linter.unusedVariables false

/-- Kinds of what stands in Lists. -/
def lsK (k : Int) : Bool := isE k || typeK k || k == 66 || k == 44 || k == 45 || k == 46 || k == 67
theorem lsK_iff {k : Int} : lsK k = true ↔ isE k = true ∨ typeK k = true ∨ k = 66 ∨ k = 44 ∨ k = 45 ∨ k = 46 ∨ k = 67 := by
  simp only [lsK, Bool.or_eq_true, beq_iff_eq, or_assoc]
/-- A node that stays. -/
structure Ok (l : List Nd) (n : Nat) : Prop where
  k51 : (nd l n).kind ≠ 51
  k52 : (nd l n).kind ≠ 52
  k67 : (nd l n).kind ≠ 67
  k85 : (nd l n).kind ≠ 85
  k50 : (nd l n).kind = 50 → forT l n = false
  k44 : (nd l n).kind = 44 → noneK l n 1 = false
  k2 : (nd l n).kind = 2 → ∀ k ∈ (nd l n).kids, lsK (nd l k.toNat).kind = true
theorem Ok.expr {l : List Nd} {n : Nat} (h : isE (nd l n).kind = true) : Ok l n := by
  have h := isE_iff.1 h
  exact ⟨by omega, by omega, by omega, by omega, by omega, by omega, by omega⟩
theorem Ok.inn {l : List Nd} (hc : (chkP l).2 = 0) {n : Nat} (hn : n < l.length) (h : Ok l n) : Ok l (inn l n) := by
  by_cases hk : (nd l n).kind = 33 ∨ (nd l n).kind = 34
  · exact Ok.expr (inn_expr hc _ n (Nat.le_refl _) hn (about_isE hk))
  · rw [inn_stop hk]; exact h
theorem forT_kind {l : List Nd} {n : Nat} (h : (nd l n).kind ≠ 50) : forT l n = ((nd l n).kind == 51 || (nd l n).kind == 52) := by
  simp only [forT, expN, if_neg h]
theorem ok_apl {f : Nat} (hf : f ∈ aF) {l : List Nd} {n : Nat} (h : plOf f l n = true) (hL : f = 60 ∨ f = 132 ∨ f = 133 → forT l n = false) : Ok l n := by
  rw [apl_eq hf] at h
  obtain ⟨a, b, c, d, e, g, i⟩ := apl_kinds hf h
  have q : ¬ ((nd l n).kind = 51 ∨ (nd l n).kind = 52) := fun hk => by
    have := hL (e hk)
    rw [forT_kind (by omega)] at this
    rw [Bool.or_eq_false_iff, beq_eq_false_iff_ne, beq_eq_false_iff_ne] at this
    omega
  exact ⟨by omega, by omega, c, d, fun h => hL (by have := g h; omega), fun h => absurd h b, fun h => absurd h a⟩
/-- Lists. -/
def bF : List Nat := [62, 69, 95, 101, 125, 126, 129]
theorem kAll_mem {p : Plc} {l : List Nd} {ks : List Int} (h : kAll p l ks = true) {k : Int} (hk : k ∈ ks) : ins l k = true ∧ p l k.toNat = true := by
  have := List.all_eq_true.1 h k hk
  rwa [Bool.and_eq_true] at this
theorem pList_iff {p : Plc} {l : List Nd} {n : Nat} : pList p l n = true ↔ (nd l n).kind = 2 ∧ kAll p l (nd l n).kids = true := by
  simp only [pList, Bool.and_eq_true, beq_iff_eq]
theorem mem_kinds {l : List Nd} : ∀ (ks : List Int) (c : Nat), mem l c ks = true → ∀ k ∈ ks, ins l k = true ∧ ((nd l k.toNat).kind = 44 ∨ (nd l k.toNat).kind = 45 ∨ (nd l k.toNat).kind = 46)
  | [], c, _, k, hk => by cases hk
  | k0 :: ks, c, h, k, hk => by
    simp only [mem, Bool.and_eq_true] at h
    obtain ⟨h1, h2⟩ := h
    by_cases h44 : ((nd l k0.toNat).kind == 44 || (nd l k0.toNat).kind == 45) = true
    · rw [if_pos h44] at h2
      rcases List.mem_cons.1 hk with rfl | hk
      · rw [Bool.or_eq_true, beq_iff_eq, beq_iff_eq] at h44
        exact ⟨h1, by omega⟩
      · exact mem_kinds ks c h2 k hk
    · rw [if_neg h44] at h2
      by_cases h46 : ((nd l k0.toNat).kind == 46) = true
      · rw [if_pos h46, Bool.and_eq_true] at h2
        rcases List.mem_cons.1 hk with rfl | hk
        · rw [beq_iff_eq] at h46
          exact ⟨h1, by omega⟩
        · exact mem_kinds ks _ h2.2 k hk
      · rw [if_neg h46] at h2; cases h2
theorem bpl_kinds {f : Nat} (hf : f ∈ bF) {l : List Nd} {n : Nat} (h : plOf f l n = true) : (nd l n).kind = 2 ∧ ∀ k ∈ (nd l n).kids, ins l k = true ∧ lsK (nd l k.toNat).kind = true := by
  simp only [bF, List.mem_cons, List.not_mem_nil, or_false] at hf
  rcases hf with rfl | rfl | rfl | rfl | rfl | rfl | rfl
  · obtain ⟨a, b⟩ := pList_iff.1 (show pList pTyp l n = true from h)
    refine ⟨a, fun k hk => ⟨(kAll_mem b hk).1, ?_⟩⟩
    have h2 : isT (nd l k.toNat).kind = true := (kAll_mem b hk).2
    rw [isT_typeK] at h2
    exact lsK_iff.2 (.inr (.inl h2))
  · obtain ⟨a, b⟩ := pList_iff.1 (show pList pParam l n = true from h)
    refine ⟨a, fun k hk => ⟨(kAll_mem b hk).1, ?_⟩⟩
    have h2 : ((nd l k.toNat).kind == 66 && zo (nd l k.toNat).num) = true := (kAll_mem b hk).2
    rw [Bool.and_eq_true, beq_iff_eq] at h2
    exact lsK_iff.2 (by have := h2.1; omega)
  · obtain ⟨a, b⟩ := pList_iff.1 (show pList (pK 67) l n = true from h)
    refine ⟨a, fun k hk => ⟨(kAll_mem b hk).1, ?_⟩⟩
    have h2 : ((nd l k.toNat).kind == 67) = true := (kAll_mem b hk).2
    rw [beq_iff_eq] at h2
    exact lsK_iff.2 (by omega)
  · obtain ⟨a, b⟩ := pList_iff.1 (show pList pExpr l n = true from h)
    exact ⟨a, fun k hk => ⟨(kAll_mem b hk).1, lsK_iff.2 (.inl (kAll_mem b hk).2)⟩⟩
  · obtain ⟨a, b⟩ := pList_iff.1 (show pList (pK 80) l n = true from h)
    refine ⟨a, fun k hk => ⟨(kAll_mem b hk).1, ?_⟩⟩
    have h2 : ((nd l k.toNat).kind == 80) = true := (kAll_mem b hk).2
    rw [beq_iff_eq] at h2
    exact lsK_iff.2 (.inr (.inl (by rw [h2]; rfl)))
  · have h' : ((nd l n).kind == 2 && mem l 0 (nd l n).kids) = true := h
    rw [Bool.and_eq_true, beq_iff_eq] at h'
    refine ⟨h'.1, fun k hk => ?_⟩
    obtain ⟨a, b⟩ := mem_kinds _ _ h'.2 k hk
    exact ⟨a, lsK_iff.2 (by omega)⟩
  · obtain ⟨a, b⟩ := pList_iff.1 (show pList (pK 66) l n = true from h)
    refine ⟨a, fun k hk => ⟨(kAll_mem b hk).1, ?_⟩⟩
    have h2 : ((nd l k.toNat).kind == 66) = true := (kAll_mem b hk).2
    rw [beq_iff_eq] at h2
    exact lsK_iff.2 (by omega)
theorem ok_bpl {f : Nat} (hf : f ∈ bF) {l : List Nd} {n : Nat} (h : plOf f l n = true) : Ok l n := by
  obtain ⟨a, b⟩ := bpl_kinds hf h
  exact ⟨by omega, by omega, by omega, by omega, by omega, by omega, fun _ k hk => (b k hk).2⟩

theorem kp_list {l : List Nd} {n : Nat} (h : (nd l n).kind = 2) : kp l n = (nd l n).kids.filter fun k => !listT l k.toNat := by
  have : ruleF (nd l n).kind = 44 := by rw [h]; rfl
  simp only [kp, this, left44]
theorem listT_type {l : List Nd} {n : Nat} (h : typeK (nd l n).kind = true) : listT l n = true := by simp [listT, h]
theorem listT_67 {l : List Nd} {n : Nat} (h : (nd l n).kind = 67) : listT l n = true := by simp [listT, h]
end Go.Proofs.YtnnpkomedpjlcaaGreatDoor

/- What Strip leaves is a tree. -/
namespace Go.Proofs.YtnnpkomedpjlcaaGreatDoor
set_option linter.unusedSimpArgs false
set_option linter.unusedVariables false

theorem kz_nth {l : List Nd} : ∀ (fs : List (Option Nat)) (ks : List Int) (j g : Nat), kz l fs ks = true → fs[j]? = some (some g) → j < ks.length → plOf g l (ks.getD j 0).toNat = true
  | [], _, j, g, _, h, _ => by simp at h
  | none :: _, [], j, g, _, _, h => by simp at h
  | none :: _, _ :: _, j, g, h, _, _ => by cases h
  | some _ :: _, [], j, g, h, _, _ => by cases h
  | some f :: fs, k :: ks, j, g, h, hj, hl => by
    simp only [kz, Bool.and_eq_true] at h
    cases j with
    | zero =>
      simp only [List.getElem?_cons_zero, Option.some.injEq] at hj
      subst hj
      simpa using h.1.2
    | succ j =>
      have := kz_nth fs ks j g h.2 (by simpa using hj) (by simpa using hl)
      simpa using this

/-- Kinds whose nodes do not stay as they are. -/
def badK (k : Int) : Bool := k == 33 || k == 34 || k == 51 || k == 52 || k == 67 || k == 85 || typeK k
def plGood (k : Int) (o : Option Nat) : Bool := match o with
  | none => true
  | some f => (aF.contains f && f != 60 && f != 131 && f != 132 && (f != 133 || k == 50)) || bF.contains f || f == 102
def rowChk (kr : Int × RowV) : Bool := badK kr.1 || ((match kr.2.m with
  | none => plGood kr.1 kr.2.k0 && plGood kr.1 kr.2.k1 && plGood kr.1 kr.2.k2 && plGood kr.1 kr.2.k3 && kr.1 != 2 && kr.1 != 3 && kr.1 != 63 && kr.1 != 49
  | some f => (f == 92 && (kr.1 == 12 || kr.1 == 19)) || (f == 94 && kr.1 == 20) || (f == 131 && kr.1 == 47) || (f == 132 && kr.1 == 49) || (f == 59 && kr.1 == 2) || (f == 60 && (kr.1 == 3 || kr.1 == 63))) && (kr.2.a.isNone || kr.1 == 12 || kr.1 == 61) && (kr.2.n.isNone || kr.1 == 44 || kr.1 == 66 || kr.1 != 44))
set_option maxRecDepth 100000 in
theorem tab_chk : (tabTL ++ tabEL ++ tabSL).all rowChk = true := by decide
theorem lookup_pair {k : Int} {r : RowV} : ∀ {l : List (Int × RowV)}, l.lookup k = some r → (k, r) ∈ l
  | [], h => by cases h
  | (a, b) :: l, h => by
    simp only [List.lookup] at h
    split at h
    · rename_i e
      cases h
      rw [beq_iff_eq.1 e]
      simp
    · exact List.mem_cons_of_mem _ (lookup_pair h)
theorem tab_row {k : Int} {r : RowV} (h : tabT k = some r) : rowChk (k, r) = true := by
  refine List.all_eq_true.1 tab_chk _ ?_
  simp only [tabT] at h
  split at h
  · rename_i r' hr
    cases h
    simp [lookup_pair hr]
  · simp only [tabE] at h
    split at h
    · rename_i r' hr
      cases h
      simp [lookup_pair hr]
    · simp only [tabS] at h
      split at h
      · rename_i r' hr
        cases h
        simp [lookup_pair hr]
      · cases h
theorem plGood_some {k : Int} {f : Nat} (h : plGood k (some f) = true) : (f ∈ aF ∨ f ∈ bF ∨ f = 102) ∧ f ≠ 60 ∧ f ≠ 131 ∧ f ≠ 132 ∧ (f = 133 → k = 50) := by
  simp only [plGood, Bool.or_eq_true, Bool.and_eq_true, List.contains_iff_mem, bne_iff_ne, beq_iff_eq] at h
  rcases h with (⟨⟨⟨⟨h1, h2⟩, h3⟩, h4⟩, h5⟩ | h1) | h1
  · exact ⟨.inl h1, h2, h3, h4, fun h => by rcases h5 with h5 | h5 <;> first | exact absurd h h5 | exact h5⟩
  · have h2 := h1
    simp only [bF, List.mem_cons, List.not_mem_nil, or_false] at h2
    exact ⟨.inr (.inl h1), by omega, by omega, by omega, by omega⟩
  · exact ⟨.inr (.inr h1), by omega, by omega, by omega, by omega⟩
/-- What the table says of a kind that stays. -/
theorem row_facts {k : Int} {r : RowV} (h : tabT k = some r) (hb : badK k = false) : (r.m = none → (∀ g, some g ∈ [r.k0, r.k1, r.k2, r.k3] → (g ∈ aF ∨ g ∈ bF ∨ g = 102) ∧ g ≠ 60 ∧ g ≠ 131 ∧ g ≠ 132 ∧ (g = 133 → k = 50)) ∧ ruleF k = 46) ∧ (∀ f, r.m = some f → (f = 59 ∧ k = 2) ∨ (f = 60 ∧ (k = 3 ∨ k = 63)) ∨ (f = 132 ∧ k = 49) ∨ (f = 131 ∧ k = 47) ∨ (f = 92 ∧ (k = 12 ∨ k = 19)) ∨ (f = 94 ∧ k = 20)) ∧ (r.a = none ∨ k = 12 ∨ k = 61) := by
  have hc := tab_row h
  simp only [rowChk, hb, Bool.false_or, Bool.and_eq_true] at hc
  obtain ⟨⟨h1, h2⟩, _⟩ := hc
  refine ⟨fun hm => ?_, fun f hm => ?_, ?_⟩
  · rw [hm] at h1
    simp only [Bool.and_eq_true, bne_iff_ne] at h1
    obtain ⟨⟨⟨⟨⟨⟨⟨a0, a1⟩, a2⟩, a3⟩, b1⟩, b2⟩, b3⟩, b4⟩ := h1
    refine ⟨fun g hg => ?_, ?_⟩
    · simp only [List.mem_cons, List.not_mem_nil, or_false] at hg
      rcases hg with e | e | e | e
      · rw [← e] at a0; exact plGood_some a0
      · rw [← e] at a1; exact plGood_some a1
      · rw [← e] at a2; exact plGood_some a2
      · rw [← e] at a3; exact plGood_some a3
    · have ht : ¬ typeK k = true := by
        simp only [badK, Bool.or_eq_false_iff] at hb
        rw [hb.2]; decide
      rw [ruleF, if_neg (by omega), if_neg (by omega), if_neg ht]
  · rw [hm] at h1
    simp only [Bool.or_eq_true, Bool.and_eq_true, beq_iff_eq] at h1
    omega
  · simp only [Bool.or_eq_true, beq_iff_eq, Option.isNone_iff_eq_none] at h2
    rcases h2 with (h2 | h2) | h2
    · exact .inl h2
    · exact .inr (.inl h2)
    · exact .inr (.inr h2)
theorem fit_parts {l : List Nd} {n : Nat} (h : fitP l n = true) : ∃ r, tabT (nd l n).kind = some r ∧ txP r (nd l n).text = true ∧ nmP r (nd l n).num = true ∧ kidP r l (nd l n).kids = true := by
  simp only [fitP, Bool.and_eq_true] at h
  obtain ⟨⟨⟨h1, h2⟩, h3⟩, h4⟩ := h
  obtain ⟨r, hr⟩ := Option.isSome_iff_exists.1 h1
  rw [hr] at h2 h3 h4
  exact ⟨r, hr, h2, h3, h4⟩
theorem Ok.bad {l : List Nd} {m : Nat} (h : Ok l m) (hk : ¬ ((nd l m).kind = 33 ∨ (nd l m).kind = 34)) (ht : typeK (nd l m).kind = false) : badK (nd l m).kind = false := by
  have h1 : ((nd l m).kind == 33) = false := beq_eq_false_iff_ne.2 (by omega)
  have h2 : ((nd l m).kind == 34) = false := beq_eq_false_iff_ne.2 (by omega)
  have h3 : ((nd l m).kind == 51) = false := beq_eq_false_iff_ne.2 h.k51
  have h4 : ((nd l m).kind == 52) = false := beq_eq_false_iff_ne.2 h.k52
  have h5 : ((nd l m).kind == 67) = false := beq_eq_false_iff_ne.2 h.k67
  have h6 : ((nd l m).kind == 85) = false := beq_eq_false_iff_ne.2 h.k85
  simp [badK, h1, h2, h3, h4, h5, h6, ht]
/-- A node that stays, whole: where it sits, its kids. -/
structure Stay (l S : List Nd) (m p : Nat) : Prop where
  lt : m < l.length
  nas : ¬ ((nd l m).kind = 33 ∨ (nd l m).kind = 34)
  ok : Ok l m
  seg : Seg S p (lay l m p)
theorem Stay.at {l S : List Nd} (hc : (chkP l).2 = 0) {m p : Nat} (h : Stay l S m p) : p < S.length ∧ (nd S p).kids = (layK (lay l) (kp l m) (p + 1)).1 ∧ Seg S (p + 1) (layK (lay l) (kp l m) (p + 1)).2 := by
  obtain ⟨a, b, c⟩ := seg_at hc h.lt h.seg
  rw [inn_stop h.nas] at b c
  exact ⟨a, by rw [b], c⟩
theorem kp_sub {l : List Nd} {m : Nat} {k : Int} (h : k ∈ kp l m) : k ∈ (nd l m).kids ∧ leftP (ruleF (nd l m).kind) l k.toNat = false := by
  have := List.mem_filter.1 h
  exact ⟨this.1, by simpa using this.2⟩
end Go.Proofs.YtnnpkomedpjlcaaGreatDoor

/- The reference's small functions of chapter 5's Strip. -/
namespace Go.Proofs.YtnnpkomedpjlcaaGreatDoor
set_option linter.unusedSimpArgs false
set_option linter.unusedVariables false
open Go.RowKit Go.Shelf

/-- Which kid of a kind is emptied. -/
def emptP (k i : Int) : Bool := if k = 22 ∨ k = 43 then i == 0 else if k = 41 ∨ k = 45 ∨ k = 42 then i == 0 || i == 2 else if k = 27 ∨ k = 28 then i == 1 else if k = 40 ∨ k = 44 ∨ k = 66 then i == 0 else false
set_option maxRecDepth 100000 in
set_option maxHeartbeats 4000000 in
theorem emptied_any (W : World) (k i : Int) : Calls Tryz.prog 47 #[.int .i64 k, .int .i64 i] W fun e w' => e = .returned (.bool (emptP k i)) ∧ w' = W := by
  by_cases h1 : k = 22 ∨ k = 43
  · have e : emptP k i = (i == 0) := by simp only [emptP, if_pos h1]
    rw [e]
    rcases h1 with rfl | rfl <;>
    (go_enter Tryz.func47, Tryz.ntmps47
     go_wp2
     go_ret
     exact ⟨rfl, rfl⟩)
  by_cases h2 : k = 41 ∨ k = 45 ∨ k = 42
  · have e : emptP k i = (i == 0 || i == 2) := by simp only [emptP, if_neg h1, if_pos h2]
    rw [e]
    cases h0 : (i == 0) with
    | true =>
      rcases h2 with rfl | rfl | rfl <;>
      (go_enter Tryz.func47, Tryz.ntmps47
       go_wp2
       go_ret
       exact ⟨rfl, rfl⟩)
    | false =>
      rcases h2 with rfl | rfl | rfl <;>
      (go_enter Tryz.func47, Tryz.ntmps47
       go_wp2
       go_ret
       exact ⟨rfl, rfl⟩)
  by_cases h3 : k = 27 ∨ k = 28
  · have e : emptP k i = (i == 1) := by simp only [emptP, if_neg h1, if_neg h2, if_pos h3]
    rw [e]
    rcases h3 with rfl | rfl <;>
    (go_enter Tryz.func47, Tryz.ntmps47
     go_wp2
     go_ret
     exact ⟨rfl, rfl⟩)
  by_cases h4 : k = 40 ∨ k = 44 ∨ k = 66
  · have e : emptP k i = (i == 0) := by simp only [emptP, if_neg h1, if_neg h2, if_neg h3, if_pos h4]
    rw [e]
    rcases h4 with rfl | rfl | rfl <;>
    (go_enter Tryz.func47, Tryz.ntmps47
     go_wp2
     go_ret
     exact ⟨rfl, rfl⟩)
  have e : emptP k i = false := by simp only [emptP, if_neg h1, if_neg h2, if_neg h3, if_neg h4]
  rw [e]
  have q1 : (k == 22) = false := by simp only [beq_eq_false_iff_ne]; omega
  have q2 : (k == 43) = false := by simp only [beq_eq_false_iff_ne]; omega
  have q3 : (k == 41) = false := by simp only [beq_eq_false_iff_ne]; omega
  have q4 : (k == 45) = false := by simp only [beq_eq_false_iff_ne]; omega
  have q5 : (k == 42) = false := by simp only [beq_eq_false_iff_ne]; omega
  have q6 : (k == 27) = false := by simp only [beq_eq_false_iff_ne]; omega
  have q7 : (k == 28) = false := by simp only [beq_eq_false_iff_ne]; omega
  have q8 : (k == 40) = false := by simp only [beq_eq_false_iff_ne]; omega
  have q9 : (k == 44) = false := by simp only [beq_eq_false_iff_ne]; omega
  have qa : (k == 66) = false := by simp only [beq_eq_false_iff_ne]; omega
  clear h1 h2 h3 h4 e
  go_enter Tryz.func47, Tryz.ntmps47
  go_wp2
  go_ret
  exact ⟨rfl, rfl⟩
/-- A node's value. -/
def ndW (x : Nd) (a : Option Addr) (c : Nat) : Value := .agg #[.int .i64 x.kind, .string x.text, .int .i64 x.num, .slice a x.kids.length c, .int .i64 x.at']
/-- A node without kids in the place of another. -/
def oneN (k : Int) (x : Nd) : Nd := ⟨k, ⟨#[]⟩, 0, [], x.at'⟩
set_option maxRecDepth 100000 in
set_option maxHeartbeats 4000000 in
theorem one_any (W : World) (k : Int) (x : Nd) (a : Option Addr) (c : Nat) : Calls Tryz.prog 48 #[.int .i64 k, ndW x a c] W fun e w' => ∃ v', e = .returned (.agg #[v']) ∧ OwnN w' W.heap.size v' [⟨oneN k x, none, 0⟩] ∧ Below W.heap.size W w' := by
  unfold ndW
  obtain ⟨W3, hW3⟩ : ∃ W3, ((W.alloc (.cells #[.int .i64 x.kind, .string x.text, .int .i64 x.num, .slice a x.kids.length c, .int .i64 x.at'] 41)).alloc (.cells #[.slice (some ⟨W.heap.size + 1 + 1, 0, none⟩) 1 1] 24)).alloc (.cells #[.int .i64 k, .string ⟨#[]⟩, .int .i64 0, .slice none 0 0, .int .i64 x.at'] 41) = W3 := ⟨_, rfl⟩
  have hB : Below W.heap.size W W3 := by rw [← hW3]; exact (((Below.refl _ W).alloc (Nat.le_refl _) _).alloc (by simp) _).alloc (by simp; omega) _
  have h2 : W3.heap[W.heap.size + 1 + 1]? = some (.cells #[.int .i64 k, .string ⟨#[]⟩, .int .i64 0, .slice none 0 0, .int .i64 x.at'] 41) := by
    rw [← hW3]
    have := World.alloc_heap_new ((W.alloc (.cells #[.int .i64 x.kind, .string x.text, .int .i64 x.num, .slice a x.kids.length c, .int .i64 x.at'] 41)).alloc (.cells #[.slice (some ⟨W.heap.size + 1 + 1, 0, none⟩) 1 1] 24)) (.cells #[.int .i64 k, .string ⟨#[]⟩, .int .i64 0, .slice none 0 0, .int .i64 x.at'] 41)
    simpa using this
  have h1 : W3.heap[W.heap.size + 1]? = some (.cells #[.slice (some ⟨W.heap.size + 1 + 1, 0, none⟩) 1 1] 24) := by
    rw [← hW3]
    have := rat_a2 (W.alloc (.cells #[.int .i64 x.kind, .string x.text, .int .i64 x.num, .slice a x.kids.length c, .int .i64 x.at'] 41)) (.cells #[.slice (some ⟨W.heap.size + 1 + 1, 0, none⟩) 1 1] 24) (.cells #[.int .i64 k, .string ⟨#[]⟩, .int .i64 0, .slice none 0 0, .int .i64 x.at'] 41)
    simpa using this
  have r1 : W3.cell? ⟨W.heap.size + 1, 0, none⟩ = some (.slice (some ⟨W.heap.size + 1 + 1, 0, none⟩) 1 1) := by rw [Lib.cell_of_heap h1]; rfl
  have hO : OwnN W3 W.heap.size (.slice (some ⟨W.heap.size + 1 + 1, 0, none⟩) 1 1) [⟨oneN k x, none, 0⟩] := by
    refine ⟨⟨flatN_len _, .inr ⟨W.heap.size + 1 + 1, 1, _, rfl, by omega, h2, Nat.le_refl _, by decide, rfl, rfl⟩⟩, fun e he => ?_⟩
    obtain rfl : e = ⟨oneN k x, none, 0⟩ := by simpa using he
    exact ⟨Nat.le_refl _, Nat.zero_le _, .inl rfl⟩
  have HW3 := hide hW3
  clear hW3 h1 h2
  go_enter Tryz.func48, Tryz.ntmps48
  go_wp2
  rw [unhide HW3]
  exact bodyPost_ret (v := .agg #[.slice (some ⟨W.heap.size + 1 + 1, 0, none⟩) 1 1]) (by simp [results, Tryz.results48, go_sem, r1]) rfl ⟨_, rfl, hO, hB⟩
end Go.Proofs.YtnnpkomedpjlcaaGreatDoor

/- The reference's left: which kid is left out of a body. -/
namespace Go.Proofs.YtnnpkomedpjlcaaGreatDoor
set_option linter.unusedSimpArgs false
set_option linter.unusedVariables false
open Go.RowKit Go.Shelf

/-- Is a kid left out of a body? (It is no Export itself.) -/
def leftA (l : List Nd) (n : Nat) : Bool := (nd l n).kind == 51 || (nd l n).kind == 52 || ((nd l n).kind == 44 && noneK l n 1)
/-- Is a kid left out of a body? -/
def leftQ (l : List Nd) (n : Nat) : Bool := if (nd l n).kind = 50 then leftA l ((nd l n).kids.getD 0 0).toNat else leftA l n
theorem field_kid {l : List Nd} {n : Nat} (hf : fitP l n = true) (h : (nd l n).kind = 44) : 1 < (nd l n).kids.length ∧ ins l ((nd l n).kids.getD 1 0) = true := by
  have h2 := kid_need hf
  rw [h] at h2
  have h2' : 2 ≤ (nd l n).kids.length := h2
  exact ⟨h2', fit_ins hf _ (by rw [List.getD_eq_getElem?_getD, List.getElem?_eq_getElem (by omega)]; exact List.getElem_mem _)⟩
/-- Two boxes: of a tree, of one of its nodes. -/
theorem two_box {W W2 : World} {v : Value} {x : Nd} {a : Option Addr} {c : Nat} (h : (W.alloc (.cells #[v] 24)).alloc (.cells #[.int .i64 x.kind, .string x.text, .int .i64 x.num, .slice a x.kids.length c, .int .i64 x.at'] 41) = W2) :
    Below W.heap.size W W2 ∧ W2.heap.size = W.heap.size + 1 + 1 ∧ ∀ w', Below W2.heap.size W2 w' → Below W.heap.size W w' ∧ w'.cell? ⟨W.heap.size, 0, none⟩ = some v ∧ W.heap.size < w'.heap.size ∧ w'.heap[W.heap.size + 1]? = some (.cells #[.int .i64 x.kind, .string x.text, .int .i64 x.num, .slice a x.kids.length c, .int .i64 x.at'] 41) ∧ W.heap.size + 1 < w'.heap.size := by
  have hB : Below W.heap.size W W2 := by rw [← h]; exact ((Below.refl _ W).alloc (Nat.le_refl _) _).alloc (by simp) _
  have hz : W2.heap.size = W.heap.size + 1 + 1 := by rw [← h]; simp
  have h1 : W2.heap[W.heap.size]? = some (.cells #[v] 24) := by rw [← h]; exact rat_a2 W _ _
  have h2 : W2.heap[W.heap.size + 1]? = some (.cells #[.int .i64 x.kind, .string x.text, .int .i64 x.num, .slice a x.kids.length c, .int .i64 x.at'] 41) := by
    rw [← h]
    have := World.alloc_heap_new (W.alloc (.cells #[v] 24)) (.cells #[.int .i64 x.kind, .string x.text, .int .i64 x.num, .slice a x.kids.length c, .int .i64 x.at'] 41)
    rw [World.size_alloc] at this
    exact this
  refine ⟨hB, hz, fun w' hw => ?_⟩
  have hs := hw.size
  exact ⟨hB.trans (hw.mono (by omega)), by rw [Lib.cell_of_heap ((hw.block _ (by omega)).trans h1)]; rfl, by omega, (hw.block _ (by omega)).trans h2, by omega⟩

set_option maxRecDepth 100000 in
set_option maxHeartbeats 4000000 in
theorem leftA_any (W : World) (M : Nat) (v : Value) (l : List Nd) (n : Nat) (hN : Nodes W M v l) (hM : M ≤ W.heap.size) (hn : n < l.length) (hf : fitP l n = true) (h50 : (nd l n).kind ≠ 50) :
    Calls Tryz.prog 49 #[.agg #[v], .int .i64 (n : Int)] W fun e w' => e = .returned (.bool (leftA l n)) ∧ Below W.heap.size W w' := by
  have hl1 := hN.1
  have HFr : Hid (∀ w', Below W.heap.size W w' → (nd l n).kind = 44 → Calls Tryz.prog 40 #[.agg #[v], .int .i64 (n : Int), .int .i64 1] w' fun e w'' => e = .returned (.bool (noneK l n 1)) ∧ Below w'.heap.size w' w'') := fun w' h h44 => by
    obtain ⟨a, b⟩ := field_kid hf h44
    exact free5_any w' M v l n 1 (hN.keep h hM) (Nat.le_trans hM h.size) hn a b
  obtain ⟨b, o, cap, ka, kc, rfl, hc1, hc2, hb, d0, d1, d2, d3, d4, hkc, hkm, hK⟩ := hN.at hn
  obtain ⟨nk, hnk⟩ : ∃ nk, noneK l n 1 = nk := ⟨_, rfl⟩
  rw [hnk] at HFr
  unfold leftA
  rw [hnk]
  obtain ⟨x, hx⟩ : ∃ x, nd l n = x := ⟨_, rfl⟩
  rw [hx] at d0 d1 d2 d3 d4 h50 HFr ⊢
  have t1 : (n : Int) < l.length := by omega
  have t2 : (0 : Int) ≤ (n : Int) := by omega
  have t3 : b < W.heap.size := by omega
  obtain ⟨W2, hW2⟩ : ∃ W2, (W.alloc (.cells #[.slice (some ⟨b, o, none⟩) l.length cap] 24)).alloc (.cells #[.int .i64 x.kind, .string x.text, .int .i64 x.num, .slice ka x.kids.length kc, .int .i64 x.at'] 41) = W2 := ⟨_, rfl⟩
  obtain ⟨hB2, hz2, hX⟩ := two_box hW2
  have HX := hide hX
  have HB2 := hide hB2
  have HW2 := hide hW2
  have e50 : (x.kind == 50) = false := beq_eq_false_iff_ne.2 h50
  obtain ⟨_, m1, m2, m3, m4⟩ := hX W2 (Below.refl _ _)
  clear hN hf hK hx hnk hB2 hz2 hX hW2
  cases e51 : (x.kind == 51) with
  | true =>
    go_enter Tryz.func49, Tryz.ntmps49
    go_wp2
    go_ret
    exact ⟨rfl, by rw [unhide HW2]; exact unhide HB2⟩
  | false =>
    cases e52 : (x.kind == 52) with
    | true =>
      go_enter Tryz.func49, Tryz.ntmps49
      go_wp2
      go_ret
      exact ⟨rfl, by rw [unhide HW2]; exact unhide HB2⟩
    | false =>
      cases e44 : (x.kind == 44) with
      | true =>
        have HFr' := hide fun w' h => unhide HFr w' h (beq_iff_eq.1 e44)
        clear HFr
        go_enter Tryz.func49, Tryz.ntmps49
        go_wp2_with (go_at_call 40; rw [unhide HW2]; refine (unhide HFr' W2 (unhide HB2)).mono ?_; rintro e w3 ⟨rfl, hB3⟩)
        go_ret
        exact ⟨rfl, (unhide HX w3 hB3).1⟩
      | false =>
        go_enter Tryz.func49, Tryz.ntmps49
        go_wp2
        go_ret
        exact ⟨rfl, by rw [unhide HW2]; exact unhide HB2⟩

theorem exp_kid {l : List Nd} {n : Nat} (hf : fitP l n = true) (h : (nd l n).kind = 50) : 0 < (nd l n).kids.length ∧ ins l ((nd l n).kids.getD 0 0) = true ∧ (nd l ((nd l n).kids.getD 0 0).toNat).kind ≠ 50 := by
  have hz := fit_kz hf (by rw [h]; rfl) rfl
  match hks : (nd l n).kids, hz with
  | [], hz => simp [kz] at hz
  | k :: ks, hz =>
    simp only [kz, Bool.and_eq_true] at hz
    refine ⟨by simp, by simpa using hz.1.1, ?_⟩
    have h2 : expOk (nd l k.toNat).kind (nd l k.toNat).num = true := hz.1.2
    intro e
    have e' : (nd l k.toNat).kind = 50 := by simpa using e
    rw [e'] at h2
    simp [expOk, expK] at h2

set_option maxRecDepth 100000 in
set_option maxHeartbeats 4000000 in
theorem left_any (W : World) (M : Nat) (v : Value) (l : List Nd) (n : Nat) (hN : Nodes W M v l) (hM : M ≤ W.heap.size) (hn : n < l.length) (hc : (chkP l).2 = 0) :
    Calls Tryz.prog 49 #[.agg #[v], .int .i64 (n : Int)] W fun e w' => e = .returned (.bool (leftQ l n)) ∧ Below W.heap.size W w' := by
  have hf := (chk_all hc hn).fit
  by_cases h50 : (nd l n).kind = 50
  · obtain ⟨k0, ki, kn⟩ := exp_kid hf h50
    have hq := ins_iff'.1 ki
    obtain ⟨q, hq1⟩ : ∃ q : Nat, (nd l n).kids.getD 0 0 = (q : Int) := ⟨((nd l n).kids.getD 0 0).toNat, by omega⟩
    rw [hq1] at hq kn
    simp only [Int.toNat_natCast] at kn
    have hql : q < l.length := by omega
    have e : leftQ l n = leftA l q := by simp only [leftQ, if_pos h50, hq1, Int.toNat_natCast]
    rw [e]
    have HR : Hid (∀ w', Below W.heap.size W w' → Calls Tryz.prog 49 #[.agg #[v], .int .i64 (q : Int)] w' fun e w'' => e = .returned (.bool (leftA l q)) ∧ Below w'.heap.size w' w'') := fun w' h =>
      leftA_any w' M v l q (hN.keep h hM) (Nat.le_trans hM h.size) hql (chk_all hc hql).fit kn
    obtain ⟨b, o, cap, ka, kc, rfl, hc1, hc2, hb, d0, d1, d2, d3, d4, hkc, hkm, hK⟩ := hN.at hn
    have hl1 := hN.1
    rcases hK with h | ⟨kb, ko, rfl, hkb, hkc0⟩
    · rw [h] at k0; simp at k0
    have dk := hkc0 0 k0
    rw [hq1, Nat.add_zero] at dk
    obtain ⟨x, hx⟩ : ∃ x, nd l n = x := ⟨_, rfl⟩
    rw [hx] at d0 d1 d2 d3 d4 h50 k0
    have t1 : (n : Int) < l.length := by omega
    have t2 : (0 : Int) ≤ (n : Int) := by omega
    have t3 : b < W.heap.size := by omega
    have t4 : kb < W.heap.size := by omega
    have t5 : (0 : Int) < (x.kids.length : Int) := by omega
    obtain ⟨W2, hW2⟩ : ∃ W2, (W.alloc (.cells #[.slice (some ⟨b, o, none⟩) l.length cap] 24)).alloc (.cells #[.int .i64 x.kind, .string x.text, .int .i64 x.num, .slice (some ⟨kb, ko, none⟩) x.kids.length kc, .int .i64 x.at'] 41) = W2 := ⟨_, rfl⟩
    obtain ⟨hB2, hz2, hX⟩ := two_box hW2
    have HX := hide hX
    have HW2 := hide hW2
    have HDK := hide dk
    obtain ⟨la, hla⟩ : ∃ la, leftA l q = la := ⟨_, rfl⟩
    rw [hla] at HR ⊢
    have HC : Hid (∀ w', Below W2.heap.size W2 w' → W2.heap.size ≤ w'.heap.size ∧ Below W.heap.size W w' ∧ w'.cell? ⟨W.heap.size, 0, none⟩ = some (.slice (some ⟨b, o, none⟩) l.length cap) ∧ w'.cell? ⟨W.heap.size + 1, 3, none⟩ = some (.slice (some ⟨kb, ko, none⟩) x.kids.length kc) ∧ w'.cell? ⟨kb, ko, none⟩ = some (.int .i64 (q : Int)) ∧ W.heap.size < w'.heap.size ∧ W.heap.size + 1 < w'.heap.size ∧ kb < w'.heap.size) := fun w' hw => by
      obtain ⟨a1, a2, a3, a4, a5⟩ := unhide HX w' hw
      exact ⟨hw.size, a1, a2, by rw [Lib.cell_of_heap a4]; rfl, (a1.cell (p := ⟨kb, ko, none⟩) t4).trans (unhide HDK), a3, a5, by have := a1.size; omega⟩
    have q51 : (x.kind == 51) = false := by rw [h50]; rfl
    have q52 : (x.kind == 52) = false := by rw [h50]; rfl
    have q50 : (x.kind == 50) = true := by rw [h50]; rfl
    clear hN hf hkc0 hx hB2 hz2 hX hW2 dk hc hla e kn hq hq1 ki h50
    go_enter Tryz.func49, Tryz.ntmps49
    go_wp2
    rw [unhide HW2]
    refine region_C (C := fun w' => Below W2.heap.size W2 w') (by kernel_rfl) (by kernel_rfl) (Below.refl _ _).drew ?_
    repeat (first
      | go_big_quiet_skip
      | (go_big_quiet_want
         go_big_quiet_op
         first
           | go_big_quiet_on
           | (apply Exists.intro
              refine ⟨fun w hw => ?_, ?_⟩
              first
                | rfl
                | with_reducible exact (unhide HR w (unhide HC w hw).2.1).mono fun e w2 h => ⟨h.1, hw.trans (h.2.mono hw.size)⟩
                | (obtain ⟨hsz, hBw, e1, e2, e3, e4, e5, e6⟩ := unhide HC w hw
                   go_simp
                   first | done | rfl | exact ⟨rfl, rfl⟩)
              go_big_quiet_on)))
    refine wpQuiet_nil ?_
    intro w5 hw5
    have hBf := (unhide HC w5 hw5).2.1
    go_wp2
    go_ret
    exact ⟨rfl, hBf⟩
  · have e : leftQ l n = leftA l n := by simp only [leftQ, if_neg h50]
    rw [e]
    exact leftA_any W M v l n hN hM hn hf h50
end Go.Proofs.YtnnpkomedpjlcaaGreatDoor

/- Make of the reference in memory: a root whose kids grow, and nodes behind it. -/
namespace Go.Proofs.YtnnpkomedpjlcaaGreatDoor
set_option linter.unusedSimpArgs false
set_option linter.unusedVariables false
open Go.RowKit Go.Shelf

/-- A node whose kids are moved along. -/
def shV (b : Int) (x : Nd) : Nd := { x with kids := x.kids.map (· + b) }
/-- Trees laid one behind the other, from a place on: where each stands, and their nodes. -/
def joinT : List (List Nd) → Nat → List Int × List Nd
  | [], _ => ([], [])
  | t :: ts, p => ((p : Int) :: (joinT ts (p + t.length)).1, t.map (shV p) ++ (joinT ts (p + t.length)).2)
/-- A root over trees. -/
def mkT (x : Nd) (ts : List (List Nd)) : List Nd := { x with kids := (joinT ts 1).1 } :: (joinT ts 1).2
theorem joinT_append : ∀ (a b : List (List Nd)) (p : Nat), joinT (a ++ b) p = ((joinT a p).1 ++ (joinT b (p + (joinT a p).2.length)).1, (joinT a p).2 ++ (joinT b (p + (joinT a p).2.length)).2)
  | [], b, p => by simp [joinT]
  | t :: a, b, p => by
    have ih := joinT_append a b (p + t.length)
    simp only [List.cons_append, joinT]
    rw [ih]
    simp only [List.length_append, List.length_map, List.append_assoc, Nat.add_assoc, List.cons_append]
theorem joinT_snoc (a : List (List Nd)) (t : List Nd) (p : Nat) : joinT (a ++ [t]) p = ((joinT a p).1 ++ [((p + (joinT a p).2.length : Nat) : Int)], (joinT a p).2 ++ t.map (shV ((p + (joinT a p).2.length : Nat) : Int))) := by
  rw [joinT_append]
  simp [joinT]
theorem joinT_idx : ∀ (ts : List (List Nd)) (p : Nat), (joinT ts p).1.length = ts.length
  | [], _ => rfl
  | t :: ts, p => by simp [joinT, joinT_idx ts]

/-- The root and the nodes behind it, in rows of the call's own; the root's kids in a row apart from theirs. -/
structure MkAt (w : World) (B g cap : Nat) (x : Nd) (idx : List Int) (ua : Option Addr) (uc : Nat) (body : List NE) : Prop where
  row : w.ownsRow B 41 5 (.slice (some ⟨g, 0, none⟩) (1 + body.length) cap) (1 + body.length) (cellN ⟨{ x with kids := idx }, ua, uc⟩ ++ flatN body)
  own : w.ownsRow B 3 1 (.slice ua idx.length uc) idx.length (kvs idx)
  kid : ∀ e ∈ body, KidO w B e
  far : KidB body (.slice ua idx.length uc)
theorem MkAt.block41 {w : World} {B g cap : Nat} {x : Nd} {idx : List Int} {ua : Option Addr} {uc : Nat} {body : List NE} (h : MkAt w B g cap x idx ua uc body) : B ≤ g ∧ g < w.heap.size ∧ ∃ cur, w.heap[g]? = some (Obj.cells cur 41 (0, 0)) := by
  rcases h.row.2 with ⟨h1, _⟩ | ⟨g1, cap1, cur1, h1, hb, hh1, _⟩
  · cases h1
  · injection h1 with h1
    injection h1 with h1
    injection h1 with h1 _ _
    subst h1
    exact ⟨hb, (Array.getElem?_eq_some_iff.1 hh1).1, cur1, hh1⟩
theorem MkAt.block3 {w : World} {B g cap : Nat} {x : Nd} {idx : List Int} {ua : Option Addr} {uc : Nat} {body : List NE} (h : MkAt w B g cap x idx ua uc body) {k : Nat} (hk : (Value.slice ua idx.length uc).ownBlock = some k) : B ≤ k ∧ k < w.heap.size ∧ ∃ cur, w.heap[k]? = some (Obj.cells cur 3 (0, 0)) := by
  have hlt := h.own.lt k hk
  rcases h.own.2 with ⟨h0, _⟩ | ⟨g', c', cur, h0, _, hh, _⟩
  · rw [h0] at hk; cases hk
  · rw [h0] at hk
    have e : g' = k := by simpa [Value.ownBlock] using hk
    subst e
    exact ⟨hlt.1, hlt.2, cur, hh⟩
theorem MkAt.ne {w : World} {B g cap k : Nat} {x : Nd} {idx : List Int} {ua : Option Addr} {uc : Nat} {body : List NE} {cur : Array Value} (h : MkAt w B g cap x idx ua uc body) (hk : w.heap[k]? = some (Obj.cells cur 3 (0, 0))) : k ≠ g := fun e => by
  obtain ⟨_, _, cur', h'⟩ := h.block41
  rw [e, h'] at hk
  cases hk
/-- Nothing of it has turned. -/
theorem MkAt.below {w w' : World} {B g cap : Nat} {x : Nd} {idx : List Int} {ua : Option Addr} {uc : Nat} {body : List NE} (h : MkAt w B g cap x idx ua uc body) (hb : Below w.heap.size w w') : MkAt w' B g cap x idx ua uc body :=
  ⟨ownsRow_heap h.row fun k hk => hb.block k (h.row.lt k hk).2, ownsRow_heap h.own fun k hk => hb.block k (h.own.lt k hk).2, fun e he => (h.kid e he).below hb, h.far⟩
/-- A number is put behind the root's kids. -/
theorem MkAt.grown {W1 w0 w10 : World} {B g cap g10 cap10 : Nat} {x : Nd} {idx : List Int} {ua : Option Addr} {uc : Nat} {body : List NE} {y : Int} {o : Obj} (h : MkAt w0 B g cap x idx ua uc body) (hW : Below B W1 w0) (hgrow : (w0.alloc o).grownBy w10 (Value.slice ua idx.length uc).ownBlock) (hown : w10.ownsRow B 3 1 (.slice (some ⟨g10, 0, none⟩) (idx.length + 1) cap10) (idx.length + 1) (kvs idx ++ [.int .i64 y])) (hat : (Value.slice ua idx.length uc).ownBlock = some g10 ∨ g10 = (w0.alloc o).heap.size) (hBW : B ≤ W1.heap.size) :
    MkAt (w10.setCell ⟨g, 3, none⟩ (.slice (some ⟨g10, 0, none⟩) (idx.length + 1) cap10)) B g cap x (idx ++ [y]) (some ⟨g10, 0, none⟩) cap10 body ∧ Below B W1 (w10.setCell ⟨g, 3, none⟩ (.slice (some ⟨g10, 0, none⟩) (idx.length + 1) cap10)) := by
  obtain ⟨hBg, hgl, gcur, hg41⟩ := h.block41
  have hz := hgrow.size
  simp only [World.size_alloc] at hz hat
  have hk0 : ∀ k, k < w0.heap.size → some k ≠ (Value.slice ua idx.length uc).ownBlock → w10.heap[k]? = w0.heap[k]? := fun k hk hl => (hgrow.block k (by simp; omega) hl).trans (Below.heap_alloc _ _ _ hk)
  have hgu : some g ≠ (Value.slice ua idx.length uc).ownBlock := fun e => by
    obtain ⟨_, _, cur, hc⟩ := h.block3 e.symm
    exact h.ne hc rfl
  have hgg : g10 ≠ g := fun e => by
    rcases hat with h1 | h1
    · exact hgu (by rw [h1, e])
    · omega
  have hlen : (idx ++ [y]).length = idx.length + 1 := by simp
  have hw0 := hW.size
  refine ⟨⟨?_, ?_, fun e he => ?_, fun e he hks kb ha hob => ?_⟩, ?_⟩
  · have h1 : w10.ownsRow B 41 5 (.slice (some ⟨g, 0, none⟩) (1 + body.length) cap) (1 + body.length) (cellN ⟨{ x with kids := idx }, ua, uc⟩ ++ flatN body) := ownsRow_heap h.row fun k hk => by
      have : g = k := by simpa [Value.ownBlock] using hk
      subst this
      exact hk0 g hgl hgu
    have h2 := (h1.stored 3 (.slice (some ⟨g10, 0, none⟩) (idx.length + 1) cap10)).1
    have e2 : (cellN ⟨{ x with kids := idx }, ua, uc⟩ ++ flatN body).set 3 (.slice (some ⟨g10, 0, none⟩) (idx.length + 1) cap10) = cellN ⟨{ x with kids := idx ++ [y] }, some ⟨g10, 0, none⟩, cap10⟩ ++ flatN body := by
      simp [cellN]
    rw [e2] at h2
    exact h2
  · rw [hlen]
    have e1 : kvs (idx ++ [y]) = kvs idx ++ [.int .i64 y] := by simp [kvs]
    rw [e1]
    refine ownsRow_heap hown fun k hk => Below.heap_setCell _ _ _ _ ?_
    have : k = g10 := by simpa [Value.ownBlock] using hk.symm
    subst this
    exact hgg
  · obtain ⟨k1, k2, k3⟩ := h.kid e he
    refine ⟨k1, k2, ?_⟩
    by_cases hks : e.x.kids = []
    · exact .inl hks
    · rcases k3 with k3 | ⟨kb, cur, ha, hkb', hkh, hkc⟩
      · exact .inl k3
      · exact .inr ⟨kb, cur, ha, hkb', (Below.heap_setCell _ _ _ _ (h.ne hkh)).trans ((hk0 kb (Array.getElem?_eq_some_iff.1 hkh).1 (h.far e he hks kb ha)).trans hkh), hkc⟩
  · have e1 : kb = g10 := by simpa [Value.ownBlock] using hob
    rcases hat with h1 | h1
    · exact h.far e he hks kb ha (by rw [h1, e1])
    · obtain ⟨_, _, k3⟩ := h.kid e he
      rcases k3 with k3 | ⟨kb3, cur3, ha3, _, hkh3, _⟩
      · exact hks k3
      · have hlt3 := (Array.getElem?_eq_some_iff.1 hkh3).1
        rw [ha] at ha3
        injection ha3 with ha3
        injection ha3 with ha3 _ _
        omega
  · refine ⟨hgrow.os.trans hW.os, hgrow.tape.trans hW.tape, hgrow.output.trans hW.output, by simp [World.setCell]; omega, fun k hk => ?_⟩
    refine (Below.heap_setCell _ _ _ _ (by show k ≠ g; omega)).trans ((hk0 k (by omega) (fun e => ?_)).trans (hW.block k hk))
    have := (h.own.lt k e.symm).1
    omega
/-- Ahead of the root's kids being set. -/
theorem MkAt.grown0 {w0 w10 : World} {B g cap : Nat} {x : Nd} {idx : List Int} {ua : Option Addr} {uc : Nat} {body : List NE} {o : Obj} (h : MkAt w0 B g cap x idx ua uc body) (hgrow : (w0.alloc o).grownBy w10 (Value.slice ua idx.length uc).ownBlock) : w10.cell? ⟨g, 3, none⟩ = some (.slice ua idx.length uc) ∧ w10.frozen? ⟨g, 3, none⟩ = false ∧ g < w10.heap.size := by
  obtain ⟨hBg, hgl, gcur, hg41⟩ := h.block41
  have hz := hgrow.size
  simp only [World.size_alloc] at hz
  have hgu : some g ≠ (Value.slice ua idx.length uc).ownBlock := fun e => by
    obtain ⟨_, _, cur, hc⟩ := h.block3 e.symm
    exact h.ne hc rfl
  have h1 : w10.ownsRow B 41 5 (.slice (some ⟨g, 0, none⟩) (1 + body.length) cap) (1 + body.length) (cellN ⟨{ x with kids := idx }, ua, uc⟩ ++ flatN body) := ownsRow_heap h.row fun k hk => by
    have : g = k := by simpa [Value.ownBlock] using hk
    subst this
    exact (hgrow.block g (by simp; omega) hgu).trans (Below.heap_alloc _ _ _ hgl)
  exact ⟨by rw [h1.cellAt 3 (by omega)]; rfl, h1.frozenAt 3, by omega⟩
/-- A node is laid behind. -/
theorem MkAt.laid {W1 w7 w8 : World} {B g cap g8 cap8 : Nat} {x : Nd} {idx : List Int} {ua : Option Addr} {uc : Nat} {body : List NE} {ne : NE} {o : Obj} (h : MkAt w7 B g cap x idx ua uc body) (hW : Below B W1 w7) (hBW : B ≤ W1.heap.size) (hgrow : (w7.alloc o).grownBy w8 (some g)) (hown : w8.ownsRow B 41 5 (.slice (some ⟨g8, 0, none⟩) (1 + body.length + 1) cap8) (1 + body.length + 1) (cellN ⟨{ x with kids := idx }, ua, uc⟩ ++ flatN body ++ cellN ne)) (hat : some g = some g8 ∨ g8 = (w7.alloc o).heap.size) (hne : KidO w7 B ne) (hfar : KidB [ne] (.slice ua idx.length uc)) :
    MkAt w8 B g8 cap8 x idx ua uc (body ++ [ne]) ∧ Below B W1 w8 := by
  obtain ⟨hBg, hgl, gcur, hg41⟩ := h.block41
  have hz := hgrow.size
  simp only [World.size_alloc] at hz hat
  have hk0 : ∀ k, k < w7.heap.size → k ≠ g → w8.heap[k]? = w7.heap[k]? := fun k hk hl => (hgrow.block k (by simp; omega) (fun e => hl (by injection e))).trans (Below.heap_alloc _ _ _ hk)
  have hw0 := hW.size
  have hi3 : ∀ (k : Nat) (cur : Array Value), w7.heap[k]? = some (Obj.cells cur 3 (0, 0)) → w8.heap[k]? = w7.heap[k]? := fun k cur hk => hk0 k (Array.getElem?_eq_some_iff.1 hk).1 (h.ne hk)
  refine ⟨⟨?_, ?_, fun e he => ?_, fun e he => ?_⟩, ?_⟩
  · have e1 : 1 + (body ++ [ne]).length = 1 + body.length + 1 := by simp; omega
    rw [e1, flatN_snoc, ← List.append_assoc]
    exact hown
  · refine ownsRow_heap h.own fun k hk => ?_
    obtain ⟨_, _, cur, hc⟩ := h.block3 hk
    exact hi3 k cur hc
  · rcases List.mem_append.1 he with he | he
    · exact (h.kid e he).keep hi3
    · obtain rfl : e = ne := by simpa using he
      exact hne.keep hi3
  · rcases List.mem_append.1 he with he | he
    · exact h.far e he
    · exact hfar e he
  · exact ⟨hgrow.os.trans hW.os, hgrow.tape.trans hW.tape, hgrow.output.trans hW.output, by omega, fun k hk => (hk0 k (by omega) (by omega)).trans (hW.block k hk)⟩
/-- The root and what is behind it are a row of nodes. -/
theorem MkAt.ownN {w : World} {B g cap : Nat} {x : Nd} {idx : List Int} {ua : Option Addr} {uc : Nat} {body : List NE} (h : MkAt w B g cap x idx ua uc body) : OwnN w B (.slice (some ⟨g, 0, none⟩) (1 + body.length) cap) (⟨{ x with kids := idx }, ua, uc⟩ :: body) := by
  have e1 : (⟨{ x with kids := idx }, ua, uc⟩ :: body : List NE).length = 1 + body.length := by simp; omega
  refine ⟨?_, fun e he => ?_⟩
  · rw [e1]
    exact h.row
  · rcases List.mem_cons.1 he with rfl | he
    · have hcp := own_cap h.own
      refine ⟨hcp.1, hcp.2, ?_⟩
      rcases h.own.2 with ⟨_, h0⟩ | ⟨g', cap', cur, h0, hb', hh, _, _, _, ht⟩
      · exact .inl (List.length_eq_zero_iff.1 h0)
      · injection h0 with h1 _ _
        refine .inr ⟨g', cur, h1, hb', hh, fun j hj => ?_⟩
        have hj' : j < idx.length := hj
        have e1 : (cur.toList.take (idx.length * 1))[j]? = cur[j]? := by rw [List.getElem?_take, if_pos (by omega)]; simp
        rw [← e1, ht]
        simp [kvs, List.getElem?_map, List.getD_eq_getElem?_getD, List.getElem?_eq_getElem hj']
    · exact h.kid e he
end Go.Proofs.YtnnpkomedpjlcaaGreatDoor

/- What the reference's stripped makes, purely. -/
namespace Go.Proofs.YtnnpkomedpjlcaaGreatDoor
set_option linter.unusedSimpArgs false
set_option linter.unusedVariables false

theorem layK_shift {l : List Nd} (p : Nat) : ∀ (ks : List Int) (q : Nat), (∀ k ∈ ks, ∀ q, lay l k.toNat (q + p) = (lay l k.toNat q).map (shV p)) → layK (lay l) ks (q + p) = ((layK (lay l) ks q).1.map (· + (p : Int)), (layK (lay l) ks q).2.map (shV p))
  | [], q, _ => rfl
  | k :: ks, q, h => by
    have h1 := h k (by simp) q
    have h2 := layK_shift p ks (q + (lay l k.toNat q).length) (fun k' hk' => h k' (by simp [hk']))
    simp only [layK]
    rw [h1, List.length_map, show q + p + (lay l k.toNat q).length = q + (lay l k.toNat q).length + p from by omega, h2]
    simp
theorem lay_shift {l : List Nd} (hc : (chkP l).2 = 0) (p : Nat) : ∀ (d n : Nat), en l n - n ≤ d → n < l.length → ∀ q, lay l n (q + p) = (lay l n q).map (shV p)
  | 0, n, hd, hn, q => by have := (chk_all hc hn).le; omega
  | d + 1, n, hd, hn, q => by
    obtain ⟨a, b, c, e⟩ := inn_in' hc hn
    have hf := chk_all hc b
    have hK := layK_shift (l := l) p (kp l (inn l n)) (q + 1) (fun k hk q' => by
      obtain ⟨k', rfl, hk', h1, h2⟩ := chain_kids _ _ _ hf.chain k (kp_sub hk).1
      simp only [Int.toNat_natCast]
      exact lay_shift hc p d k' (by omega) hk'.1 q')
    rw [lay_eq hc hn, lay_eq hc hn, show q + p + 1 = q + 1 + p from by omega, hK]
    rfl
theorem lay_shift' {l : List Nd} (hc : (chkP l).2 = 0) {n : Nat} (hn : n < l.length) (p : Nat) : lay l n p = (lay l n 0).map (shV p) := by
  have := lay_shift hc p _ n (Nat.le_refl _) hn 0
  rwa [Nat.zero_add] at this
theorem joinT_lay {l : List Nd} (hc : (chkP l).2 = 0) : ∀ (ks : List Int) (p : Nat), (∀ k ∈ ks, ins l k = true) → joinT (ks.map fun k => lay l k.toNat 0) p = layK (lay l) ks p
  | [], p, _ => rfl
  | k :: ks, p, h => by
    have hn := (ins_iff.1 (h k (by simp))).2
    have ih := joinT_lay hc ks (p + (lay l k.toNat 0).length) (fun k' hk' => h k' (by simp [hk']))
    have e : lay l k.toNat p = (lay l k.toNat 0).map (shV p) := lay_shift' hc hn p
    simp only [List.map_cons, joinT, layK]
    rw [e, List.length_map, ih]
/-- The kids' numbers of what is laid lie within. -/
theorem layK_in {l : List Nd} : ∀ (ks : List Int) (p : Nat), (∀ k ∈ ks, ∀ p, lay l k.toNat p ≠ [] ∧ ∀ x ∈ lay l k.toNat p, ∀ j ∈ x.kids, (p : Int) ≤ j ∧ j < (p + (lay l k.toNat p).length : Nat)) → (∀ j ∈ (layK (lay l) ks p).1, (p : Int) ≤ j ∧ j < (p + (layK (lay l) ks p).2.length : Nat)) ∧ ∀ x ∈ (layK (lay l) ks p).2, ∀ j ∈ x.kids, (p : Int) ≤ j ∧ j < (p + (layK (lay l) ks p).2.length : Nat)
  | [], p, _ => ⟨fun j hj => (by cases hj), fun x hx => (by cases hx)⟩
  | k :: ks, p, h => by
    obtain ⟨h0, h1⟩ := h k (by simp) p
    obtain ⟨i1, i2⟩ := layK_in ks (p + (lay l k.toNat p).length) (fun k' hk' => h k' (by simp [hk']))
    have hl : 0 < (lay l k.toNat p).length := List.length_pos_iff.2 h0
    simp only [layK, List.length_append]
    refine ⟨fun j hj => ?_, fun x hx j hj => ?_⟩
    · rcases List.mem_cons.1 hj with rfl | hj
      · omega
      · have := i1 j hj; omega
    · rcases List.mem_append.1 hx with hx | hx
      · have := h1 x hx j hj; omega
      · have := i2 x hx j hj; omega
theorem lay_in {l : List Nd} (hc : (chkP l).2 = 0) : ∀ (d n : Nat), en l n - n ≤ d → n < l.length → ∀ p, lay l n p ≠ [] ∧ ∀ x ∈ lay l n p, ∀ j ∈ x.kids, (p : Int) ≤ j ∧ j < (p + (lay l n p).length : Nat)
  | 0, n, hd, hn, p => by have := (chk_all hc hn).le; omega
  | d + 1, n, hd, hn, p => by
    obtain ⟨a, b, c, e⟩ := inn_in' hc hn
    have hf := chk_all hc b
    obtain ⟨i1, i2⟩ := layK_in (l := l) (kp l (inn l n)) (p + 1) (fun k hk p' => by
      obtain ⟨k', rfl, hk', h1, h2⟩ := chain_kids _ _ _ hf.chain k (kp_sub hk).1
      simp only [Int.toNat_natCast]
      exact lay_in hc d k' (by omega) hk'.1 p')
    rw [lay_eq hc hn]
    refine ⟨by simp, fun x hx j hj => ?_⟩
    simp only [List.length_cons]
    rcases List.mem_cons.1 hx with rfl | hx
    · have := i1 j hj; omega
    · have := i2 x hx j hj; omega
theorem lay_kidsLen {l : List Nd} (hc : (chkP l).2 = 0) : ∀ (d n : Nat), en l n - n ≤ d → n < l.length → ∀ p, ∀ x ∈ lay l n p, x.kids.length ≤ l.length
  | 0, n, hd, hn, p => by have := (chk_all hc hn).le; omega
  | d + 1, n, hd, hn, p => by
    obtain ⟨a, b, c, e⟩ := inn_in' hc hn
    have hf := chk_all hc b
    have hle := hf.le
    have hkl : (nd l (inn l n)).kids.length ≤ l.length := by
      have : ∀ (ks : List Int) (next e : Nat), Chain l ks next e → ks.length ≤ e - next := by
        intro ks
        induction ks with
        | nil => intro next e _; simp
        | cons k ks ih =>
          intro next e h
          have h1 := ih _ _ h.2.2
          have h2 := h.2.1.le
          have h3 := chain_le _ _ _ h.2.2
          simp only [List.length_cons]
          omega
      have := this _ _ _ hf.chain
      omega
    have hK : ∀ (ks : List Int) (p : Nat), (∀ k ∈ ks, k ∈ (nd l (inn l n)).kids) → ∀ x ∈ (layK (lay l) ks p).2, x.kids.length ≤ l.length := by
      intro ks
      induction ks with
      | nil => intro p _ x hx; cases hx
      | cons k ks ih =>
        intro p hk x hx
        simp only [layK] at hx
        rcases List.mem_append.1 hx with hx | hx
        · obtain ⟨k', rfl, hk', h1, h2⟩ := chain_kids _ _ _ hf.chain k (hk k (by simp))
          simp only [Int.toNat_natCast] at hx
          exact lay_kidsLen hc d k' (by omega) hk'.1 p x hx
        · exact ih _ (fun k' h' => hk k' (by simp [h'])) x hx
    rw [lay_eq hc hn]
    intro x hx
    rcases List.mem_cons.1 hx with rfl | hx
    · show (layK (lay l) (kp l (inn l n)) (p + 1)).1.length ≤ _
      have e1 : ∀ (ks : List Int) (p : Nat), (layK (lay l) ks p).1.length = ks.length := by
        intro ks
        induction ks with
        | nil => intro p; rfl
        | cons k ks ih => intro p; simp [layK, ih]
      rw [e1]
      have : (kp l (inn l n)).length ≤ (nd l (inn l n)).kids.length := List.length_filter_le _ _
      omega
    · exact hK _ _ (fun k hk => (kp_sub hk).1) x hx

/-- A node that the reference strips. -/
structure Ok2 (l : List Nd) (n : Nat) : Prop where
  ok : Ok l n
  ty : typeK (nd l n).kind = false
  ls : (nd l n).kind = 2 → ∀ k ∈ (nd l n).kids, isE (nd l k.toNat).kind = true ∨ (nd l k.toNat).kind = 66 ∨ (nd l k.toNat).kind = 44 ∨ (nd l k.toNat).kind = 45 ∨ (nd l k.toNat).kind = 46
theorem nty {k : Int} (h : ¬ (80 ≤ k ∧ k ≤ 87 ∧ k ≠ 85)) : typeK k = false := by
  cases e : typeK k with
  | false => rfl
  | true => exact absurd (typeK_iff.1 e) h
theorem Ok2.expr {l : List Nd} {n : Nat} (h : isE (nd l n).kind = true) : Ok2 l n := by
  have h' := isE_iff.1 h
  exact ⟨Ok.expr h, nty (by omega), by omega⟩
theorem Ok2.inn {l : List Nd} (hc : (chkP l).2 = 0) {n : Nat} (hn : n < l.length) (h : Ok2 l n) : Ok2 l (inn l n) := by
  by_cases hk : (nd l n).kind = 33 ∨ (nd l n).kind = 34
  · exact Ok2.expr (inn_expr hc _ n (Nat.le_refl _) hn (about_isE hk))
  · rw [inn_stop hk]; exact h
theorem apl_type {f : Nat} (hf : f ∈ aF) {k num : Int} (h : apl f k num = true) (ht : typeK k = true) : f = 123 := by
  have ht := typeK_iff.1 ht
  simp only [aF, List.mem_cons, List.not_mem_nil, or_false] at hf
  rcases hf with rfl | rfl | rfl | rfl | rfl | rfl | rfl | rfl | rfl | rfl | rfl | rfl | rfl | rfl | rfl | rfl
  · have := isS_facts h; omega
  · have := isE_iff.1 h; omega
  · have : k = 21 := beq_iff_eq.1 h; omega
  · have h' : (k == 63 || isE k) = true := h
    rw [Bool.or_eq_true, beq_iff_eq, isE_iff] at h'; omega
  · have h' : (k == 17 || k == 29 || k == 30) = true := h
    simp only [Bool.or_eq_true, beq_iff_eq] at h'; omega
  · have : k = 63 := beq_iff_eq.1 h; omega
  · rfl
  · have h' : (k == 43 || k == 1) = true := h
    simp only [Bool.or_eq_true, beq_iff_eq] at h'; omega
  · have h' : (isE k || k == 1) = true := h
    rw [Bool.or_eq_true, beq_iff_eq, isE_iff] at h'; omega
  · have : k = 48 := beq_iff_eq.1 h; omega
  · have h' : (isS k || k == 50) = true := h
    rw [Bool.or_eq_true, beq_iff_eq] at h'
    rcases h' with h' | h'
    · have := isS_facts h'; omega
    · omega
  · have := expOk_facts h; omega
  · have h' : (k == 53 || (k == 63 || k == 1)) = true := h
    simp only [Bool.or_eq_true, beq_iff_eq] at h'; omega
  · have h' : ((k == 40 && num == 0) || k == 1) = true := h
    simp only [Bool.or_eq_true, Bool.and_eq_true, beq_iff_eq] at h'; omega
  · have h' : (k == 62 || k == 1) = true := h
    simp only [Bool.or_eq_true, beq_iff_eq] at h'; omega
  · have h' : (k == 63 || k == 1) = true := h
    simp only [Bool.or_eq_true, beq_iff_eq] at h'; omega
theorem leftQ_false {l : List Nd} {n : Nat} (h50 : (nd l n).kind ≠ 50) (h51 : (nd l n).kind ≠ 51) (h52 : (nd l n).kind ≠ 52) (h44 : (nd l n).kind ≠ 44) : leftQ l n = false := by
  rw [leftQ, if_neg h50, leftA, beq_eq_false_iff_ne.2 h51, beq_eq_false_iff_ne.2 h52, beq_eq_false_iff_ne.2 h44]
  rfl
/-- Places whose kids are emptied. -/
def emptyF : List Nat := [95, 62, 125, 123]
def empChk (kr : Int × RowV) : Bool := badK kr.1 || ((match kr.2.m with
  | none => (List.range 4).all fun i => match [kr.2.k0, kr.2.k1, kr.2.k2, kr.2.k3].getD i none with
    | none => true
    | some g => emptP kr.1 (i : Int) == emptyF.contains g
  | some _ => !(kr.1 == 22 || kr.1 == 43 || kr.1 == 41 || kr.1 == 45 || kr.1 == 42 || kr.1 == 27 || kr.1 == 28 || kr.1 == 40 || kr.1 == 44 || kr.1 == 66)))
set_option maxRecDepth 100000 in
theorem emp_chk : (tabTL ++ tabEL ++ tabSL).all empChk = true := by decide
theorem tab_in {k : Int} {r : RowV} (h : tabT k = some r) : (k, r) ∈ tabTL ++ tabEL ++ tabSL := by
  simp only [tabT] at h
  split at h
  · rename_i r' hr
    cases h
    simp [lookup_pair hr]
  · simp only [tabE] at h
    split at h
    · rename_i r' hr
      cases h
      simp [lookup_pair hr]
    · simp only [tabS] at h
      split at h
      · rename_i r' hr
        cases h
        simp [lookup_pair hr]
      · cases h
theorem emp_row {k : Int} {r : RowV} (h : tabT k = some r) (hb : badK k = false) : (r.m = none → ∀ i g, i < 4 → [r.k0, r.k1, r.k2, r.k3].getD i none = some g → emptP k (i : Int) = emptyF.contains g) ∧ (∀ f, r.m = some f → ∀ i, emptP k i = false) := by
  have hc := List.all_eq_true.1 emp_chk _ (tab_in h)
  simp only [empChk, hb, Bool.false_or] at hc
  refine ⟨fun hm i g hi hg => ?_, fun f hm i => ?_⟩
  · rw [hm] at hc
    simp only at hc
    have := List.all_eq_true.1 hc i (by simpa using hi)
    rw [hg] at this
    simpa using this
  · rw [hm] at hc
    simp only [Bool.not_eq_true', Bool.or_eq_false_iff, beq_eq_false_iff_ne] at hc
    rw [emptP, if_neg (by omega), if_neg (by omega), if_neg (by omega), if_neg (by omega)]
theorem empty_text {s : ByteArray} (h : s.toList.isEmpty = true) : s = ⟨#[]⟩ := by
  rw [ba_toList] at h
  cases s with
  | mk d =>
    congr 1
    simpa using h
/-- What is laid of an emptied kid. -/
theorem lay_one {l : List Nd} (hc : (chkP l).2 = 0) {k : Nat} (hk : k < l.length) {g : Nat} (hg : g ∈ emptyF) (hp : plOf g l k = true) (p : Nat) : lay l k p = [oneN (if (nd l k).kind = 2 then 2 else 1) (nd l k)] := by
  have hfit := (chk_all hc hk).fit
  have T : ∀ r, tabT (nd l k).kind = some r → r.t = none → r.n = none → (nd l k).text = ⟨#[]⟩ ∧ (nd l k).num = 0 := fun r hr h1 h2 => by
    obtain ⟨r', hr', htx, hnm, _⟩ := fit_parts hfit
    rw [hr] at hr'
    obtain rfl := Option.some.inj hr'
    simp only [txP, h1] at htx
    simp only [nmP, h2, beq_iff_eq] at hnm
    exact ⟨empty_text htx, hnm⟩
  simp only [emptyF, List.mem_cons, List.not_mem_nil, or_false] at hg
  have L : (nd l k).kind = 2 → kp l k = [] → lay l k p = [oneN (if (nd l k).kind = 2 then 2 else 1) (nd l k)] := fun h2 hkp => by
    obtain ⟨t1, t2⟩ := T _ (by rw [h2]; rfl) rfl rfl
    rw [lay_eq hc hk, inn_stop (by omega), hkp, if_pos h2]
    have : typeK (nd l k).kind = false := by rw [h2]; rfl
    simp only [aloneN, this, Bool.false_eq_true, if_false, layK, oneN, t1, t2]
    rw [if_neg (by omega), if_neg (by omega), h2]
  have E : ∀ pr, pList pr l k = true → (∀ m, pr l m = true → listT l m = true) → kp l k = [] := fun pr hpr hT => by
    obtain ⟨h2, b⟩ := pList_iff.1 hpr
    rw [kp_list h2, List.filter_eq_nil_iff]
    intro k' hm
    simp [hT _ (kAll_mem b hm).2]
  rcases hg with rfl | rfl | rfl | rfl
  · exact L (pList_iff.1 (show pList (pK 67) l k = true from hp)).1 (E (pK 67) hp fun m hm => listT_67 (beq_iff_eq.1 hm))
  · exact L (pList_iff.1 (show pList pTyp l k = true from hp)).1 (E pTyp hp fun m hm => listT_type (by rw [← isT_typeK]; exact hm))
  · exact L (pList_iff.1 (show pList (pK 80) l k = true from hp)).1 (E (pK 80) hp fun m hm => listT_type (by rw [beq_iff_eq.1 hm]; rfl))
  · have hp' : (isT (nd l k).kind || (nd l k).kind == 1) = true := hp
    rw [Bool.or_eq_true, beq_iff_eq, isT_typeK] at hp'
    rcases hp' with ht | h1
    · have ht' := typeK_iff.1 ht
      rw [lay_eq hc hk, inn_stop (by omega), kp_type ht, if_neg (by omega)]
      simp only [aloneN, ht, if_true, layK, oneN]
    · obtain ⟨t1, t2⟩ := T _ (by rw [h1]; rfl) rfl rfl
      have hks : (nd l k).kids = [] := by
        have hz := fit_kz hfit (by rw [h1]; rfl) rfl
        match hks : (nd l k).kids with
        | [] => rfl
        | _ :: _ => rw [hks] at hz; simp [kz] at hz
      have hkp : kp l k = [] := by simp [kp, hks]
      have : typeK (nd l k).kind = false := by rw [h1]; rfl
      rw [lay_eq hc hk, inn_stop (by omega), hkp, if_neg (by omega)]
      simp only [aloneN, this, Bool.false_eq_true, if_false, layK, oneN, t1, t2]
      rw [if_neg (by omega), if_neg (by omega), h1]
/-- What the reference does of each kid. -/
theorem kid_ref {l : List Nd} (hc : (chkP l).2 = 0) {m : Nat} (hm : m < l.length) (has : ¬ ((nd l m).kind = 33 ∨ (nd l m).kind = 34)) (hok : Ok2 l m) (i : Nat) (hi : i < (nd l m).kids.length) :
    (emptP (nd l m).kind i = true → leftP (ruleF (nd l m).kind) l ((nd l m).kids.getD i 0).toNat = false ∧ ∀ p, lay l ((nd l m).kids.getD i 0).toNat p = [oneN (if (nd l ((nd l m).kids.getD i 0).toNat).kind = 2 then 2 else 1) (nd l ((nd l m).kids.getD i 0).toNat)]) ∧
    (emptP (nd l m).kind i = false → leftQ l ((nd l m).kids.getD i 0).toNat = leftP (ruleF (nd l m).kind) l ((nd l m).kids.getD i 0).toNat ∧ (leftQ l ((nd l m).kids.getD i 0).toNat = false → Ok2 l ((nd l m).kids.getD i 0).toNat)) := by
  have hfit := (chk_all hc hm).fit
  obtain ⟨r, hr, htx, hnm, hkd⟩ := fit_parts hfit
  have hbad := hok.ok.bad has hok.ty
  obtain ⟨f1, f2, f3⟩ := row_facts hr hbad
  obtain ⟨e1, e2⟩ := emp_row hr hbad
  have hmem : (nd l m).kids.getD i 0 ∈ (nd l m).kids := by rw [List.getD_eq_getElem?_getD, List.getElem?_eq_getElem hi]; exact List.getElem_mem _
  have hins := fit_ins hfit _ hmem
  have hkl := (ins_iff.1 hins).2
  obtain ⟨k, hk⟩ : ∃ k, ((nd l m).kids.getD i 0).toNat = k := ⟨_, rfl⟩
  rw [hk] at hkl ⊢
  -- of a place that is not emptied
  have P : ∀ g, (g ∈ aF ∨ g ∈ bF ∨ g = 102) → plOf g l k = true → (g ∉ emptyF) → (g = 60 ∨ g = 132 ∨ g = 133 → forT l k = false) → leftQ l k = false ∧ Ok2 l k := by
    intro g hg hp hne hL
    rcases hg with hg | hg | rfl
    · have hok' := ok_apl hg hp hL
      have hp' := hp
      rw [apl_eq hg] at hp'
      obtain ⟨a2, a44, a67, a85, a51, a50, a48⟩ := apl_kinds hg hp'
      have hty : typeK (nd l k).kind = false := by
        cases e : typeK (nd l k).kind with
        | false => rfl
        | true => exact absurd (by rw [apl_type hg hp' e]; decide) hne
      refine ⟨?_, hok', hty, fun h => absurd h a2⟩
      by_cases h50 : (nd l k).kind = 50
      · have hf := hok'.k50 h50
        obtain ⟨x1, x2, x3⟩ := exp_kid (chk_all hc hkl).fit h50
        have x4 : (nd l ((nd l k).kids.getD 0 0).toNat).kind ≠ 44 := by
          have hz := fit_kz (chk_all hc hkl).fit (by rw [h50]; rfl) rfl
          have := kz_head hz
          have h2 : expOk (nd l ((nd l k).kids.getD 0 0).toNat).kind (nd l ((nd l k).kids.getD 0 0).toNat).num = true := this
          have := expOk_facts h2
          omega
        simp only [forT, expN, if_pos h50, Bool.or_eq_false_iff, beq_eq_false_iff_ne] at hf
        rw [leftQ, if_pos h50, leftA, beq_eq_false_iff_ne.2 hf.1, beq_eq_false_iff_ne.2 hf.2, beq_eq_false_iff_ne.2 x4]
        rfl
      · exact leftQ_false h50 hok'.k51 hok'.k52 a44
    · obtain ⟨h2, hls⟩ := bpl_kinds hg hp
      refine ⟨leftQ_false (by omega) (by omega) (by omega) (by omega), ok_bpl hg hp, by rw [h2]; rfl, fun _ k' hk' => ?_⟩
      simp only [bF, List.mem_cons, List.not_mem_nil, or_false] at hg
      rcases hg with rfl | rfl | rfl | rfl | rfl | rfl | rfl
      · exact absurd (by decide) hne
      · have h3 : ((nd l k'.toNat).kind == 66 && zo (nd l k'.toNat).num) = true := (kAll_mem (pList_iff.1 (show pList pParam l k = true from hp)).2 hk').2
        rw [Bool.and_eq_true, beq_iff_eq] at h3
        exact .inr (.inl h3.1)
      · exact absurd (by decide) hne
      · exact .inl (kAll_mem (pList_iff.1 (show pList pExpr l k = true from hp)).2 hk').2
      · exact absurd (by decide) hne
      · have h' : ((nd l k).kind == 2 && mem l 0 (nd l k).kids) = true := hp
        rw [Bool.and_eq_true] at h'
        have := (mem_kinds _ _ h'.2 k' hk').2
        omega
      · have h3 : ((nd l k'.toNat).kind == 66) = true := (kAll_mem (pList_iff.1 (show pList (pK 66) l k = true from hp)).2 hk').2
        exact .inr (.inl (beq_iff_eq.1 h3))
    · have he : isE (nd l k).kind = true := mov_E _ _ hp
      have he' := isE_iff.1 he
      exact ⟨leftQ_false (by omega) (by omega) (by omega) (by omega), Ok2.expr he⟩
  cases hmm : r.m with
  | none =>
    obtain ⟨g1, g2⟩ := f1 hmm
    have hz := fit_kz hfit hr hmm
    have hi4 : i < 4 := by
      have : ∀ (fs : List (Option Nat)) (ks : List Int), kz l fs ks = true → ks.length ≤ fs.length := by
        intro fs
        induction fs with
        | nil => intro ks h; cases ks with
          | nil => simp
          | cons => cases h
        | cons f fs ih =>
          intro ks h
          cases ks with
          | nil => simp
          | cons k ks =>
            cases f with
            | none => cases h
            | some g =>
              simp only [kz, Bool.and_eq_true] at h
              have := ih ks h.2
              simp; omega
      have := this _ _ hz
      simp at this
      omega
    obtain ⟨g, hg⟩ : ∃ g, [r.k0, r.k1, r.k2, r.k3].getD i none = some g := by
      have : ∀ (fs : List (Option Nat)) (ks : List Int) (j : Nat), kz l fs ks = true → j < ks.length → ∃ g, fs.getD j none = some g := by
        intro fs
        induction fs with
        | nil => intro ks j h hj; cases ks with
          | nil => simp at hj
          | cons => cases h
        | cons f fs ih =>
          intro ks j h hj
          cases ks with
          | nil => simp at hj
          | cons k ks =>
            cases f with
            | none => cases h
            | some g =>
              simp only [kz, Bool.and_eq_true] at h
              cases j with
              | zero => exact ⟨g, rfl⟩
              | succ j =>
                obtain ⟨g', hg'⟩ := ih ks j h.2 (by simpa using hj)
                exact ⟨g', by simpa using hg'⟩
      exact this _ _ i hz hi
    have hg? : [r.k0, r.k1, r.k2, r.k3][i]? = some (some g) := by
      rw [List.getD_eq_getElem?_getD] at hg
      cases e : [r.k0, r.k1, r.k2, r.k3][i]? with
      | none => rw [e] at hg; cases hg
      | some o => rw [e] at hg; simp at hg; rw [hg]
    have hp := kz_nth _ _ i g hz hg? hi
    rw [hk] at hp
    have hE := e1 hmm i g hi4 hg
    obtain ⟨c1, c2, c3, c4, c5⟩ := g1 g (List.mem_of_getElem? hg?)
    rw [g2, left46]
    refine ⟨fun he => ⟨rfl, fun p => ?_⟩, fun he => ?_⟩
    · rw [he] at hE
      have hgm : g ∈ emptyF := by simpa using hE.symm
      exact lay_one hc hkl hgm hp p
    · rw [he] at hE
      have hgm : g ∉ emptyF := by simpa using hE.symm
      have hres := P g c1 hp hgm (fun h => by
        have hg133 : g = 133 := by omega
        have h50 := c5 hg133
        have hf := hok.ok.k50 h50
        have hi0 : i = 0 := by
          match hks : (nd l m).kids with
          | [] => rw [hks] at hi; simp at hi
          | [k'] => rw [hks] at hi; simp at hi; exact hi
          | _ :: _ :: _ =>
            rw [h50] at hr
            obtain rfl := Option.some.inj hr
            rw [hks] at hz; simp [kz] at hz
        subst hi0
        subst hg133
        have hx := expOk_facts (show expOk (nd l k).kind (nd l k).num = true from hp)
        simp only [forT, expN, if_pos h50, hk] at hf
        rw [forT_kind (by omega)]
        exact hf)
      exact ⟨hres.1, fun _ => hres.2⟩
  | some f =>
    have hE : emptP (nd l m).kind i = false := e2 f hmm i
    have hf := f2 f hmm
    obtain ⟨tt, nn, k0, k1, k2, k3, m', aa⟩ := r
    simp only at hmm
    subst hmm
    rw [kidP_more, Bool.and_eq_true] at hkd
    have hpl := (kAll_mem hkd.1 hmem).2
    rw [hk] at hpl
    refine ⟨fun he => (by rw [hE] at he; cases he), fun _ => ?_⟩
    rcases hf with ⟨rfl, h2⟩ | ⟨rfl, h2⟩ | ⟨rfl, h2⟩ | ⟨rfl, h2⟩ | ⟨rfl, h2⟩ | ⟨rfl, h2⟩
    · have hls := hok.ls h2 _ hmem
      rw [hk] at hls
      rw [h2]
      show leftQ l k = listT l k ∧ _
      rw [isE_iff] at hls
      have hty : typeK (nd l k).kind = false := nty (by omega)
      have h67 : ((nd l k).kind == 67) = false := beq_eq_false_iff_ne.2 (by omega)
      have h51 : ((nd l k).kind == 51) = false := beq_eq_false_iff_ne.2 (by omega)
      have h52 : ((nd l k).kind == 52) = false := beq_eq_false_iff_ne.2 (by omega)
      have e3 : leftQ l k = ((nd l k).kind == 44 && noneK l k 1) := by
        rw [leftQ, if_neg (by omega), leftA, h51, h52]; rfl
      refine ⟨by rw [e3, listT, hty, h67]; rfl, fun hq => ?_⟩
      refine ⟨⟨by omega, by omega, by omega, by omega, by omega, fun h44 => ?_, by omega⟩, hty, by omega⟩
      rw [e3, h44] at hq
      simpa using hq
    · have hL : leftP (ruleF (nd l m).kind) l k = forT l k := by rcases h2 with h2 | h2 <;> rw [h2] <;> rfl
      rw [hL]
      have hs := isS_facts (show isS (nd l k).kind = true from hpl)
      have e3 : leftQ l k = forT l k := by
        rw [leftQ, if_neg (by omega), leftA, forT_kind (by omega), beq_eq_false_iff_ne.2 (by omega : (nd l k).kind ≠ 44)]
        simp
      exact ⟨e3, fun hq => (P 60 (.inl (by decide)) hpl (by decide) fun _ => by rw [← e3]; exact hq).2⟩
    · have hL : leftP (ruleF (nd l m).kind) l k = forT l k := by rw [h2]; rfl
      rw [hL]
      have hs : (isS (nd l k).kind || (nd l k).kind == 50) = true := hpl
      rw [Bool.or_eq_true, beq_iff_eq] at hs
      have e3 : leftQ l k = forT l k := by
        by_cases h50 : (nd l k).kind = 50
        · have hz := fit_kz (chk_all hc hkl).fit (by rw [h50]; rfl) rfl
          have h3 : expOk (nd l ((nd l k).kids.getD 0 0).toNat).kind (nd l ((nd l k).kids.getD 0 0).toNat).num = true := kz_head hz
          have h4 := expOk_facts h3
          rw [leftQ, if_pos h50, leftA, forT, expN, if_pos h50, beq_eq_false_iff_ne.2 (by omega : (nd l ((nd l k).kids.getD 0 0).toNat).kind ≠ 44)]
          simp
        · have hs' := isS_facts (hs.resolve_right h50)
          rw [leftQ, if_neg h50, leftA, forT_kind h50, beq_eq_false_iff_ne.2 (by omega : (nd l k).kind ≠ 44)]
          simp
      exact ⟨e3, fun hq => (P 132 (.inl (by decide)) hpl (by decide) fun _ => by rw [← e3]; exact hq).2⟩
    · have hL : leftP (ruleF (nd l m).kind) l k = false := by rw [h2]; rfl
      rw [hL]
      have := P 131 (.inl (by decide)) hpl (by decide) (by omega)
      exact ⟨this.1, fun _ => this.2⟩
    · have hL : leftP (ruleF (nd l m).kind) l k = false := by rcases h2 with h2 | h2 <;> rw [h2] <;> rfl
      rw [hL]
      have := P 92 (.inl (by decide)) hpl (by decide) (by omega)
      exact ⟨this.1, fun _ => this.2⟩
    · have hL : leftP (ruleF (nd l m).kind) l k = false := by rw [h2]; rfl
      rw [hL]
      have := P 94 (.inl (by decide)) hpl (by decide) (by omega)
      exact ⟨this.1, fun _ => this.2⟩
/-- The trees that the first so many kids give. -/
def tsU (l : List Nd) (m : Nat) : Nat → List (List Nd)
  | 0 => []
  | i + 1 => tsU l m i ++ (if emptP (nd l m).kind i = true then [[oneN (if (nd l ((nd l m).kids.getD i 0).toNat).kind = 2 then 2 else 1) (nd l ((nd l m).kids.getD i 0).toNat)]] else if leftQ l ((nd l m).kids.getD i 0).toNat = true then [] else [lay l ((nd l m).kids.getD i 0).toNat 0])
theorem tsU_eq {l : List Nd} (hc : (chkP l).2 = 0) {m : Nat} (hm : m < l.length) (has : ¬ ((nd l m).kind = 33 ∨ (nd l m).kind = 34)) (hok : Ok2 l m) : ∀ i, i ≤ (nd l m).kids.length → tsU l m i = (((nd l m).kids.take i).filter fun k => !leftP (ruleF (nd l m).kind) l k.toNat).map fun k => lay l k.toNat 0
  | 0, _ => rfl
  | i + 1, hi => by
    have hi' : i < (nd l m).kids.length := by omega
    obtain ⟨a, b⟩ := kid_ref hc hm has hok i hi'
    have e1 : (nd l m).kids[i]? = some ((nd l m).kids.getD i 0) := by rw [List.getD_eq_getElem?_getD, List.getElem?_eq_getElem hi']; rfl
    rw [tsU, tsU_eq hc hm has hok i (by omega), List.take_add_one, e1, List.filter_append, List.map_append]
    congr 1
    cases he : emptP (nd l m).kind i with
    | true =>
      obtain ⟨a1, a2⟩ := a he
      simp only [if_true, Option.toList_some, List.filter_cons, a1, Bool.not_false, List.filter_nil, List.map_cons, List.map_nil, a2 0]
    | false =>
      obtain ⟨b1, b2⟩ := b he
      cases hq : leftQ l ((nd l m).kids.getD i 0).toNat with
      | true =>
        rw [hq] at b1
        simp only [Bool.false_eq_true, if_false, if_true, Option.toList_some, List.filter_cons, ← b1, Bool.not_true, List.filter_nil, List.map_nil]
      | false =>
        rw [hq] at b1
        simp only [Bool.false_eq_true, if_false, Option.toList_some, List.filter_cons, ← b1, Bool.not_false, if_true, List.filter_nil, List.map_cons, List.map_nil]
theorem join_all {l : List Nd} (hc : (chkP l).2 = 0) {m : Nat} (hm : m < l.length) (has : ¬ ((nd l m).kind = 33 ∨ (nd l m).kind = 34)) (hok : Ok2 l m) : joinT (tsU l m (nd l m).kids.length) 1 = layK (lay l) (kp l m) 1 := by
  rw [tsU_eq hc hm has hok _ (Nat.le_refl _), List.take_length]
  exact joinT_lay hc _ 1 fun k hk => fit_ins (chk_all hc hm).fit _ (List.mem_filter.1 hk).1
end Go.Proofs.YtnnpkomedpjlcaaGreatDoor

/- The reference's Make in general. -/
namespace Go.Proofs.YtnnpkomedpjlcaaGreatDoor
set_option linter.unusedSimpArgs false
set_option linter.unusedVariables false
open Go.RowKit Go.Shelf

/-- A row of trees. -/
structure TreesAt (W : World) (M : Nat) (ra : Option Addr) (vs : List Value) (ts : List (List Nd)) : Prop where
  len : vs.length = ts.length
  row : ts = [] ∨ ∃ b o, ra = some ⟨b, o, none⟩ ∧ b < M ∧ ∀ j, j < ts.length → W.cell? ⟨b, o + j, none⟩ = some (vs.getD j .nilFunc)
  each : ∀ j, j < ts.length → Nodes W M (vs.getD j .nilFunc) (ts.getD j [])
theorem TreesAt.keep {W W' : World} {M N : Nat} {ra : Option Addr} {vs : List Value} {ts : List (List Nd)} (h : TreesAt W M ra vs ts) (hB : Below N W W') (hn : M ≤ N) : TreesAt W' M ra vs ts := by
  refine ⟨h.len, ?_, fun j hj => (h.each j hj).keep hB hn⟩
  rcases h.row with h | ⟨b, o, ha, hb, hc⟩
  · exact .inl h
  · exact .inr ⟨b, o, ha, hb, fun j hj => (hB.cell (p := ⟨b, o + j, none⟩) (Nat.lt_of_lt_of_le hb hn)).trans (hc j hj)⟩
/-- Kids, so many of them moved along. -/
def movK (ks : List Int) (n : Nat) (j : Nat) : List Value := (ks.take j).map fun k => Value.int .i64 (k + (n : Int))
theorem movK_snoc {ks : List Int} {n j : Nat} (h : j < ks.length) : movK ks n (j + 1) = movK ks n j ++ [.int .i64 (ks.getD j 0 + (n : Int))] := by
  simp only [movK, List.take_succ_eq_append_getElem h, List.map_append, List.map_cons, List.map_nil, List.getD_eq_getElem?_getD, List.getElem?_eq_getElem h, Option.getD_some]
theorem mov_form {w : World} {B : Nat} {v : Value} {ks : List Int} {n : Nat} (h : w.ownsRow B 3 1 v ks.length (movK ks n ks.length)) : ∃ a c, v = .slice a ks.length c ∧ ks.length ≤ c ∧ c ≤ maxLen ∧ (ks = [] ∨ ∃ g cur, a = some ⟨g, 0, none⟩ ∧ B ≤ g ∧ g < w.heap.size ∧ w.heap[g]? = some (.cells cur 3 (0, 0)) ∧ ∀ j, j < ks.length → cur[j]? = some (.int .i64 (ks.getD j 0 + (n : Int)))) := by
  have h0 := h
  rcases h.2 with ⟨h1, h2⟩ | ⟨g, cap, cur, h1, hb, hh, r⟩
  · have h2' : ks.length = 0 := by omega
    exact ⟨none, 0, by rw [h1, h2'], by omega, by unfold maxLen; omega, .inl (List.length_eq_zero_iff.1 h2')⟩
  · subst h1
    obtain ⟨q1, q2⟩ := own_cap h0
    refine ⟨_, _, rfl, q1, q2, .inr ⟨g, cur, rfl, hb, (Array.getElem?_eq_some_iff.1 hh).1, hh, fun j hj => ?_⟩⟩
    have := h0.cellAt j (by omega)
    rw [Lib.cell_of_heap hh] at this
    refine Eq.trans ?_ (this.trans ?_)
    · rfl
    · simp [movK, List.getD_eq_getElem?_getD, List.getElem?_eq_getElem hj]
/-- Trees small enough to be laid behind a root. -/
structure SmT (ts : List (List Nd)) : Prop where
  ne : ∀ t ∈ ts, t ≠ []
  all : (joinT ts 1).2.length ≤ 100000
  kids : ∀ t ∈ ts, ∀ x ∈ t, x.kids.length ≤ 100000 ∧ ∀ k ∈ x.kids, 0 ≤ k ∧ k ≤ 100000
/-- What Make answers. -/
def MakeR (x : Nd) (ts : List (List Nd)) (W : World) (e : Ending) (w' : World) : Prop := ∃ v' es, e = .returned (.agg #[v']) ∧ es.map NE.x = mkT x ts ∧ OwnN w' W.heap.size v' es ∧ Below W.heap.size W w'

set_option maxRecDepth 100000 in
set_option maxHeartbeats 8000000 in
theorem make_ref (W : World) (M : Nat) (x : Nd) (xa : Option Addr) (xc : Nat) (ra : Option Addr) (rc : Nat) (vs : List Value) (ts : List (List Nd)) (hT : TreesAt W M ra vs ts) (hM : M ≤ W.heap.size) (hs : SmT ts) (hrc : ts.length ≤ rc) (hlt : ts.length ≤ 100000) :
    Calls Tryz.prog 50 #[ndW x xa xc, .slice ra ts.length rc] W (MakeR x ts W) := by
  obtain ⟨i0, hi, hz0, hz1, hz2⟩ := info_parts infoNode
  obtain ⟨j0, hj, hy0, hy1, hy2⟩ := info_parts infoInt
  unfold ndW
  obtain ⟨W1, hW1⟩ : ∃ W1, (W.alloc (.cells #[.int .i64 x.kind, .string x.text, .int .i64 x.num, .slice none 0 0, .int .i64 x.at'] 41)).alloc (.cells #[.slice none 0 0] 24) = W1 := ⟨_, rfl⟩
  have hz1' : W1.heap.size = W.heap.size + 1 + 1 := by rw [← hW1]; simp
  have hB1 : Below W.heap.size W W1 := by rw [← hW1]; exact ((Below.refl _ W).alloc (Nat.le_refl _) _).alloc (by simp) _
  have hr1 : W1.heap[W.heap.size + 1]? = some (.cells #[.slice none 0 0] 24) := by
    rw [← hW1]
    have := World.alloc_heap_new (W.alloc (.cells #[.int .i64 x.kind, .string x.text, .int .i64 x.num, .slice none 0 0, .int .i64 x.at'] 41)) (.cells #[.slice none 0 0] 24)
    rw [World.size_alloc] at this
    exact this
  obtain ⟨W2, hW2⟩ : ∃ W2, W1.alloc (.cells #[.int .i64 x.kind, .string x.text, .int .i64 x.num, .slice none 0 0, .int .i64 x.at'] 41) = W2 := ⟨_, rfl⟩
  have hB12 : Below W1.heap.size W1 W2 := by rw [← hW2]; exact (Below.refl _ W1).alloc (Nat.le_refl _) _
  have hX2 : W2.heap[W1.heap.size]? = some (.cells #[.int .i64 x.kind, .string x.text, .int .i64 x.num, .slice none 0 0, .int .i64 x.at'] 41) := by rw [← hW2]; exact World.alloc_heap_new W1 _
  have hM2 : MkAt W2 W1.heap.size W1.heap.size 1 x [] none 0 [] := by
    refine ⟨⟨rfl, .inr ⟨W1.heap.size, 1, _, rfl, Nat.le_refl _, hX2, Nat.le_refl _, by decide, rfl, rfl⟩⟩, World.ownsRow_nil _ _ _ _, fun e he => (by cases he), fun e he => (by cases he)⟩
  have HT : Hid (∀ w', Below W1.heap.size W1 w' → TreesAt w' M ra vs ts ∧ Below W.heap.size W w' ∧ w'.heap[W.heap.size + 1]? = some (.cells #[.slice none 0 0] 24) ∧ M ≤ w'.heap.size ∧ W1.heap.size ≤ w'.heap.size) := fun w' h => by
    have h1 := hB1.trans (h.mono (by omega))
    have h2 := h1.size
    exact ⟨hT.keep h1 hM, h1, (h.block _ (by omega)).trans hr1, by omega, h.size⟩
  have hW12 : (((W.alloc (.cells #[.int .i64 x.kind, .string x.text, .int .i64 x.num, .slice none 0 0, .int .i64 x.at'] 41)).alloc (.cells #[.slice none 0 0] 24)).alloc (.cells #[.int .i64 x.kind, .string x.text, .int .i64 x.num, .slice none 0 0, .int .i64 x.at'] 41)) = W2 := by rw [hW1]; exact hW2
  have HW12 := hide hW12
  have HM2 := hide hM2
  have HB12 := hide hB12
  have HS := hide hs
  have HZ1 := hide hz1'
  clear hT hW1 hW2 hW12 hM2 hB12 hX2 hr1 hB1 hs hz1'
  go_enter Tryz.func50, Tryz.ntmps50
  go_wp2
  rw [unhide HW12]
  go_loopw [5, 6] (fun t5 t6 wr => ∃ (i : Nat) (g cap : Nat) (idx : List Int) (ua : Option Addr) (uc : Nat) (body : List NE), i ≤ ts.length ∧ t6 = .int .i64 (i : Int) ∧ t5 = .slice (some ⟨g, 0, none⟩) (1 + body.length) cap ∧ MkAt wr W1.heap.size g cap x idx ua uc body ∧ joinT (ts.take i) 1 = (idx, body.map NE.x) ∧ Below W1.heap.size W1 wr) (fun _ t6 _ => ts.length - (intOf t6).toNat)
  case atStart => exact ⟨0, W1.heap.size, 1, [], none, 0, [], Nat.zero_le _, rfl, by rw [unhide HZ1]; rfl, unhide HM2, rfl, unhide HB12⟩
  case round =>
    obtain ⟨w0, hw0⟩ : ∃ w0, w0 = wr := ⟨_, rfl⟩
    subst hw0
    obtain ⟨i, g, cap, idx, ua, uc, body, hil, rfl, rfl, hmk, hjn, hBr⟩ := hrel
    obtain ⟨hTr, hBW, hrb, hMr, hsr⟩ := unhide HT w0 hBr
    have hblen : body.length ≤ 100000 := by
      have h1 := (unhide HS).all
      have h2 : joinT ts 1 = joinT (ts.take i ++ ts.drop i) 1 := by rw [List.take_append_drop]
      rw [h2, joinT_append, hjn] at h1
      simp at h1
      omega
    by_cases hlt' : i < ts.length
    · have hlti : (i : Int) < ts.length := by omega
      have htm : ts.getD i [] ∈ ts := by rw [List.getD_eq_getElem?_getD, List.getElem?_eq_getElem hlt']; exact List.getElem_mem _
      have htake : ts.take (i + 1) = ts.take i ++ [ts.getD i []] := by
        rw [List.take_add_one, List.getElem?_eq_getElem hlt', List.getD_eq_getElem?_getD, List.getElem?_eq_getElem hlt']; rfl
      have hNt := hTr.each i hlt'
      rcases hTr.row with h0 | ⟨rb, ro, rfl, hrbM, hcells⟩
      · rw [h0] at hlt'; simp at hlt'
      have crow := hcells i hlt'
      have hne := (unhide HS).ne _ htm
      have hkt := (unhide HS).kids _ htm
      obtain ⟨t, ht⟩ : ∃ t, ts.getD i [] = t := ⟨_, rfl⟩
      rw [ht] at hNt hne hkt htake
      have htl : body.length + t.length ≤ 100000 := by
        have h1 := (unhide HS).all
        have h2 : joinT ts 1 = joinT (ts.take (i + 1) ++ ts.drop (i + 1)) 1 := by rw [List.take_append_drop]
        rw [h2, joinT_append, htake, joinT_snoc, hjn] at h1
        simp at h1
        omega
      obtain ⟨ta, tc, htv, htc1, htc2⟩ := hNt.len
      rw [htv] at crow hNt
      have htl0 : t.length ≠ 0 := fun e => hne (List.length_eq_zero_iff.1 e)
      have etl : ((t.length : Int) == 0) = false := by rw [beq_eq_false_iff_ne]; omega
      have lrb : rb < w0.heap.size := by omega
      have HHI : Hid (idx.length ≤ 100000) := by
        have h := joinT_idx (ts.take i) 1
        rw [hjn] at h
        have h3 : idx.length = _ := h
        rw [List.length_take] at h3
        show idx.length ≤ 100000
        omega
      have HMK := hide hmk
      have HJN := hide hjn
      have HBR := hide hBr
      have HNT := hide hNt
      have HKT := hide hkt
      have HTK := hide htake
      have c3 : w0.cell? ⟨g, 3, none⟩ = some (.slice ua idx.length uc) := by rw [hmk.row.cellAt 3 (by omega)]; rfl
      have lg : g < w0.heap.size := hmk.block41.2.1
      have z0 : (0 : Int) < 1 + (body.length : Int) := by omega
      have HTV := hide htv
      have HTE := hide ht
      clear hmk hjn hBr hTr hcells hNt hkt htake htm hne ht htv
      have hidx := unhide HHI
      go_wp2_with (at_builtin; refine wpList_append_lies _ rfl _ _ 39 rfl W1.heap.size 3 j0 _ 1 8 Tryz.underlying39 hj hy0 hy1 hy2 rfl (by decide) _ idx.length (kvs idx) rfl ((unhide HMK).own.alloc _) ⟨w0.heap.size, 0, none⟩ 1 1 [.int .i64 (1 + (body.length : Int))] rfl rfl ?c1 ?c2 (by decide) ?c3 ?c4 ?c5 _ rfl ?_)
      case c1 => exact World.news_of_block (cs := #[.int .i64 (1 + (body.length : Int))]) (t := 3) (fr := (0, 0)) (World.alloc_heap_new _ _)
      case c2 => intro u hu; simp at hu; subst hu; rfl
      case c3 => unfold maxLen; omega
      case c4 => omega
      case c5 => simp; omega
      intro g10 cap10 w10 hown10 hgrow10 hat10 hlt10
      obtain ⟨c10, f10, l10⟩ := (unhide HMK).grown0 hgrow10
      obtain ⟨hmk11, hB11⟩ := (unhide HMK).grown (unhide HBR) hgrow10 hown10 (by simpa using hat10) (Nat.le_refl _)
      obtain ⟨W11, hW11⟩ : ∃ W11, w10.setCell ⟨g, 3, none⟩ (.slice (some ⟨g10, 0, none⟩) (idx.length + 1) cap10) = W11 := ⟨_, rfl⟩
      rw [hW11] at hmk11 hB11
      have HW11 := hide hW11
      have HMK11 := hide hmk11
      have HB11 := hide hB11
      clear hW11 hmk11 hB11 hown10 hgrow10 hat10 hlt10 hBW hrb crow c3
      go_wp2
      rw [unhide HW11]
      go_loopw [5, 8] (fun t5 t8 wr => ∃ (k : Nat) (g' cap' : Nat) (body' BB : List NE), k ≤ t.length ∧ t8 = .int .i64 (k : Int) ∧ body ++ body' = BB ∧ t5 = .slice (some ⟨g', 0, none⟩) (1 + BB.length) cap' ∧ MkAt wr W1.heap.size g' cap' x (idx ++ [(1 + (body.length : Int))]) (some ⟨g10, 0, none⟩) cap10 BB ∧ body'.map NE.x = (t.take k).map (shV (1 + (body.length : Int))) ∧ Below W1.heap.size W1 wr) (fun _ t8 _ => t.length - (intOf t8).toNat)
      case atStart => exact ⟨0, g, cap, [], body, Nat.zero_le _, rfl, by simp, rfl, unhide HMK11, rfl, unhide HB11⟩
      case round =>
        obtain ⟨wk, hwk⟩ : ∃ wk, wk = wr := ⟨_, rfl⟩
        subst hwk
        obtain ⟨k, g', cap', body', BB, hkl, rfl, hBB, rfl, hmk', hmap', hBk⟩ := hrel
        obtain ⟨hTk, hBWk, hrbk, hMk, hsk⟩ := unhide HT wk hBk
        have hNk := hTk.each i hlt'
        rw [unhide HTE, unhide HTV] at hNk
        have crk : wk.cell? ⟨rb, ro + i, none⟩ = some (.slice ta t.length tc) := by
          rcases hTk.row with h0 | ⟨rb2, ro2, hra, _, hc2⟩
          · rw [h0] at hlt'; simp at hlt'
          · have := hc2 i hlt'
            injection hra with hra
            injection hra with h1 h2 _
            subst h1 h2
            rw [unhide HTV] at this
            exact this
        have lrbk : rb < wk.heap.size := by omega
        have hbl' : body'.length = k := by
          have := congrArg List.length hmap'
          simp only [List.length_map, List.length_take] at this
          omega
        have HBL : Hid (BB.length = body.length + k) := by show _ = _; rw [← hBB, List.length_append, hbl']
        have HBB := hide hBB
        have hBl : BB.length ≤ 200000 := by have := unhide HBL; omega
        clear hbl' hBB
        by_cases hklt : k < t.length
        · have hklt' : (k : Int) < t.length := by omega
          obtain ⟨b, o, tcap, ka, kc, hv, _, _, hb, d0, d1, d2, d3, d4, hkc, hkm, hK⟩ := hNk.at hklt
          obtain ⟨rfl, rfl⟩ : ta = some ⟨b, o, none⟩ ∧ tcap = tc := by injection hv with h1 _ h3; exact ⟨h1, h3.symm⟩
          have hxm : nd t k ∈ t := by
            have : nd t k = t[k] := by simp [nd, List.getD_eq_getElem?_getD, List.getElem?_eq_getElem hklt]
            rw [this]; exact List.getElem_mem hklt
          obtain ⟨hkl3, hkin⟩ := unhide HKT _ hxm
          have hbk : b < wk.heap.size := by omega
          obtain ⟨y, hnd⟩ : ∃ y, nd t k = y := ⟨_, rfl⟩
          rw [hnd] at d0 d1 d2 d3 d4 hkc hK hkl3 hkin
          obtain ⟨kd, tx, nm, ks, at'⟩ := y
          simp only at d0 d1 d2 d3 d4 hkc hK hkl3 hkin
          have HK := hide hK
          have HND := hide hnd
          have HKIN := hide hkin
          have HMK' := hide hmk'
          have HMAP' := hide hmap'
          have HBK := hide hBk
          clear hv hK hnd hkin hxm hmk' hmap' hBk hTk hNk hBWk hrbk
          go_wp2
          obtain ⟨w1, hw1⟩ : ∃ w1, wk.alloc (.cells #[.int .i64 kd, .string tx, .int .i64 nm, .slice ka ks.length kc, .int .i64 at'] 41) = w1 := ⟨_, rfl⟩
          have hzw1 : w1.heap.size = wk.heap.size + 1 := by rw [← hw1]; simp
          have hX1 : w1.heap[wk.heap.size]? = some (.cells #[.int .i64 kd, .string tx, .int .i64 nm, .slice ka ks.length kc, .int .i64 at'] 41) := by rw [← hw1]; exact World.alloc_heap_new wk _
          have hB01 : Below wk.heap.size wk w1 := by rw [← hw1]; exact (Below.refl _ wk).alloc (Nat.le_refl _) _
          rw [hw1]
          have HX1 := hide hX1
          have HB01 := hide hB01
          have HZW1 := hide hzw1
          clear hw1 hX1 hB01 hzw1
          go_loopw [10, 11] (fun t10 t11 wq => ∃ j : Nat, j ≤ ks.length ∧ t11 = .int .i64 (j : Int) ∧ wq.ownsRow w1.heap.size 3 1 t10 j (movK ks (1 + body.length) j) ∧ Below w1.heap.size w1 wq) (fun _ t11 _ => ks.length - (intOf t11).toNat)
          case atStart => exact ⟨0, Nat.zero_le _, rfl, World.ownsRow_nil _ _ _ _, Below.refl _ _⟩
          case round =>
            obtain ⟨j, hjl, rfl, hownj, hBj⟩ := hrel
            have hzw1 := unhide HZW1
            have hXr : wr.heap[wk.heap.size]? = some (.cells #[.int .i64 kd, .string tx, .int .i64 nm, .slice ka ks.length kc, .int .i64 at'] 41) := (hBj.block _ (by omega)).trans (unhide HX1)
            obtain ⟨q0, q1, q2, q3, q4⟩ := cells5 hXr
            have f3 := frozen_at hXr 3
            have hzj := hBj.size
            have hsx : wk.heap.size < wr.heap.size := by omega
            have hBkr : Below wk.heap.size wk wr := (unhide HB01).trans (hBj.mono (by omega))
            by_cases hjlt : j < ks.length
            · have hjlt' : (j : Int) < ks.length := by omega
              rcases unhide HK with hkk | ⟨kb, ko, rfl, hkb, hkc0⟩
              · subst hkk; simp at hjlt
              obtain ⟨k0, hk0⟩ : ∃ k0, ks.getD j 0 = k0 := ⟨_, rfl⟩
              have dk := hkc0 j hjlt
              rw [hk0] at dk
              have hk0m : k0 ∈ ks := by rw [← hk0, List.getD_eq_getElem?_getD, List.getElem?_eq_getElem hjlt]; exact List.getElem_mem _
              obtain ⟨kk0, kk1⟩ := unhide HKIN k0 hk0m
              have hkbw : kb < wk.heap.size := by omega
              have hkbr : kb < wr.heap.size := by omega
              have dkr : wr.cell? ⟨kb, ko + j, none⟩ = some (.int .i64 k0) := (hBkr.cell (p := ⟨kb, ko + j, none⟩) hkbw).trans dk
              have HK0 := hide hk0
              have HOJ := hide hownj
              have HBJ := hide hBj
              clear dk hkc0 hk0 hk0m hownj hBj hzw1 hXr hBkr
              go_wp2_with (at_builtin; refine wpList_append_own _ rfl _ _ 39 rfl w1.heap.size 3 j0 (.int .i64 0) 1 8 Tryz.underlying39 hj hy0 hy1 hy2 rfl (by decide) _ _ _ rfl ((unhide HOJ).alloc _) ⟨wr.heap.size, 0, none⟩ 1 1 [.int .i64 (k0 + (1 + (body.length : Int)))] rfl rfl ?c1 ?c2 ?c3 ?c4 ?c5 ?_)
              case c1 =>
                intro j u hj
                rw [Addr.add_lit, Nat.zero_add, World.cell?_alloc_mark]
                rw [← hj]; simp
              case c2 => intro u hu; simp at hu; rcases hu with rfl; rfl
              case c3 => unfold maxLen; omega
              case c4 => omega
              case c5 => simp; omega
              intro v' w8 hown8 hg8 _
              have hs8 := hg8.size
              simp at hs8
              have hB8 : Below w1.heap.size wr w8 := ⟨hg8.os, hg8.tape, hg8.output, by omega, fun k hk => (hg8.block k (by simp; omega) (fun e => by have := ((unhide HOJ).lt k e.symm).1; omega)).trans (Below.heap_alloc _ _ _ (by omega))⟩
              have HI8 : Hid (w8.ownsRow w1.heap.size 3 1 v' (j + 1) (movK ks (1 + body.length) (j + 1)) ∧ Below w1.heap.size w1 w8) := ⟨by rw [movK_snoc hjlt, unhide HK0]; simpa using hown8, (unhide HBJ).trans hB8⟩
              clear hown8 hg8 hB8
              go_wp2
              exact ⟨⟨j + 1, by omega, by go_num, (unhide HI8).1, (unhide HI8).2⟩, by simp [intOf]; omega⟩
            · have hjlt' : ¬ (j : Int) < ks.length := by omega
              obtain rfl : j = ks.length := by omega
              obtain ⟨a2, c2, rfl, hc1, hc2, hrow⟩ := mov_form hownj
              obtain ⟨w7, hw7⟩ : ∃ w7, wr.setCell ⟨wk.heap.size, 3, none⟩ (.slice a2 ks.length c2) = w7 := ⟨_, rfl⟩
              have hX7 := put5_3 hXr (.slice a2 ks.length c2)
              rw [hw7] at hX7
              obtain ⟨g0, g1, g2, g3, g4⟩ := cells5 hX7
              have hs7 : w7.heap.size = wr.heap.size := setCell_size hw7
              have hs7' : wk.heap.size < w7.heap.size := by omega
              have hk7 : ∀ k, k ≠ wk.heap.size → w7.heap[k]? = wr.heap[k]? := fun k hk => by rw [← hw7]; exact Below.heap_setCell _ _ _ _ hk
              have hB07 : Below wk.heap.size wk w7 := by rw [← hw7]; exact hBkr.setCell (p := ⟨wk.heap.size, 3, none⟩) (Nat.le_refl _) _
              have hmk7 := (unhide HMK').below hB07
              have hBW7 : Below W1.heap.size W1 w7 := (unhide HBK).trans (hB07.mono hsk)
              have hg7 := hmk7.block41
              have HNE : Hid (KidO w7 W1.heap.size ⟨shV (1 + (body.length : Int)) ⟨kd, tx, nm, ks, at'⟩, a2, c2⟩ ∧ KidB [⟨shV (1 + (body.length : Int)) ⟨kd, tx, nm, ks, at'⟩, a2, c2⟩] (.slice (some ⟨g10, 0, none⟩) (idx ++ [(1 + (body.length : Int))]).length cap10)) := by
                have hg10 := ((unhide HMK').block3 (k := g10) rfl).2.1
                refine ⟨⟨by simpa [shV] using hc1, hc2, ?_⟩, fun e he hks kb ha hob => ?_⟩
                · rcases hrow with h0 | ⟨gm, cur, hga, hgb, hgl, hgh, hgc⟩
                  · exact .inl (by simp [shV, h0])
                  · refine .inr ⟨gm, cur, hga, by omega, (hk7 gm (by omega)).trans hgh, fun j hj => ?_⟩
                    have hj' : j < ks.length := by simpa [shV] using hj
                    rw [hgc j hj']
                    simp [shV, List.getD_eq_getElem?_getD, hj']
                · obtain rfl : e = _ := by simpa using he
                  rcases hrow with h0 | ⟨gm, cur, hga, hgb, hgl, hgh, hgc⟩
                  · exact hks (by simp [shV, h0])
                  · have ha' : a2 = some ⟨kb, 0, none⟩ := ha
                    rw [hga] at ha'
                    injection ha' with ha'
                    injection ha' with ha' _ _
                    have : kb = g10 := by simpa [Value.ownBlock] using hob
                    omega
              have HMK7 := hide hmk7
              have HBW7 := hide hBW7
              clear hrow hk7 hB07 hs7 hmk7 hBW7 hX7 hXr hownj hBj hBkr
              go_wp2_with (at_builtin; refine wpList_append_lies _ rfl _ _ 22 rfl W1.heap.size 41 i0 _ 5 64 Tryz.underlying22 hi hz0 hz1 hz2 rfl (by decide) _ _ _ rfl ((unhide HMK7).row.alloc _) ⟨w7.heap.size, 0, none⟩ 1 1 (cellN ⟨shV (1 + (body.length : Int)) ⟨kd, tx, nm, ks, at'⟩, a2, c2⟩) rfl rfl ?c1 ?c2 (by decide) ?c3 ?c4 ?c5 _ rfl ?_)
              case c1 =>
                intro j u hj
                rw [← hj]; simp [cellN, shV]
              case c2 => intro u hu; simp [cellN, shV] at hu; rcases hu with rfl | rfl | rfl | rfl | rfl <;> rfl
              case c3 => unfold maxLen; omega
              case c4 => omega
              case c5 => first | omega | (simp; omega)
              intro g8 cap8 w8 hown8 hg8 hat8 hlt8
              obtain ⟨hmk8, hB8⟩ := (unhide HMK7).laid (unhide HBW7) (Nat.le_refl _) hg8 hown8 (by rcases hat8 with h | h; exact .inl (by simpa [Value.ownBlock] using h); exact .inr (by simpa using h)) (unhide HNE).1 (unhide HNE).2
              have HN8 : Hid (∃ (k' : Nat) (g'' cap'' : Nat) (body'' BB' : List NE), k' ≤ t.length ∧ Value.int .i64 ((k : Int) + 1) = .int .i64 (k' : Int) ∧ body ++ body'' = BB' ∧ Value.slice (some ⟨g8, 0, none⟩) (1 + BB.length + 1) cap8 = .slice (some ⟨g'', 0, none⟩) (1 + BB'.length) cap'' ∧ MkAt w8 W1.heap.size g'' cap'' x (idx ++ [(1 + (body.length : Int))]) (some ⟨g10, 0, none⟩) cap10 BB' ∧ body''.map NE.x = (t.take k').map (shV (1 + (body.length : Int))) ∧ Below W1.heap.size W1 w8) := by
                refine ⟨k + 1, g8, cap8, body' ++ [⟨shV (1 + (body.length : Int)) ⟨kd, tx, nm, ks, at'⟩, a2, c2⟩], BB ++ [⟨shV (1 + (body.length : Int)) ⟨kd, tx, nm, ks, at'⟩, a2, c2⟩], by omega, by simp, by rw [← unhide HBB]; simp, by simp [Nat.add_assoc], hmk8, ?_, hB8⟩
                rw [List.take_add_one, List.map_append, List.map_append, unhide HMAP']
                congr 1
                have : t[k]? = some (nd t k) := by simp [nd, List.getD_eq_getElem?_getD, List.getElem?_eq_getElem hklt]
                rw [this, unhide HND]
                rfl
              clear hown8 hg8 hat8 hlt8 hmk8 hB8
              go_wp2
              exact ⟨unhide HN8, by simp [intOf]; omega⟩
        · have hklt' : ¬ (k : Int) < t.length := by omega
          obtain rfl : k = t.length := by omega
          have HNX : Hid (∃ (i' : Nat) (g'' cap'' : Nat) (idx' : List Int) (ua' : Option Addr) (uc' : Nat) (body'' : List NE), i' ≤ ts.length ∧ Value.int .i64 ((i : Int) + 1) = .int .i64 (i' : Int) ∧ Value.slice (some ⟨g', 0, none⟩) (1 + BB.length) cap' = .slice (some ⟨g'', 0, none⟩) (1 + body''.length) cap'' ∧ MkAt wk W1.heap.size g'' cap'' x idx' ua' uc' body'' ∧ joinT (ts.take i') 1 = (idx', body''.map NE.x) ∧ Below W1.heap.size W1 wk) := by
            refine ⟨i + 1, g', cap', idx ++ [(1 + (body.length : Int))], some ⟨g10, 0, none⟩, cap10, BB, by omega, by simp, rfl, hmk', ?_, hBk⟩
            rw [unhide HTK, joinT_snoc, unhide HJN]
            have e1 : (((1 + (body.map NE.x).length : Nat)) : Int) = 1 + (body.length : Int) := by simp
            simp only
            rw [e1, ← unhide HBB, List.map_append, hmap', List.take_length]
          clear hmk' hmap' hBk hTk hNk hBWk hrbk
          go_wp2
          exact ⟨unhide HNX, by simp [intOf]; omega⟩
    · have hlti : ¬ (i : Int) < ts.length := by omega
      obtain rfl : i = ts.length := by omega
      rw [List.take_length] at hjn
      have cr : w0.cell? ⟨W.heap.size + 1, 0, none⟩ = some (.slice none 0 0) := by rw [Lib.cell_of_heap hrb]; rfl
      have fr : w0.frozen? ⟨W.heap.size + 1, 0, none⟩ = false := rfrozen_at hrb 0
      have lr : W.heap.size + 1 < w0.heap.size := (Array.getElem?_eq_some_iff.1 hrb).1
      obtain ⟨w9, hw9⟩ : ∃ w9, w0.setCell ⟨W.heap.size + 1, 0, none⟩ (.slice (some ⟨g, 0, none⟩) (1 + body.length) cap) = w9 := ⟨_, rfl⟩
      have hrb9 : w9.heap[W.heap.size + 1]? = some (.cells #[.slice (some ⟨g, 0, none⟩) (1 + body.length) cap] 24) := by rw [← hw9]; exact setK hrb 0 _
      have c9 : w9.cell? ⟨W.heap.size + 1, 0, none⟩ = some (.slice (some ⟨g, 0, none⟩) (1 + body.length) cap) := by rw [Lib.cell_of_heap hrb9]; rfl
      have HR : Hid (MakeR x ts W (.returned (.agg #[.slice (some ⟨g, 0, none⟩) (1 + body.length) cap])) w9) := by
        refine ⟨_, ⟨{ x with kids := idx }, ua, uc⟩ :: body, rfl, ?_, ?_, ?_⟩
        · simp only [mkT, hjn, List.map_cons]
        · rw [← hw9]
          have h0 := hmk.ownN
          have hz := unhide HZ1
          refine ⟨(ownsRow_heap h0.1 fun k hk => Below.heap_setCell _ _ _ _ (by have := (h0.1.lt k hk).1; show k ≠ W.heap.size + 1; omega)).mono (by omega), fun e he => ?_⟩
          obtain ⟨k1, k2, k3⟩ := h0.2 e he
          refine ⟨k1, k2, ?_⟩
          rcases k3 with k3 | ⟨kb, cur, ha, hkb, hkh, hkc⟩
          · exact .inl k3
          · exact .inr ⟨kb, cur, ha, by omega, (Below.heap_setCell _ _ _ _ (by show kb ≠ W.heap.size + 1; omega)).trans hkh, hkc⟩
        · rw [← hw9]
          exact hBW.setCell (p := ⟨W.heap.size + 1, 0, none⟩) (by show W.heap.size ≤ W.heap.size + 1; omega) _
      clear hmk hjn hBr hTr hBW hrb hrb9
      go_wp2
      exact bodyPost_ret (v := .agg #[.slice (some ⟨g, 0, none⟩) (1 + body.length) cap]) (by simp [results, Tryz.results50, go_sem, c9]) rfl (unhide HR)
end Go.Proofs.YtnnpkomedpjlcaaGreatDoor

/- Rows of trees of the call's own; what the reference's stripped hands to Make. -/
namespace Go.Proofs.YtnnpkomedpjlcaaGreatDoor
set_option linter.unusedSimpArgs false
set_option linter.unusedVariables false
open Go.RowKit Go.Shelf

theorem infoTree : (Tryz.prog.info? 24).map (fun i => (i.zero, i.size, i.bytes)) = some (some (.agg #[.slice none 0 0]), 1, 24) := by kernel_rfl
/-- A row of trees of the call's own, each of the call's own. -/
structure TrAt (w : World) (B : Nat) (lv : Value) (tl : List (Value × List NE)) : Prop where
  row : w.ownsRow B 24 1 lv tl.length (tl.map Prod.fst)
  each : ∀ p ∈ tl, OwnN w B p.1 p.2
theorem OwnN.keepT {w w' : World} {B : Nat} {v : Value} {es : List NE} (h : OwnN w B v es) (hk : ∀ (k : Nat) (cur : Array Value) (t : TypeId), w.heap[k]? = some (Obj.cells cur t (0, 0)) → t ≠ 24 → w'.heap[k]? = w.heap[k]?) : OwnN w' B v es := by
  refine ⟨ownsRow_heap h.1 fun g hg => ?_, fun e he => (h.2 e he).keep fun k cur hk' => hk k cur 3 hk' (by decide)⟩
  rcases h.1.2 with ⟨h0, _⟩ | ⟨g', c', cur, h0, _, hh, _⟩
  · rw [h0] at hg; cases hg
  · rw [h0] at hg
    have e : g' = g := by simpa [Value.ownBlock] using hg
    subst e
    exact hk g' cur 41 hh (by decide)
theorem OwnN.mono' {w : World} {B B' : Nat} {v : Value} {es : List NE} (h : OwnN w B v es) (hB : B' ≤ B) : OwnN w B' v es := by
  refine ⟨h.1.mono hB, fun e he => ?_⟩
  obtain ⟨k1, k2, k3⟩ := h.2 e he
  refine ⟨k1, k2, ?_⟩
  rcases k3 with k3 | ⟨kb, cur, ha, hkb, r⟩
  · exact .inl k3
  · exact .inr ⟨kb, cur, ha, by omega, r⟩
theorem OwnN.below' {w w' : World} {B : Nat} {v : Value} {es : List NE} (h : OwnN w B v es) (hb : Below w.heap.size w w') : OwnN w' B v es :=
  ⟨ownsRow_heap h.1 fun k hk => hb.block k (h.1.lt k hk).2, fun e he => (h.2 e he).below hb⟩
theorem TrAt.below {w w' : World} {B : Nat} {lv : Value} {tl : List (Value × List NE)} (h : TrAt w B lv tl) (hb : Below w.heap.size w w') : TrAt w' B lv tl :=
  ⟨ownsRow_heap h.row fun k hk => hb.block k (h.row.lt k hk).2, fun p hp => (h.each p hp).below' hb⟩
/-- A tree is put behind. -/
theorem TrAt.grown {W1 w w' : World} {B : Nat} {lv v' u : Value} {tl : List (Value × List NE)} {es : List NE} {o : Obj} (h : TrAt w B lv tl) (hu : OwnN w B u es) (hW : Below B W1 w) (hBW : B ≤ W1.heap.size) (hgrow : (w.alloc o).grownBy w' lv.ownBlock) (hown : w'.ownsRow B 24 1 v' (tl.length + 1) (tl.map Prod.fst ++ [u])) : TrAt w' B v' (tl ++ [(u, es)]) ∧ Below B W1 w' := by
  have hz := hgrow.size
  simp only [World.size_alloc] at hz
  have hk0 : ∀ k, k < w.heap.size → some k ≠ lv.ownBlock → w'.heap[k]? = w.heap[k]? := fun k hk hl => (hgrow.block k (by simp; omega) hl).trans (Below.heap_alloc _ _ _ hk)
  have hkt : ∀ (k : Nat) (cur : Array Value) (t : TypeId), w.heap[k]? = some (Obj.cells cur t (0, 0)) → t ≠ 24 → w'.heap[k]? = w.heap[k]? := fun k cur t hk ht => by
    refine hk0 k (Array.getElem?_eq_some_iff.1 hk).1 fun e => ?_
    rcases h.row.2 with ⟨h0, _⟩ | ⟨g', c', cur', h0, _, hh, _⟩
    · rw [h0] at e; cases e
    · rw [h0] at e
      have e' : k = g' := by simpa [Value.ownBlock] using e
      subst e'
      rw [hh] at hk
      injection hk with hk
      injection hk with _ hk _
      exact ht hk.symm
  have hw := hW.size
  refine ⟨⟨?_, fun p hp => ?_⟩, ?_⟩
  · rw [List.length_append, List.length_singleton, List.map_append]
    exact hown
  · rcases List.mem_append.1 hp with hp | hp
    · exact (h.each p hp).keepT hkt
    · obtain rfl : p = (u, es) := by simpa using hp
      exact hu.keepT hkt
  · refine ⟨hgrow.os.trans hW.os, hgrow.tape.trans hW.tape, hgrow.output.trans hW.output, by omega, fun k hk => (hk0 k (by omega) (fun e => ?_)).trans (hW.block k hk)⟩
    have := (h.row.lt k e.symm).1
    omega
/-- The trees of a row. -/
def trN (tl : List (Value × List NE)) : List (List Nd) := tl.map fun p => p.2.map NE.x
theorem trN_len (tl : List (Value × List NE)) : (trN tl).length = tl.length := by simp [trN]
theorem TrAt.form {w : World} {B : Nat} {lv : Value} {tl : List (Value × List NE)} (h : TrAt w B lv tl) : ∃ ra rc, lv = .slice ra tl.length rc ∧ tl.length ≤ rc := by
  rcases h.row.2 with ⟨h0, h1⟩ | ⟨g, c, cur, h0, _, _, h1, _⟩
  · have e : tl.length = 0 := h1
    exact ⟨none, 0, by rw [h0, e], by omega⟩
  · exact ⟨_, _, h0, h1⟩
theorem TrAt.trees {w : World} {B rc : Nat} {ra : Option Addr} {tl : List (Value × List NE)} (h : TrAt w B (.slice ra tl.length rc) tl) (hs : ∀ p ∈ tl, p.2.length ≤ 100000 ∧ ∀ e ∈ p.2, e.x.text.size ≤ 1048576 ∧ e.x.kids.length ≤ 100000) : TreesAt w w.heap.size ra (tl.map Prod.fst) (trN tl) := by
  refine ⟨by simp [trN], ?_, fun j hj => ?_⟩
  · rcases h.row.2 with ⟨h0, h1⟩ | ⟨g, c, cur, h0, _, hh, _⟩
    · have e : tl = [] := List.length_eq_zero_iff.1 h1
      exact .inl (by rw [e]; rfl)
    · injection h0 with h0 _ h2
      subst h0
      refine .inr ⟨g, 0, rfl, (Array.getElem?_eq_some_iff.1 hh).1, fun j hj => ?_⟩
      rw [trN_len] at hj
      rw [Nat.zero_add, h.row.cellAt j (by omega)]
      simp [List.getD_eq_getElem?_getD, List.getElem?_eq_getElem hj]
  · rw [trN_len] at hj
    have e1 : (tl.map Prod.fst).getD j .nilFunc = (tl[j]).1 := by simp [List.getD_eq_getElem?_getD, List.getElem?_eq_getElem hj]
    have e2 : (trN tl).getD j [] = (tl[j]).2.map NE.x := by simp [trN, List.getD_eq_getElem?_getD, List.getElem?_eq_getElem hj]
    rw [e1, e2]
    have hm : tl[j] ∈ tl := List.getElem_mem hj
    obtain ⟨s1, s2⟩ := hs _ hm
    exact (h.each _ hm).nodes (by omega) fun e he => by have := s2 e he; omega
theorem ts_lay {l : List Nd} (hc : (chkP l).2 = 0) {m : Nat} (hm : m < l.length) (has : ¬ ((nd l m).kind = 33 ∨ (nd l m).kind = 34)) (hok : Ok2 l m) {t : List Nd} (ht : t ∈ tsU l m (nd l m).kids.length) : ∃ k : Nat, k < l.length ∧ t = lay l k 0 := by
  rw [tsU_eq hc hm has hok _ (Nat.le_refl _)] at ht
  obtain ⟨k, hk, rfl⟩ := List.mem_map.1 ht
  have := fit_ins (chk_all hc hm).fit k (List.mem_of_mem_take (List.mem_filter.1 hk).1)
  exact ⟨k.toNat, (ins_iff.1 this).2, rfl⟩
/-- What is laid of the kids is small. -/
theorem ts_small {l : List Nd} (hc : (chkP l).2 = 0) (hl : l.length ≤ 100000) {m : Nat} (hm : m < l.length) (has : ¬ ((nd l m).kind = 33 ∨ (nd l m).kind = 34)) (hok : Ok2 l m) : SmT (tsU l m (nd l m).kids.length) ∧ (∀ t ∈ tsU l m (nd l m).kids.length, t.length ≤ 100000) ∧ (tsU l m (nd l m).kids.length).length ≤ 100000 := by
  have hfi := chk_all hc hm
  have hle := hfi.le
  have hall : (layK (lay l) (kp l m) 1).2.length ≤ 100000 := by
    have h := layF_len hc l.length m 0 hm
    have e : layF l l.length m 0 = lay l m 0 := rfl
    rw [e, lay_eq hc hm, inn_stop has] at h
    simp only [List.length_cons, Nat.zero_add] at h
    omega
  have ht : ∀ t ∈ tsU l m (nd l m).kids.length, ∃ k : Nat, k < l.length ∧ t = lay l k 0 := fun t ht => by
    rw [tsU_eq hc hm has hok _ (Nat.le_refl _)] at ht
    obtain ⟨k, hk, rfl⟩ := List.mem_map.1 ht
    have := fit_ins hfi.fit k (List.mem_of_mem_take (List.mem_filter.1 hk).1)
    exact ⟨k.toNat, (ins_iff.1 this).2, rfl⟩
  have hlen : ∀ t ∈ tsU l m (nd l m).kids.length, t.length ≤ 100000 := fun t h => by
    obtain ⟨k, hk, rfl⟩ := ht t h
    have h1 : (lay l k 0).length ≤ en l k - k := layF_len hc l.length k 0 hk
    have := (chk_all hc hk).le
    omega
  refine ⟨⟨fun t h => ?_, ?_, fun t h x hx => ?_⟩, hlen, ?_⟩
  · obtain ⟨k, hk, rfl⟩ := ht t h
    exact (lay_in hc _ k (Nat.le_refl _) hk 0).1
  · rw [join_all hc hm has hok]
    exact hall
  · have hl' := hlen t h
    obtain ⟨k, hk, rfl⟩ := ht t h
    have h1 := lay_kidsLen hc _ k (Nat.le_refl _) hk 0 x hx
    refine ⟨by omega, fun j hj => ?_⟩
    have := (lay_in hc _ k (Nat.le_refl _) hk 0).2 x hx j hj
    omega
  · rw [tsU_eq hc hm has hok _ (Nat.le_refl _), List.length_map]
    have h1 := List.length_filter_le (fun k => !leftP (ruleF (nd l m).kind) l k.toNat) ((nd l m).kids.take (nd l m).kids.length)
    rw [List.take_length] at h1 ⊢
    have : ∀ (ks : List Int) (next e : Nat), Chain l ks next e → ks.length ≤ e - next := by
      intro ks
      induction ks with
      | nil => intro next e _; simp
      | cons k ks ih =>
        intro next e h
        have h1 := ih _ _ h.2.2
        have h2 := h.2.1.le
        have h3 := chain_le _ _ _ h.2.2
        simp only [List.length_cons]
        omega
    have := this _ _ _ hfi.chain
    omega
/-- A Param's Num is a mark just if it is two or more. -/
theorem mark_two {n : Int} (h0 : 0 ≤ n) (h7 : n ≤ 7) : markP n = decide (2 ≤ n) := by
  have : n = 0 ∨ n = 1 ∨ n = 2 ∨ n = 3 ∨ n = 4 ∨ n = 5 ∨ n = 6 ∨ n = 7 := by omega
  rcases this with rfl | rfl | rfl | rfl | rfl | rfl | rfl | rfl <;> decide
theorem lay_texts {l : List Nd} (hc : (chkP l).2 = 0) (N : Nat) (hN : ∀ x ∈ l, x.text.size ≤ N) : ∀ (d n : Nat), en l n - n ≤ d → n < l.length → ∀ p, ∀ x ∈ lay l n p, x.text.size ≤ N
  | 0, n, hd, hn, p => by have := (chk_all hc hn).le; omega
  | d + 1, n, hd, hn, p => by
    obtain ⟨a, b, c, e⟩ := inn_in' hc hn
    have hf := chk_all hc b
    have hK : ∀ (ks : List Int) (p : Nat), (∀ k ∈ ks, k ∈ (nd l (inn l n)).kids) → ∀ x ∈ (layK (lay l) ks p).2, x.text.size ≤ N := by
      intro ks
      induction ks with
      | nil => intro p _ x hx; cases hx
      | cons k ks ih =>
        intro p hk x hx
        simp only [layK] at hx
        rcases List.mem_append.1 hx with hx | hx
        · obtain ⟨k', rfl, hk', h1, h2⟩ := chain_kids _ _ _ hf.chain k (hk k (by simp))
          simp only [Int.toNat_natCast] at hx
          exact lay_texts hc N hN d k' (by omega) hk'.1 p x hx
        · exact ih _ (fun k' h' => hk k' (by simp [h'])) x hx
    rw [lay_eq hc hn]
    intro x hx
    rcases List.mem_cons.1 hx with rfl | hx
    · show (aloneN (nd l (inn l n))).text.size ≤ N
      have hm : nd l (inn l n) ∈ l := by
        have : nd l (inn l n) = l[inn l n] := by simp [nd, List.getD_eq_getElem?_getD, List.getElem?_eq_getElem b]
        rw [this]; exact List.getElem_mem b
      have := hN _ hm
      unfold aloneN
      split
      · exact Nat.zero_le _
      split
      · exact this
      split
      · exact this
      · exact this
    · exact hK _ _ (fun k hk => (kp_sub hk).1) x hx
end Go.Proofs.YtnnpkomedpjlcaaGreatDoor
