/- ParseSplits: the trees are good and as deep as the law says: by the kernel. -/
import Derived.Test.YtofgphapjjofnaaGreatDoorSA
namespace Go.Proofs.YtofgphapjjofnaaGreatDoor
set_option linter.unusedSimpArgs false
set_option linter.unusedVariables false
open Go.RowKit Go.Shelf

theorem tn_A : Tr.tnB ⟨#[65]⟩ = true ∧ Tr.tnB ⟨#[66]⟩ = true := by
  have h1 : ∀ s : ByteArray, s = ⟨#[65]⟩ ∨ s = ⟨#[66]⟩ → Tr.hasT Tr.tnL s = false ∧ Tr.hasT Tr.wordL s = false := fun s hs => by
    rcases hs with rfl | rfl <;> exact ⟨by simp only [Tr.hasT, ba_toList]; decide +kernel, by simp only [Tr.hasT, ba_toList]; decide +kernel⟩
  have h2 : Tr.parts ⟨#[65]⟩ = [⟨#[65]⟩] ∧ Tr.parts ⟨#[66]⟩ = [⟨#[66]⟩] := by decide +kernel
  have h3 : Tr.chN ⟨#[65]⟩ 1 = true ∧ Tr.chN ⟨#[66]⟩ 1 = true := by decide +kernel
  have e1 : (⟨#[65]⟩ : ByteArray).size = 1 := rfl
  have e2 : (⟨#[66]⟩ : ByteArray).size = 1 := rfl
  unfold Tr.tnB
  rw [h2.1, h2.2, (h1 _ (.inl rfl)).1, (h1 _ (.inr rfl)).1]
  simp only [List.all_cons, List.all_nil, Tr.nameB, e1, e2, h3.1, h3.2, (h1 _ (.inl rfl)).2, (h1 _ (.inr rfl)).2]
  decide
/-- The text as the table says, if it is one of these. -/
def txQ (r : Tr.RowV) (s : ByteArray) : Bool := match r.t with
  | none => s.data.toList.isEmpty
  | some f => decide (f = 76) && (s.data.toList == [65] || s.data.toList == [66])
theorem txQ_ok {r : Tr.RowV} {s : ByteArray} (h : txQ r s = true) : Tr.txP r s = true := by
  unfold txQ at h
  unfold Tr.txP
  split at h
  · rename_i e
    rw [e]
    simpa [ba_toList] using h
  · rename_i f e
    rw [e]
    simp only [Bool.and_eq_true, decide_eq_true_eq, Bool.or_eq_true, beq_iff_eq] at h
    obtain ⟨rfl, h | h⟩ := h
    · have : s = ⟨#[65]⟩ := ByteArray.ext (Array.toList_inj.1 h)
      rw [this]; exact tn_A.1
    · have : s = ⟨#[66]⟩ := ByteArray.ext (Array.toList_inj.1 h)
      rw [this]; exact tn_A.2
def fitQ (l : List Tr.Nd) (n : Nat) : Bool := (Tr.tabT (Tr.nd l n).kind).isSome && txQ ((Tr.tabT (Tr.nd l n).kind).getD Tr.rowN) (Tr.nd l n).text && Tr.nmP ((Tr.tabT (Tr.nd l n).kind).getD Tr.rowN) (Tr.nd l n).num && Tr.kidP ((Tr.tabT (Tr.nd l n).kind).getD Tr.rowN) l (Tr.nd l n).kids
theorem fitQ_ok {l : List Tr.Nd} {n : Nat} (h : fitQ l n = true) : Tr.fitP l n = true := by
  unfold fitQ at h
  unfold Tr.fitP
  simp only [Bool.and_eq_true] at h ⊢
  exact ⟨⟨⟨h.1.1.1, txQ_ok h.1.1.2⟩, h.1.2⟩, h.2⟩
def lookQ (l : List Tr.Nd) : Nat → Nat → Int × Nat
  | 0, n => ((n : Int), n + 1)
  | f + 1, n => if fitQ l n then Tr.lookK (lookQ l f) n (Tr.nd l n).kids (n + 1) else ((n : Int), n + 1)
theorem lookK_cong {rc rc' : Nat → Int × Nat} {n : Nat} (hr : ∀ m, (rc m).1 < 0 → rc' m = rc m) : ∀ (ks : List Int) (next : Nat), (Tr.lookK rc n ks next).1 < 0 → Tr.lookK rc' n ks next = Tr.lookK rc n ks next
  | [], next, _ => rfl
  | k :: ks, next, h => by
    unfold Tr.lookK at h ⊢
    by_cases hk : k = (next : Int)
    · rw [if_pos hk] at h ⊢
      rw [if_pos hk]
      by_cases h0 : (rc next).1 < 0
      · rw [if_pos h0] at h ⊢
        rw [hr next h0, if_pos h0]
        exact lookK_cong hr ks _ h
      · rw [if_neg h0] at h
        exact absurd h h0
    · rw [if_neg hk, if_neg hk]
theorem lookQ_ok {l : List Tr.Nd} : ∀ (f n : Nat), (lookQ l f n).1 < 0 → Tr.lookP l f n = lookQ l f n
  | 0, n, h => rfl
  | f + 1, n, h => by
    unfold lookQ at h ⊢
    unfold Tr.lookP
    by_cases hq : fitQ l n = true
    · rw [if_pos hq] at h ⊢
      rw [if_pos (fitQ_ok hq)]
      exact lookK_cong (fun m hm => lookQ_ok f m hm) _ _ h
    · rw [if_neg hq] at h
      simp only at h
      omega
def chkQ (l : List Tr.Nd) : Bool := decide (0 < l.length) && decide ((lookQ l l.length 0).1 < 0) && decide (Tr.outP l (lookQ l l.length 0) = (-1, 0))
theorem chkQ_ok {l : List Tr.Nd} (h : chkQ l = true) : Tr.chkP l = (-1, 0) := by
  simp only [chkQ, Bool.and_eq_true, decide_eq_true_eq] at h
  unfold Tr.chkP
  rw [if_neg (by omega), lookQ_ok _ _ h.1.2, h.2]
/-- What the law asks of the tree. -/
def spOk (n : Nat) (t : List PN) : Bool := decide (cnt t t.length = n + 1) && (t.all fun x => decide (x.text.length ≤ 10) && decide (x.kids.length ≤ 10)) && decide (0 < t.length) && decide (t.length ≤ 1000) && chkQ (t.map toNd) && decide (Tr.mdp (t.map toNd) t.length = 2 * n + 1)
def spC (b : Bool) (n : Nat) : Bool := match ansB (spB b n) 900 .anyType with
  | some t => spOk n t
  | none => false
set_option maxRecDepth 100000 in
theorem sp_all1 : ((List.range 21).all fun n => spC false n) = true := by decide +kernel
set_option maxRecDepth 100000 in
theorem sp_all2 : ((List.range 12).all fun n => spC false (21 + n)) = true := by decide +kernel
set_option maxRecDepth 100000 in
theorem sp_all3 : ((List.range 8).all fun n => spC false (33 + n)) = true := by decide +kernel
set_option maxRecDepth 100000 in
theorem sp_all4 : ((List.range 21).all fun n => spC true n) = true := by decide +kernel
set_option maxRecDepth 100000 in
theorem sp_all5 : ((List.range 12).all fun n => spC true (21 + n)) = true := by decide +kernel
set_option maxRecDepth 100000 in
theorem sp_all6 : ((List.range 8).all fun n => spC true (33 + n)) = true := by decide +kernel
theorem sp_get {b : Bool} {a m n : Nat} (h : ((List.range m).all fun n => spC b (a + n)) = true) (h1 : a ≤ n) (h2 : n < a + m) : spC b n = true := by
  have := List.all_eq_true.1 h (n - a) (List.mem_range.2 (by omega))
  rw [show a + (n - a) = n by omega] at this
  exact this
theorem sp_ex {n : Nat} (b : Bool) (hn : n ≤ 40) : ∃ t, ansB (spB b n) 900 .anyType = some t ∧ spOk n t = true := by
  have h : spC b n = true := by
    cases b with
    | false =>
      by_cases c1 : n < 21
      · exact List.all_eq_true.1 sp_all1 n (List.mem_range.2 c1)
      · by_cases c2 : n < 33
        · exact sp_get sp_all2 (by omega) (by omega)
        · exact sp_get sp_all3 (by omega) (by omega)
    | true =>
      by_cases c1 : n < 21
      · exact List.all_eq_true.1 sp_all4 n (List.mem_range.2 c1)
      · by_cases c2 : n < 33
        · exact sp_get sp_all5 (by omega) (by omega)
        · exact sp_get sp_all6 (by omega) (by omega)
  unfold spC at h
  split at h
  · exact ⟨_, ‹_›, h⟩
  · cases h
end Go.Proofs.YtofgphapjjofnaaGreatDoor
