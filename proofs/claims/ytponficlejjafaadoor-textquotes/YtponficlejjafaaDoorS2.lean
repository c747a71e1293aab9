/- A whole turn of text.Runes under the comparing function literal. -/
import Derived.Test.YtponficlejjafaaDoorS1
namespace Go.Proofs.YtponficlejjafaaDoor
set_option linter.unusedSimpArgs false
set_option linter.unusedVariables false
open Go.RowKit Go.Shelf

theorem ownsRow_fr {S0 : Nat → Prop} {w w' : World} {base : Nat} {e : TypeId} {size : Nat} {v : Value} {n : Nat} {xs : List Value} (h : w.ownsRow base e size v n xs) (hf : Fr S0 w w') (hn : ∀ k, v.ownBlock = some k → ¬ S0 k) : w'.ownsRow base e size v n xs := by
  refine ⟨h.1, ?_⟩
  rcases h.2 with h0 | ⟨g, cap, cur, rfl, h1, h2, h3⟩
  · exact .inl h0
  · exact .inr ⟨g, cap, cur, rfl, h1, (hf.block g (Array.getElem?_eq_some_iff.1 h2).1 (hn g rfl)).trans h2, h3⟩

theorem fits_true {g : Nat → Int} {len m n : Nat} {x : Nat × Int} (h : fits g len m n x = true) : n < m ∧ x = runeAt g len n := by
  obtain ⟨a, b⟩ := x
  simp only [fits, Bool.and_eq_true, decide_eq_true_eq] at h
  exact ⟨h.1, by simp only [runeAt]; rw [h.2.1, h.2.2]⟩
theorem fits_of {g : Nat → Int} {len m n : Nat} (h : n < m) : fits g len m n (runeAt g len n) = true := by simp [fits, runeAt, h]
/-- So far what came is what should come. -/
def SoFar (g : Nat → Int) (len m : Nat) (pre : List (Nat × Int)) : Prop := pre = upto (runeAt g len) pre.length ∧ pre.length ≤ m
theorem soFar_nil (g : Nat → Int) (len m : Nat) : SoFar g len m [] := ⟨rfl, Nat.zero_le _⟩
theorem soFar_snoc {g : Nat → Int} {len m : Nat} {pre : List (Nat × Int)} {x : Nat × Int} (h : SoFar g len m pre) : (fits g len m pre.length x = true → SoFar g len m (pre ++ [x])) ∧ (fits g len m pre.length x = false → ¬ SoFar g len m (pre ++ [x])) := by
  constructor
  · intro hf
    obtain ⟨h1, rfl⟩ := fits_true hf
    refine ⟨?_, by simp; omega⟩
    rw [List.length_append, List.length_singleton, upto_succ, ← h.1]
  · rintro hf ⟨h1, h2⟩
    rw [List.length_append, List.length_singleton] at h1 h2
    rw [upto_succ] at h1
    obtain ⟨_, e2⟩ := List.append_inj' h1 rfl
    simp at e2
    rw [e2, fits_of (by omega)] at hf
    cases hf
theorem soFar_upto {g : Nat → Int} {len m k : Nat} (hm : Runes g len m) (hk : Before g len k) : SoFar g len m (upto (runeAt g len) k) := by
  refine ⟨by rw [upto_length], ?_⟩
  rw [upto_length]
  rcases Nat.lt_or_ge m k with h | h
  · have := hk m h; have := hm.1; omega
  · exact h

theorem enter17 : ∀ args w, (callFunc 17 args).run Tryd.prog w = .ok (.enter 17 args) w := enters_of Tryd.func17 (by kernel_rfl) rfl

theorem inner_run {g : Nat → Int} (hg : ∀ j, 0 ≤ g j ∧ g j ≤ 255) {len m Bo Bq Bw Bk c base : Nat} {o : Bool} {v sv : Value} {W : World} (hlen : len ≤ 1048576) (hm : Runes g len m)
    (ho : Boxed W Bo 4 (.bool o)) (hq : Boxed W Bq 3 (.int .i64 0)) (hw : Boxed W Bw 32 v) (hown : W.ownsRow base 26 4 v m (rows4 g len m)) (hBk : Boxed W Bk 22 sv) (hS : Sl W c sv len g) (hc : c < W.heap.size)
    (n1 : Bo ≠ Bq) (n2 : Bw ≠ Bo) (n3 : Bw ≠ Bq) (n4 : Bk ≠ Bo) (n5 : Bk ≠ Bq) (n6 : c ≠ Bo) (n7 : c ≠ Bq) :
    Calls Tryd.prog 33 #[.func (.func 17) #[] #[.pointer (some ⟨Bo, 0, none⟩), .pointer (some ⟨Bq, 0, none⟩), .pointer (some ⟨Bw, 0, none⟩)], .pointer (some ⟨Bk, 0, none⟩)] W fun e A =>
      (∃ u, e = .returned u) ∧ Fr (fun k => k = Bo ∨ k = Bq) W A ∧ Boxed A Bo 4 (.bool o) ∧ ∃ q : Int, Boxed A Bq 3 (.int .i64 q) ∧ (o = true → q = m) := by
  have hml := hm.le
  have nv : ∀ k, v.ownBlock = some k → ¬ (k = Bo ∨ k = Bq) := by
    rintro k hk (rfl | rfl)
    · exact ho.not_row (by decide) hown hk.symm
    · exact hq.not_row (by decide) hown hk.symm
  refine (runes1_any enter17 hg hBk hS hc
    (fun pre A => SoFar g len m pre ∧ (o = false → pre = []) ∧ Boxed A Bo 4 (.bool o) ∧ Boxed A Bq 3 (.int .i64 (pre.length : Int)) ∧ Fr (fun k => k = Bo ∨ k = Bq) W A)
    (fun pre A => (o = false ∨ ¬ SoFar g len m pre) ∧ Boxed A Bo 4 (.bool false) ∧ (∃ q : Int, Boxed A Bq 3 (.int .i64 q)) ∧ Fr (fun k => k = Bo ∨ k = Bq) W A)
    ?_ ?_ ?_ ⟨soFar_nil _ _ _, fun _ => rfl, ho, hq, Fr.refl _ _⟩).mono ?_
  · rintro pre A B ⟨h1, h2, h3, h4, h5⟩ hb
    exact ⟨h1, h2, boxed_below h3 hb ho.lt, boxed_below h4 hb hq.lt, h5.below hb⟩
  · rintro pre A B ⟨h1, h2, ⟨q, h3⟩, h4⟩ hb
    exact ⟨h1, boxed_below h2 hb ho.lt, ⟨q, boxed_below h3 hb hq.lt⟩, h4.below hb⟩
  · rintro pre x A ⟨h1, h2, h3, h4, h5⟩ hl hsz
    have hpm := h1.2
    have keep : ∀ (u : Bool) (t : Int) k, (W.heap.size ≤ k ∧ k < A.heap.size) ∨ k = Bk ∨ k = c → ((A.setCell ⟨Bo, 0, none⟩ (.bool u)).setCell ⟨Bq, 0, none⟩ (.int .i64 t)).heap[k]? = A.heap[k]? := by
      intro u t k hk
      have a1 := ho.lt
      have a2 := hq.lt
      rw [Below.heap_setCell _ _ _ _ (by show k ≠ Bq; rcases hk with ⟨h, _⟩ | rfl | rfl <;> omega), Below.heap_setCell _ _ _ _ (by show k ≠ Bo; rcases hk with ⟨h, _⟩ | rfl | rfl <;> omega)]
    cases o with
    | false =>
      obtain rfl := h2 rfl
      refine (cmp_no Bo Bq Bw 0 v x A (by decide) (by decide) h3 h4 n1).mono ?_
      rintro e A' ⟨rfl, rfl⟩
      exact ⟨(KeepsOthers.setCell _ _ _).trans (KeepsOthers.setCell _ _ _), keep _ _, .inr ⟨rfl, .inl rfl, (h3.set _).other n1 _, ⟨_, (h4.other n1.symm _).set _⟩, (h5.setCell _ _ (.inl rfl)).setCell _ _ (.inr rfl)⟩⟩
    | true =>
      refine (cmp_yes Bo Bq Bw pre.length m v g len base x A (by omega) h3 h4 (boxed_fr hw h5 (by rintro (h | h) <;> omega)) (ownsRow_fr hown h5 nv) n1 n2 (by omega)).mono ?_
      rintro e A' ⟨rfl, rfl⟩
      refine ⟨(KeepsOthers.setCell _ _ _).trans (KeepsOthers.setCell _ _ _), keep _ _, ?_⟩
      cases hf : fits g len m pre.length x with
      | true =>
        refine .inl ⟨rfl, (soFar_snoc h1).1 hf, (fun e => by cases e), (h3.set _).other n1 _, ?_, (h5.setCell _ _ (.inl rfl)).setCell _ _ (.inr rfl)⟩
        rw [List.length_append, List.length_singleton, Int.natCast_add]
        exact (h4.other n1.symm _).set _
      | false => exact .inr ⟨rfl, .inr ((soFar_snoc h1).2 hf), (h3.set _).other n1 _, ⟨_, (h4.other n1.symm _).set _⟩, (h5.setCell _ _ (.inl rfl)).setCell _ _ (.inr rfl)⟩
  · rintro e A ⟨he, ⟨m', hm', h1, h2, h3, h4, h5⟩ | ⟨k, hk, h1, h2, ⟨q, h3⟩, h4⟩⟩
    · obtain rfl := hm'.unique hm
      rw [upto_length] at h4
      exact ⟨he, h5, h3, _, h4, fun _ => rfl⟩
    · cases o with
      | false => exact ⟨he, h4, h2, q, h3, fun e => by cases e⟩
      | true =>
        rcases h1 with h1 | h1
        · cases h1
        · exact absurd (soFar_upto hm hk) h1
end Go.Proofs.YtponficlejjafaaDoor
