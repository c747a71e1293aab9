/- What chapter 5's Check answers, purely; the kids that a plain kind's places ask. -/
import Derived.Test.YtnnpkomedpjlcaaGreatDoorG2
import Derived.Test.YtnnpkomedpjlcaaGreatDoorK0
import Derived.Test.YtnnpkomedpjlcaaGreatDoorVO
namespace Go.Proofs.YtnnpkomedpjlcaaGreatDoor
set_option linter.unusedSimpArgs false
set_option linter.unusedVariables false
open Go.RowKit

/-- What chapter 5's Check answers. -/
def ccP (l : List Nd) : Int × Int :=
  if (chkP l).2 = 0 then match (List.range l.length).find? (fun j => !plainP l j) with
    | none => (-1, 0)
    | some n => ((n : Int), 12)
  else chkP l
theorem ccP_bad {l : List Nd} (h : ¬ (chkP l).2 = 0) : ccP l = chkP l := by simp [ccP, h]
theorem ccP_all {l : List Nd} (h : (chkP l).2 = 0) (hp : ∀ j, j < l.length → plainP l j = true) : ccP l = (-1, 0) := by
  have : (List.range l.length).find? (fun j => !plainP l j) = none := by
    rw [List.find?_range_eq_none]
    intro i hi
    simp [hp i hi]
  simp [ccP, h, this]
theorem ccP_at {l : List Nd} {n : Nat} (h : (chkP l).2 = 0) (hn : n < l.length) (hp : ∀ j, j < n → plainP l j = true) (hb : plainP l n = false) : ccP l = ((n : Int), 12) := by
  have : (List.range l.length).find? (fun j => !plainP l j) = some n := by
    rw [List.find?_range_eq_some]
    refine ⟨by simp [hb], by simpa using hn, fun j hj => by simp [hp j hj]⟩
  simp [ccP, h, this]

theorem kz_len1 {l : List Nd} {a : Nat} {r : List (Option Nat)} {ks : List Int} (h : kz l (some a :: r) ks = true) : 1 ≤ ks.length := by
  cases ks with
  | nil => simp [kz] at h
  | cons k ks => simp
theorem kz_len2 {l : List Nd} {a b : Nat} {r : List (Option Nat)} {ks : List Int} (h : kz l (some a :: some b :: r) ks = true) : 2 ≤ ks.length := by
  cases ks with
  | nil => simp [kz] at h
  | cons k ks =>
    simp only [kz, Bool.and_eq_true] at h
    have := kz_len1 h.2
    simp; omega
theorem kz_len3 {l : List Nd} {a b c : Nat} {r : List (Option Nat)} {ks : List Int} (h : kz l (some a :: some b :: some c :: r) ks = true) : 3 ≤ ks.length := by
  cases ks with
  | nil => simp [kz] at h
  | cons k ks =>
    simp only [kz, Bool.and_eq_true] at h
    have := kz_len2 h.2
    simp; omega
theorem fit_kz {l : List Nd} {n : Nat} {r : RowV} (hf : fitP l n = true) (hr : tabT (nd l n).kind = some r) (hm : r.m = none) : kz l [r.k0, r.k1, r.k2, r.k3] (nd l n).kids = true := by
  simp only [fitP, Bool.and_eq_true] at hf
  have h := hf.2
  rw [hr] at h
  obtain ⟨tt, nn, k0, k1, k2, k3, m, aa⟩ := r
  simp only at hm
  subst hm
  simp only [Option.getD_some] at h
  rw [kidP_kz, Bool.and_eq_true] at h
  exact h.1
theorem kid_need {l : List Nd} {n : Nat} (hf : fitP l n = true) : need (nd l n).kind ≤ (nd l n).kids.length := by
  unfold need
  split
  · rename_i h
    rcases h with h | h
    · have := fit_kz hf (by rw [h]; rfl) rfl; exact kz_len1 this
    · have := fit_kz hf (by rw [h]; rfl) rfl; exact kz_len1 this
  split
  · rename_i h
    rcases h with h | h
    · have := fit_kz hf (by rw [h]; rfl) rfl; exact kz_len3 this
    · have := fit_kz hf (by rw [h]; rfl) rfl; exact kz_len3 this
  split
  · rename_i h
    have := fit_kz hf (by rw [h]; rfl) rfl; exact kz_len3 this
  split
  · rename_i h
    rcases h with h | h
    · have := fit_kz hf (by rw [h]; rfl) rfl; exact kz_len2 this
    · have := fit_kz hf (by rw [h]; rfl) rfl; exact kz_len2 this
  split
  · rename_i h
    have := fit_kz hf (by rw [h]; rfl) rfl; exact kz_len1 this
  split
  · rename_i h
    have := fit_kz hf (by rw [h]; rfl) rfl; exact kz_len1 this
  split
  · rename_i h
    have := fit_kz hf (by rw [h]; rfl) rfl; exact kz_len2 this
  · exact Nat.zero_le _
/-- Kinds that a tree may have. -/
theorem fit_kind {l : List Nd} {n : Nat} (hf : fitP l n = true) : (tabT (nd l n).kind).isSome = true := by
  simp only [fitP, Bool.and_eq_true] at hf
  exact hf.1.1.1
end Go.Proofs.YtnnpkomedpjlcaaGreatDoor
