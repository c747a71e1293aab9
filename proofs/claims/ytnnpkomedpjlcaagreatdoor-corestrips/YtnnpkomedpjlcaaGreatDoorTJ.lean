/- The order of looking, as plain data: by calls, and by a stack. -/
import Derived.Test.YtnnpkomedpjlcaaGreatDoorTI
namespace Go.Proofs.YtnnpkomedpjlcaaGreatDoor
set_option linter.unusedSimpArgs false
set_option linter.unusedVariables false

/-- The kids of a node are looked at, one behind the other: which offends (-1: none), and the number behind. -/
def lookK (rc : Nat → Int × Nat) (n : Nat) : List Int → Nat → Int × Nat
  | [], next => (-1, next)
  | k :: ks, next => if k = (next : Int) then (if (rc next).1 < 0 then lookK rc n ks (rc next).2 else rc next) else ((n : Int), next)
/-- A node is looked at, so many nodes deep. -/
def lookP (l : List Nd) : Nat → Nat → Int × Nat
  | 0, n => ((n : Int), n + 1)
  | f + 1, n => if fitP l n then lookK (lookP l f) n (nd l n).kids (n + 1) else ((n : Int), n + 1)
def outP (l : List Nd) (r : Int × Nat) : Int × Int := if r.1 < 0 then (if r.2 < l.length then ((r.2 : Int), 7) else (-1, 0)) else (r.1, 7)
/-- What Check answers. -/
def chkP (l : List Nd) : Int × Int := if l.length = 0 then (0, 7) else outP l (lookP l l.length 0)

theorem fit_ins {l : List Nd} {n : Nat} (h : fitP l n = true) : ∀ k ∈ (nd l n).kids, ins l k = true := by
  simp only [fitP, kidP, Bool.and_eq_true] at h
  intro k hk
  obtain ⟨j, hj⟩ := List.getElem?_of_mem hk
  have := upQ_ins h.2.1.1 j (List.getElem?_eq_some_iff.1 hj).1
  rw [List.getD_eq_getElem?_getD, hj] at this
  exact this

/-- What a look answers: the number behind is further on, and within. -/
def LookOk (l : List Nd) (rc : Nat → Int × Nat) (lo : Nat) : Prop := ∀ m, lo ≤ m → m < l.length → m + 1 ≤ (rc m).2 ∧ (rc m).2 ≤ l.length
theorem lookK_ok {l : List Nd} {rc : Nat → Int × Nat} {n : Nat} : ∀ (ks : List Int) (next : Nat), LookOk l rc next → (∀ k ∈ ks, ins l k = true) → next ≤ l.length → next ≤ (lookK rc n ks next).2 ∧ (lookK rc n ks next).2 ≤ l.length
  | [], next, _, _, hl => ⟨Nat.le_refl _, hl⟩
  | k :: ks, next, hr, hi, hl => by
    simp only [lookK]
    split
    · rename_i hk
      have hk' := (ins_iff'.1 (hi k (by simp))).2
      have h1 := hr next (Nat.le_refl _) (by omega)
      split
      · have := lookK_ok (n := n) ks (rc next).2 (fun m hm hm2 => hr m (by omega) hm2) (fun k hk => hi k (by simp [hk])) h1.2
        exact ⟨by omega, this.2⟩
      · exact ⟨by omega, h1.2⟩
    · exact ⟨Nat.le_refl _, hl⟩
theorem lookK_congr {l : List Nd} {rc rc' : Nat → Int × Nat} {n : Nat} : ∀ (ks : List Int) (next : Nat), LookOk l rc next → (∀ m, next ≤ m → m < l.length → rc m = rc' m) → (∀ k ∈ ks, ins l k = true) → lookK rc n ks next = lookK rc' n ks next
  | [], next, _, _, _ => rfl
  | k :: ks, next, hr, he, hi => by
    simp only [lookK]
    split
    · rename_i hk
      have hk' := (ins_iff'.1 (hi k (by simp))).2
      have h1 := hr next (Nat.le_refl _) (by omega)
      rw [← he next (Nat.le_refl _) (by omega)]
      split
      · exact lookK_congr ks _ (fun m hm hm2 => hr m (by omega) hm2) (fun m hm hm2 => he m (by omega) hm2) (fun k hk => hi k (by simp [hk]))
      · rfl
    · rfl
theorem lookP_ok {l : List Nd} : ∀ (f n : Nat), n < l.length → n + 1 ≤ (lookP l f n).2 ∧ (lookP l f n).2 ≤ l.length
  | 0, n, hn => ⟨Nat.le_refl _, hn⟩
  | f + 1, n, hn => by
    simp only [lookP]
    split
    · rename_i hf
      exact lookK_ok _ _ (fun m _ hm => lookP_ok f m hm) (fit_ins hf) hn
    · exact ⟨Nat.le_refl _, hn⟩
theorem lookP_fuel {l : List Nd} : ∀ (d n f f' : Nat), l.length - n ≤ d → n < l.length → l.length - n ≤ f → l.length - n ≤ f' → lookP l f n = lookP l f' n
  | 0, n, f, f', hd, hn, _, _ => by omega
  | d + 1, n, 0, f', hd, hn, hf, hf' => by omega
  | d + 1, n, f + 1, 0, hd, hn, hf, hf' => by omega
  | d + 1, n, f + 1, f' + 1, hd, hn, hf, hf' => by
    simp only [lookP]
    split
    · rename_i hfit
      exact lookK_congr _ _ (fun m _ hm => lookP_ok f m hm) (fun m hm hm2 => lookP_fuel d m f f' (by omega) hm2 (by omega) (by omega)) (fit_ins hfit)
    · rfl

/-- What is left to do, by a stack, its top first. -/
def contP (l : List Nd) : List (Nat × List Int) → Nat → Int × Nat
  | [], next => (-1, next)
  | (n, ks) :: st, next => if (lookK (lookP l l.length) n ks next).1 < 0 then contP l st (lookK (lookP l l.length) n ks next).2 else lookK (lookP l l.length) n ks next
theorem cont_pop (l : List Nd) (n : Nat) (st : List (Nat × List Int)) (next : Nat) : contP l ((n, []) :: st) next = contP l st next := by simp [contP, lookK]
theorem cont_off {l : List Nd} {n : Nat} {k : Int} {ks : List Int} {st : List (Nat × List Int)} {next : Nat} (h : k ≠ (next : Int)) : contP l ((n, k :: ks) :: st) next = ((n : Int), next) := by
  simp only [contP, lookK, if_neg h]
  rw [if_neg (by omega)]
theorem cont_bad {l : List Nd} {n : Nat} {ks : List Int} {st : List (Nat × List Int)} {next : Nat} (hl : next < l.length) (h : fitP l next = false) : contP l ((n, (next : Int) :: ks) :: st) next = ((next : Int), next + 1) := by
  obtain ⟨f, hf⟩ : ∃ f, l.length = f + 1 := ⟨l.length - 1, by omega⟩
  have e : lookP l l.length next = ((next : Int), next + 1) := by rw [hf]; simp [lookP, h]
  have hn : ¬ (next : Int) < 0 := by omega
  simp only [contP, lookK, if_true, e, if_neg hn]
theorem cont_push {l : List Nd} {n : Nat} {ks : List Int} {st : List (Nat × List Int)} {next : Nat} (hl : next < l.length) (h : fitP l next = true) : contP l ((n, (next : Int) :: ks) :: st) next = contP l ((next, (nd l next).kids) :: (n, ks) :: st) (next + 1) := by
  obtain ⟨f, hf⟩ : ∃ f, l.length = f + 1 := ⟨l.length - 1, by omega⟩
  have e : lookP l l.length next = lookK (lookP l l.length) next (nd l next).kids (next + 1) := by
    have e1 : lookP l l.length next = lookK (lookP l f) next (nd l next).kids (next + 1) := by rw [hf]; simp [lookP, h]
    rw [e1]
    exact lookK_congr _ _ (fun m _ hm => lookP_ok f m hm) (fun m hm hm2 => lookP_fuel (l.length - m) m f l.length (Nat.le_refl _) hm2 (by omega) (by omega)) (fit_ins h)
  rw [show contP l ((next, (nd l next).kids) :: (n, ks) :: st) (next + 1) = (if (lookP l l.length next).1 < 0 then contP l ((n, ks) :: st) (lookP l l.length next).2 else lookP l l.length next) from by rw [e]; rfl]
  show (if (lookK (lookP l l.length) n ((next : Int) :: ks) next).1 < 0 then contP l st (lookK (lookP l l.length) n ((next : Int) :: ks) next).2 else lookK (lookP l l.length) n ((next : Int) :: ks) next) = _
  by_cases hb : (lookP l l.length next).1 < 0
  · have e2 : lookK (lookP l l.length) n ((next : Int) :: ks) next = lookK (lookP l l.length) n ks (lookP l l.length next).2 := by simp only [lookK, if_true, if_pos hb]
    rw [e2, if_pos hb]
    rfl
  · have e2 : lookK (lookP l l.length) n ((next : Int) :: ks) next = lookP l l.length next := by simp only [lookK, if_true, if_neg hb]
    rw [e2, if_neg hb, if_neg hb]
theorem chk_start {l : List Nd} (hl : 0 < l.length) (h : fitP l 0 = true) : chkP l = outP l (contP l [(0, (nd l 0).kids)] 1) := by
  obtain ⟨f, hf⟩ : ∃ f, l.length = f + 1 := ⟨l.length - 1, by omega⟩
  have e : lookP l l.length 0 = lookK (lookP l l.length) 0 (nd l 0).kids 1 := by
    have e1 : lookP l l.length 0 = lookK (lookP l f) 0 (nd l 0).kids 1 := by rw [hf]; simp [lookP, h]
    rw [e1]
    exact lookK_congr _ _ (fun m _ hm => lookP_ok f m hm) (fun m hm hm2 => lookP_fuel (l.length - m) m f l.length (Nat.le_refl _) hm2 (by omega) (by omega)) (fit_ins h)
  have h0 : ¬ l.length = 0 := by omega
  simp only [chkP, if_neg h0, e, contP]
  split
  · rename_i hb
    simp only [outP, hb, if_true]
    rw [if_pos (by decide : (-1 : Int) < 0)]
  · rfl
theorem chk_bad {l : List Nd} (hl : 0 < l.length) (h : fitP l 0 = false) : chkP l = (0, 7) := by
  obtain ⟨f, hf⟩ : ∃ f, l.length = f + 1 := ⟨l.length - 1, by omega⟩
  have h0 : ¬ l.length = 0 := by omega
  have e : lookP l l.length 0 = (0, 1) := by rw [hf]; simp [lookP, h]
  simp only [chkP, if_neg h0, e, outP]
  rfl
end Go.Proofs.YtnnpkomedpjlcaaGreatDoor
