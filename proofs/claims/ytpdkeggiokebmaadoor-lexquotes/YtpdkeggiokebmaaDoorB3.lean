/- text.Place: the line and the column of a byte are those of the runes that end there or ahead of it. -/
import Derived.Scope
import Derived.Test.YtpdkeggiokebmaaDoorB2
namespace Go.Proofs.YtpdkeggiokebmaaDoor
set_option linter.unusedSimpArgs false
set_option linter.unusedVariables false
open Go.RowKit Go.Shelf

attribute [local go_sem] Oper.semAt_some

theorem wpIn_scope_wide {n : Nat} {P : Program} {Q : Exit → Act → World → Prop} {a : Act} {w : World} {c : Code} (h : c.wpIn Fence.wide n P (Exit.noGoto Q) a w) : (Code.scope c).wpIn Fence.wide n P Q a w :=
  wpIn_wide.2 (wp_scope_straight (wpIn_wide.1 h))

/-- A place counts as 0 below 0, as the length above it. -/
def clampP (len : Nat) (p : Int) : Nat := if p < 0 then 0 else if p < len then p.toNat else len
/-- The line and the column behind runes. -/
def plcL : List (Nat × Int) → Int := List.foldl (fun s x => if x.2 = 10 then s + 1 else s) 1
def plcC : List (Nat × Int) → Int := List.foldl (fun s x => if x.2 = 10 then 1 else s + 1) 1

theorem KeepS.setCell {S0 : Nat → Prop} (W : World) (k : Nat) (v : Value) (h : ¬ S0 k) : KeepS S0 W (W.setCell ⟨k, 0, none⟩ v) := fun i hi => Below.heap_setCell W ⟨k, 0, none⟩ v i (fun e => h (by have e' : i = k := e; subst e'; exact hi))
theorem KeepS.refl {S0 : Nat → Prop} (W : World) : KeepS S0 W W := fun _ _ => rfl
theorem keepS_b {S0 : Nat → Prop} {w : World} (hs : ∀ k, S0 k → k < w.heap.size) (W : World) (l : Nat) (o o' : Obj) (hl : w.heap.size ≤ l) (_ : W.heap[l]? = some o) (_ : o.isCells = false) (_ : o.isWalk = false) : KeepS S0 W (W.putObj l o') :=
  fun k hk => World.putObj_heap_other (by have := hs k hk; omega)
theorem plcL_snoc (pre : List (Nat × Int)) (x : Nat × Int) : plcL (pre ++ [x]) = if x.2 = 10 then plcL pre + 1 else plcL pre := by simp [plcL]
theorem plcC_snoc (pre : List (Nat × Int)) (x : Nat × Int) : plcC (pre ++ [x]) = if x.2 = 10 then 1 else plcC pre + 1 := by simp [plcC]
theorem plc_bd (pre : List (Nat × Int)) : 1 ≤ plcL pre ∧ plcL pre ≤ pre.length + 1 ∧ 1 ≤ plcC pre ∧ plcC pre ≤ pre.length + 1 := by
  have key : ∀ n (pre : List (Nat × Int)), pre.length = n → 1 ≤ plcL pre ∧ plcL pre ≤ n + 1 ∧ 1 ≤ plcC pre ∧ plcC pre ≤ n + 1 := by
    intro n
    induction n with
    | zero => intro pre h; obtain rfl := List.length_eq_zero_iff.1 h; simp [plcL, plcC]
    | succ n ih =>
      intro pre h
      have hne : pre ≠ [] := by intro e; subst e; simp at h
      rw [← List.dropLast_concat_getLast hne, plcL_snoc, plcC_snoc]
      have := ih pre.dropLast (by simp [h])
      split <;> omega
  have := key pre.length pre rfl
  exact this
/-- Between two rounds of Place: A: the first of its own blocks; q: the place. -/
def PlI (w : World) (q : Int) (pre : List (Nat × Int)) (W : World) : Prop :=
  ((∀ x ∈ pre, (x.1 : Int) ≤ q) ∧ Boxed W w.heap.size 3 (.int .i64 q) ∧ Boxed W (w.heap.size + 1) 3 (.int .i64 (plcL pre)) ∧ Boxed W (w.heap.size + 1 + 1) 3 (.int .i64 (plcC pre))) ∧ Below w.heap.size w W
/-- A round of Place has left. -/
def PlX (w : World) (q : Int) (c : Code) (pre : List (Nat × Int)) (W : World) : Prop :=
  (∃ (pq : List (Nat × Int)) (x : Nat × Int), c = .exit 0 ∧ pre = pq ++ [x] ∧ q < (x.1 : Int) ∧ (∀ y ∈ pq, (y.1 : Int) ≤ q) ∧ Boxed W (w.heap.size + 1) 3 (.int .i64 (plcL pq)) ∧ Boxed W (w.heap.size + 1 + 1) 3 (.int .i64 (plcC pq))) ∧ Below w.heap.size w W
theorem plI_own (w : World) (q : Int) (B : Nat) (hB : w.heap.size ≤ B) : OwnFrom B (PlI w q) :=
  OwnFrom.and (Own.from (fun s A B row hs hg hr => ⟨hs.1, boxed_own (β := Unit) _ _ (fun _ => _) () A B row hs.2.1 hg hr, boxed_own (β := Unit) _ _ (fun _ => _) () A B row hs.2.2.1 hg hr, boxed_own (β := Unit) _ _ (fun _ => _) () A B row hs.2.2.2 hg hr⟩) _) (ownFrom_below (Nat.le_refl _) hB)
theorem plX_own (w : World) (q : Int) (c : Code) (B : Nat) (hB : w.heap.size ≤ B) : OwnFrom B (PlX w q c) :=
  OwnFrom.and (Own.from (fun s A B row hs hg hr => by
      obtain ⟨pq, x, h1, h2, h3, h4, h5, h6⟩ := hs
      exact ⟨pq, x, h1, h2, h3, h4, boxed_own (β := Unit) _ _ (fun _ => _) () A B row h5 hg hr, boxed_own (β := Unit) _ _ (fun _ => _) () A B row h6 hg hr⟩) _) (ownFrom_below (Nat.le_refl _) hB)
/-- What Place answers: the line and the column behind the runes that end at a place or ahead of it. -/
def PlaceIs (g : Nat → Int) (len q : Nat) (ln cl : Int) : Prop :=
  ∃ k, Before g len k ∧ posn g len k ≤ q ∧ (posn g len k = len ∨ q < posn g len (k + 1)) ∧ ln = plcL (upto (endAt g len) k) ∧ cl = plcC (upto (endAt g len) k)
theorem upto_last {g : Nat → Int} {len k q : Nat} (h : ∀ x ∈ upto (endAt g len) k, (x.1 : Int) ≤ q) : posn g len k ≤ q := by
  cases k with
  | zero => exact Nat.zero_le _
  | succ k => have := h (endAt g len k) (by rw [upto_succ]; simp); simp only [endAt] at this; omega
theorem placeIs_done {g : Nat → Int} {len m q : Nat} (hm : Runes g len m) (h : ∀ x ∈ upto (endAt g len) m, (x.1 : Int) ≤ q) : PlaceIs g len q (plcL (upto (endAt g len) m)) (plcC (upto (endAt g len) m)) :=
  ⟨m, hm.2, upto_last h, .inl hm.1, rfl, rfl⟩
theorem placeIs_stop {g : Nat → Int} {len k q : Nat} {pre pq : List (Nat × Int)} {x : Nat × Int} (hk : Before g len k) (hpre : pre = upto (endAt g len) k) (hpq : pre = pq ++ [x]) (hx : (q : Int) < x.1) (h : ∀ y ∈ pq, (y.1 : Int) ≤ q) :
    PlaceIs g len q (plcL pq) (plcC pq) := by
  cases k with
  | zero => rw [hpre] at hpq; simp [upto] at hpq
  | succ k =>
    rw [hpre, upto_succ] at hpq
    obtain ⟨e1, e2⟩ := List.append_inj' hpq rfl
    simp at e2
    subst e1; subst e2
    exact ⟨k, fun j hj => hk j (by omega), upto_last h, .inr (by simp only [endAt] at hx; omega), rfl, rfl⟩
/-- Behind the last region of Place, and behind the loop's own book-keeping. -/
theorem pl_fin {W : World} {A D : Nat} {u v : Value} (b1 : Boxed W (A + 1) 3 u) (b2 : Boxed W (A + 1 + 1) 3 v) (hK : W.heap[D]? = some (.deferred (some []))) :
    (((W.setCell ⟨A + 1, 0, none⟩ u).setCell ⟨A + 1 + 1, 0, none⟩ v).drew).heap[D]? = some (.deferred (some [])) ∧
    Boxed ((((W.setCell ⟨A + 1, 0, none⟩ u).setCell ⟨A + 1 + 1, 0, none⟩ v).drew).putObj D (.deferred none)) (A + 1) 3 u ∧ Boxed ((((W.setCell ⟨A + 1, 0, none⟩ u).setCell ⟨A + 1 + 1, 0, none⟩ v).drew).putObj D (.deferred none)) (A + 1 + 1) 3 v := by
  have k1 : (((W.setCell ⟨A + 1, 0, none⟩ u).setCell ⟨A + 1 + 1, 0, none⟩ v).drew).heap[D]? = some (.deferred (some [])) := ((KeepsOthers.setCell W ⟨A + 1, 0, none⟩ u).trans (KeepsOthers.setCell _ ⟨A + 1 + 1, 0, none⟩ v)).same D _ hK rfl
  have c1 : Boxed (((W.setCell ⟨A + 1, 0, none⟩ u).setCell ⟨A + 1 + 1, 0, none⟩ v).drew) (A + 1) 3 u := (b1.set u).other (by omega) v
  have c2 : Boxed (((W.setCell ⟨A + 1, 0, none⟩ u).setCell ⟨A + 1 + 1, 0, none⟩ v).drew) (A + 1 + 1) 3 v := (b2.other (by omega) u).set v
  have n1 : some (A + 1) ≠ some D := fun e => by cases e; rw [show _ = _ from c1] at k1; cases k1
  have n2 : some (A + 1 + 1) ≠ some D := fun e => by cases e; rw [show _ = _ from c2] at k1; cases k1
  exact ⟨k1, c1.kept (grownBy_putObj' _ D _) n1, c2.kept (grownBy_putObj' _ D _) n2⟩
end Go.Proofs.YtpdkeggiokebmaaDoor
