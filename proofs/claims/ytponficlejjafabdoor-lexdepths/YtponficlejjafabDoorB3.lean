/- text.Place: the line and the column of a byte are those of the runes that end there or ahead of it. -/
import Derived.Scope
import Derived.Test.YtponficlejjafabDoorB2
namespace Go.Proofs.YtponficlejjafabDoor
set_option linter.unusedSimpArgs false
set_option linter.unusedVariables false
open Go.RowKit Go.Shelf

attribute [local go_sem] Oper.semAt_some

theorem wpIn_scope_wide {n : Nat} {P : Program} {Q : Exit → Act → World → Prop} {a : Act} {w : World} {c : Code} (h : c.wpIn Fence.wide n P (Exit.noGoto Q) a w) : (Code.scope c).wpIn Fence.wide n P Q a w :=
  wpIn_wide.2 (wp_scope_straight (wpIn_wide.1 h))

/-- A place counts as 0 below 0, as the length above it. -/
def clampP (len : Nat) (p : Int) : Nat := if p < 0 then 0 else if p < len then p.toNat else len
/-- The line and the column behind runes. -/
def plcL : List (Nat × Int) → Int := List.foldl (fun s x => if x.2 = 10 then s + 1 else s) 1
def plcC : List (Nat × Int) → Int := List.foldl (fun s x => if x.2 = 10 then 1 else s + 1) 1

theorem KeepS.setCell {S0 : Nat → Prop} (W : World) (k : Nat) (v : Value) (h : ¬ S0 k) : KeepS S0 W (W.setCell ⟨k, 0, none⟩ v) := fun i hi => Below.heap_setCell W ⟨k, 0, none⟩ v i (fun e => h (by have e' : i = k := e; subst e'; exact hi))
theorem KeepS.refl {S0 : Nat → Prop} (W : World) : KeepS S0 W W := fun _ _ => rfl
theorem keepS_b {S0 : Nat → Prop} {w : World} (hs : ∀ k, S0 k → k < w.heap.size) (W : World) (l : Nat) (o o' : Obj) (hl : w.heap.size ≤ l) (_ : W.heap[l]? = some o) (_ : o.isCells = false) (_ : o.isWalk = false) : KeepS S0 W (W.putObj l o') :=
  fun k hk => World.putObj_heap_other (by have := hs k hk; omega)
theorem plcL_snoc (pre : List (Nat × Int)) (x : Nat × Int) : plcL (pre ++ [x]) = if x.2 = 10 then plcL pre + 1 else plcL pre := by simp [plcL]
theorem plcC_snoc (pre : List (Nat × Int)) (x : Nat × Int) : plcC (pre ++ [x]) = if x.2 = 10 then 1 else plcC pre + 1 := by simp [plcC]
theorem plc_bd (pre : List (Nat × Int)) : 1 ≤ plcL pre ∧ plcL pre ≤ pre.length + 1 ∧ 1 ≤ plcC pre ∧ plcC pre ≤ pre.length + 1 := by
  have key : ∀ n (pre : List (Nat × Int)), pre.length = n → 1 ≤ plcL pre ∧ plcL pre ≤ n + 1 ∧ 1 ≤ plcC pre ∧ plcC pre ≤ n + 1 := by
    intro n
    induction n with
    | zero => intro pre h; obtain rfl := List.length_eq_zero_iff.1 h; simp [plcL, plcC]
    | succ n ih =>
      intro pre h
      have hne : pre ≠ [] := by intro e; subst e; simp at h
      rw [← List.dropLast_concat_getLast hne, plcL_snoc, plcC_snoc]
      have := ih pre.dropLast (by simp [h])
      split <;> omega
  have := key pre.length pre rfl
  exact this
/-- Between two rounds of Place: A: the first of its own blocks; q: the place. -/
def PlI (w : World) (q : Int) (pre : List (Nat × Int)) (W : World) : Prop :=
  ((∀ x ∈ pre, (x.1 : Int) ≤ q) ∧ Boxed W w.heap.size 3 (.int .i64 q) ∧ Boxed W (w.heap.size + 1) 3 (.int .i64 (plcL pre)) ∧ Boxed W (w.heap.size + 1 + 1) 3 (.int .i64 (plcC pre))) ∧ Below w.heap.size w W
/-- A round of Place has left. -/
def PlX (w : World) (q : Int) (c : Code) (pre : List (Nat × Int)) (W : World) : Prop :=
  (∃ (pq : List (Nat × Int)) (x : Nat × Int), c = .exit 0 ∧ pre = pq ++ [x] ∧ q < (x.1 : Int) ∧ (∀ y ∈ pq, (y.1 : Int) ≤ q) ∧ Boxed W (w.heap.size + 1) 3 (.int .i64 (plcL pq)) ∧ Boxed W (w.heap.size + 1 + 1) 3 (.int .i64 (plcC pq))) ∧ Below w.heap.size w W
theorem plI_own (w : World) (q : Int) (B : Nat) (hB : w.heap.size ≤ B) : OwnFrom B (PlI w q) :=
  OwnFrom.and (Own.from (fun s A B row hs hg hr => ⟨hs.1, boxed_own (β := Unit) _ _ (fun _ => _) () A B row hs.2.1 hg hr, boxed_own (β := Unit) _ _ (fun _ => _) () A B row hs.2.2.1 hg hr, boxed_own (β := Unit) _ _ (fun _ => _) () A B row hs.2.2.2 hg hr⟩) _) (ownFrom_below (Nat.le_refl _) hB)
theorem plX_own (w : World) (q : Int) (c : Code) (B : Nat) (hB : w.heap.size ≤ B) : OwnFrom B (PlX w q c) :=
  OwnFrom.and (Own.from (fun s A B row hs hg hr => by
      obtain ⟨pq, x, h1, h2, h3, h4, h5, h6⟩ := hs
      exact ⟨pq, x, h1, h2, h3, h4, boxed_own (β := Unit) _ _ (fun _ => _) () A B row h5 hg hr, boxed_own (β := Unit) _ _ (fun _ => _) () A B row h6 hg hr⟩) _) (ownFrom_below (Nat.le_refl _) hB)
/-- What Place answers: the line and the column behind the runes that end at a place or ahead of it. -/
def PlaceIs (g : Nat → Int) (len q : Nat) (ln cl : Int) : Prop :=
  ∃ k, Before g len k ∧ posn g len k ≤ q ∧ (posn g len k = len ∨ q < posn g len (k + 1)) ∧ ln = plcL (upto (endAt g len) k) ∧ cl = plcC (upto (endAt g len) k)
theorem upto_last {g : Nat → Int} {len k q : Nat} (h : ∀ x ∈ upto (endAt g len) k, (x.1 : Int) ≤ q) : posn g len k ≤ q := by
  cases k with
  | zero => exact Nat.zero_le _
  | succ k => have := h (endAt g len k) (by rw [upto_succ]; simp); simp only [endAt] at this; omega
theorem placeIs_done {g : Nat → Int} {len m q : Nat} (hm : Runes g len m) (h : ∀ x ∈ upto (endAt g len) m, (x.1 : Int) ≤ q) : PlaceIs g len q (plcL (upto (endAt g len) m)) (plcC (upto (endAt g len) m)) :=
  ⟨m, hm.2, upto_last h, .inl hm.1, rfl, rfl⟩
theorem placeIs_stop {g : Nat → Int} {len k q : Nat} {pre pq : List (Nat × Int)} {x : Nat × Int} (hk : Before g len k) (hpre : pre = upto (endAt g len) k) (hpq : pre = pq ++ [x]) (hx : (q : Int) < x.1) (h : ∀ y ∈ pq, (y.1 : Int) ≤ q) :
    PlaceIs g len q (plcL pq) (plcC pq) := by
  cases k with
  | zero => rw [hpre] at hpq; simp [upto] at hpq
  | succ k =>
    rw [hpre, upto_succ] at hpq
    obtain ⟨e1, e2⟩ := List.append_inj' hpq rfl
    simp at e2
    subst e1; subst e2
    exact ⟨k, fun j hj => hk j (by omega), upto_last h, .inr (by simp only [endAt] at hx; omega), rfl, rfl⟩
/-- Behind the last region of Place, and behind the loop's own book-keeping. -/
theorem pl_fin {W : World} {A D : Nat} {u v : Value} (b1 : Boxed W (A + 1) 3 u) (b2 : Boxed W (A + 1 + 1) 3 v) (hK : W.heap[D]? = some (.deferred (some []))) :
    (((W.setCell ⟨A + 1, 0, none⟩ u).setCell ⟨A + 1 + 1, 0, none⟩ v).drew).heap[D]? = some (.deferred (some [])) ∧
    Boxed ((((W.setCell ⟨A + 1, 0, none⟩ u).setCell ⟨A + 1 + 1, 0, none⟩ v).drew).putObj D (.deferred none)) (A + 1) 3 u ∧ Boxed ((((W.setCell ⟨A + 1, 0, none⟩ u).setCell ⟨A + 1 + 1, 0, none⟩ v).drew).putObj D (.deferred none)) (A + 1 + 1) 3 v := by
  have k1 : (((W.setCell ⟨A + 1, 0, none⟩ u).setCell ⟨A + 1 + 1, 0, none⟩ v).drew).heap[D]? = some (.deferred (some [])) := ((KeepsOthers.setCell W ⟨A + 1, 0, none⟩ u).trans (KeepsOthers.setCell _ ⟨A + 1 + 1, 0, none⟩ v)).same D _ hK rfl
  have c1 : Boxed (((W.setCell ⟨A + 1, 0, none⟩ u).setCell ⟨A + 1 + 1, 0, none⟩ v).drew) (A + 1) 3 u := (b1.set u).other (by omega) v
  have c2 : Boxed (((W.setCell ⟨A + 1, 0, none⟩ u).setCell ⟨A + 1 + 1, 0, none⟩ v).drew) (A + 1 + 1) 3 v := (b2.other (by omega) u).set v
  have n1 : some (A + 1) ≠ some D := fun e => by cases e; rw [show _ = _ from c1] at k1; cases k1
  have n2 : some (A + 1 + 1) ≠ some D := fun e => by cases e; rw [show _ = _ from c2] at k1; cases k1
  exact ⟨k1, c1.kept (grownBy_putObj' _ D _) n1, c2.kept (grownBy_putObj' _ D _) n2⟩

set_option maxRecDepth 100000 in
set_option maxHeartbeats 2000000 in
theorem place_mid (b : Nat) (a : Option Addr) (len cap : Nat) (g : Nat → Int) (hg : ∀ j, 0 ≤ g j ∧ g j ≤ 255) (q : Nat) (hq : q ≤ len) (w : World) (hlen : len ≤ 4294967296) (hS : Sl w b (.slice a len cap) len g) (hb : b < w.heap.size) :
    CallsIn Fence.wide 6 Tryd.prog 28 #[.slice a len cap, .int .i64 (q : Int)] w fun e w' => (∃ ln cl, e = .returned (.tuple #[.int .i64 ln, .int .i64 cl]) ∧ PlaceIs g len q ln cl) ∧ Below w.heap.size w w' := by
  have HS := hide hS
  clear hS
  have hq1 : (0 : Int) ≤ q := by omega
  have hq2 : (q : Int) ≤ len := by omega
  refine callsIn_of_wp_marks Tryd.func28 rfl trivial ?_ rfl
  simp only [Tryd.ntmps28, List.size_toArray, List.length_cons, List.length_nil, Nat.reduceAdd, Nat.reduceSub, Array.replicate_succ, Array.replicate_zero, List.push_toArray, List.append_toArray, List.nil_append, List.cons_append]
  gi_wp2
  refine wpIn_scope_wide ?_
  gi_wp2
  refine wpIn_label ?_
  gi_wp2_with (refine ⟨trivial, ?_⟩; gi_at_call 39; refine (ends_in _ _ _ _ _).mono ?_; rintro e w' ⟨rfl, rfl⟩)
  have c0 := Boxed.new w 3 (.int .i64 ((q : Int)))
  have c1 := Boxed.new (w.alloc (.cells #[.int .i64 ((q : Int))] 3)) 3 (.int .i64 1)
  have c2 := Boxed.new ((w.alloc (.cells #[.int .i64 ((q : Int))] 3)).alloc (.cells #[.int .i64 1] 3)) 3 (.int .i64 1)
  have c3 := Boxed.new (((w.alloc (.cells #[.int .i64 ((q : Int))] 3)).alloc (.cells #[.int .i64 1] 3)).alloc (.cells #[.int .i64 1] 3)) 22 (.slice a len cap)
  simp only [World.size_alloc] at c1 c2 c3
  have hBW : Below w.heap.size w ((((w.alloc (.cells #[.int .i64 ((q : Int))] 3)).alloc (.cells #[.int .i64 1] 3)).alloc (.cells #[.int .i64 1] 3)).alloc (.cells #[.slice a len cap] 22)) :=
    ((((Below.refl _ w).alloc (Nat.le_refl _) _).alloc (by simp) _).alloc (by simp; omega) _).alloc (by simp; omega) _
  have hS4 : Sl ((((w.alloc (.cells #[.int .i64 ((q : Int))] 3)).alloc (.cells #[.int .i64 1] 3)).alloc (.cells #[.int .i64 1] 3)).alloc (.cells #[.slice a len cap] 22)) b (.slice a len cap) len g := (unhide HS).keep (fun k e => by subst e; exact hBW.block k hb)
  refine wpIn_rangeFunc_ownF rfl (by omega) (gf := 50) (lb := #[.pointer (some ⟨w.heap.size + 1 + 1 + 1, 0, none⟩)]) rfl trivial (enters_of Tryd.func50 (by kernel_rfl) rfl)
    (ends_stops (6 - 1) (by omega) (w.heap.size + 1 + 1 + 1) b (.slice a len cap) len g hg _ (by simp) (by simp; omega) c3.cell hS4) (fun h k => h.trans k) (keepS_b (fun k hk => by rcases hk with rfl | rfl <;> simp <;> omega)) (Below.refl _ _) (fun _ => rfl)
    (PlI w ((q : Int))) (PlX w ((q : Int))) (plI_own w _ _ (by simp; omega)) (fun c => plX_own w _ c _ (by simp; omega))
    ⟨⟨fun x hx => by simp at hx, ((c0.alloc _).alloc _).alloc _, (c1.alloc _).alloc _, c2.alloc _⟩, hBW⟩
    (fun x => { tmps := #[.slice a len cap, .int .i64 (q : Int), undef, .pointer (some ⟨w.heap.size, 0, none⟩), .pointer (some ⟨w.heap.size + 1, 0, none⟩), .pointer (some ⟨w.heap.size + 1 + 1, 0, none⟩), .int .i64 x.1, .int .i32 x.2, .int .i64 (q : Int), .int .i64 ((q : Int)), .slice a len cap, .int .i64 len, .int .i64 ((q : Int)), .slice a len cap, .func (.func 50) #[] #[.pointer (some ⟨w.heap.size + 1 + 1 + 1, 0, none⟩)], .int .i64 x.1, .int .i32 x.2, undef, undef, undef, undef, undef, undef, undef, undef, undef, undef, undef, undef, undef], defers := [] }) ?assign ?body ?done ?stop
  case assign =>
    intro l x W K hK
    gi_wp2
    exact hK
  case body =>
    rintro l pre ⟨xe, xr⟩ W ⟨⟨hp, b0, b1, b2⟩, hB⟩ hlt
    obtain ⟨p1, p2, p3, p4⟩ := plc_bd pre
    have d0 := b0.cell
    have d1 := b1.cell
    have d2 := b2.cell
    have f1 := b1.frozen
    have f2 := b2.frozen
    by_cases hx : (q : Int) < (xe : Int)
    · gi_wp2
      exact ⟨KeepsOthers.refl _, ⟨pre, (xe, xr), rfl, rfl, hx, hp, b1, b2⟩, hB⟩
    · have hle : ∀ x ∈ pre ++ [(xe, xr)], (x.1 : Int) ≤ (q : Int) := fun x hm => by
        rcases List.mem_append.1 hm with h | h
        · exact hp x h
        · simp at h; subst h; show (xe : Int) ≤ _; omega
      have HLE := hide hle
      have HP := hide hp
      clear hp hle
      by_cases hr : xr = 10
      · have hr' : (xr == 10) = true := by simp [hr]
        have HR := hide hr
        clear hr
        gi_wp2
        refine ⟨(KeepsOthers.setCell _ _ _).trans (KeepsOthers.setCell _ _ _), (KeepS.setCell _ _ _ (by omega)).trans (KeepS.setCell _ _ _ (by omega)), ⟨unhide HLE, (b0.other (by omega) _).other (by omega) _, ?_, ?_⟩, (hB.setCell (p := ⟨w.heap.size + 1, 0, none⟩) (by simp) _).setCell (p := ⟨w.heap.size + 1 + 1, 0, none⟩) (by simp; omega) _⟩
        · rw [plcL_snoc, if_pos (unhide HR)]; exact (b1.set _).other (by omega) _
        · rw [plcC_snoc, if_pos (unhide HR)]; exact (b2.other (by omega) _).set _
      · have hr' : (xr == 10) = false := by simp [hr]
        have HR := hide hr
        clear hr
        gi_wp2
        refine ⟨KeepsOthers.setCell _ _ _, KeepS.setCell _ _ _ (by omega), ⟨unhide HLE, b0.other (by omega) _, ?_, ?_⟩, hB.setCell (p := ⟨w.heap.size + 1 + 1, 0, none⟩) (by simp; omega) _⟩
        · rw [plcL_snoc, if_neg (unhide HR)]; exact b1.other (by omega) _
        · rw [plcC_snoc, if_neg (unhide HR)]; exact b2.set _
  case done =>
    rintro D xs W hD ⟨m, hm, rfl⟩ ⟨⟨hp, b0, b1, b2⟩, hB⟩ hK
    have d1 := b1.cell
    have d2 := b2.cell
    have f1 := b1.frozen
    have f2 := b2.frozen
    gi_wp2
    gi_region
    gi_wp2
    obtain ⟨hK', e1, e2⟩ := pl_fin b1 b2 hK
    have hbd : Below w.heap.size w _ := (((hB.setCell (p := ⟨w.heap.size + 1, 0, none⟩) (by simp) (.int .i64 (plcL (upto (endAt g len) m)))).setCell (p := ⟨w.heap.size + 1 + 1, 0, none⟩) (by simp; omega) (.int .i64 (plcC (upto (endAt g len) m)))).drew).trans (belowK_b (w := w) (Nat.le_refl _) _ D _ (.deferred none) (by simp at hD; omega) hK' rfl rfl)
    have e1c := e1.cell
    have e2c := e2.cell
    refine ⟨by simp, .inl ⟨_, _, rfl, run_takeDeferred hK', ?_⟩⟩
    refine ⟨.tuple #[.int .i64 (plcL (upto (endAt g len) m)), .int .i64 (plcC (upto (endAt g len) m))], ?_, ⟨_, _, rfl, placeIs_done (q := q) hm (fun x h => by have := hp x h; omega)⟩, hbd⟩
    simp [results, Tryd.f28, go_sem, e1c, e2c]
  case stop =>
    rintro D c pre W hD ⟨k, hk, hpre⟩ ⟨⟨pq, x, rfl, hpq, hx, hp, b1, b2⟩, hB⟩ hK
    have HPQ := hide hpq
    have HPR := hide hpre
    have HP := hide hp
    clear hpq hpre hp
    have d1 := b1.cell
    have d2 := b2.cell
    have f1 := b1.frozen
    have f2 := b2.frozen
    gi_wp2
    gi_region
    gi_wp2
    obtain ⟨hK', e1, e2⟩ := pl_fin b1 b2 hK
    have hbd : Below w.heap.size w _ := (((hB.setCell (p := ⟨w.heap.size + 1, 0, none⟩) (by simp) (.int .i64 (plcL pq))).setCell (p := ⟨w.heap.size + 1 + 1, 0, none⟩) (by simp; omega) (.int .i64 (plcC pq))).drew).trans (belowK_b (w := w) (Nat.le_refl _) _ D _ (.deferred none) (by simp at hD; omega) hK' rfl rfl)
    have e1c := e1.cell
    have e2c := e2.cell
    refine ⟨by simp, .inl ⟨_, _, rfl, run_takeDeferred hK', ?_⟩⟩
    refine ⟨.tuple #[.int .i64 (plcL pq), .int .i64 (plcC pq)], ?_, ⟨_, _, rfl, placeIs_stop (q := q) hk (unhide HPR) (unhide HPQ) (by have := hx; omega) (fun x h => by have := unhide HP x h; omega)⟩, hbd⟩
    simp [results, Tryd.f28, go_sem, e1c, e2c]

set_option maxRecDepth 100000 in
set_option maxHeartbeats 2000000 in
theorem place_lo (b : Nat) (a : Option Addr) (len cap : Nat) (g : Nat → Int) (hg : ∀ j, 0 ≤ g j ∧ g j ≤ 255) (p : Int) (hp0 : p < 0) (w : World) (hlen : len ≤ 4294967296) (hS : Sl w b (.slice a len cap) len g) (hb : b < w.heap.size) :
    CallsIn Fence.wide 6 Tryd.prog 28 #[.slice a len cap, .int .i64 p] w fun e w' => (∃ ln cl, e = .returned (.tuple #[.int .i64 ln, .int .i64 cl]) ∧ PlaceIs g len 0 ln cl) ∧ Below w.heap.size w w' := by
  have HS := hide hS
  clear hS
  have hp1 : (0 : Int) ≤ len := by omega
  refine callsIn_of_wp_marks Tryd.func28 rfl trivial ?_ rfl
  simp only [Tryd.ntmps28, List.size_toArray, List.length_cons, List.length_nil, Nat.reduceAdd, Nat.reduceSub, Array.replicate_succ, Array.replicate_zero, List.push_toArray, List.append_toArray, List.nil_append, List.cons_append]
  gi_wp2
  refine wpIn_scope_wide ?_
  gi_wp2
  refine wpIn_label ?_
  gi_wp2_with (refine ⟨trivial, ?_⟩; gi_at_call 39; refine (ends_in _ _ _ _ _).mono ?_; rintro e w' ⟨rfl, rfl⟩)
  have c0 := Boxed.new w 3 (.int .i64 (0))
  have c1 := Boxed.new (w.alloc (.cells #[.int .i64 (0)] 3)) 3 (.int .i64 1)
  have c2 := Boxed.new ((w.alloc (.cells #[.int .i64 (0)] 3)).alloc (.cells #[.int .i64 1] 3)) 3 (.int .i64 1)
  have c3 := Boxed.new (((w.alloc (.cells #[.int .i64 (0)] 3)).alloc (.cells #[.int .i64 1] 3)).alloc (.cells #[.int .i64 1] 3)) 22 (.slice a len cap)
  simp only [World.size_alloc] at c1 c2 c3
  have hBW : Below w.heap.size w ((((w.alloc (.cells #[.int .i64 (0)] 3)).alloc (.cells #[.int .i64 1] 3)).alloc (.cells #[.int .i64 1] 3)).alloc (.cells #[.slice a len cap] 22)) :=
    ((((Below.refl _ w).alloc (Nat.le_refl _) _).alloc (by simp) _).alloc (by simp; omega) _).alloc (by simp; omega) _
  have hS4 : Sl ((((w.alloc (.cells #[.int .i64 (0)] 3)).alloc (.cells #[.int .i64 1] 3)).alloc (.cells #[.int .i64 1] 3)).alloc (.cells #[.slice a len cap] 22)) b (.slice a len cap) len g := (unhide HS).keep (fun k e => by subst e; exact hBW.block k hb)
  refine wpIn_rangeFunc_ownF rfl (by omega) (gf := 50) (lb := #[.pointer (some ⟨w.heap.size + 1 + 1 + 1, 0, none⟩)]) rfl trivial (enters_of Tryd.func50 (by kernel_rfl) rfl)
    (ends_stops (6 - 1) (by omega) (w.heap.size + 1 + 1 + 1) b (.slice a len cap) len g hg _ (by simp) (by simp; omega) c3.cell hS4) (fun h k => h.trans k) (keepS_b (fun k hk => by rcases hk with rfl | rfl <;> simp <;> omega)) (Below.refl _ _) (fun _ => rfl)
    (PlI w (0)) (PlX w (0)) (plI_own w _ _ (by simp; omega)) (fun c => plX_own w _ c _ (by simp; omega))
    ⟨⟨fun x hx => by simp at hx, ((c0.alloc _).alloc _).alloc _, (c1.alloc _).alloc _, c2.alloc _⟩, hBW⟩
    (fun x => { tmps := #[.slice a len cap, .int .i64 p, undef, .pointer (some ⟨w.heap.size, 0, none⟩), .pointer (some ⟨w.heap.size + 1, 0, none⟩), .pointer (some ⟨w.heap.size + 1 + 1, 0, none⟩), .int .i64 x.1, .int .i32 x.2, .int .i64 p, .int .i64 (0), .slice a len cap, .int .i64 len, .int .i64 (0), .slice a len cap, .func (.func 50) #[] #[.pointer (some ⟨w.heap.size + 1 + 1 + 1, 0, none⟩)], .int .i64 x.1, .int .i32 x.2, undef, undef, undef, undef, undef, undef, undef, undef, undef, undef, undef, undef, undef], defers := [] }) ?assign ?body ?done ?stop
  case assign =>
    intro l x W K hK
    gi_wp2
    exact hK
  case body =>
    rintro l pre ⟨xe, xr⟩ W ⟨⟨hp, b0, b1, b2⟩, hB⟩ hlt
    obtain ⟨p1, p2, p3, p4⟩ := plc_bd pre
    have d0 := b0.cell
    have d1 := b1.cell
    have d2 := b2.cell
    have f1 := b1.frozen
    have f2 := b2.frozen
    by_cases hx : 0 < (xe : Int)
    · gi_wp2
      exact ⟨KeepsOthers.refl _, ⟨pre, (xe, xr), rfl, rfl, hx, hp, b1, b2⟩, hB⟩
    · have hle : ∀ x ∈ pre ++ [(xe, xr)], (x.1 : Int) ≤ 0 := fun x hm => by
        rcases List.mem_append.1 hm with h | h
        · exact hp x h
        · simp at h; subst h; show (xe : Int) ≤ _; omega
      have HLE := hide hle
      have HP := hide hp
      clear hp hle
      by_cases hr : xr = 10
      · have hr' : (xr == 10) = true := by simp [hr]
        have HR := hide hr
        clear hr
        gi_wp2
        refine ⟨(KeepsOthers.setCell _ _ _).trans (KeepsOthers.setCell _ _ _), (KeepS.setCell _ _ _ (by omega)).trans (KeepS.setCell _ _ _ (by omega)), ⟨unhide HLE, (b0.other (by omega) _).other (by omega) _, ?_, ?_⟩, (hB.setCell (p := ⟨w.heap.size + 1, 0, none⟩) (by simp) _).setCell (p := ⟨w.heap.size + 1 + 1, 0, none⟩) (by simp; omega) _⟩
        · rw [plcL_snoc, if_pos (unhide HR)]; exact (b1.set _).other (by omega) _
        · rw [plcC_snoc, if_pos (unhide HR)]; exact (b2.other (by omega) _).set _
      · have hr' : (xr == 10) = false := by simp [hr]
        have HR := hide hr
        clear hr
        gi_wp2
        refine ⟨KeepsOthers.setCell _ _ _, KeepS.setCell _ _ _ (by omega), ⟨unhide HLE, b0.other (by omega) _, ?_, ?_⟩, hB.setCell (p := ⟨w.heap.size + 1 + 1, 0, none⟩) (by simp; omega) _⟩
        · rw [plcL_snoc, if_neg (unhide HR)]; exact b1.other (by omega) _
        · rw [plcC_snoc, if_neg (unhide HR)]; exact b2.set _
  case done =>
    rintro D xs W hD ⟨m, hm, rfl⟩ ⟨⟨hp, b0, b1, b2⟩, hB⟩ hK
    have d1 := b1.cell
    have d2 := b2.cell
    have f1 := b1.frozen
    have f2 := b2.frozen
    gi_wp2
    gi_region
    gi_wp2
    obtain ⟨hK', e1, e2⟩ := pl_fin b1 b2 hK
    have hbd : Below w.heap.size w _ := (((hB.setCell (p := ⟨w.heap.size + 1, 0, none⟩) (by simp) (.int .i64 (plcL (upto (endAt g len) m)))).setCell (p := ⟨w.heap.size + 1 + 1, 0, none⟩) (by simp; omega) (.int .i64 (plcC (upto (endAt g len) m)))).drew).trans (belowK_b (w := w) (Nat.le_refl _) _ D _ (.deferred none) (by simp at hD; omega) hK' rfl rfl)
    have e1c := e1.cell
    have e2c := e2.cell
    refine ⟨by simp, .inl ⟨_, _, rfl, run_takeDeferred hK', ?_⟩⟩
    refine ⟨.tuple #[.int .i64 (plcL (upto (endAt g len) m)), .int .i64 (plcC (upto (endAt g len) m))], ?_, ⟨_, _, rfl, placeIs_done (q := 0) hm (fun x h => by have := hp x h; omega)⟩, hbd⟩
    simp [results, Tryd.f28, go_sem, e1c, e2c]
  case stop =>
    rintro D c pre W hD ⟨k, hk, hpre⟩ ⟨⟨pq, x, rfl, hpq, hx, hp, b1, b2⟩, hB⟩ hK
    have HPQ := hide hpq
    have HPR := hide hpre
    have HP := hide hp
    clear hpq hpre hp
    have d1 := b1.cell
    have d2 := b2.cell
    have f1 := b1.frozen
    have f2 := b2.frozen
    gi_wp2
    gi_region
    gi_wp2
    obtain ⟨hK', e1, e2⟩ := pl_fin b1 b2 hK
    have hbd : Below w.heap.size w _ := (((hB.setCell (p := ⟨w.heap.size + 1, 0, none⟩) (by simp) (.int .i64 (plcL pq))).setCell (p := ⟨w.heap.size + 1 + 1, 0, none⟩) (by simp; omega) (.int .i64 (plcC pq))).drew).trans (belowK_b (w := w) (Nat.le_refl _) _ D _ (.deferred none) (by simp at hD; omega) hK' rfl rfl)
    have e1c := e1.cell
    have e2c := e2.cell
    refine ⟨by simp, .inl ⟨_, _, rfl, run_takeDeferred hK', ?_⟩⟩
    refine ⟨.tuple #[.int .i64 (plcL pq), .int .i64 (plcC pq)], ?_, ⟨_, _, rfl, placeIs_stop (q := 0) hk (unhide HPR) (unhide HPQ) (by have := hx; omega) (fun x h => by have := unhide HP x h; omega)⟩, hbd⟩
    simp [results, Tryd.f28, go_sem, e1c, e2c]

set_option maxRecDepth 100000 in
set_option maxHeartbeats 2000000 in
theorem place_hi (b : Nat) (a : Option Addr) (len cap : Nat) (g : Nat → Int) (hg : ∀ j, 0 ≤ g j ∧ g j ≤ 255) (p : Int) (hp0 : (len : Int) < p) (w : World) (hlen : len ≤ 4294967296) (hS : Sl w b (.slice a len cap) len g) (hb : b < w.heap.size) :
    CallsIn Fence.wide 6 Tryd.prog 28 #[.slice a len cap, .int .i64 p] w fun e w' => (∃ ln cl, e = .returned (.tuple #[.int .i64 ln, .int .i64 cl]) ∧ PlaceIs g len len ln cl) ∧ Below w.heap.size w w' := by
  have HS := hide hS
  clear hS
  have hp1 : (0 : Int) ≤ p := by omega
  refine callsIn_of_wp_marks Tryd.func28 rfl trivial ?_ rfl
  simp only [Tryd.ntmps28, List.size_toArray, List.length_cons, List.length_nil, Nat.reduceAdd, Nat.reduceSub, Array.replicate_succ, Array.replicate_zero, List.push_toArray, List.append_toArray, List.nil_append, List.cons_append]
  gi_wp2
  refine wpIn_scope_wide ?_
  gi_wp2
  refine wpIn_label ?_
  gi_wp2_with (refine ⟨trivial, ?_⟩; gi_at_call 39; refine (ends_in _ _ _ _ _).mono ?_; rintro e w' ⟨rfl, rfl⟩)
  have c0 := Boxed.new w 3 (.int .i64 ((len : Int)))
  have c1 := Boxed.new (w.alloc (.cells #[.int .i64 ((len : Int))] 3)) 3 (.int .i64 1)
  have c2 := Boxed.new ((w.alloc (.cells #[.int .i64 ((len : Int))] 3)).alloc (.cells #[.int .i64 1] 3)) 3 (.int .i64 1)
  have c3 := Boxed.new (((w.alloc (.cells #[.int .i64 ((len : Int))] 3)).alloc (.cells #[.int .i64 1] 3)).alloc (.cells #[.int .i64 1] 3)) 22 (.slice a len cap)
  simp only [World.size_alloc] at c1 c2 c3
  have hBW : Below w.heap.size w ((((w.alloc (.cells #[.int .i64 ((len : Int))] 3)).alloc (.cells #[.int .i64 1] 3)).alloc (.cells #[.int .i64 1] 3)).alloc (.cells #[.slice a len cap] 22)) :=
    ((((Below.refl _ w).alloc (Nat.le_refl _) _).alloc (by simp) _).alloc (by simp; omega) _).alloc (by simp; omega) _
  have hS4 : Sl ((((w.alloc (.cells #[.int .i64 ((len : Int))] 3)).alloc (.cells #[.int .i64 1] 3)).alloc (.cells #[.int .i64 1] 3)).alloc (.cells #[.slice a len cap] 22)) b (.slice a len cap) len g := (unhide HS).keep (fun k e => by subst e; exact hBW.block k hb)
  refine wpIn_rangeFunc_ownF rfl (by omega) (gf := 50) (lb := #[.pointer (some ⟨w.heap.size + 1 + 1 + 1, 0, none⟩)]) rfl trivial (enters_of Tryd.func50 (by kernel_rfl) rfl)
    (ends_stops (6 - 1) (by omega) (w.heap.size + 1 + 1 + 1) b (.slice a len cap) len g hg _ (by simp) (by simp; omega) c3.cell hS4) (fun h k => h.trans k) (keepS_b (fun k hk => by rcases hk with rfl | rfl <;> simp <;> omega)) (Below.refl _ _) (fun _ => rfl)
    (PlI w ((len : Int))) (PlX w ((len : Int))) (plI_own w _ _ (by simp; omega)) (fun c => plX_own w _ c _ (by simp; omega))
    ⟨⟨fun x hx => by simp at hx, ((c0.alloc _).alloc _).alloc _, (c1.alloc _).alloc _, c2.alloc _⟩, hBW⟩
    (fun x => { tmps := #[.slice a len cap, .int .i64 p, undef, .pointer (some ⟨w.heap.size, 0, none⟩), .pointer (some ⟨w.heap.size + 1, 0, none⟩), .pointer (some ⟨w.heap.size + 1 + 1, 0, none⟩), .int .i64 x.1, .int .i32 x.2, .int .i64 p, .int .i64 (p), .slice a len cap, .int .i64 len, .int .i64 ((len : Int)), .slice a len cap, .func (.func 50) #[] #[.pointer (some ⟨w.heap.size + 1 + 1 + 1, 0, none⟩)], .int .i64 x.1, .int .i32 x.2, undef, undef, undef, undef, undef, undef, undef, undef, undef, undef, undef, undef, undef], defers := [] }) ?assign ?body ?done ?stop
  case assign =>
    intro l x W K hK
    gi_wp2
    exact hK
  case body =>
    rintro l pre ⟨xe, xr⟩ W ⟨⟨hp, b0, b1, b2⟩, hB⟩ hlt
    obtain ⟨p1, p2, p3, p4⟩ := plc_bd pre
    have d0 := b0.cell
    have d1 := b1.cell
    have d2 := b2.cell
    have f1 := b1.frozen
    have f2 := b2.frozen
    by_cases hx : (len : Int) < (xe : Int)
    · gi_wp2
      exact ⟨KeepsOthers.refl _, ⟨pre, (xe, xr), rfl, rfl, hx, hp, b1, b2⟩, hB⟩
    · have hle : ∀ x ∈ pre ++ [(xe, xr)], (x.1 : Int) ≤ (len : Int) := fun x hm => by
        rcases List.mem_append.1 hm with h | h
        · exact hp x h
        · simp at h; subst h; show (xe : Int) ≤ _; omega
      have HLE := hide hle
      have HP := hide hp
      clear hp hle
      by_cases hr : xr = 10
      · have hr' : (xr == 10) = true := by simp [hr]
        have HR := hide hr
        clear hr
        gi_wp2
        refine ⟨(KeepsOthers.setCell _ _ _).trans (KeepsOthers.setCell _ _ _), (KeepS.setCell _ _ _ (by omega)).trans (KeepS.setCell _ _ _ (by omega)), ⟨unhide HLE, (b0.other (by omega) _).other (by omega) _, ?_, ?_⟩, (hB.setCell (p := ⟨w.heap.size + 1, 0, none⟩) (by simp) _).setCell (p := ⟨w.heap.size + 1 + 1, 0, none⟩) (by simp; omega) _⟩
        · rw [plcL_snoc, if_pos (unhide HR)]; exact (b1.set _).other (by omega) _
        · rw [plcC_snoc, if_pos (unhide HR)]; exact (b2.other (by omega) _).set _
      · have hr' : (xr == 10) = false := by simp [hr]
        have HR := hide hr
        clear hr
        gi_wp2
        refine ⟨KeepsOthers.setCell _ _ _, KeepS.setCell _ _ _ (by omega), ⟨unhide HLE, b0.other (by omega) _, ?_, ?_⟩, hB.setCell (p := ⟨w.heap.size + 1 + 1, 0, none⟩) (by simp; omega) _⟩
        · rw [plcL_snoc, if_neg (unhide HR)]; exact b1.other (by omega) _
        · rw [plcC_snoc, if_neg (unhide HR)]; exact b2.set _
  case done =>
    rintro D xs W hD ⟨m, hm, rfl⟩ ⟨⟨hp, b0, b1, b2⟩, hB⟩ hK
    have d1 := b1.cell
    have d2 := b2.cell
    have f1 := b1.frozen
    have f2 := b2.frozen
    gi_wp2
    gi_region
    gi_wp2
    obtain ⟨hK', e1, e2⟩ := pl_fin b1 b2 hK
    have hbd : Below w.heap.size w _ := (((hB.setCell (p := ⟨w.heap.size + 1, 0, none⟩) (by simp) (.int .i64 (plcL (upto (endAt g len) m)))).setCell (p := ⟨w.heap.size + 1 + 1, 0, none⟩) (by simp; omega) (.int .i64 (plcC (upto (endAt g len) m)))).drew).trans (belowK_b (w := w) (Nat.le_refl _) _ D _ (.deferred none) (by simp at hD; omega) hK' rfl rfl)
    have e1c := e1.cell
    have e2c := e2.cell
    refine ⟨by simp, .inl ⟨_, _, rfl, run_takeDeferred hK', ?_⟩⟩
    refine ⟨.tuple #[.int .i64 (plcL (upto (endAt g len) m)), .int .i64 (plcC (upto (endAt g len) m))], ?_, ⟨_, _, rfl, placeIs_done (q := len) hm (fun x h => by have := hp x h; omega)⟩, hbd⟩
    simp [results, Tryd.f28, go_sem, e1c, e2c]
  case stop =>
    rintro D c pre W hD ⟨k, hk, hpre⟩ ⟨⟨pq, x, rfl, hpq, hx, hp, b1, b2⟩, hB⟩ hK
    have HPQ := hide hpq
    have HPR := hide hpre
    have HP := hide hp
    clear hpq hpre hp
    have d1 := b1.cell
    have d2 := b2.cell
    have f1 := b1.frozen
    have f2 := b2.frozen
    gi_wp2
    gi_region
    gi_wp2
    obtain ⟨hK', e1, e2⟩ := pl_fin b1 b2 hK
    have hbd : Below w.heap.size w _ := (((hB.setCell (p := ⟨w.heap.size + 1, 0, none⟩) (by simp) (.int .i64 (plcL pq))).setCell (p := ⟨w.heap.size + 1 + 1, 0, none⟩) (by simp; omega) (.int .i64 (plcC pq))).drew).trans (belowK_b (w := w) (Nat.le_refl _) _ D _ (.deferred none) (by simp at hD; omega) hK' rfl rfl)
    have e1c := e1.cell
    have e2c := e2.cell
    refine ⟨by simp, .inl ⟨_, _, rfl, run_takeDeferred hK', ?_⟩⟩
    refine ⟨.tuple #[.int .i64 (plcL pq), .int .i64 (plcC pq)], ?_, ⟨_, _, rfl, placeIs_stop (q := len) hk (unhide HPR) (unhide HPQ) (by have := hx; omega) (fun x h => by have := unhide HP x h; omega)⟩, hbd⟩
    simp [results, Tryd.f28, go_sem, e1c, e2c]

theorem place_any (b : Nat) (a : Option Addr) (len cap : Nat) (g : Nat → Int) (hg : ∀ j, 0 ≤ g j ∧ g j ≤ 255) (p : Int) (w : World) (hlen : len ≤ 4294967296) (hS : Sl w b (.slice a len cap) len g) (hb : b < w.heap.size) :
    Calls Tryd.prog 28 #[.slice a len cap, .int .i64 p] w fun e w' => (∃ ln cl, e = .returned (.tuple #[.int .i64 ln, .int .i64 cl]) ∧ PlaceIs g len (clampP len p) ln cl) ∧ Below w.heap.size w w' := by
  by_cases h1 : p < 0
  · rw [show clampP len p = 0 by simp [clampP, h1]]
    exact callsIn_wide.1 (place_lo b a len cap g hg p h1 w hlen hS hb)
  · by_cases h2 : p < len
    · rw [show clampP len p = p.toNat by simp [clampP, h1, h2]]
      have := callsIn_wide.1 (place_mid b a len cap g hg p.toNat (by omega) w hlen hS hb)
      rw [Int.toNat_of_nonneg (by omega)] at this
      exact this
    · rw [show clampP len p = len by simp [clampP, h1, h2]]
      by_cases h3 : p = len
      · have := callsIn_wide.1 (place_mid b a len cap g hg len (Nat.le_refl _) w hlen hS hb)
        rw [← h3] at this
        exact this
      · exact callsIn_wide.1 (place_hi b a len cap g hg p (by omega) w hlen hS hb)
end Go.Proofs.YtponficlejjafabDoor
