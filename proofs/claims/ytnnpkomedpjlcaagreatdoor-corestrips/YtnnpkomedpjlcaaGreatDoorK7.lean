/- core.Check in general. -/
import Derived.RangeFuncLeaves
import Derived.OwnWalkIn
import Derived.Deep.Onto
import Derived.Test.YtnnpkomedpjlcaaGreatDoorM2
import Derived.Test.YtnnpkomedpjlcaaGreatDoorK1
import Derived.Test.YtnnpkomedpjlcaaGreatDoorKX
namespace Go.Proofs.YtnnpkomedpjlcaaGreatDoor
set_option linter.unusedSimpArgs false
set_option linter.unusedVariables false
open Go.RowKit Go.Shelf
attribute [local go_sem] Oper.semAt_some

theorem wpIn_scope_wide {n : Nat} {P : Program} {Q : Exit → Act → World → Prop} {a : Act} {w : World} {c : Code} (h : c.wpIn Fence.wide n P (Exit.noGoto Q) a w) : (Code.scope c).wpIn Fence.wide n P Q a w :=
  wpIn_wide.2 (wp_scope_straight (wpIn_wide.1 h))
/-- Between two rounds of Check. -/
def CJ (w : World) (v : Value) (lp D F N : Nat) (rc : Loop) (l : List Nd) (i : Nat) (A : World) : Prop :=
  A.heap[lp]? = some (.loop rc) ∧ A.heap[D]? = some (.deferred (some [])) ∧ Boxed A F 3 (.int .i64 (-1)) ∧ Boxed A (F + 1) 27 (.int .i64 0) ∧ A.heap[w.heap.size]? = some (.cells #[v] 24) ∧ (∀ j, j < i → plainP l j = true) ∧ Below w.heap.size w A ∧ N ≤ A.heap.size
/-- A round of Check has left. -/
def CX (w : World) (lp D F N : Nat) (rc : Loop) (l : List Nd) (A : World) : Prop :=
  ∃ n : Nat, A.heap[lp]? = some (.loop { rc with state := .done, pending := some (.exit 0) }) ∧ A.heap[D]? = some (.deferred (some [])) ∧ Boxed A F 3 (.int .i64 (n : Int)) ∧ Boxed A (F + 1) 27 (.int .i64 12) ∧ ccP l = ((n : Int), 12) ∧ Below w.heap.size w A ∧ N ≤ A.heap.size
theorem CJ.below {w : World} {v : Value} {lp D F N : Nat} {rc : Loop} {l : List Nd} {i : Nat} {A C : World} (h : CJ w v lp D F N rc l i A) (hB : Below N A C) (h1 : lp < N) (h2 : D < N) (h3 : F + 1 < N) (h4 : w.heap.size < N) : CJ w v lp D F N rc l i C := by
  obtain ⟨a1, a2, a3, a4, a5, a6, a7, a8⟩ := h
  exact ⟨(hB.block _ h1).trans a1, (hB.block _ h2).trans a2, (hB.block _ (by omega)).trans a3, (hB.block _ h3).trans a4, (hB.block _ h4).trans a5, a6, a7.trans (hB.mono (by omega)), Nat.le_trans a8 hB.size⟩

set_option maxRecDepth 100000 in
set_option maxHeartbeats 4000000 in
theorem core_good (w : World) (M : Nat) (v : Value) (l : List Nd) (hN : Nodes w M v l) (hM : M ≤ w.heap.size) (h : (chkP l).2 = 0) :
    CallsIn Fence.wide 8 Tryz.prog 8 #[.agg #[v]] w fun e w' => e = .returned (.tuple #[.int .i64 (ccP l).1, .int .i64 (ccP l).2]) ∧ Below w.heap.size w w' := by
  obtain ⟨W1, hW1⟩ : ∃ W1, w.alloc (.cells #[v] 24) = W1 := ⟨_, rfl⟩
  have hB1 : Below w.heap.size w W1 := by rw [← hW1]; exact (Below.refl _ w).alloc (Nat.le_refl _) _
  have hz1 : W1.heap.size = w.heap.size + 1 := by rw [← hW1]; simp
  have hx1 : W1.heap[w.heap.size]? = some (.cells #[v] 24) := by rw [← hW1]; exact World.alloc_heap_new w _
  have HBX : Hid (∀ w', Below W1.heap.size W1 w' → Below w.heap.size w w' ∧ w'.cell? ⟨w.heap.size, 0, none⟩ = some v ∧ w.heap.size < w'.heap.size) := fun w' h =>
    ⟨hB1.trans (h.mono (by omega)), by rw [Lib.cell_of_heap ((h.block _ (by omega)).trans hx1)]; rfl, by have := h.size; omega⟩
  have HC := hide (check_ok W1 M v l (hN.keep hB1 hM) (Nat.le_trans hM hB1.size))
  have HWK : Hid (∀ w', Below W1.heap.size W1 w' → Calls Tryz.prog 18 #[.agg #[v]] w' (WalkMade w' l)) := fun w' h' => by
    have h1 := (unhide HBX w' h').1
    exact walk_good w' M v l (hN.keep h1 hM) (Nat.le_trans hM h1.size) h
  obtain ⟨c1, hc1⟩ : ∃ c1, (chkP l).1 = c1 := ⟨_, rfl⟩
  rw [h, hc1] at HC
  obtain ⟨va, vc, rfl, _, _⟩ := hN.len
  have HW1 := hide hW1
  have HN := hide hN
  have hlen := hN.1
  have HKD : Hid (∀ j, j < l.length → (nd l j).kids.length ≤ 17592186044416) := fun j hj => (hN.2.1 j hj).2
  have HX1 := hide hx1
  have HB1 := hide hB1
  clear hN hB1 hW1 hx1 hc1
  refine callsIn_of_wp_marks Tryz.func8 rfl trivial ?_ rfl
  simp only [Tryz.ntmps8, List.size_toArray, List.length_cons, List.length_nil, Nat.reduceAdd, Nat.reduceSub, Array.replicate_succ, Array.replicate_zero, List.push_toArray, List.append_toArray, List.nil_append, List.cons_append]
  gi_wp2
  refine wpIn_scope_wide ?_
  gi_wp2_with (first
    | (refine ⟨trivial, ?_⟩; gi_at_call 17; rw [unhide HW1]; refine (callsIn_wide.2 (unhide HC)).mono ?_; rintro e w2 ⟨rfl, hB2⟩; have c2 := (unhide HBX w2 hB2).2.1; have s2 := (unhide HBX w2 hB2).2.2))
  refine wpIn_label ?_
  obtain ⟨W2, hW2⟩ : ∃ W2, (w2.alloc (.cells #[.int .i64 (-1)] 3)).alloc (.cells #[.int .i64 0] 27) = W2 := ⟨_, rfl⟩
  have hB2' : Below w2.heap.size w2 W2 := by rw [← hW2]; exact ((Below.refl _ w2).alloc (Nat.le_refl _) _).alloc (by simp) _
  have hz2 : W2.heap.size = w2.heap.size + 1 + 1 := by rw [← hW2]; simp
  have bf : Boxed W2 w2.heap.size 3 (.int .i64 (-1)) := by rw [← hW2]; exact (Boxed.new w2 3 _).alloc _
  have be : Boxed W2 (w2.heap.size + 1) 27 (.int .i64 0) := by
    have := Boxed.new (w2.alloc (.cells #[.int .i64 (-1)] 3)) 27 (.int .i64 0)
    rw [World.size_alloc] at this
    rw [← hW2]; exact this
  have hz12 := hB2.size
  have hB12 : Below W1.heap.size W1 W2 := hB2.trans (hB2'.mono hz12)
  have cW2 := (unhide HBX W2 hB12).2.1
  have sW2 := (unhide HBX W2 hB12).2.2
  rw [hW2]
  have HBF := hide bf
  have HBE := hide be
  have HB12 := hide hB12
  clear hW2 bf be hB2' hB2 c2 s2 hB12
  gi_wp2_with (refine ⟨trivial, ?_⟩; gi_at_call 18; refine (callsIn_wide.2 (unhide HWK W2 (unhide HB12))).mono ?_; rintro e W4 ⟨Bx, c, rfl, hbx, hrow, hBx1, hB4⟩)
  have hz4 := hB4.size
  have hbl := hbx.lt
  refine range_enter rfl (by omega) (gf := 34) (lb := #[.pointer (some ⟨Bx, 0, none⟩)]) rfl trivial enter35 ?_
  intro fn hfn
  generalize hrc : recOf fn _ _ _ _ _ _ _ = rc
  obtain ⟨W3, hW3⟩ : ∃ W3, ranged W4 rc = W3 := ⟨_, rfl⟩
  have hz3 : W3.heap.size = W4.heap.size + 1 + 1 := by rw [← hW3]; exact ranged_size W4 rc
  have hB3 : Below W4.heap.size W4 W3 := by rw [← hW3]; exact ranged_below W4 rc
  have hl3 : W3.heap[W4.heap.size + 1]? = some (.loop rc) := by rw [← hW3]; exact ranged_l W4 rc
  have hd3 : W3.heap[W4.heap.size]? = some (.deferred (some [])) := by rw [← hW3]; exact ranged_d W4 rc
  rw [hW3]
  clear hW3
  have hB23 : Below W2.heap.size W2 W3 := hB4.trans (hB3.mono hz4)
  have hB13 : Below W1.heap.size W1 W3 := (unhide HB12).trans (hB23.mono (by omega))
  have hx3 : W3.heap[w.heap.size]? = some (.cells #[.slice va l.length vc] 24) := (hB13.block _ (by omega)).trans (unhide HX1)
  have hj0 : CJ w (.slice va l.length vc) (W4.heap.size + 1) W4.heap.size w2.heap.size W3.heap.size rc l 0 W3 :=
    ⟨hl3, hd3, (hB23.block _ (by omega)).trans (unhide HBF), (hB23.block _ (by omega)).trans (unhide HBE), hx3, fun j hj => by omega, (unhide HBX W3 hB13).1, Nat.le_refl _⟩
  have hcl : c < W4.heap.size := (hrow.lt c rfl).2
  have hcb : W2.heap.size ≤ c := (hrow.lt c rfl).1
  refine (walk2_in 7 (by omega) (W4.heap.size + 1) Bx c l (unhide HKD) hlen W3 (CJ w (.slice va l.length vc) (W4.heap.size + 1) W4.heap.size w2.heap.size W3.heap.size rc l) (fun _ => CX w (W4.heap.size + 1) W4.heap.size w2.heap.size W3.heap.size rc l) ((hB3.block Bx hbl).trans hbx) (ownsRow_heap (hrow.mono (Nat.zero_le _)) (fun g hg => hB3.block g ((hrow.lt g hg).2))) (fun i A C hj hb => hj.below hb (by omega) (by omega) (by omega) (by omega)) ?hY hj0).mono ?post
  case hY =>
    rintro i A ⟨a1, a2, a3, a4, a5, a6, a7, a8⟩ hi hA
    rw [← hrc] at a1
    refine yield_round (W₁ := A) hfn a1 rfl ?a1 a1 ?hassign ?hbody
    case hassign =>
      intro K hK
      gi_wp2
      exact hK
    case hbody =>
      have hrb : { (recOf fn _ _ _ _ _ .busy none : Loop) with state := .ready, pending := none } = rc := hrc
      generalize recOf fn _ _ _ _ _ .busy none = rb at hrb ⊢
      have hla : W4.heap.size + 1 < A.heap.size := (Array.getElem?_eq_some_iff.1 a1).1
      obtain ⟨A1, hA1⟩ : ∃ A1, A.putObj (W4.heap.size + 1) (.loop rb) = A1 := ⟨_, rfl⟩
      have hk1 : ∀ k, k ≠ W4.heap.size + 1 → A1.heap[k]? = A.heap[k]? := fun k hn => by rw [← hA1]; exact World.putObj_heap_other hn
      have hl1 : A1.heap[W4.heap.size + 1]? = some (.loop rb) := by rw [← hA1]; exact World.putObj_heap_same hla
      have hzA1 : A1.heap.size = A.heap.size := by rw [← hA1]; simp
      have hBA : Below w.heap.size w A1 := by
        rw [← hA1]
        exact a7.trans ((Below.refl _ A).grown (grownBy_putObj' A (W4.heap.size + 1) _) (by omega) (fun k e => by cases e; omega))
      rw [hA1]
      clear hA1
      have b2 : A1.heap[W4.heap.size]? = some (.deferred (some [])) := (hk1 _ (by omega)).trans a2
      have b3 : Boxed A1 w2.heap.size 3 (.int .i64 (-1)) := (hk1 _ (by omega)).trans a3
      have b4 : Boxed A1 (w2.heap.size + 1) 27 (.int .i64 0) := (hk1 _ (by omega)).trans a4
      have b5 : A1.heap[w.heap.size]? = some (.cells #[.slice va l.length vc] 24) := (hk1 _ (by omega)).trans a5
      have hk1' : ∀ k, (W3.heap.size ≤ k ∧ k < A.heap.size) → A1.heap[k]? = A.heap[k]? := fun k hk => hk1 k (by omega)
      have hx1 : A1.heap[Bx]? = A.heap[Bx]? := hk1 _ (by omega)
      have hc1 : A1.heap[c]? = A.heap[c]? := hk1 _ (by omega)
      have GO : Hid (∀ (A6 : World), A6.heap[W4.heap.size + 1]? = some (.loop rb) → A6.heap[W4.heap.size]? = some (.deferred (some [])) → Boxed A6 w2.heap.size 3 (.int .i64 (-1)) → Boxed A6 (w2.heap.size + 1) 27 (.int .i64 0) → A6.heap[w.heap.size]? = some (.cells #[.slice va l.length vc] 24) → plainP l i = true → Below w.heap.size w A6 → A.heap.size ≤ A6.heap.size → (∀ k, (W3.heap.size ≤ k ∧ k < A.heap.size) → A6.heap[k]? = A.heap[k]?) → A6.heap[Bx]? = A.heap[Bx]? → A6.heap[c]? = A.heap[c]? →
          ∃ v w', (Instr.endRound (W4.heap.size + 1) none).run Tryz.prog A6 = .ok v w' ∧ (fun e A' => (∀ k, (W3.heap.size ≤ k ∧ k < A.heap.size) ∨ k = Bx ∨ k = c → A'.heap[k]? = A.heap[k]?) ∧ A.heap.size ≤ A'.heap.size ∧ ((e = .returned (.bool true) ∧ CJ w (.slice va l.length vc) (W4.heap.size + 1) W4.heap.size w2.heap.size W3.heap.size rc l (i + 1) A') ∨ (e = .returned (.bool false) ∧ CX w (W4.heap.size + 1) W4.heap.size w2.heap.size W3.heap.size rc l A'))) (Ending.returned v) w') := by
        intro A6 e1 e2 e3 e4 e5 e6 e7 e10 e11 e12 e13
        have ho : ∀ k, k ≠ W4.heap.size + 1 → (A6.putObj (W4.heap.size + 1) (.loop { rb with state := .ready, pending := none })).heap[k]? = A6.heap[k]? := fun k hk => World.putObj_heap_other hk
        refine ⟨_, _, run_endRound none e1, ?_, by simp; omega, .inl ⟨rfl, ?_, (ho _ (by omega)).trans e2, (ho _ (by omega)).trans e3, (ho _ (by omega)).trans e4, (ho _ (by omega)).trans e5, fun j hj => ?_, ?_, by simp; omega⟩⟩
        · intro k hk
          rcases hk with hk | rfl | rfl
          · exact (ho k (by omega)).trans (e11 k hk)
          · exact (ho _ (by omega)).trans e12
          · exact (ho _ (by omega)).trans e13
        · rw [show rc = { rb with state := .ready, pending := none } from hrb.symm]; exact World.putObj_heap_same (by omega)
        · by_cases e : j = i
          · subst e; exact e6
          · exact a6 j (by omega)
        · exact e7.trans ((Below.refl _ A6).grown (grownBy_putObj' A6 (W4.heap.size + 1) _) e7.size (fun k e => by cases e; omega))
      have OFF : Hid (∀ (A6 : World), A6.heap[W4.heap.size + 1]? = some (.loop rb) → A6.heap[W4.heap.size]? = some (.deferred (some [])) → Boxed A6 w2.heap.size 3 (.int .i64 (i : Int)) → Boxed A6 (w2.heap.size + 1) 27 (.int .i64 12) → plainP l i = false → Below w.heap.size w A6 → A.heap.size ≤ A6.heap.size → (∀ k, (W3.heap.size ≤ k ∧ k < A.heap.size) → A6.heap[k]? = A.heap[k]?) → A6.heap[Bx]? = A.heap[Bx]? → A6.heap[c]? = A.heap[c]? →
          ∃ v w', (Instr.endRound (W4.heap.size + 1) (some (.exit 0))).run Tryz.prog A6 = .ok v w' ∧ (fun e A' => (∀ k, (W3.heap.size ≤ k ∧ k < A.heap.size) ∨ k = Bx ∨ k = c → A'.heap[k]? = A.heap[k]?) ∧ A.heap.size ≤ A'.heap.size ∧ ((e = .returned (.bool true) ∧ CJ w (.slice va l.length vc) (W4.heap.size + 1) W4.heap.size w2.heap.size W3.heap.size rc l (i + 1) A') ∨ (e = .returned (.bool false) ∧ CX w (W4.heap.size + 1) W4.heap.size w2.heap.size W3.heap.size rc l A'))) (Ending.returned v) w') := by
        intro A6 e1 e2 e3 e4 e6 e7 e10 e11 e12 e13
        have ho : ∀ k, k ≠ W4.heap.size + 1 → (A6.putObj (W4.heap.size + 1) (.loop { rb with state := .done, pending := some (.exit 0) })).heap[k]? = A6.heap[k]? := fun k hk => World.putObj_heap_other hk
        refine ⟨_, _, run_endRound (some (.exit 0)) e1, ?_, by simp; omega, .inr ⟨rfl, i, ?_, (ho _ (by omega)).trans e2, (ho _ (by omega)).trans e3, (ho _ (by omega)).trans e4, ccP_at h hi a6 e6, ?_, by simp; omega⟩⟩
        · intro k hk
          rcases hk with hk | rfl | rfl
          · exact (ho k (by omega)).trans (e11 k hk)
          · exact (ho _ (by omega)).trans e12
          · exact (ho _ (by omega)).trans e13
        · rw [show rc = { rb with state := .ready, pending := none } from hrb.symm]; exact World.putObj_heap_same (by omega)
        · exact e7.trans ((Below.refl _ A6).grown (grownBy_putObj' A6 (W4.heap.size + 1) _) e7.size (fun k e => by cases e; omega))
      have FIN : Hid (∀ (A5 : World), A5.heap[W4.heap.size + 1]? = some (.loop rb) → A5.heap[W4.heap.size]? = some (.deferred (some [])) → Boxed A5 w2.heap.size 3 (.int .i64 (-1)) → Boxed A5 (w2.heap.size + 1) 27 (.int .i64 0) → plainP l i = false → Below w.heap.size w A5 → A.heap.size ≤ A5.heap.size → (∀ k, (W3.heap.size ≤ k ∧ k < A.heap.size) → A5.heap[k]? = A.heap[k]?) → A5.heap[Bx]? = A.heap[Bx]? → A5.heap[c]? = A.heap[c]? →
          ∃ v w', (Instr.endRound (W4.heap.size + 1) (some (.exit 0))).run Tryz.prog ((A5.setCell ⟨w2.heap.size, 0, none⟩ (.int .i64 (i : Int))).setCell ⟨w2.heap.size + 1, 0, none⟩ (.int .i64 12)) = .ok v w' ∧ (fun e A' => (∀ k, (W3.heap.size ≤ k ∧ k < A.heap.size) ∨ k = Bx ∨ k = c → A'.heap[k]? = A.heap[k]?) ∧ A.heap.size ≤ A'.heap.size ∧ ((e = .returned (.bool true) ∧ CJ w (.slice va l.length vc) (W4.heap.size + 1) W4.heap.size w2.heap.size W3.heap.size rc l (i + 1) A') ∨ (e = .returned (.bool false) ∧ CX w (W4.heap.size + 1) W4.heap.size w2.heap.size W3.heap.size rc l A'))) (Ending.returned v) w') := by
        intro A5 e1 e2 e3 e4 e6 e7 e10 e11 e12 e13
        have hs : ∀ k, k ≠ w2.heap.size → k ≠ w2.heap.size + 1 → ((A5.setCell ⟨w2.heap.size, 0, none⟩ (.int .i64 (i : Int))).setCell ⟨w2.heap.size + 1, 0, none⟩ (.int .i64 12)).heap[k]? = A5.heap[k]? := fun k h1 h2 => (Below.heap_setCell _ _ _ _ h2).trans (Below.heap_setCell _ _ _ _ h1)
        exact unhide OFF _ ((hs _ (by omega) (by omega)).trans e1) ((hs _ (by omega) (by omega)).trans e2) ((e3.set _).other (by omega) _) ((e4.other (by omega) _).set _) e6 ((e7.setCell (p := ⟨w2.heap.size, 0, none⟩) (by show w.heap.size ≤ w2.heap.size; omega) _).setCell (p := ⟨w2.heap.size + 1, 0, none⟩) (by show w.heap.size ≤ w2.heap.size + 1; omega) _) (by simp; omega) (fun k hk => (hs k (by omega) (by omega)).trans (e11 k hk)) ((hs _ (by omega) (by omega)).trans e12) ((hs _ (by omega) (by omega)).trans e13)
      have hNA := (unhide HN).keep hBA hM
      have hf := chk_all h hi
      have HBA : Hid (Calls Tryz.prog 20 #[.slice va l.length vc, .int .i64 (i : Int)] A1 fun e w' => e = .returned (.bool (bareP l i)) ∧ Below A1.heap.size A1 w') := isBare_any A1 M _ l i hNA (Nat.le_trans hM hBA.size) hi (kid_need hf.fit) hf.ins
      obtain ⟨b, o, cap0, ka, kc, hv, _, _, hb, d0, _, _, _, _, _, _, _⟩ := hNA.at hi
      cases hv
      have HTY := hide (coreTyped_any A1 (nd l i).kind)
      have hpl : plainP l i = (!typedK (nd l i).kind && bareP l i) := rfl
      obtain ⟨kk, hkk⟩ : ∃ kk, (nd l i).kind = kk := ⟨_, rfl⟩
      rw [hkk] at d0 HTY hpl
      have cb5 : A1.cell? ⟨w.heap.size, 0, none⟩ = some (.slice (some ⟨b, o, none⟩) l.length vc) := by rw [Lib.cell_of_heap b5]; rfl
      have lt5 : w.heap.size < A1.heap.size := (Array.getElem?_eq_some_iff.1 b5).1
      have ltb : b < A1.heap.size := by have := hBA.size; omega
      have hi' : (i : Int) < l.length := by omega
      have hi0 : (0 : Int) ≤ (i : Int) := by omega
      have hPL := hide hpl
      have HBW := hide hBA
      clear hNA hpl hrb hkk hk1 hBA a1 a2 a3 a4 a5 a6 a7
      cases ht : typedK kk with
      | true =>
        rw [ht] at HTY hPL
        have c3 := b3.cell
        have f3 := b3.frozen
        have l3 := b3.lt
        have c4 := b4.cell
        have f4 := b4.frozen
        have l4 := b4.lt
        have HF := hide (unhide FIN A1 hl1 b2 b3 b4 (by rw [unhide hPL]; rfl) (unhide HBW) (by omega) hk1' hx1 hc1)
        gi_wp2_with (refine ⟨trivial, ?_⟩; gi_at_call 19; refine (CallsIn.inRound _ (callsIn_wide.2 (unhide HTY))).mono ?_; rintro e w5 ⟨rfl, hw5⟩; rw [hw5]; clear hw5)
        exact unhide HF
      | false =>
        rw [ht] at HTY hPL
        obtain ⟨bb, hbb⟩ : ∃ bb, bareP l i = bb := ⟨_, rfl⟩
        rw [hbb] at HBA hPL
        have HLP := hide hl1
        have HD2 := hide b2
        have HB3 := hide b3
        have HB4 := hide b4
        have HB5 := hide b5
        have KEEP : Hid (∀ A5, Below A1.heap.size A1 A5 → A5.heap[W4.heap.size + 1]? = some (.loop rb) ∧ A5.heap[W4.heap.size]? = some (.deferred (some [])) ∧ Boxed A5 w2.heap.size 3 (.int .i64 (-1)) ∧ Boxed A5 (w2.heap.size + 1) 27 (.int .i64 0) ∧ A5.heap[w.heap.size]? = some (.cells #[.slice (some ⟨b, o, none⟩) l.length vc] 24) ∧ Below w.heap.size w A5 ∧ A.heap.size ≤ A5.heap.size ∧ (∀ k, (W3.heap.size ≤ k ∧ k < A.heap.size) → A5.heap[k]? = A.heap[k]?) ∧ A5.heap[Bx]? = A.heap[Bx]? ∧ A5.heap[c]? = A.heap[c]?) := fun A5 hB => by
          have hs := hB.size
          exact ⟨(hB.block _ (by omega)).trans hl1, (hB.block _ (by omega)).trans b2, (hB.block _ (by omega)).trans b3, (hB.block _ (by omega)).trans b4, (hB.block _ (by omega)).trans b5, (unhide HBW).trans (hB.mono (unhide HBW).size), by omega, fun k hk => (hB.block k (by omega)).trans (hk1' k hk), (hB.block _ (by omega)).trans hx1, (hB.block _ (by omega)).trans hc1⟩
        clear hl1 b2 b3 b4 b5 hk1' hx1 hc1 hbb ht
        cases bb with
        | true =>
          gi_wp2_with (first | (refine ⟨trivial, ?_⟩; gi_at_call 19; refine (CallsIn.inRound _ (callsIn_wide.2 (unhide HTY))).mono ?_; rintro e w5 ⟨rfl, hw5⟩; rw [hw5]; clear hw5) | (refine ⟨trivial, ?_⟩; gi_at_call 20; refine (CallsIn.inRound _ (callsIn_wide.2 (unhide HBA))).mono ?_; rintro e A5 ⟨rfl, hB5⟩; have HK5 := hide (unhide KEEP A5 hB5); clear hB5))
          obtain ⟨k1, k2, k3, k4, k5, k6, k7, k8, k9, k10⟩ := unhide HK5
          exact unhide GO A5 k1 k2 k3 k4 k5 (by rw [unhide hPL]; rfl) k6 k7 k8 k9 k10
        | false =>
          gi_wp2_with (first | (refine ⟨trivial, ?_⟩; gi_at_call 19; refine (CallsIn.inRound _ (callsIn_wide.2 (unhide HTY))).mono ?_; rintro e w5 ⟨rfl, hw5⟩; rw [hw5]; clear hw5) | (refine ⟨trivial, ?_⟩; gi_at_call 20; refine (CallsIn.inRound _ (callsIn_wide.2 (unhide HBA))).mono ?_; rintro e A5 ⟨rfl, hB5⟩; have HK5 := hide (unhide KEEP A5 hB5); clear hB5; have c3 := (unhide HK5).2.2.1.cell; have f3 := (unhide HK5).2.2.1.frozen; have l3 := (unhide HK5).2.2.1.lt; have c4 := (unhide HK5).2.2.2.1.cell; have f4 := (unhide HK5).2.2.2.1.frozen; have l4 := (unhide HK5).2.2.2.1.lt))
          obtain ⟨k1, k2, k3, k4, k5, k6, k7, k8, k9, k10⟩ := unhide HK5
          exact unhide FIN A5 k1 k2 k3 k4 (by rw [unhide hPL]; rfl) k6 k7 k8 k9 k10
  case post =>
    rintro e W' ⟨⟨u, rfl⟩, (⟨a1, a2, a3, a4, a5, a6, a7, a8⟩ | ⟨_, _, n, a1, a2, a3, a4, a5, a6, a7⟩)⟩
    · have hpe : rc.pending = none := by rw [← hrc]; rfl
      have hne : rc.state ≠ .busy := by rw [← hrc]; simp [recOf]
      have hend := run_endLoop (P := Tryz.prog) a1 hne
      rw [hpe] at hend
      refine ⟨none, _, hend, ?_⟩
      obtain ⟨W7, hW7⟩ : ∃ W7, W'.putObj (W4.heap.size + 1) (.loop { rc with state := .exhausted, pending := none }) = W7 := ⟨_, rfl⟩
      have hk7 : ∀ k, k ≠ W4.heap.size + 1 → W7.heap[k]? = W'.heap[k]? := fun k hk => by rw [← hW7]; exact World.putObj_heap_other hk
      have hB7 : Below w.heap.size w W7 := by
        rw [← hW7]
        exact a7.trans ((Below.refl _ W').grown (grownBy_putObj' W' (W4.heap.size + 1) _) a7.size (fun k e => by cases e; omega))
      rw [hW7]
      clear hW7 hend
      dsimp only
      have b7 : Boxed W7 w2.heap.size 3 (.int .i64 (-1)) := (hk7 _ (by omega)).trans a3
      have e7 : Boxed W7 (w2.heap.size + 1) 27 (.int .i64 0) := (hk7 _ (by omega)).trans a4
      have hd7 : W7.heap[W4.heap.size]? = some (.deferred (some [])) := (hk7 _ (by omega)).trans a2
      have HR : Hid (ccP l = (-1, 0)) := ccP_all h a6
      have cb := b7.cell
      have ce := e7.cell
      have lb := b7.lt
      have le := e7.lt
      gi_wp2
      gi_region
      gi_wp2
      refine ⟨by simp, .inl ⟨_, _, rfl, run_takeDeferred (show W7.drew.heap[W4.heap.size]? = some (.deferred (some [])) from hd7), ?_⟩⟩
      refine ⟨.tuple #[.int .i64 (-1), .int .i64 0], ?_, by rw [unhide HR], ?_⟩
      · simp [results, Tryz.results8, go_sem]
      · exact hB7.drew.trans ((Below.refl _ W7.drew).grown (grownBy_putObj' W7.drew W4.heap.size _) hB7.size (fun k e => by cases e; omega))
    · have hend := run_endLoop (P := Tryz.prog) a1 (by simp)
      refine ⟨some (.exit 0), _, hend, ?_⟩
      obtain ⟨W7, hW7⟩ : ∃ W7, W'.putObj (W4.heap.size + 1) (.loop { rc with state := .exhausted, pending := some (.exit 0) }) = W7 := ⟨_, rfl⟩
      have hk7 : ∀ k, k ≠ W4.heap.size + 1 → W7.heap[k]? = W'.heap[k]? := fun k hk => by rw [← hW7]; exact World.putObj_heap_other hk
      have hB7 : Below w.heap.size w W7 := by
        rw [← hW7]
        exact a6.trans ((Below.refl _ W').grown (grownBy_putObj' W' (W4.heap.size + 1) _) a6.size (fun k e => by cases e; omega))
      dsimp only
      rw [hW7]
      clear hW7 hend
      have b7 : Boxed W7 w2.heap.size 3 (.int .i64 (n : Int)) := (hk7 _ (by omega)).trans a3
      have e7 : Boxed W7 (w2.heap.size + 1) 27 (.int .i64 12) := (hk7 _ (by omega)).trans a4
      have hd7 : W7.heap[W4.heap.size]? = some (.deferred (some [])) := (hk7 _ (by omega)).trans a2
      have cb := b7.cell
      have ce := e7.cell
      have lb := b7.lt
      have le := e7.lt
      gi_wp2
      gi_region
      gi_wp2
      refine ⟨by simp, .inl ⟨_, _, rfl, run_takeDeferred (show W7.drew.heap[W4.heap.size]? = some (.deferred (some [])) from hd7), ?_⟩⟩
      refine ⟨.tuple #[.int .i64 (n : Int), .int .i64 12], ?_, by rw [a5], ?_⟩
      · simp [results, Tryz.results8, go_sem]
      · exact hB7.drew.trans ((Below.refl _ W7.drew).grown (grownBy_putObj' W7.drew W4.heap.size _) hB7.size (fun k e => by cases e; omega))
set_option maxRecDepth 100000 in
set_option maxHeartbeats 4000000 in
theorem core_bad (w : World) (M : Nat) (v : Value) (l : List Nd) (hN : Nodes w M v l) (hM : M ≤ w.heap.size) (h : ¬ (chkP l).2 = 0) :
    CallsIn Fence.wide 8 Tryz.prog 8 #[.agg #[v]] w fun e w' => e = .returned (.tuple #[.int .i64 (ccP l).1, .int .i64 (ccP l).2]) ∧ Below w.heap.size w w' := by
  obtain ⟨W1, hW1⟩ : ∃ W1, w.alloc (.cells #[v] 24) = W1 := ⟨_, rfl⟩
  have hB1 : Below w.heap.size w W1 := by rw [← hW1]; exact (Below.refl _ w).alloc (Nat.le_refl _) _
  have HC := hide (check_ok W1 M v l (hN.keep hB1 hM) (Nat.le_trans hM hB1.size))
  rw [ccP_bad h]
  obtain ⟨c1, hc1⟩ : ∃ c1, (chkP l).1 = c1 := ⟨_, rfl⟩
  obtain ⟨c2, hc2⟩ : ∃ c2, (chkP l).2 = c2 := ⟨_, rfl⟩
  rw [hc1, hc2] at HC ⊢
  rw [hc2] at h
  have h' : (c2 != 0) = true := by simpa using h
  obtain ⟨va, vc, rfl, _, _⟩ := hN.len
  have HW1 := hide hW1
  have HB1 := hide hB1
  clear hN hB1 hW1 hc1 hc2 h
  refine callsIn_of_wp_marks Tryz.func8 rfl trivial ?_ rfl
  simp only [Tryz.ntmps8, List.size_toArray, List.length_cons, List.length_nil, Nat.reduceAdd, Nat.reduceSub, Array.replicate_succ, Array.replicate_zero, List.push_toArray, List.append_toArray, List.nil_append, List.cons_append]
  gi_wp2
  refine wpIn_scope_wide ?_
  gi_wp2_with (first
    | (refine ⟨trivial, ?_⟩; gi_at_call 17; rw [unhide HW1]; refine (callsIn_wide.2 (unhide HC)).mono ?_; rintro e w2 ⟨rfl, hB2⟩))
  exact ⟨.tuple #[.int .i64 c1, .int .i64 c2], by simp [results, Tryz.results8, go_sem], rfl, (unhide HB1).trans (hB2.mono (unhide HB1).size)⟩

theorem core_any (w : World) (M : Nat) (v : Value) (l : List Nd) (hN : Nodes w M v l) (hM : M ≤ w.heap.size) :
    Calls Tryz.prog 8 #[.agg #[v]] w fun e w' => e = .returned (.tuple #[.int .i64 (ccP l).1, .int .i64 (ccP l).2]) ∧ Below w.heap.size w w' := by
  by_cases h : (chkP l).2 = 0
  · exact callsIn_wide.1 (core_good w M v l hN hM h)
  · exact callsIn_wide.1 (core_bad w M v l hN hM h)
end Go.Proofs.YtnnpkomedpjlcaaGreatDoor
