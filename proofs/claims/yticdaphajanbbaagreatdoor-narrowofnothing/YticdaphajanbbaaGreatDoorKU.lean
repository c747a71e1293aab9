/- top, where none is any or unknown. -/
import Derived.Test.YticdaphajanbbaaGreatDoorKT
namespace Go.Proofs.YticdaphajanbbaaGreatDoor
set_option linter.unusedSimpArgs false
set_option linter.unusedVariables false
set_option maxRecDepth 100000
set_option maxHeartbeats 4000000
open Go.RowKit Go.Shelf
attribute [local go_sem] Oper.semAt_some

variable {P : Program} {lo M : Nat} {mo : Option Nat} {dv : Value} {L : List Kt} {W : World}
theorem wpIn_scope_wide {n : Nat} {P : Program} {Q : Exit → Act → World → Prop} {a : Act} {w : World} {c : Code} (h : c.wpIn Fence.wide n P (Exit.noGoto Q) a w) : (Code.scope c).wpIn Fence.wide n P Q a w :=
  wpIn_wide.2 (wp_scope_straight (wpIn_wide.1 h))
/-- Between two rounds. -/
def TJ (w : World) (M lp D N : Nat) (rc : Loop) (i : Nat) (A : World) : Prop :=
  A.heap[lp]? = some (.loop rc) ∧ A.heap[D]? = some (.deferred (some [])) ∧ Bx A w.heap.size #[.pointer (some ⟨M, 0, none⟩)] 28 ∧ Bx A (w.heap.size + 1) #[.int .i64 0] 3 ∧ Bx A (w.heap.size + 2) #[.bool false] 4 ∧ Below w.heap.size w A ∧ N ≤ A.heap.size
theorem TJ.grow {w : World} {M lp D N s : Nat} {rc : Loop} {i : Nat} {A C : World} (h : TJ w M lp D N rc i A) (hg : A.grownBy C (some s)) (h1 : lp < s) (h2 : D < s) (h3 : w.heap.size + 2 < s) : TJ w M lp D N rc i C := by
  obtain ⟨a1, a2, a3, a4, a5, a6, a7⟩ := h
  have k : ∀ k, k < A.heap.size → k ≠ s → C.heap[k]? = A.heap[k]? := fun k hk hn => hg.block k hk (fun e => by cases e; exact hn rfl)
  refine ⟨(k lp (Array.getElem?_eq_some_iff.1 a1).1 (by omega)).trans a1, (k D (Array.getElem?_eq_some_iff.1 a2).1 (by omega)).trans a2, (k _ a3.lt (by omega)).trans a3, (k _ a4.lt (by omega)).trans a4, (k _ a5.lt (by omega)).trans a5, a6.trans ⟨hg.os, hg.tape, hg.output, hg.size, fun j hj => k j (by have := a6.size; omega) (by omega)⟩, Nat.le_trans a7 hg.size⟩
theorem top_none (w : World) (ids : List Int) (pa : Option Addr) (pc : Nat) (hA : AAt Tryz.prog lo M mo dv L w) (hp : RowR 3 w (.slice pa ids.length pc) (iv ids)) (hf : Flat L ids) (hl : ids.length ≤ 1000000000) (hno : ∀ p ∈ ids, kindP L p ≠ 1 ∧ kindP L p ≠ 2) :
    CallsIn Fence.wide 9 Tryz.prog 45 #[.pointer (some ⟨M, 0, none⟩), .slice pa ids.length pc] w fun e w' => e = .returned (.tuple #[.int .i64 0, .bool false]) ∧ Below w.heap.size w w' := by
  obtain ⟨W1, hW1⟩ : ∃ W1, ((w.alloc (.cells #[.pointer (some ⟨M, 0, none⟩)] 28)).alloc (.cells #[.int .i64 0] 3)).alloc (.cells #[.bool false] 4) = W1 := ⟨_, rfl⟩
  have hB1 : Below w.heap.size w W1 := by rw [← hW1]; exact (((Below.refl _ w).alloc (Nat.le_refl _) _).alloc (by simp) _).alloc (by simp; omega) _
  have hz1 : W1.heap.size = w.heap.size + 1 + 1 + 1 := by rw [← hW1]; simp
  have x0 : Bx W1 w.heap.size #[.pointer (some ⟨M, 0, none⟩)] 28 := by rw [← hW1]; exact (Below.heap_alloc _ _ _ (by simp; omega)).trans ((Below.heap_alloc _ _ _ (by simp)).trans (al_at w _))
  have x1 : Bx W1 (w.heap.size + 1) #[.int .i64 0] 3 := by
    rw [← hW1]
    refine (Below.heap_alloc _ _ _ (by simp)).trans ?_
    have := al_at (w.alloc (.cells #[.pointer (some ⟨M, 0, none⟩)] 28)) (.cells #[.int .i64 0] 3)
    simpa using this
  have x2 : Bx W1 (w.heap.size + 2) #[.bool false] 4 := by
    rw [← hW1]
    have := al_at ((w.alloc (.cells #[.pointer (some ⟨M, 0, none⟩)] 28)).alloc (.cells #[.int .i64 0] 3)) (.cells #[.bool false] 4)
    simpa [Bx] using this
  have hM := hA.lt
  have HA := hide hA
  have HP := hide hp
  have HF := hide hf
  have HNO := hide hno
  have HX0 := hide x0
  have HX1 := hide x1
  have HX2 := hide x2
  have c0 := x0.cell 0 rfl
  have c1 := x1.cell 0 rfl
  have c2 := x2.cell 0 rfl
  have f1 := x1.free 0
  have f2 := x2.free 0
  have HZ1 := hide hz1
  have HW1 := hide hW1
  clear hA hp hf hno x0 x1 x2 hz1 hW1 c0 c1 c2 f1 f2
  refine callsIn_of_wp_marks Tryz.func45 rfl trivial ?_ rfl
  simp only [Tryz.ntmps45, List.size_toArray, List.length_cons, List.length_nil, Nat.reduceAdd, Nat.reduceSub, Array.replicate_succ, Array.replicate_zero, List.push_toArray, List.append_toArray, List.nil_append, List.cons_append]
  gi_wp2
  refine wpIn_scope_wide ?_
  gi_wp2
  refine wpIn_label ?_
  gi_wp2_with (first
    | (refine ⟨trivial, ?_⟩
       gi_at_call 73
       refine (callsIn_wide.2 (apart_any M pa ids.length pc _)).mono ?_
       rintro e W2 ⟨rfl, hb1, hb2, hB2⟩))
  rw [unhide HW1] at hb1 hb2 hB2
  have hz1 := unhide HZ1
  have hz2 := hB2.size
  rw [hz1] at hb1 hb2
  refine range_enter rfl (by omega) (gf := 100) (lb := #[.pointer (some ⟨w.heap.size + 1 + 1 + 1, 0, none⟩), .pointer (some ⟨w.heap.size + 1 + 1 + 1 + 1, 0, none⟩)]) rfl trivial enter141 ?_
  intro fn hfn
  generalize hrc : recOf fn _ _ _ _ _ _ _ = rc
  obtain ⟨W3, hW3⟩ : ∃ W3, ranged W2 rc = W3 := ⟨_, rfl⟩
  have hz3 : W3.heap.size = W2.heap.size + 1 + 1 := by rw [← hW3]; exact ranged_size W2 rc
  have hB3 : Below W2.heap.size W2 W3 := by rw [← hW3]; exact ranged_below W2 rc
  have hl3 : W3.heap[W2.heap.size + 1]? = some (.loop rc) := by rw [← hW3]; exact ranged_l W2 rc
  have hd3 : W3.heap[W2.heap.size]? = some (.deferred (some [])) := by rw [← hW3]; exact ranged_d W2 rc
  rw [hW3]
  clear hW3
  have hB13 : Below W1.heap.size W1 W3 := hB2.trans (hB3.mono hz2)
  have hBw3 : Below w.heap.size w W3 := hB1.trans (hB13.mono hB1.size)
  have hj0 : TJ w M (W2.heap.size + 1) W2.heap.size W3.heap.size rc 0 W3 := ⟨hl3, hd3, (hB13.block _ (by omega)).trans (unhide HX0), (hB13.block _ (by omega)).trans (unhide HX1), (hB13.block _ (by omega)).trans (unhide HX2), hBw3, Nat.le_refl _⟩
  refine (apart1_in 8 (by omega) (W2.heap.size + 1) (w.heap.size + 1 + 1 + 1) (w.heap.size + 1 + 1 + 1 + 1) ids w W3 (TJ w M (W2.heap.size + 1) W2.heap.size W3.heap.size rc) (fun _ _ => False) pa pc (unhide HA) (unhide HP) (unhide HF) hl hBw3 (hb1.below hB3 hb1.lt) (hb2.below hB3 hb2.lt) (fun j A B hj hg => hj.grow hg (by omega) (by omega) (by omega)) ?hY hj0).mono ?post
  case hY =>
    rintro j A p ⟨a1, a2, a3, a4, a5, a6, a7⟩ hget hA3
    have hpm : p ∈ ids := by
      rcases once_mem ids [] p (List.mem_of_getElem? hget) with h | h
      · cases h
      · exact h
    obtain ⟨hk1, hk2⟩ := unhide HNO p hpm
    have hk1' : (kindP L p == 1) = false := by simpa using hk1
    have hk2' : (kindP L p == 2) = false := by simpa using hk2
    rw [← hrc] at a1
    refine yield_round (W₁ := A) hfn a1 rfl ?a1 a1 ?hassign ?hbody
    case hassign =>
      intro K hK
      gi_wp2
      exact hK
    case hbody =>
      have hrb : { (recOf fn _ _ _ _ _ .busy none : Loop) with state := .ready, pending := none } = rc := hrc
      generalize recOf fn _ _ _ _ _ .busy none = rb at hrb ⊢
      have hla : W2.heap.size + 1 < A.heap.size := (Array.getElem?_eq_some_iff.1 a1).1
      obtain ⟨A1, hA1⟩ : ∃ A1, A.putObj (W2.heap.size + 1) (.loop rb) = A1 := ⟨_, rfl⟩
      have hkk : ∀ k, k ≠ W2.heap.size + 1 → A1.heap[k]? = A.heap[k]? := fun k hn => by rw [← hA1]; exact World.putObj_heap_other hn
      have hl1 : A1.heap[W2.heap.size + 1]? = some (.loop rb) := by rw [← hA1]; exact World.putObj_heap_same hla
      have hzA1 : A1.heap.size = A.heap.size := by rw [← hA1]; simp
      have hBA : Below w.heap.size w A1 := by
        rw [← hA1]
        exact a6.trans ((Below.refl _ A).grown (grownBy_putObj' A (W2.heap.size + 1) _) (by omega) (fun k e => by cases e; omega))
      rw [hA1]
      clear hA1
      have b3 : Bx A1 w.heap.size #[.pointer (some ⟨M, 0, none⟩)] 28 := (hkk _ (by omega)).trans a3
      have d3 := b3.cell 0 rfl
      have e3 := b3.lt
      have HKC := hide (kind_any ((unhide HA).below hBA) p (unhide HF p hpm).1)
      have HBA := hide hBA
      have HKK := hide hkk
      have HL1 := hide hl1
      clear hBA hkk hl1 b3
      gi_wp2_with (first
        | (refine ⟨trivial, ?_⟩
           gi_at_call 74
           refine (callsIn_wide.2 (unhide HKC)).mono ?_
           rintro e A2 ⟨rfl, rfl⟩))
      have hbk := unhide HBA
      have hkk := unhide HKK
      have e7 : { rb with state := if (none : Option Code).isNone then LoopState.ready else LoopState.done, pending := none } = rc := hrb
      have ho : ∀ k, k ≠ W2.heap.size + 1 → (A2.putObj (W2.heap.size + 1) (.loop rc)).heap[k]? = A.heap[k]? := fun k hk => (World.putObj_heap_other hk).trans (hkk k hk)
      refine ⟨_, _, run_endRound none (unhide HL1), ?_, ?_, .inl ⟨rfl, ?_⟩⟩
      · rw [e7]
        have hg := grownBy_putObj' A2 (W2.heap.size + 1) (.loop rc)
        refine ⟨(hg.os.trans hbk.os).trans a6.os.symm, (hg.tape.trans hbk.tape).trans a6.tape.symm, (hg.output.trans hbk.output).trans a6.output.symm, by simp; omega, fun k hk => ho k (by omega)⟩
      · rw [e7]; exact ho _ (by omega)
      · rw [e7]
        refine ⟨World.putObj_heap_same (by omega), (ho _ (by omega)).trans a2, (ho _ (by omega)).trans a3, (ho _ (by omega)).trans a4, (ho _ (by omega)).trans a5, ?_, by simp; omega⟩
        exact hbk.trans ((Below.refl _ A2).grown (grownBy_putObj' A2 (W2.heap.size + 1) _) hbk.size (fun k e => by cases e; omega))
  case post =>
    rintro e W' ⟨⟨u, rfl⟩, (⟨a1, a2, a3, a4, a5, a6, a7⟩ | ⟨_, _, hx⟩)⟩
    · have hpe : rc.pending = none := by rw [← hrc]; rfl
      have hne : rc.state ≠ .busy := by rw [← hrc]; simp [recOf]
      have hend := run_endLoop (P := Tryz.prog) a1 hne
      rw [hpe] at hend
      refine ⟨none, _, hend, ?_⟩
      have hlw : W2.heap.size + 1 < W'.heap.size := (Array.getElem?_eq_some_iff.1 a1).1
      obtain ⟨W7, hW7⟩ : ∃ W7, W'.putObj (W2.heap.size + 1) (.loop { rc with state := .exhausted, pending := none }) = W7 := ⟨_, rfl⟩
      have hk7 : ∀ k, k ≠ W2.heap.size + 1 → W7.heap[k]? = W'.heap[k]? := fun k hk => by rw [← hW7]; exact World.putObj_heap_other hk
      have hB7 : Below w.heap.size w W7 := by
        rw [← hW7]
        exact a6.trans ((Below.refl _ W').grown (grownBy_putObj' W' (W2.heap.size + 1) _) a6.size (fun k e => by cases e; omega))
      rw [hW7]
      clear hW7 hend
      dsimp only
      have y1 : Bx W7 (w.heap.size + 1) #[.int .i64 0] 3 := (hk7 _ (by omega)).trans a4
      have y2 : Bx W7 (w.heap.size + 1 + 1) #[.bool false] 4 := (hk7 _ (by omega)).trans a5
      have hd7 : W7.heap[W2.heap.size]? = some (.deferred (some [])) := (hk7 _ (by omega)).trans a2
      have q1 := y1.cell 0 rfl
      have q2 := y2.cell 0 rfl
      have HD7 := hide hd7
      have HB7 := hide hB7
      clear hd7 hB7 y1 y2
      gi_wp2
      gi_region
      gi_wp2
      refine ⟨by simp, .inl ⟨_, _, rfl, run_takeDeferred (show W7.drew.heap[W2.heap.size]? = some (.deferred (some [])) from unhide HD7), ?_⟩⟩
      refine ⟨.tuple #[.int .i64 0, .bool false], ?_, rfl, ?_⟩
      · simp [results, Tryz.results45, go_sem]
      · exact (unhide HB7).drew.trans ((Below.refl _ W7.drew).grown (grownBy_putObj' W7.drew W2.heap.size _) (unhide HB7).size (fun k e => by cases e; omega))
    · exact hx.elim
end Go.Proofs.YticdaphajanbbaaGreatDoor
