/- top, of one type that is any or unknown. -/
import Derived.Test.YticdaphajanbbaaGreatDoorKU
namespace Go.Proofs.YticdaphajanbbaaGreatDoor
set_option linter.unusedSimpArgs false
set_option linter.unusedVariables false
set_option maxRecDepth 100000
set_option maxHeartbeats 800000
open Go.RowKit Go.Shelf
attribute [local go_sem] Oper.semAt_some

variable {P : Program} {lo M : Nat} {mo : Option Nat} {dv : Value} {L : List Kt} {W : World}
/-- The boxes of top, its loop. -/
def TU (w : World) (M lp D N : Nat) (rc : Loop) (t : Int) (o : Bool) (A : World) : Prop :=
  A.heap[lp]? = some (.loop rc) ∧ A.heap[D]? = some (.deferred (some [])) ∧ Bx A w.heap.size #[.pointer (some ⟨M, 0, none⟩)] 28 ∧ Bx A (w.heap.size + 1) #[.int .i64 t] 3 ∧ Bx A (w.heap.size + 2) #[.bool o] 4 ∧ Below w.heap.size w A ∧ N ≤ A.heap.size
theorem TU.grow {w : World} {M lp D N s : Nat} {rc : Loop} {t : Int} {o : Bool} {A C : World} (h : TU w M lp D N rc t o A) (hg : A.grownBy C (some s)) (h1 : lp < s) (h2 : D < s) (h3 : w.heap.size + 2 < s) : TU w M lp D N rc t o C := by
  obtain ⟨a1, a2, a3, a4, a5, a6, a7⟩ := h
  have k : ∀ k, k < A.heap.size → k ≠ s → C.heap[k]? = A.heap[k]? := fun k hk hn => hg.block k hk (fun e => by cases e; exact hn rfl)
  refine ⟨(k lp (Array.getElem?_eq_some_iff.1 a1).1 (by omega)).trans a1, (k D (Array.getElem?_eq_some_iff.1 a2).1 (by omega)).trans a2, (k _ a3.lt (by omega)).trans a3, (k _ a4.lt (by omega)).trans a4, (k _ a5.lt (by omega)).trans a5, a6.trans ⟨hg.os, hg.tape, hg.output, hg.size, fun j hj => k j (by have := a6.size; omega) (by omega)⟩, Nat.le_trans a7 hg.size⟩
def TI (w : World) (M lp D N : Nat) (rc : Loop) (i : Int) (j : Nat) (A : World) : Prop := TU w M lp D N rc (if j = 0 then 0 else i) (decide (j ≠ 0)) A
theorem top_any (w : World) (i : Int) (pa : Option Addr) (pc : Nat) (hA : AAt Tryz.prog lo M mo dv L w) (hp : RowR 3 w (.slice pa 1 pc) (iv [i])) (hf : Flat L [i]) (hno : kindP L i = 1) :
    CallsIn Fence.wide 9 Tryz.prog 45 #[.pointer (some ⟨M, 0, none⟩), .slice pa 1 pc] w fun e w' => e = .returned (.tuple #[.int .i64 i, .bool true]) ∧ Below w.heap.size w w' := by
  obtain ⟨W1, hW1⟩ : ∃ W1, ((w.alloc (.cells #[.pointer (some ⟨M, 0, none⟩)] 28)).alloc (.cells #[.int .i64 0] 3)).alloc (.cells #[.bool false] 4) = W1 := ⟨_, rfl⟩
  have hB1 : Below w.heap.size w W1 := by rw [← hW1]; exact (((Below.refl _ w).alloc (Nat.le_refl _) _).alloc (by simp) _).alloc (by simp; omega) _
  have hz1 : W1.heap.size = w.heap.size + 1 + 1 + 1 := by rw [← hW1]; simp
  have x0 : Bx W1 w.heap.size #[.pointer (some ⟨M, 0, none⟩)] 28 := by rw [← hW1]; exact (Below.heap_alloc _ _ _ (by simp; omega)).trans ((Below.heap_alloc _ _ _ (by simp)).trans (al_at w _))
  have x1 : Bx W1 (w.heap.size + 1) #[.int .i64 0] 3 := by
    rw [← hW1]
    refine (Below.heap_alloc _ _ _ (by simp)).trans ?_
    have := al_at (w.alloc (.cells #[.pointer (some ⟨M, 0, none⟩)] 28)) (.cells #[.int .i64 0] 3)
    simpa using this
  have x2 : Bx W1 (w.heap.size + 2) #[.bool false] 4 := by
    rw [← hW1]
    have := al_at ((w.alloc (.cells #[.pointer (some ⟨M, 0, none⟩)] 28)).alloc (.cells #[.int .i64 0] 3)) (.cells #[.bool false] 4)
    simpa [Bx] using this
  have hM := hA.lt
  have HA := hide hA
  have HP := hide hp
  have HF := hide hf
  have HNO := hide hno
  have HX0 := hide x0
  have HX1 := hide x1
  have HX2 := hide x2
  have c0 := x0.cell 0 rfl
  have c1 := x1.cell 0 rfl
  have c2 := x2.cell 0 rfl
  have f1 := x1.free 0
  have f2 := x2.free 0
  have HZ1 := hide hz1
  have HW1 := hide hW1
  clear hA hp hf hno x0 x1 x2 hz1 hW1 c0 c1 c2 f1 f2
  refine callsIn_of_wp_marks Tryz.func45 rfl trivial ?_ rfl
  simp only [Tryz.ntmps45, List.size_toArray, List.length_cons, List.length_nil, Nat.reduceAdd, Nat.reduceSub, Array.replicate_succ, Array.replicate_zero, List.push_toArray, List.append_toArray, List.nil_append, List.cons_append]
  gi_wp2
  refine wpIn_scope_wide ?_
  gi_wp2
  refine wpIn_label ?_
  gi_wp2_with (first
    | (refine ⟨trivial, ?_⟩
       gi_at_call 73
       refine (callsIn_wide.2 (apart_any M pa 1 pc _)).mono ?_
       rintro e W2 ⟨rfl, hb1, hb2, hB2⟩))
  rw [unhide HW1] at hb1 hb2 hB2
  have hz1 := unhide HZ1
  have hz2 := hB2.size
  rw [hz1] at hb1 hb2
  refine range_enter rfl (by omega) (gf := 100) (lb := #[.pointer (some ⟨w.heap.size + 1 + 1 + 1, 0, none⟩), .pointer (some ⟨w.heap.size + 1 + 1 + 1 + 1, 0, none⟩)]) rfl trivial enter141 ?_
  intro fn hfn
  generalize hrc : recOf fn _ _ _ _ _ _ _ = rc
  obtain ⟨W3, hW3⟩ : ∃ W3, ranged W2 rc = W3 := ⟨_, rfl⟩
  have hz3 : W3.heap.size = W2.heap.size + 1 + 1 := by rw [← hW3]; exact ranged_size W2 rc
  have hB3 : Below W2.heap.size W2 W3 := by rw [← hW3]; exact ranged_below W2 rc
  have hl3 : W3.heap[W2.heap.size + 1]? = some (.loop rc) := by rw [← hW3]; exact ranged_l W2 rc
  have hd3 : W3.heap[W2.heap.size]? = some (.deferred (some [])) := by rw [← hW3]; exact ranged_d W2 rc
  rw [hW3]
  clear hW3
  have hB13 : Below W1.heap.size W1 W3 := hB2.trans (hB3.mono hz2)
  have hBw3 : Below w.heap.size w W3 := hB1.trans (hB13.mono hB1.size)
  have hj0 : TI w M (W2.heap.size + 1) W2.heap.size W3.heap.size rc i 0 W3 := ⟨hl3, hd3, (hB13.block _ (by omega)).trans (unhide HX0), (hB13.block _ (by omega)).trans (unhide HX1), (hB13.block _ (by omega)).trans (unhide HX2), hBw3, Nat.le_refl _⟩
  refine (apart1_in 8 (by omega) (W2.heap.size + 1) (w.heap.size + 1 + 1 + 1) (w.heap.size + 1 + 1 + 1 + 1) [i] w W3 (TI w M (W2.heap.size + 1) W2.heap.size W3.heap.size rc i) (fun _ A => TU w M (W2.heap.size + 1) W2.heap.size W3.heap.size { rc with state := .done, pending := some (.exit 0) } i true A) pa pc (unhide HA) (unhide HP) (unhide HF) (by simp) hBw3 (hb1.below hB3 hb1.lt) (hb2.below hB3 hb2.lt) (fun j A B hj hg => hj.grow hg (by omega) (by omega) (by omega)) ?hY hj0).mono ?post
  case hY =>
    rintro j A p ⟨a1, a2, a3, a4, a5, a6, a7⟩ hget hA3
    obtain ⟨hj0, hpi⟩ : j = 0 ∧ p = i := by
      have h1 : (onceP [i]) = [i] := by simp [onceP, addP]
      rw [h1] at hget
      match j, hget with
      | 0, hget => exact ⟨rfl, by simpa using hget.symm⟩
      | j + 1, hget => simp at hget
    clear hget
    subst hj0 hpi
    have hkn := hide (unhide HNO)
    replace a4 : Bx A (w.heap.size + 1) #[.int .i64 0] 3 := a4
    replace a5 : Bx A (w.heap.size + 2) #[.bool false] 4 := a5
    rw [← hrc] at a1
    refine yield_round (W₁ := A) hfn a1 rfl ?a1 a1 ?hassign ?hbody
    case hassign =>
      intro K hK
      gi_wp2
      exact hK
    case hbody =>
      have hrb : { (recOf fn _ _ _ _ _ .busy none : Loop) with state := .ready, pending := none } = rc := hrc
      generalize recOf fn _ _ _ _ _ .busy none = rb at hrb ⊢
      have hla : W2.heap.size + 1 < A.heap.size := (Array.getElem?_eq_some_iff.1 a1).1
      obtain ⟨A1, hA1⟩ : ∃ A1, A.putObj (W2.heap.size + 1) (.loop rb) = A1 := ⟨_, rfl⟩
      have hkk : ∀ k, k ≠ W2.heap.size + 1 → A1.heap[k]? = A.heap[k]? := fun k hn => by rw [← hA1]; exact World.putObj_heap_other hn
      have hl1 : A1.heap[W2.heap.size + 1]? = some (.loop rb) := by rw [← hA1]; exact World.putObj_heap_same hla
      have hzA1 : A1.heap.size = A.heap.size := by rw [← hA1]; simp
      have hBA : Below w.heap.size w A1 := by
        rw [← hA1]
        exact a6.trans ((Below.refl _ A).grown (grownBy_putObj' A (W2.heap.size + 1) _) (by omega) (fun k e => by cases e; omega))
      rw [hA1]
      clear hA1
      have b3 : Bx A1 w.heap.size #[.pointer (some ⟨M, 0, none⟩)] 28 := (hkk _ (by omega)).trans a3
      have d3 := b3.cell 0 rfl
      have e3 := b3.lt
      have b4 : Bx A1 (w.heap.size + 1) #[.int .i64 0] 3 := (hkk _ (by omega)).trans a4
      have b5 : Bx A1 (w.heap.size + 2) #[.bool false] 4 := (hkk _ (by omega)).trans a5
      have g4 := b4.cell 0 rfl
      have g5 := b5.cell 0 rfl
      have f4 := b4.free 0
      have f5 := b5.free 0
      have l5 := b5.lt
      have HB4 := hide b4
      have HB5 := hide b5
      have HKC := hide (kind_any ((unhide HA).below hBA) p (unhide HF p (by simp)).1)
      rw [unhide hkn] at HKC
      have HBA := hide hBA
      have HKK := hide hkk
      have HL1 := hide hl1
      clear hBA hkk hl1 b3 b4 b5 hkn
      gi_wp2_with (first
        | (refine ⟨trivial, ?_⟩
           gi_at_call 74
           refine (callsIn_wide.2 (unhide HKC)).mono ?_
           rintro e A2 ⟨rfl, rfl⟩))
      have hbk := unhide HBA
      have hkk := unhide HKK
      obtain ⟨A3, hA3⟩ : ∃ A3, (A2.setCell ⟨w.heap.size + 1, 0, none⟩ (.int .i64 p)).setCell ⟨w.heap.size + 2, 0, none⟩ (.bool true) = A3 := ⟨_, rfl⟩
      have k3 : ∀ k, k ≠ w.heap.size + 1 → k ≠ w.heap.size + 2 → A3.heap[k]? = A2.heap[k]? := fun k h1 h2 => by
        rw [← hA3]
        exact (Below.heap_setCell _ _ _ _ h2).trans (Below.heap_setCell _ _ _ _ h1)
      have s3 : A3.heap.size = A2.heap.size := by rw [← hA3]; simp [set_size]
      have t4 : Bx A3 (w.heap.size + 1) #[.int .i64 p] 3 := by
        rw [← hA3]
        exact (Below.heap_setCell _ _ _ _ (by show w.heap.size + 1 ≠ w.heap.size + 2; omega)).trans ((unhide HB4).set (.int .i64 p))
      have t5 : Bx A3 (w.heap.size + 2) #[.bool true] 4 := by
        rw [← hA3]
        have h0 : Bx (A2.setCell ⟨w.heap.size + 1, 0, none⟩ (.int .i64 p)) (w.heap.size + 2) #[.bool false] 4 := (Below.heap_setCell _ _ _ _ (by show w.heap.size + 2 ≠ w.heap.size + 1; omega)).trans (unhide HB5)
        exact h0.set (.bool true)
      have hl3' : A3.heap[W2.heap.size + 1]? = some (.loop rb) := (k3 _ (by omega) (by omega)).trans (unhide HL1)
      have o1 : A3.os = A2.os := by rw [← hA3]; rfl
      have o2 : A3.tape = A2.tape := by rw [← hA3]; rfl
      have o3 : A3.output = A2.output := by rw [← hA3]; rfl
      have e7 : { rb with state := if (some (Code.exit 0) : Option Code).isNone then LoopState.ready else LoopState.done, pending := some (Code.exit 0) } = { rc with state := .done, pending := some (.exit 0) } := by rw [← hrb]; rfl
      have ho : ∀ k, k ≠ W2.heap.size + 1 → (A3.putObj (W2.heap.size + 1) (.loop { rc with state := .done, pending := some (.exit 0) })).heap[k]? = A3.heap[k]? := fun k hk => World.putObj_heap_other hk
      have hlow : ∀ k, k ≠ W2.heap.size + 1 → k ≠ w.heap.size + 1 → k ≠ w.heap.size + 2 → (A3.putObj (W2.heap.size + 1) (.loop { rc with state := .done, pending := some (.exit 0) })).heap[k]? = A.heap[k]? := fun k h1 h2 h3 => (ho k h1).trans ((k3 k h2 h3).trans (hkk k h1))
      have hBB : Below w.heap.size A (A3.putObj (W2.heap.size + 1) (.loop { rc with state := .done, pending := some (.exit 0) })) := ⟨o1.trans (hbk.os.trans a6.os.symm), o2.trans (hbk.tape.trans a6.tape.symm), o3.trans (hbk.output.trans a6.output.symm), by simp; omega, fun k hk => hlow k (by omega) (by omega) (by omega)⟩
      rw [show w.heap.size + 1 + 1 = w.heap.size + 2 from rfl]
      rw [hA3]
      refine ⟨_, _, run_endRound (some (.exit 0)) hl3', ?_, ?_, .inr ⟨rfl, ?_⟩⟩
      · rw [e7]; exact hBB
      · rw [e7]; exact hlow _ (by omega) (by omega) (by omega)
      · rw [e7]
        exact ⟨World.putObj_heap_same (by omega), (hlow _ (by omega) (by omega) (by omega)).trans a2, (hlow _ (by omega) (by omega) (by omega)).trans a3, (ho _ (by omega)).trans t4, (ho _ (by omega)).trans t5, a6.trans hBB, by simp; omega⟩
  case post =>
    rintro e W' ⟨⟨u, rfl⟩, (⟨a1, a2, a3, a4, a5, a6, a7⟩ | ⟨_, _, ⟨a1, a2, a3, a4, a5, a6, a7⟩⟩)⟩
    · have hpe : rc.pending = none := by rw [← hrc]; rfl
      have hne : rc.state ≠ .busy := by rw [← hrc]; simp [recOf]
      have hend := run_endLoop (P := Tryz.prog) a1 hne
      rw [hpe] at hend
      refine ⟨none, _, hend, ?_⟩
      have hlw : W2.heap.size + 1 < W'.heap.size := (Array.getElem?_eq_some_iff.1 a1).1
      obtain ⟨W7, hW7⟩ : ∃ W7, W'.putObj (W2.heap.size + 1) (.loop { rc with state := .exhausted, pending := none }) = W7 := ⟨_, rfl⟩
      have hk7 : ∀ k, k ≠ W2.heap.size + 1 → W7.heap[k]? = W'.heap[k]? := fun k hk => by rw [← hW7]; exact World.putObj_heap_other hk
      have hB7 : Below w.heap.size w W7 := by
        rw [← hW7]
        exact a6.trans ((Below.refl _ W').grown (grownBy_putObj' W' (W2.heap.size + 1) _) a6.size (fun k e => by cases e; omega))
      rw [hW7]
      clear hW7 hend
      dsimp only
      have y1 : Bx W7 (w.heap.size + 1) #[.int .i64 i] 3 := (hk7 _ (by omega)).trans a4
      have y2 : Bx W7 (w.heap.size + 1 + 1) #[.bool true] 4 := (hk7 _ (by omega)).trans a5
      have hd7 : W7.heap[W2.heap.size]? = some (.deferred (some [])) := (hk7 _ (by omega)).trans a2
      have q1 := y1.cell 0 rfl
      have q2 := y2.cell 0 rfl
      have HD7 := hide hd7
      have HB7 := hide hB7
      clear hd7 hB7 y1 y2
      gi_wp2
      gi_region
      gi_wp2
      refine ⟨by simp, .inl ⟨_, _, rfl, run_takeDeferred (show W7.drew.heap[W2.heap.size]? = some (.deferred (some [])) from unhide HD7), ?_⟩⟩
      refine ⟨.tuple #[.int .i64 i, .bool true], ?_, rfl, ?_⟩
      · simp [results, Tryz.results45, go_sem]
      · exact (unhide HB7).drew.trans ((Below.refl _ W7.drew).grown (grownBy_putObj' W7.drew W2.heap.size _) (unhide HB7).size (fun k e => by cases e; omega))
    · have hend := run_endLoop (P := Tryz.prog) a1 (by simp)
      refine ⟨some (.exit 0), _, hend, ?_⟩
      have hlw : W2.heap.size + 1 < W'.heap.size := (Array.getElem?_eq_some_iff.1 a1).1
      obtain ⟨W7, hW7⟩ : ∃ W7, W'.putObj (W2.heap.size + 1) (.loop { rc with state := .exhausted, pending := some (.exit 0) }) = W7 := ⟨_, rfl⟩
      have hk7 : ∀ k, k ≠ W2.heap.size + 1 → W7.heap[k]? = W'.heap[k]? := fun k hk => by rw [← hW7]; exact World.putObj_heap_other hk
      have hB7 : Below w.heap.size w W7 := by
        rw [← hW7]
        exact a6.trans ((Below.refl _ W').grown (grownBy_putObj' W' (W2.heap.size + 1) _) a6.size (fun k e => by cases e; omega))
      rw [hW7]
      clear hW7 hend
      dsimp only
      have y1 : Bx W7 (w.heap.size + 1) #[.int .i64 i] 3 := (hk7 _ (by omega)).trans a4
      have y2 : Bx W7 (w.heap.size + 1 + 1) #[.bool true] 4 := (hk7 _ (by omega)).trans a5
      have hd7 : W7.heap[W2.heap.size]? = some (.deferred (some [])) := (hk7 _ (by omega)).trans a2
      have q1 := y1.cell 0 rfl
      have q2 := y2.cell 0 rfl
      have HD7 := hide hd7
      have HB7 := hide hB7
      clear hd7 hB7 y1 y2
      gi_wp2
      gi_region
      gi_wp2
      refine ⟨by simp, .inl ⟨_, _, rfl, run_takeDeferred (show W7.drew.heap[W2.heap.size]? = some (.deferred (some [])) from unhide HD7), ?_⟩⟩
      refine ⟨.tuple #[.int .i64 i, .bool true], ?_, rfl, ?_⟩
      · simp [results, Tryz.results45, go_sem]
      · exact (unhide HB7).drew.trans ((Below.refl _ W7.drew).grown (grownBy_putObj' W7.drew W2.heap.size _) (unhide HB7).size (fun k e => by cases e; omega))
theorem top_unknown (w : World) (i : Int) (pa : Option Addr) (pc : Nat) (hA : AAt Tryz.prog lo M mo dv L w) (hp : RowR 3 w (.slice pa 1 pc) (iv [i])) (hf : Flat L [i]) (hno : kindP L i = 2) :
    CallsIn Fence.wide 9 Tryz.prog 45 #[.pointer (some ⟨M, 0, none⟩), .slice pa 1 pc] w fun e w' => e = .returned (.tuple #[.int .i64 i, .bool true]) ∧ Below w.heap.size w w' := by
  obtain ⟨W1, hW1⟩ : ∃ W1, ((w.alloc (.cells #[.pointer (some ⟨M, 0, none⟩)] 28)).alloc (.cells #[.int .i64 0] 3)).alloc (.cells #[.bool false] 4) = W1 := ⟨_, rfl⟩
  have hB1 : Below w.heap.size w W1 := by rw [← hW1]; exact (((Below.refl _ w).alloc (Nat.le_refl _) _).alloc (by simp) _).alloc (by simp; omega) _
  have hz1 : W1.heap.size = w.heap.size + 1 + 1 + 1 := by rw [← hW1]; simp
  have x0 : Bx W1 w.heap.size #[.pointer (some ⟨M, 0, none⟩)] 28 := by rw [← hW1]; exact (Below.heap_alloc _ _ _ (by simp; omega)).trans ((Below.heap_alloc _ _ _ (by simp)).trans (al_at w _))
  have x1 : Bx W1 (w.heap.size + 1) #[.int .i64 0] 3 := by
    rw [← hW1]
    refine (Below.heap_alloc _ _ _ (by simp)).trans ?_
    have := al_at (w.alloc (.cells #[.pointer (some ⟨M, 0, none⟩)] 28)) (.cells #[.int .i64 0] 3)
    simpa using this
  have x2 : Bx W1 (w.heap.size + 2) #[.bool false] 4 := by
    rw [← hW1]
    have := al_at ((w.alloc (.cells #[.pointer (some ⟨M, 0, none⟩)] 28)).alloc (.cells #[.int .i64 0] 3)) (.cells #[.bool false] 4)
    simpa [Bx] using this
  have hM := hA.lt
  have HA := hide hA
  have HP := hide hp
  have HF := hide hf
  have HNO := hide hno
  have HX0 := hide x0
  have HX1 := hide x1
  have HX2 := hide x2
  have c0 := x0.cell 0 rfl
  have c1 := x1.cell 0 rfl
  have c2 := x2.cell 0 rfl
  have f1 := x1.free 0
  have f2 := x2.free 0
  have HZ1 := hide hz1
  have HW1 := hide hW1
  clear hA hp hf hno x0 x1 x2 hz1 hW1 c0 c1 c2 f1 f2
  refine callsIn_of_wp_marks Tryz.func45 rfl trivial ?_ rfl
  simp only [Tryz.ntmps45, List.size_toArray, List.length_cons, List.length_nil, Nat.reduceAdd, Nat.reduceSub, Array.replicate_succ, Array.replicate_zero, List.push_toArray, List.append_toArray, List.nil_append, List.cons_append]
  gi_wp2
  refine wpIn_scope_wide ?_
  gi_wp2
  refine wpIn_label ?_
  gi_wp2_with (first
    | (refine ⟨trivial, ?_⟩
       gi_at_call 73
       refine (callsIn_wide.2 (apart_any M pa 1 pc _)).mono ?_
       rintro e W2 ⟨rfl, hb1, hb2, hB2⟩))
  rw [unhide HW1] at hb1 hb2 hB2
  have hz1 := unhide HZ1
  have hz2 := hB2.size
  rw [hz1] at hb1 hb2
  refine range_enter rfl (by omega) (gf := 100) (lb := #[.pointer (some ⟨w.heap.size + 1 + 1 + 1, 0, none⟩), .pointer (some ⟨w.heap.size + 1 + 1 + 1 + 1, 0, none⟩)]) rfl trivial enter141 ?_
  intro fn hfn
  generalize hrc : recOf fn _ _ _ _ _ _ _ = rc
  obtain ⟨W3, hW3⟩ : ∃ W3, ranged W2 rc = W3 := ⟨_, rfl⟩
  have hz3 : W3.heap.size = W2.heap.size + 1 + 1 := by rw [← hW3]; exact ranged_size W2 rc
  have hB3 : Below W2.heap.size W2 W3 := by rw [← hW3]; exact ranged_below W2 rc
  have hl3 : W3.heap[W2.heap.size + 1]? = some (.loop rc) := by rw [← hW3]; exact ranged_l W2 rc
  have hd3 : W3.heap[W2.heap.size]? = some (.deferred (some [])) := by rw [← hW3]; exact ranged_d W2 rc
  rw [hW3]
  clear hW3
  have hB13 : Below W1.heap.size W1 W3 := hB2.trans (hB3.mono hz2)
  have hBw3 : Below w.heap.size w W3 := hB1.trans (hB13.mono hB1.size)
  have hj0 : TI w M (W2.heap.size + 1) W2.heap.size W3.heap.size rc i 0 W3 := ⟨hl3, hd3, (hB13.block _ (by omega)).trans (unhide HX0), (hB13.block _ (by omega)).trans (unhide HX1), (hB13.block _ (by omega)).trans (unhide HX2), hBw3, Nat.le_refl _⟩
  refine (apart1_in 8 (by omega) (W2.heap.size + 1) (w.heap.size + 1 + 1 + 1) (w.heap.size + 1 + 1 + 1 + 1) [i] w W3 (TI w M (W2.heap.size + 1) W2.heap.size W3.heap.size rc i) (fun _ A => TU w M (W2.heap.size + 1) W2.heap.size W3.heap.size { rc with state := .done, pending := some (.exit 0) } i true A) pa pc (unhide HA) (unhide HP) (unhide HF) (by simp) hBw3 (hb1.below hB3 hb1.lt) (hb2.below hB3 hb2.lt) (fun j A B hj hg => hj.grow hg (by omega) (by omega) (by omega)) ?hY hj0).mono ?post
  case hY =>
    rintro j A p ⟨a1, a2, a3, a4, a5, a6, a7⟩ hget hA3
    obtain ⟨hj0, hpi⟩ : j = 0 ∧ p = i := by
      have h1 : (onceP [i]) = [i] := by simp [onceP, addP]
      rw [h1] at hget
      match j, hget with
      | 0, hget => exact ⟨rfl, by simpa using hget.symm⟩
      | j + 1, hget => simp at hget
    clear hget
    subst hj0 hpi
    have hkn := hide (unhide HNO)
    replace a4 : Bx A (w.heap.size + 1) #[.int .i64 0] 3 := a4
    replace a5 : Bx A (w.heap.size + 2) #[.bool false] 4 := a5
    rw [← hrc] at a1
    refine yield_round (W₁ := A) hfn a1 rfl ?a1 a1 ?hassign ?hbody
    case hassign =>
      intro K hK
      gi_wp2
      exact hK
    case hbody =>
      have hrb : { (recOf fn _ _ _ _ _ .busy none : Loop) with state := .ready, pending := none } = rc := hrc
      generalize recOf fn _ _ _ _ _ .busy none = rb at hrb ⊢
      have hla : W2.heap.size + 1 < A.heap.size := (Array.getElem?_eq_some_iff.1 a1).1
      obtain ⟨A1, hA1⟩ : ∃ A1, A.putObj (W2.heap.size + 1) (.loop rb) = A1 := ⟨_, rfl⟩
      have hkk : ∀ k, k ≠ W2.heap.size + 1 → A1.heap[k]? = A.heap[k]? := fun k hn => by rw [← hA1]; exact World.putObj_heap_other hn
      have hl1 : A1.heap[W2.heap.size + 1]? = some (.loop rb) := by rw [← hA1]; exact World.putObj_heap_same hla
      have hzA1 : A1.heap.size = A.heap.size := by rw [← hA1]; simp
      have hBA : Below w.heap.size w A1 := by
        rw [← hA1]
        exact a6.trans ((Below.refl _ A).grown (grownBy_putObj' A (W2.heap.size + 1) _) (by omega) (fun k e => by cases e; omega))
      rw [hA1]
      clear hA1
      have b3 : Bx A1 w.heap.size #[.pointer (some ⟨M, 0, none⟩)] 28 := (hkk _ (by omega)).trans a3
      have d3 := b3.cell 0 rfl
      have e3 := b3.lt
      have b4 : Bx A1 (w.heap.size + 1) #[.int .i64 0] 3 := (hkk _ (by omega)).trans a4
      have b5 : Bx A1 (w.heap.size + 2) #[.bool false] 4 := (hkk _ (by omega)).trans a5
      have g4 := b4.cell 0 rfl
      have g5 := b5.cell 0 rfl
      have f4 := b4.free 0
      have f5 := b5.free 0
      have l5 := b5.lt
      have HB4 := hide b4
      have HB5 := hide b5
      have HKC := hide (kind_any ((unhide HA).below hBA) p (unhide HF p (by simp)).1)
      rw [unhide hkn] at HKC
      have HBA := hide hBA
      have HKK := hide hkk
      have HL1 := hide hl1
      clear hBA hkk hl1 b3 b4 b5 hkn
      gi_wp2_with (first
        | (refine ⟨trivial, ?_⟩
           gi_at_call 74
           refine (callsIn_wide.2 (unhide HKC)).mono ?_
           rintro e A2 ⟨rfl, rfl⟩))
      have hbk := unhide HBA
      have hkk := unhide HKK
      obtain ⟨A3, hA3⟩ : ∃ A3, (A2.setCell ⟨w.heap.size + 1, 0, none⟩ (.int .i64 p)).setCell ⟨w.heap.size + 2, 0, none⟩ (.bool true) = A3 := ⟨_, rfl⟩
      have k3 : ∀ k, k ≠ w.heap.size + 1 → k ≠ w.heap.size + 2 → A3.heap[k]? = A2.heap[k]? := fun k h1 h2 => by
        rw [← hA3]
        exact (Below.heap_setCell _ _ _ _ h2).trans (Below.heap_setCell _ _ _ _ h1)
      have s3 : A3.heap.size = A2.heap.size := by rw [← hA3]; simp [set_size]
      have t4 : Bx A3 (w.heap.size + 1) #[.int .i64 p] 3 := by
        rw [← hA3]
        exact (Below.heap_setCell _ _ _ _ (by show w.heap.size + 1 ≠ w.heap.size + 2; omega)).trans ((unhide HB4).set (.int .i64 p))
      have t5 : Bx A3 (w.heap.size + 2) #[.bool true] 4 := by
        rw [← hA3]
        have h0 : Bx (A2.setCell ⟨w.heap.size + 1, 0, none⟩ (.int .i64 p)) (w.heap.size + 2) #[.bool false] 4 := (Below.heap_setCell _ _ _ _ (by show w.heap.size + 2 ≠ w.heap.size + 1; omega)).trans (unhide HB5)
        exact h0.set (.bool true)
      have hl3' : A3.heap[W2.heap.size + 1]? = some (.loop rb) := (k3 _ (by omega) (by omega)).trans (unhide HL1)
      have o1 : A3.os = A2.os := by rw [← hA3]; rfl
      have o2 : A3.tape = A2.tape := by rw [← hA3]; rfl
      have o3 : A3.output = A2.output := by rw [← hA3]; rfl
      have e7 : { rb with state := if (none : Option Code).isNone then LoopState.ready else LoopState.done, pending := none } = rc := hrb
      have ho : ∀ k, k ≠ W2.heap.size + 1 → (A3.putObj (W2.heap.size + 1) (.loop rc)).heap[k]? = A3.heap[k]? := fun k hk => World.putObj_heap_other hk
      have hlow : ∀ k, k ≠ W2.heap.size + 1 → k ≠ w.heap.size + 1 → k ≠ w.heap.size + 2 → (A3.putObj (W2.heap.size + 1) (.loop rc)).heap[k]? = A.heap[k]? := fun k h1 h2 h3 => (ho k h1).trans ((k3 k h2 h3).trans (hkk k h1))
      have hBB : Below w.heap.size A (A3.putObj (W2.heap.size + 1) (.loop rc)) := ⟨o1.trans (hbk.os.trans a6.os.symm), o2.trans (hbk.tape.trans a6.tape.symm), o3.trans (hbk.output.trans a6.output.symm), by simp; omega, fun k hk => hlow k (by omega) (by omega) (by omega)⟩
      rw [show w.heap.size + 1 + 1 = w.heap.size + 2 from rfl]
      rw [hA3]
      refine ⟨_, _, run_endRound none hl3', ?_, ?_, .inl ⟨rfl, ?_⟩⟩
      · rw [e7]; exact hBB
      · rw [e7]; exact hlow _ (by omega) (by omega) (by omega)
      · rw [e7]
        exact ⟨World.putObj_heap_same (by omega), (hlow _ (by omega) (by omega) (by omega)).trans a2, (hlow _ (by omega) (by omega) (by omega)).trans a3, (ho _ (by omega)).trans t4, (ho _ (by omega)).trans t5, a6.trans hBB, by simp; omega⟩
  case post =>
    rintro e W' ⟨⟨u, rfl⟩, (⟨a1, a2, a3, a4, a5, a6, a7⟩ | ⟨_, _, ⟨a1, a2, a3, a4, a5, a6, a7⟩⟩)⟩
    · have hpe : rc.pending = none := by rw [← hrc]; rfl
      have hne : rc.state ≠ .busy := by rw [← hrc]; simp [recOf]
      have hend := run_endLoop (P := Tryz.prog) a1 hne
      rw [hpe] at hend
      refine ⟨none, _, hend, ?_⟩
      have hlw : W2.heap.size + 1 < W'.heap.size := (Array.getElem?_eq_some_iff.1 a1).1
      obtain ⟨W7, hW7⟩ : ∃ W7, W'.putObj (W2.heap.size + 1) (.loop { rc with state := .exhausted, pending := none }) = W7 := ⟨_, rfl⟩
      have hk7 : ∀ k, k ≠ W2.heap.size + 1 → W7.heap[k]? = W'.heap[k]? := fun k hk => by rw [← hW7]; exact World.putObj_heap_other hk
      have hB7 : Below w.heap.size w W7 := by
        rw [← hW7]
        exact a6.trans ((Below.refl _ W').grown (grownBy_putObj' W' (W2.heap.size + 1) _) a6.size (fun k e => by cases e; omega))
      rw [hW7]
      clear hW7 hend
      dsimp only
      have y1 : Bx W7 (w.heap.size + 1) #[.int .i64 i] 3 := (hk7 _ (by omega)).trans a4
      have y2 : Bx W7 (w.heap.size + 1 + 1) #[.bool true] 4 := (hk7 _ (by omega)).trans a5
      have hd7 : W7.heap[W2.heap.size]? = some (.deferred (some [])) := (hk7 _ (by omega)).trans a2
      have q1 := y1.cell 0 rfl
      have q2 := y2.cell 0 rfl
      have HD7 := hide hd7
      have HB7 := hide hB7
      clear hd7 hB7 y1 y2
      gi_wp2
      gi_region
      gi_wp2
      refine ⟨by simp, .inl ⟨_, _, rfl, run_takeDeferred (show W7.drew.heap[W2.heap.size]? = some (.deferred (some [])) from unhide HD7), ?_⟩⟩
      refine ⟨.tuple #[.int .i64 i, .bool true], ?_, rfl, ?_⟩
      · simp [results, Tryz.results45, go_sem]
      · exact (unhide HB7).drew.trans ((Below.refl _ W7.drew).grown (grownBy_putObj' W7.drew W2.heap.size _) (unhide HB7).size (fun k e => by cases e; omega))
    · have hend := run_endLoop (P := Tryz.prog) a1 (by simp)
      refine ⟨some (.exit 0), _, hend, ?_⟩
      have hlw : W2.heap.size + 1 < W'.heap.size := (Array.getElem?_eq_some_iff.1 a1).1
      obtain ⟨W7, hW7⟩ : ∃ W7, W'.putObj (W2.heap.size + 1) (.loop { rc with state := .exhausted, pending := some (.exit 0) }) = W7 := ⟨_, rfl⟩
      have hk7 : ∀ k, k ≠ W2.heap.size + 1 → W7.heap[k]? = W'.heap[k]? := fun k hk => by rw [← hW7]; exact World.putObj_heap_other hk
      have hB7 : Below w.heap.size w W7 := by
        rw [← hW7]
        exact a6.trans ((Below.refl _ W').grown (grownBy_putObj' W' (W2.heap.size + 1) _) a6.size (fun k e => by cases e; omega))
      rw [hW7]
      clear hW7 hend
      dsimp only
      have y1 : Bx W7 (w.heap.size + 1) #[.int .i64 i] 3 := (hk7 _ (by omega)).trans a4
      have y2 : Bx W7 (w.heap.size + 1 + 1) #[.bool true] 4 := (hk7 _ (by omega)).trans a5
      have hd7 : W7.heap[W2.heap.size]? = some (.deferred (some [])) := (hk7 _ (by omega)).trans a2
      have q1 := y1.cell 0 rfl
      have q2 := y2.cell 0 rfl
      have HD7 := hide hd7
      have HB7 := hide hB7
      clear hd7 hB7 y1 y2
      gi_wp2
      gi_region
      gi_wp2
      refine ⟨by simp, .inl ⟨_, _, rfl, run_takeDeferred (show W7.drew.heap[W2.heap.size]? = some (.deferred (some [])) from unhide HD7), ?_⟩⟩
      refine ⟨.tuple #[.int .i64 i, .bool true], ?_, rfl, ?_⟩
      · simp [results, Tryz.results45, go_sem]
      · exact (unhide HB7).drew.trans ((Below.refl _ W7.drew).grown (grownBy_putObj' W7.drew W2.heap.size _) (unhide HB7).size (fun k e => by cases e; omega))
end Go.Proofs.YticdaphajanbbaaGreatDoor
